/-
  Elements of a mooring: validElement.
-/
import Derived.Test.YthogahdnidjelaaCheckCodes
namespace Go.Proofs.Ythogahdnidjelaa
open Go.RowKit Go.Shelf
set_option linter.unusedSimpArgs false
/-- an element: length, lift, drag, strength -/
structure El where
  len : Int
  lift : Int
  drag : Int
  str : Int
def elv (x : El) : Value := .agg #[.int .i64 x.len, .int .i64 x.lift, .int .i64 x.drag, .int .i64 x.str]
def btw (lo x hi : Int) : Bool := decide (lo ≤ x) && decide (x ≤ hi)
theorem btw_iff (lo x hi : Int) : btw lo x hi = true ↔ lo ≤ x ∧ x ≤ hi := by simp [btw]
def vE (x : El) : Bool := btw 0 x.len 1048576 && (btw (-1048576) x.lift 1048576 && (btw 0 x.drag 65536 && btw 1 x.str 16777216))
set_option maxHeartbeats 400000 in
theorem within64_any (x lo hi : Int) (w : World) :
    Calls Try.prog 54 #[.int .i64 x, .int .i64 lo, .int .i64 hi] w fun e w' => e = .returned (.bool (btw lo x hi)) ∧ w' = w := by
  unfold btw
  go_enter Try.func54, Try.ntmps54
  go_wp2
  all_goals
    go_ret
    exact ⟨ret_bool (by simp <;> omega), rfl⟩
set_option maxHeartbeats 2000000 in
theorem validElement_any (x : El) (w : World) :
    Calls Try.prog 55 #[elv x] w fun e w' => e = .returned (.bool (vE x)) ∧ Below w.heap.size w w' := by
  have c1 := fun w => within64_any x.len 0 1048576 w
  have c2 := fun w => within64_any x.lift (-1048576) 1048576 w
  have c3 := fun w => within64_any x.drag 0 65536 w
  have c4 := fun w => within64_any x.str 1 16777216 w
  unfold vE elv
  generalize btw 0 x.len 1048576 = b1 at *
  generalize btw (-1048576) x.lift 1048576 = b2 at *
  generalize btw 0 x.drag 65536 = b3 at *
  generalize btw 1 x.str 16777216 = b4 at *
  have hB : Below w.heap.size w (w.alloc (.cells #[.int .i64 x.len, .int .i64 x.lift, .int .i64 x.drag, .int .i64 x.str] 71)) := (Below.refl _ _).alloc (Nat.le_refl _) _
  cases b1
  · clear c2 c3 c4
    go_enter Try.func55, Try.ntmps55
    go_wp2_with fail
    refine (c1 _).mono ?_
    rintro e w1 ⟨rfl, rfl⟩
    go_wp2_with fail
    go_ret
    exact ⟨rfl, hB⟩
  cases b2
  · clear c3 c4
    go_enter Try.func55, Try.ntmps55
    go_wp2_with fail
    refine (c1 _).mono ?_
    rintro e w1 ⟨rfl, rfl⟩
    go_wp2_with fail
    refine (c2 _).mono ?_
    rintro e w1 ⟨rfl, rfl⟩
    go_wp2_with fail
    go_ret
    exact ⟨rfl, hB⟩
  cases b3
  · clear c4
    go_enter Try.func55, Try.ntmps55
    go_wp2_with fail
    refine (c1 _).mono ?_
    rintro e w1 ⟨rfl, rfl⟩
    go_wp2_with fail
    refine (c2 _).mono ?_
    rintro e w1 ⟨rfl, rfl⟩
    go_wp2_with fail
    refine (c3 _).mono ?_
    rintro e w1 ⟨rfl, rfl⟩
    go_wp2_with fail
    go_ret
    exact ⟨rfl, hB⟩
  · go_enter Try.func55, Try.ntmps55
    go_wp2_with fail
    refine (c1 _).mono ?_
    rintro e w1 ⟨rfl, rfl⟩
    go_wp2_with fail
    refine (c2 _).mono ?_
    rintro e w1 ⟨rfl, rfl⟩
    go_wp2_with fail
    refine (c3 _).mono ?_
    rintro e w1 ⟨rfl, rfl⟩
    go_wp2_with fail
    refine (c4 _).mono ?_
    rintro e w1 ⟨rfl, rfl⟩
    go_wp2_with fail
    go_ret
    exact ⟨rfl, hB⟩
end Go.Proofs.Ythogahdnidjelaa

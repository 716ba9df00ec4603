/-
  Small functions: the bounds of numbers, parts of spans, the two questions.
-/
import Derived.Test.YtamelpfhbnkggaaBase
namespace Go.Proofs.Ytamelpfhbnkggaa
open Go.RowKit Go.Shelf
theorem chainB {A W W' : World} (hb : Below W.heap.size W W') (h : Below A.heap.size A W) : Below A.heap.size A W' := h.trans (hb.mono h.size)
theorem ret_bool {a b : Bool} (h : a = b) : Ending.returned (.bool a) = .returned (.bool b) := by rw [h]

set_option maxHeartbeats 400000 in
theorem within_any (x lo hi : Int) (w : World) :
    Calls Try.prog 86 #[.int .i64 x, .int .i64 lo, .int .i64 hi] w fun e w' => e = .returned (.bool (decide (lo ≤ x) && decide (x ≤ hi))) ∧ w' = w := by
  go_enter Try.func86, Try.ntmps86
  go_wp2
  all_goals
    go_ret
    exact ⟨ret_bool (by simp <;> omega), rfl⟩

set_option maxHeartbeats 400000 in
theorem valid_yes (a b : Int) (h : vB a b = true) (w : World) :
    Calls Try.prog 62 #[.agg #[.int .i64 a, .int .i64 b]] w fun e w' => e = .returned (.bool true) ∧ Below w.heap.size w w' := by
  obtain ⟨h1, h2, h3⟩ := (vB_iff a b).1 h
  clear h
  go_enter Try.func62, Try.ntmps62
  go_wp2
  all_goals
    go_ret
    exact ⟨ret_bool (by first | rfl | (simp <;> omega)), (Below.refl _ _).alloc (Nat.le_refl _) _⟩

set_option maxHeartbeats 400000 in
theorem valid_no (a b : Int) (h : ¬ vB a b = true) (w : World) :
    Calls Try.prog 62 #[.agg #[.int .i64 a, .int .i64 b]] w fun e w' => e = .returned (.bool false) ∧ Below w.heap.size w w' := by
  rw [vB_iff] at h
  go_enter Try.func62, Try.ntmps62
  go_wp2
  all_goals
    go_ret
    exact ⟨ret_bool (by first | rfl | (simp <;> omega)), (Below.refl _ _).alloc (Nat.le_refl _) _⟩

def prt (a b p : Int) : Int := a + (b - a) * p / 65535
theorem prt_in (a b p : Int) (h : a ≤ b) (h0 : 0 ≤ p) (h1 : p ≤ 65535) : a ≤ prt a b p ∧ prt a b p ≤ b := by
  unfold prt
  have e1 : 0 ≤ (b - a) * p := Int.mul_nonneg (by omega) h0
  have e2 : (b - a) * p ≤ (b - a) * 65535 := Int.mul_le_mul_of_nonneg_left h1 (by omega)
  omega

set_option maxHeartbeats 400000 in
theorem part_any (a b p : Int) (h : vB a b = true) (h0 : 0 ≤ p) (h1 : p ≤ 65535) (w : World) :
    Calls Try.prog 63 #[.agg #[.int .i64 a, .int .i64 b], .int .u16 p] w fun e w' => e = .returned (.int .i64 (prt a b p)) ∧ Below w.heap.size w w' := by
  obtain ⟨g1, g2, g3⟩ := (vB_iff a b).1 h
  obtain ⟨k1, k2⟩ := prt_in a b p g1 h0 h1
  have e1 : 0 ≤ (b - a) * p := Int.mul_nonneg (by omega) h0
  have e2 : (b - a) * p ≤ (b - a) * 65535 := Int.mul_le_mul_of_nonneg_left h1 (by omega)
  have e3 : (b - a) * p ≤ 140739635773440 := by omega
  clear e2 h
  unfold prt at k1 k2 ⊢
  go_enter Try.func63, Try.ntmps63
  go_wp2
  go_ret
  exact ⟨rfl, (Below.refl _ _).alloc (Nat.le_refl _) _⟩

set_option maxHeartbeats 400000 in
theorem holds_any (a b x : Int) (w : World) :
    Calls Try.prog 65 #[.agg #[.int .i64 a, .int .i64 b], .int .i64 x] w fun e w' => e = .returned (.bool (decide (a ≤ x) && decide (x ≤ b))) ∧ Below w.heap.size w w' := by
  go_enter Try.func65, Try.ntmps65
  go_wp2
  all_goals
    go_ret
    exact ⟨ret_bool (by simp <;> omega), (Below.refl _ _).alloc (Nat.le_refl _) _⟩

set_option maxHeartbeats 400000 in
theorem inside_any (a b c d : Int) (w : World) :
    Calls Try.prog 71 #[.agg #[.int .i64 a, .int .i64 b], .agg #[.int .i64 c, .int .i64 d]] w fun e w' => e = .returned (.bool (decide (c ≤ a) && decide (b ≤ d))) ∧ Below w.heap.size w w' := by
  go_enter Try.func71, Try.ntmps71
  go_wp2
  all_goals
    go_ret
    exact ⟨ret_bool (by simp <;> omega), ((Below.refl _ _).alloc (Nat.le_refl _) _).alloc (by simp) _⟩

/-- an answer and an error -/
structure A2 where
  v : Int
  e : Int
def lessS (a b c d : Int) : A2 := if vB a b = true ∧ vB c d = true then (if b < c then ⟨2, 0⟩ else if d ≤ a then ⟨0, 0⟩ else ⟨1, 0⟩) else ⟨0, 2⟩
def inS (a b c d : Int) : A2 := if vB a b = true ∧ vB c d = true then (if c ≤ a ∧ b ≤ d then ⟨2, 0⟩ else if b < c ∨ d < a then ⟨0, 0⟩ else ⟨1, 0⟩) else ⟨0, 2⟩
theorem ret_a2 {p q : A2} (h : p = q) : Ending.returned (.tuple #[.int .i64 p.v, .int .i64 p.e]) = Ending.returned (.tuple #[.int .i64 q.v, .int .i64 q.e]) := by rw [h]

set_option maxHeartbeats 1000000 in
theorem less_any (a b c d : Int) (w : World) :
    Calls Try.prog 31 #[.agg #[.int .i64 a, .int .i64 b], .agg #[.int .i64 c, .int .i64 d]] w fun e w' => e = .returned (.tuple #[.int .i64 (lessS a b c d).v, .int .i64 (lessS a b c d).e]) ∧ Below w.heap.size w w' := by
  by_cases h : vB a b = true ∧ vB c d = true
  · have k : lessS a b c d = (if b < c then ⟨2, 0⟩ else if d ≤ a then ⟨0, 0⟩ else ⟨1, 0⟩) := if_pos h
    rw [k]
    have c1 := fun w => checkBoth_ok a b c d h.1 h.2 w
    clear h k
    by_cases h1 : b < c
    · rw [if_pos h1]
      go_enter Try.func31, Try.ntmps31
      go_wp2_with fail
      refine (c1 _).mono ?_
      rintro e w1 ⟨rfl, hb⟩
      obtain ⟨hc, hf⟩ := bcell hb
      go_wp2_with fail
      go_ret2
      exact ⟨rfl, chainB (((Below.refl _ _).trans hb).mono (Nat.le_refl _)) (((Below.refl _ _).alloc (Nat.le_refl _) _).alloc (by simp) _)⟩
    · rw [if_neg h1]
      by_cases h2 : d ≤ a
      · rw [if_pos h2]
        go_enter Try.func31, Try.ntmps31
        go_wp2_with fail
        refine (c1 _).mono ?_
        rintro e w1 ⟨rfl, hb⟩
        obtain ⟨hc, hf⟩ := bcell hb
        go_wp2_with fail
        go_ret2
        exact ⟨rfl, chainB hb (((Below.refl _ _).alloc (Nat.le_refl _) _).alloc (by simp) _)⟩
      · rw [if_neg h2]
        go_enter Try.func31, Try.ntmps31
        go_wp2_with fail
        refine (c1 _).mono ?_
        rintro e w1 ⟨rfl, hb⟩
        obtain ⟨hc, hf⟩ := bcell hb
        go_wp2_with fail
        go_ret2
        exact ⟨rfl, chainB hb (((Below.refl _ _).alloc (Nat.le_refl _) _).alloc (by simp) _)⟩
  · have k : lessS a b c d = ⟨0, 2⟩ := if_neg h
    rw [k]
    have c1 := fun w => checkBoth_bad a b c d h w
    clear h k
    go_enter Try.func31, Try.ntmps31
    go_wp2_with fail
    refine (c1 _).mono ?_
    rintro e w1 ⟨rfl, hb⟩
    go_wp2_with fail
    go_ret2
    exact ⟨rfl, chainB hb (((Below.refl _ _).alloc (Nat.le_refl _) _).alloc (by simp) _)⟩

set_option maxHeartbeats 1000000 in
theorem in_any (a b c d : Int) (w : World) :
    Calls Try.prog 33 #[.agg #[.int .i64 a, .int .i64 b], .agg #[.int .i64 c, .int .i64 d]] w fun e w' => e = .returned (.tuple #[.int .i64 (inS a b c d).v, .int .i64 (inS a b c d).e]) ∧ Below w.heap.size w w' := by
  by_cases h : vB a b = true ∧ vB c d = true
  · have k : inS a b c d = (if c ≤ a ∧ b ≤ d then ⟨2, 0⟩ else if b < c ∨ d < a then ⟨0, 0⟩ else ⟨1, 0⟩) := if_pos h
    have K := Lib.hid k
    have c1 := fun w => checkBoth_ok a b c d h.1 h.2 w
    clear h k
    go_enter Try.func33, Try.ntmps33
    go_wp2_with fail
    refine (c1 _).mono ?_
    rintro e w1 ⟨rfl, hb⟩
    obtain ⟨hc, hf⟩ := bcell hb
    go_wp2_with fail
    all_goals
      go_ret2
      refine ⟨?_, chainB hb (((Below.refl _ _).alloc (Nat.le_refl _) _).alloc (by simp) _)⟩
      rw [K.out]
      repeat' split
      all_goals first | rfl | (exfalso; omega)
  · have k : inS a b c d = ⟨0, 2⟩ := if_neg h
    rw [k]
    have c1 := fun w => checkBoth_bad a b c d h w
    clear h k
    go_enter Try.func33, Try.ntmps33
    go_wp2_with fail
    refine (c1 _).mono ?_
    rintro e w1 ⟨rfl, hb⟩
    go_wp2_with fail
    go_ret2
    exact ⟨rfl, chainB hb (((Below.refl _ _).alloc (Nat.le_refl _) _).alloc (by simp) _)⟩
end Go.Proofs.Ytamelpfhbnkggaa

/-
  Buffers: what is checked of a record.
-/
import Derived.Test.YtbbaehmfadpgeaaProg
import Derived.Below
import Derived.BigQuiet
import Derived.Deep.Cut
import Derived.Deep.QuietTactic
import Derived.Deep.RegionHeld3
import Derived.Laws.AppendOwn
import Derived.Laws.EntriesVeiled
import Derived.Lib.Hide
import Derived.Lib.MinMax
import Derived.LoopIn
import Derived.LoopNIn
import Derived.OwnWalkIn
import Derived.RangeFuncBound
import Derived.RangeFuncBox
import Derived.RangeFuncCalls
import Derived.RangeFuncLeaves
import Derived.RangeFuncNested
import Derived.Shelf.Abstract
import Derived.Shelf.RegionOpen
import Derived.TacticsInMore
import Derived.WalkKit
import Derived.WalkLawsBesides
import Derived.WalkSmall
import Derived.WalkSpells
import Derived.Maps.Own
import Derived.Maps.OwnSet
import Derived.Maps.Views
import Derived.KernelRfl
import Derived.Test.YtbbaehmfadpgeaaBfMap
namespace Go.Proofs.Ytbbaehmfadpgeaa
open Go.RowKit Go.Shelf
set_option linter.unusedSimpArgs false

theorem cellH {W : World} {B : Nat} {cs : Array Value} {t : TypeId} {q : Nat × Nat} (h : W.heap[B]? = some (.cells cs t q)) (j : Nat) : W.cell? ⟨B, j, none⟩ = cs[j]? := by simp [World.cell?, h]
theorem frozH {W : World} {B : Nat} {cs : Array Value} {t : TypeId} (h : W.heap[B]? = some (.cells cs t (0, 0))) (j : Nat) : W.frozen? ⟨B, j, none⟩ = false := by simp [World.frozen?, h]
theorem withinL (x lo hi : Int) (w : World) :
    Calls Try.prog 53 #[.int .i64 x, .int .i64 lo, .int .i64 hi] w fun e w' => e = .returned (.bool (decide (lo ≤ x ∧ x ≤ hi))) ∧ w' = w := by
  by_cases h1 : lo ≤ x
  · by_cases h2 : x ≤ hi
    · rw [decide_eq_true ⟨h1, h2⟩]
      go_enter Try.func53, Try.ntmps53
      go_wp2_with fail
      go_ret
      first | exact ⟨rfl, rfl⟩ | simp [*]
    · rw [decide_eq_false (fun h => h2 h.2)]
      go_enter Try.func53, Try.ntmps53
      go_wp2_with fail
      go_ret
      first | exact ⟨rfl, rfl⟩ | simp [*]
  · rw [decide_eq_false (fun h => h1 h.1)]
    go_enter Try.func53, Try.ntmps53
    go_wp2_with fail
    go_ret
    first | exact ⟨rfl, rfl⟩ | simp [*]
theorem withinI (x lo hi : Int) (w : World) :
    Calls Try.prog 54 #[.int .i64 x, .int .i64 lo, .int .i64 hi] w fun e w' => e = .returned (.bool (decide (lo ≤ x ∧ x ≤ hi))) ∧ w' = w := by
  by_cases h1 : lo ≤ x
  · by_cases h2 : x ≤ hi
    · rw [decide_eq_true ⟨h1, h2⟩]
      go_enter Try.func54, Try.ntmps54
      go_wp2_with fail
      go_ret
      first | exact ⟨rfl, rfl⟩ | simp [*]
    · rw [decide_eq_false (fun h => h2 h.2)]
      go_enter Try.func54, Try.ntmps54
      go_wp2_with fail
      go_ret
      first | exact ⟨rfl, rfl⟩ | simp [*]
  · rw [decide_eq_false (fun h => h1 h.1)]
    go_enter Try.func54, Try.ntmps54
    go_wp2_with fail
    go_ret
    first | exact ⟨rfl, rfl⟩ | simp [*]
/-- a record in a block of its own -/
def BxR (W : World) (B : Nat) (r : Rc) : Prop := W.heap[B]? = some (.cells #[.int .i64 r.id, .int .i64 r.cls, .int .i64 r.made, .int .i64 r.size, .int .i64 r.packed] 23 (0, 0))
theorem BxR.lt {W : World} {B : Nat} {r : Rc} (h : BxR W B r) : B < W.heap.size := (Array.getElem?_eq_some_iff.1 h).1
theorem BxR.new (W : World) (r : Rc) : BxR (W.alloc (.cells #[.int .i64 r.id, .int .i64 r.cls, .int .i64 r.made, .int .i64 r.size, .int .i64 r.packed] 23)) W.heap.size r := World.alloc_heap_new W _
theorem BxR.keep {W W' : World} {B : Nat} {r : Rc} (h : BxR W B r) (hb : Below W.heap.size W W') : BxR W' B r := (hb.block B h.lt).trans h
theorem BxR.all {W : World} {B : Nat} {r : Rc} (h : BxR W B r) : W.cell? ⟨B, 0, none⟩ = some (.int .i64 r.id) ∧ W.cell? ⟨B, 1, none⟩ = some (.int .i64 r.cls) ∧ W.cell? ⟨B, 2, none⟩ = some (.int .i64 r.made) ∧ W.cell? ⟨B, 3, none⟩ = some (.int .i64 r.size) ∧ W.cell? ⟨B, 4, none⟩ = some (.int .i64 r.packed) := by
  refine ⟨?_, ?_, ?_, ?_, ?_⟩
  · exact (cellH h 0).trans (by simp)
  · exact (cellH h 1).trans (by simp)
  · exact (cellH h 2).trans (by simp)
  · exact (cellH h 3).trans (by simp)
  · exact (cellH h 4).trans (by simp)
set_option maxHeartbeats 1000000 in
set_option maxRecDepth 100000 in
theorem check_any (r : Rc) (w : World) : Calls Try.prog 18 #[.agg #[.int .i64 r.id, .int .i64 r.cls, .int .i64 r.made, .int .i64 r.size, .int .i64 r.packed]] w fun e w' => e = .returned (.int .i64 (chkR r)) ∧ Below w.heap.size w w' := by
  obtain ⟨A, hA⟩ : ∃ A, A = w.alloc (.cells #[.int .i64 r.id, .int .i64 r.cls, .int .i64 r.made, .int .i64 r.size, .int .i64 r.packed] 23) := ⟨_, rfl⟩
  have HBA := Lib.hid (show Below w.heap.size w A by rw [hA]; exact ((Below.refl _ _).alloc (Nat.le_refl _) _))
  have HX := Lib.hid (show BxR A w.heap.size r by rw [hA]; exact BxR.new w r)
  obtain ⟨k0, k1, k2, k3, k4⟩ := HX.out.all
  by_cases h0 : 0 ≤ r.id ∧ r.id ≤ 1073741824
  · by_cases h1 : 0 ≤ r.cls ∧ r.cls ≤ 9
    · by_cases h2 : 0 ≤ r.made ∧ r.made ≤ 1073741824
      · by_cases h3 : 1 ≤ r.size ∧ r.size ≤ 16777216
        · by_cases h4 : 1 ≤ r.packed ∧ r.packed ≤ r.size
          · have c0 := fun W => withinL r.id 0 1073741824 W
            rw [decide_eq_true h0] at c0
            have c1 := fun W => withinI r.cls 0 9 W
            rw [decide_eq_true h1] at c1
            have c2 := fun W => withinL r.made 0 1073741824 W
            rw [decide_eq_true h2] at c2
            have c3 := fun W => withinL r.size 1 16777216 W
            rw [decide_eq_true h3] at c3
            have c4 := fun W => withinL r.packed 1 r.size W
            rw [decide_eq_true h4] at c4
            rw [show chkR r = 0 from if_pos ⟨h0, h1, h2, h3, h4⟩]
            clear h0 h1 h2 h3 h4
            go_enter Try.func18, Try.ntmps18
            go_upto_region 1 with fail
            rw [← hA]
            clear hA
            go_wp2_with fail
            refine (c0 _).mono ?_
            rintro e w1 ⟨rfl, rfl⟩
            go_wp2_with fail
            refine (c1 _).mono ?_
            rintro e w1 ⟨rfl, rfl⟩
            go_wp2_with fail
            refine (c2 _).mono ?_
            rintro e w1 ⟨rfl, rfl⟩
            go_wp2_with fail
            refine (c3 _).mono ?_
            rintro e w1 ⟨rfl, rfl⟩
            go_wp2_with fail
            refine (c4 _).mono ?_
            rintro e w1 ⟨rfl, rfl⟩
            go_wp2_with fail
            go_ret
            exact ⟨rfl, HBA.out⟩
          · have c0 := fun W => withinL r.id 0 1073741824 W
            rw [decide_eq_true h0] at c0
            have c1 := fun W => withinI r.cls 0 9 W
            rw [decide_eq_true h1] at c1
            have c2 := fun W => withinL r.made 0 1073741824 W
            rw [decide_eq_true h2] at c2
            have c3 := fun W => withinL r.size 1 16777216 W
            rw [decide_eq_true h3] at c3
            have c4 := fun W => withinL r.packed 1 r.size W
            rw [decide_eq_false h4] at c4
            rw [show chkR r = 2 from if_neg fun h => h4 (by unfold OkR at h; omega)]
            clear h0 h1 h2 h3 h4
            go_enter Try.func18, Try.ntmps18
            go_upto_region 1 with fail
            rw [← hA]
            clear hA
            go_wp2_with fail
            refine (c0 _).mono ?_
            rintro e w1 ⟨rfl, rfl⟩
            go_wp2_with fail
            refine (c1 _).mono ?_
            rintro e w1 ⟨rfl, rfl⟩
            go_wp2_with fail
            refine (c2 _).mono ?_
            rintro e w1 ⟨rfl, rfl⟩
            go_wp2_with fail
            refine (c3 _).mono ?_
            rintro e w1 ⟨rfl, rfl⟩
            go_wp2_with fail
            refine (c4 _).mono ?_
            rintro e w1 ⟨rfl, rfl⟩
            go_wp2_with fail
            go_ret
            exact ⟨rfl, HBA.out⟩
        · have c0 := fun W => withinL r.id 0 1073741824 W
          rw [decide_eq_true h0] at c0
          have c1 := fun W => withinI r.cls 0 9 W
          rw [decide_eq_true h1] at c1
          have c2 := fun W => withinL r.made 0 1073741824 W
          rw [decide_eq_true h2] at c2
          have c3 := fun W => withinL r.size 1 16777216 W
          rw [decide_eq_false h3] at c3
          rw [show chkR r = 2 from if_neg fun h => h3 (by unfold OkR at h; omega)]
          clear h0 h1 h2 h3
          go_enter Try.func18, Try.ntmps18
          go_upto_region 1 with fail
          rw [← hA]
          clear hA
          go_wp2_with fail
          refine (c0 _).mono ?_
          rintro e w1 ⟨rfl, rfl⟩
          go_wp2_with fail
          refine (c1 _).mono ?_
          rintro e w1 ⟨rfl, rfl⟩
          go_wp2_with fail
          refine (c2 _).mono ?_
          rintro e w1 ⟨rfl, rfl⟩
          go_wp2_with fail
          refine (c3 _).mono ?_
          rintro e w1 ⟨rfl, rfl⟩
          go_wp2_with fail
          go_ret
          exact ⟨rfl, HBA.out⟩
      · have c0 := fun W => withinL r.id 0 1073741824 W
        rw [decide_eq_true h0] at c0
        have c1 := fun W => withinI r.cls 0 9 W
        rw [decide_eq_true h1] at c1
        have c2 := fun W => withinL r.made 0 1073741824 W
        rw [decide_eq_false h2] at c2
        rw [show chkR r = 2 from if_neg fun h => h2 (by unfold OkR at h; omega)]
        clear h0 h1 h2
        go_enter Try.func18, Try.ntmps18
        go_upto_region 1 with fail
        rw [← hA]
        clear hA
        go_wp2_with fail
        refine (c0 _).mono ?_
        rintro e w1 ⟨rfl, rfl⟩
        go_wp2_with fail
        refine (c1 _).mono ?_
        rintro e w1 ⟨rfl, rfl⟩
        go_wp2_with fail
        refine (c2 _).mono ?_
        rintro e w1 ⟨rfl, rfl⟩
        go_wp2_with fail
        go_ret
        exact ⟨rfl, HBA.out⟩
    · have c0 := fun W => withinL r.id 0 1073741824 W
      rw [decide_eq_true h0] at c0
      have c1 := fun W => withinI r.cls 0 9 W
      rw [decide_eq_false h1] at c1
      rw [show chkR r = 2 from if_neg fun h => h1 (by unfold OkR at h; omega)]
      clear h0 h1
      go_enter Try.func18, Try.ntmps18
      go_upto_region 1 with fail
      rw [← hA]
      clear hA
      go_wp2_with fail
      refine (c0 _).mono ?_
      rintro e w1 ⟨rfl, rfl⟩
      go_wp2_with fail
      refine (c1 _).mono ?_
      rintro e w1 ⟨rfl, rfl⟩
      go_wp2_with fail
      go_ret
      exact ⟨rfl, HBA.out⟩
  · have c0 := fun W => withinL r.id 0 1073741824 W
    rw [decide_eq_false h0] at c0
    rw [show chkR r = 2 from if_neg fun h => h0 (by unfold OkR at h; omega)]
    clear h0
    go_enter Try.func18, Try.ntmps18
    go_upto_region 1 with fail
    rw [← hA]
    clear hA
    go_wp2_with fail
    refine (c0 _).mono ?_
    rintro e w1 ⟨rfl, rfl⟩
    go_wp2_with fail
    go_ret
    exact ⟨rfl, HBA.out⟩

end Go.Proofs.Ytbbaehmfadpgeaa

/-
  stands, checkCurrents, checkStanding.
-/
import Derived.Test.YthogahdnidjelaaForceMath
import Derived.Test.YthogahdnidjelaaRoot
namespace Go.Proofs.Ythogahdnidjelaa
open Go.RowKit Go.Shelf
set_option linter.unusedSimpArgs false
set_option maxRecDepth 10000 in
set_option maxHeartbeats 2000000 in
theorem stands_any (d an fr : Int) (sv : Value) (zs : List El) (h0 : 0 < zs.length) (hl : zs.length ≤ 40) (hv : ∀ k, k < zs.length → -1048576 ≤ (el zs k).lift ∧ (el zs k).lift ≤ 1048576) (w : World) (hI : Els w.heap.size w sv zs) :
    Calls Try.prog 98 #[.agg #[.int .i64 d, sv, .int .i64 an, .int .i64 fr]] w fun e w' => e = .returned (.bool (standB zs)) ∧ Below w.heap.size w w' := by
  have hA : Below w.heap.size w (w.alloc (.cells #[.int .i64 d, sv, .int .i64 an, .int .i64 fr] 24)) := (Below.refl _ _).alloc (Nat.le_refl _) _
  have hI1 := hI.at hA
  have c1 := lifts_any d an fr sv zs hl hv _ hI1
  have hlen := lifL_len zs zs.length
  have c2 := fun v w (h : Nums w.heap.size w v (lifL zs zs.length)) => sliceMin_any v (lifL zs zs.length) (by omega) (by omega) w h
  obtain ⟨a, cap, rfl, -, -⟩ := hI
  unfold standB
  generalize leastTo (lifL zs zs.length) ((lifL zs zs.length).length - 1) = m at c2 ⊢
  have c3 := fun w => floats_any m w
  generalize lifL zs zs.length = L at *
  generalize decide (1 ≤ m) = r at *
  generalize zs.length = len at *
  have HA := Lib.hid hA
  clear hA hI1 hv h0 hl hlen
  go_enter Try.func98, Try.ntmps98
  go_wp2_with fail
  refine Calls.mono (c1) ?_
  rintro e w1 ⟨v, rfl, hn, hb⟩
  have HN := Lib.hid hn
  have HB := Lib.hid hb
  clear c1 hn hb
  go_wp2_with fail
  refine (c2 _ _ HN.out).mono ?_
  rintro e w2 ⟨rfl, rfl⟩
  clear c2
  go_wp2_with fail
  refine (c3 _).mono ?_
  rintro e w3 ⟨rfl, rfl⟩
  go_wp2_with fail
  go_ret
  exact ⟨rfl, HA.out.trans (HB.out.mono HA.out.size)⟩
end Go.Proofs.Ythogahdnidjelaa

/-
  outward.
-/
import Derived.Test.YthogahdnidjelaaForce
namespace Go.Proofs.Ythogahdnidjelaa
open Go.RowKit Go.Shelf
set_option linter.unusedSimpArgs false
set_option maxHeartbeats 1000000 in
theorem outwardM_any (lo hi s t : Int) (b1 b2 : Nat) (w : World) (hl : 0 ≤ lo) (hl2 : lo ≤ 2305843009213693952) (hh : 0 ≤ hi) (hh2 : hi ≤ 2305843009213693952) (hs : 1 ≤ s) (hs2 : s ≤ 2305843009213693952) (ht : 1 ≤ t) (ht2 : t ≤ 2305843009213693952)
    (z1 : b1 < w.heap.size) (z2 : b2 < w.heap.size) (hc1 : w.cell? ⟨b1, 0, none⟩ = some (.int .i64 s)) (hc2 : w.cell? ⟨b2, 0, none⟩ = some (.int .i64 t)) :
    Calls Try.prog 96 #[ovv b1 b2, .int .i64 lo, .int .i64 hi] w fun e w' => e = .returned (.agg #[.int .i64 (lo / s), .int .i64 ((hi + t - 1) / t)]) ∧ Below w.heap.size w w' := by
  have c1 := fun w h => down_any lo s b1 w hl (by omega) hs (by omega) h
  have c2 := fun w h => up_any hi t b2 w hh hh2 ht ht2 h
  generalize lo / s = x at c1 ⊢
  generalize (hi + t - 1) / t = y at c2 ⊢
  unfold ovv
  go_enter Try.func96, Try.ntmps96
  go_wp2_with fail
  have g1 : ¬ w.heap.size = b1 := by omega
  have g2 : ¬ w.heap.size = b2 := by omega
  have g3 : ¬ w.heap.size + 1 = b1 := by omega
  have g4 : ¬ w.heap.size + 1 = b2 := by omega
  have g5 : ¬ b1 = w.heap.size := by omega
  have g6 : ¬ b2 = w.heap.size := by omega
  have g7 : ¬ b1 = w.heap.size + 1 := by omega
  have g8 : ¬ b2 = w.heap.size + 1 := by omega
  trace_state
  go_region_held3 (fun w' => w'.cell? ⟨w.heap.size, 0, none⟩ = some (.func (.func 109) #[] #[.pointer (some ⟨b1, 0, none⟩)]) ∧ w'.cell? ⟨w.heap.size, 1, none⟩ = some (.func (.func 110) #[] #[.pointer (some ⟨b2, 0, none⟩)])) (simp [go_sem, *])
    (first
      | (go_at_call 109; refine (c1 _ (by simp [go_sem, *])).mono ?_; rintro e w' ⟨rfl, rfl⟩)
      | (go_at_call 110; refine (c2 _ (by simp [go_sem, *])).mono ?_; rintro e w' ⟨rfl, rfl⟩))
  all_goals
    go_wp2
    refine bodyPost_ret (v := .agg #[.int .i64 x, .int .i64 y]) (by simp [results, Try.results96, go_sem, *]) rfl ⟨rfl, ?_⟩
    repeat (first | exact Below.refl _ _ | refine Below.drew ?_ | refine Below.setCell ?_ (by first | omega | (simp; omega) | simp) _ | refine Below.alloc ?_ (by first | omega | (simp; omega) | simp) _)
end Go.Proofs.Ythogahdnidjelaa

/-
  force.
-/
import Derived.Test.YthogahdnidjelaaOut
namespace Go.Proofs.Ythogahdnidjelaa
open Go.RowKit Go.Shelf
set_option linter.unusedSimpArgs false
set_option maxRecDepth 100000 in
set_option maxHeartbeats 2000000 in
theorem force_any (x : El) (a : Pr) (hx : vE x = true) (ha : okC a = true) (w : World) :
    Calls Try.prog 58 #[elv x, prv a] w fun e w' => e = .returned (prv ⟨fLo x a, fHi x a⟩) ∧ Below w.heap.size w w' := by
  obtain ⟨-, -, ⟨g0, g1⟩, -⟩ := (vE_iff x).1 hx
  obtain ⟨a0, a1, a2⟩ := (okC_iff a).1 ha
  have b1 := drag_bd g0 g1 a0 (by omega)
  have b2 := drag_bd g0 g1 (s := a.hi) (by omega) a2
  obtain ⟨x0, x1, x2, x3⟩ := x
  obtain ⟨p, q⟩ := a
  dsimp only at *
  obtain ⟨l1, l2, l3, l4⟩ := b1
  obtain ⟨m1, m2, m3, m4⟩ := b2
  have c1 := fun w => over_any 1000000 1000000 w
  have c2 := fun b1 b2 w z1 z2 h1 h2 => outwardM_any (x2 * p * p) (x2 * q * q) 1000000 1000000 b1 b2 w l3 (by omega) m3 (by omega) (by decide) (by decide) (by decide) (by decide) z1 z2 h1 h2
  have e1 : fLo ⟨x0, x1, x2, x3⟩ ⟨p, q⟩ = x2 * p * p / 1000000 := rfl
  have e2 : fHi ⟨x0, x1, x2, x3⟩ ⟨p, q⟩ = (x2 * q * q + 1000000 - 1) / 1000000 := rfl
  unfold prv elv
  dsimp only
  rw [e1, e2]
  clear e1 e2 hx ha
  generalize x2 * p * p / 1000000 = r1 at c2 ⊢
  generalize (x2 * q * q + 1000000 - 1) / 1000000 = r2 at c2 ⊢
  generalize E1 : x2 * p = X1 at *
  generalize E2 : x2 * q = X2 at *
  generalize E3 : X1 * p = X3 at *
  generalize E4 : X2 * q = X4 at *
  have W1 : IntKind.i64.wrap X1 = X1 := by rw [IntKind.wrap_i64]; omega
  have W2 : IntKind.i64.wrap X2 = X2 := by rw [IntKind.wrap_i64]; omega
  have W3 : IntKind.i64.wrap X3 = X3 := by rw [IntKind.wrap_i64]; omega
  have W4 : IntKind.i64.wrap X4 = X4 := by rw [IntKind.wrap_i64]; omega
  go_enter Try.func58, Try.ntmps58
  go_wp2_with fail
  refine (c1 _).mono ?_
  rintro e w1 ⟨rfl, q1, q2, q3, hb⟩
  obtain ⟨hc, hf⟩ := bcell hb
  have k1_00 : w1.cell? ⟨w.heap.size, 0, none⟩ = some (.int .i64 x0) := by rw [hc _ _ (by first | omega | (simp; omega) | simp)]; simp [go_sem, *]
  have k1_01 : w1.cell? ⟨w.heap.size, 1, none⟩ = some (.int .i64 x1) := by rw [hc _ _ (by first | omega | (simp; omega) | simp)]; simp [go_sem, *]
  have k1_02 : w1.cell? ⟨w.heap.size, 2, none⟩ = some (.int .i64 x2) := by rw [hc _ _ (by first | omega | (simp; omega) | simp)]; simp [go_sem, *]
  have k1_03 : w1.cell? ⟨w.heap.size, 3, none⟩ = some (.int .i64 x3) := by rw [hc _ _ (by first | omega | (simp; omega) | simp)]; simp [go_sem, *]
  have z1_0 : w.heap.size < w1.heap.size := by have := hb.size; (try simp at this); omega
  have k1_10 : w1.cell? ⟨(w.heap.size + 1), 0, none⟩ = some (.int .i64 p) := by rw [hc _ _ (by first | omega | (simp; omega) | simp)]; simp [go_sem, *]
  have k1_11 : w1.cell? ⟨(w.heap.size + 1), 1, none⟩ = some (.int .i64 q) := by rw [hc _ _ (by first | omega | (simp; omega) | simp)]; simp [go_sem, *]
  have z1_1 : (w.heap.size + 1) < w1.heap.size := by have := hb.size; (try simp at this); omega
  have k1_20 : w1.cell? ⟨(w.heap.size + 2), 0, none⟩ = some (.int .i64 0) := by rw [hc _ _ (by first | omega | (simp; omega) | simp)]; simp [go_sem, *]
  have f1_20 : w1.frozen? ⟨(w.heap.size + 2), 0, none⟩ = false := by rw [hf _ _ (by first | omega | (simp; omega) | simp)]; simp [go_sem, *]
  have k1_21 : w1.cell? ⟨(w.heap.size + 2), 1, none⟩ = some (.int .i64 0) := by rw [hc _ _ (by first | omega | (simp; omega) | simp)]; simp [go_sem, *]
  have f1_21 : w1.frozen? ⟨(w.heap.size + 2), 1, none⟩ = false := by rw [hf _ _ (by first | omega | (simp; omega) | simp)]; simp [go_sem, *]
  have z1_2 : (w.heap.size + 2) < w1.heap.size := by have := hb.size; (try simp at this); omega
  have hB1 : Below w.heap.size w w1 := by repeat (first | exact (Below.refl _ _) | refine Below.drew ?_ | refine below_drewN ?_ _ | refine Below.setCell ?_ (by first | omega | (simp; omega) | simp) _ | refine Below.alloc ?_ (by first | omega | (simp; omega) | simp) _ | refine chainB (by assumption) ?_)
  have hs1 : w.heap.size ≤ w1.heap.size := hB1.size
  clear hc hf hb 
  simp only [World.size_alloc] at q1 q2 q3
  have z3 : w.heap.size + 1 + 1 + 1 < w1.heap.size := by omega
  have z4 : w.heap.size + 1 + 1 + 1 + 1 < w1.heap.size := by omega
  unfold ovv
  go_wp2_with fail
  refine Calls.mono (c2 (w.heap.size + 1 + 1 + 1) (w.heap.size + 1 + 1 + 1 + 1) _ ?_ ?_ ?_ ?_) ?_
  · simp; omega
  · simp; omega
  · simp [go_sem, *]
  · simp [go_sem, *]
  rintro e w2 ⟨rfl, hb⟩
  obtain ⟨hc, hf⟩ := bcell hb
  have k2_00 : w2.cell? ⟨w.heap.size, 0, none⟩ = some (.int .i64 x0) := by rw [hc _ _ (by first | omega | (simp; omega) | simp)]; simp [go_sem, *]
  have k2_01 : w2.cell? ⟨w.heap.size, 1, none⟩ = some (.int .i64 x1) := by rw [hc _ _ (by first | omega | (simp; omega) | simp)]; simp [go_sem, *]
  have k2_02 : w2.cell? ⟨w.heap.size, 2, none⟩ = some (.int .i64 x2) := by rw [hc _ _ (by first | omega | (simp; omega) | simp)]; simp [go_sem, *]
  have k2_03 : w2.cell? ⟨w.heap.size, 3, none⟩ = some (.int .i64 x3) := by rw [hc _ _ (by first | omega | (simp; omega) | simp)]; simp [go_sem, *]
  have z2_0 : w.heap.size < w2.heap.size := by have := hb.size; (try simp at this); omega
  have k2_10 : w2.cell? ⟨(w.heap.size + 1), 0, none⟩ = some (.int .i64 p) := by rw [hc _ _ (by first | omega | (simp; omega) | simp)]; simp [go_sem, *]
  have k2_11 : w2.cell? ⟨(w.heap.size + 1), 1, none⟩ = some (.int .i64 q) := by rw [hc _ _ (by first | omega | (simp; omega) | simp)]; simp [go_sem, *]
  have z2_1 : (w.heap.size + 1) < w2.heap.size := by have := hb.size; (try simp at this); omega
  have k2_20 : w2.cell? ⟨(w.heap.size + 2), 0, none⟩ = some (.int .i64 0) := by rw [hc _ _ (by first | omega | (simp; omega) | simp)]; simp [go_sem, *]
  have f2_20 : w2.frozen? ⟨(w.heap.size + 2), 0, none⟩ = false := by rw [hf _ _ (by first | omega | (simp; omega) | simp)]; simp [go_sem, *]
  have k2_21 : w2.cell? ⟨(w.heap.size + 2), 1, none⟩ = some (.int .i64 0) := by rw [hc _ _ (by first | omega | (simp; omega) | simp)]; simp [go_sem, *]
  have f2_21 : w2.frozen? ⟨(w.heap.size + 2), 1, none⟩ = false := by rw [hf _ _ (by first | omega | (simp; omega) | simp)]; simp [go_sem, *]
  have z2_2 : (w.heap.size + 2) < w2.heap.size := by have := hb.size; (try simp at this); omega
  have hB2 : Below w.heap.size w w2 := by repeat (first | exact hB1 | refine Below.drew ?_ | refine below_drewN ?_ _ | refine Below.setCell ?_ (by first | omega | (simp; omega) | simp) _ | refine Below.alloc ?_ (by first | omega | (simp; omega) | simp) _ | refine chainB (by assumption) ?_)
  have hs2 : w.heap.size ≤ w2.heap.size := hB2.size
  clear hc hf hb k1_00 k1_01 k1_02 k1_03 z1_0 k1_10 k1_11 z1_1 k1_20 f1_20 k1_21 f1_21 z1_2 hB1 hs1
  go_wp2_with fail
  refine bodyPost_ret (v := .agg #[.int .i64 r1, .int .i64 r2]) (by simp [results, Try.results58, go_sem, *]) rfl ⟨rfl, ?_⟩
  repeat (first | exact hB2 | refine Below.drew ?_ | refine below_drewN ?_ _ | refine Below.setCell ?_ (by first | omega | (simp; omega) | simp) _ | refine Below.alloc ?_ (by first | omega | (simp; omega) | simp) _ | refine chainB (by assumption) ?_)
end Go.Proofs.Ythogahdnidjelaa

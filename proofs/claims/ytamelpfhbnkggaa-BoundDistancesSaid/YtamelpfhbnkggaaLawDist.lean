/-
  BoundDistances: the walk.
-/
import Derived.Test.YtamelpfhbnkggaaDistance
import Derived.Test.YtamelpfhbnkggaaWorks
import Derived.Test.YtamelpfhbnkggaaHold
import Derived.Lib.Hide
namespace Go.Proofs.Ytamelpfhbnkggaa
open Go.RowKit Go.Shelf
theorem gLo_comm (a b c d : Int) : gLo c d a b = gLo a b c d := by unfold gLo; omega
theorem gHi_comm (a b c d : Int) : gHi c d a b = gHi a b c d := by unfold gHi; omega
theorem gLo_self (a b : Int) (h : a ≤ b) : gLo a b a b = 0 := by unfold gLo; omega
/-- the square of a difference lies between both squares -/
theorem gap_sq {a b c d x y : Int} (h1 : a ≤ x) (h2 : x ≤ b) (h3 : c ≤ y) (h4 : y ≤ d) : gLo a b c d * gLo a b c d ≤ (x - y) * (x - y) ∧ (x - y) * (x - y) ≤ gHi a b c d * gHi a b c d := by
  have e : (x - y) * (x - y) = (y - x) * (y - x) := by
    have : y - x = -(x - y) := by omega
    rw [this, Int.neg_mul_neg]
  rcases Int.le_total 0 (x - y) with h | h
  · exact ⟨sq_mono (by unfold gLo; omega) (by unfold gLo; omega), sq_mono h (by unfold gHi; omega)⟩
  · rw [e]
    exact ⟨sq_mono (by unfold gLo; omega) (by unfold gLo; omega), sq_mono (by omega) (by unfold gHi; omega)⟩
theorem some_eq (x : Int) : ∃ y, x = y := ⟨x, rfl⟩

set_option maxRecDepth 100000 in
set_option maxHeartbeats 16000000 in
theorem law_distances (a b c d p q r s f0 f1 f2 f3 : Int) (u0 : 0 ≤ f0 ∧ f0 ≤ 65535) (u1 : 0 ≤ f1 ∧ f1 ≤ 65535) (u2 : 0 ≤ f2 ∧ f2 ≤ 65535) (u3 : 0 ≤ f3 ∧ f3 ≤ 65535) (w : World) :
    Calls Try.prog 15 #[.agg #[.int .i64 a, .int .i64 b, .int .i64 c, .int .i64 d], .agg #[.int .i64 p, .int .i64 q, .int .i64 r, .int .i64 s], .agg #[.int .u16 f0, .int .u16 f1, .int .u16 f2, .int .u16 f3]] w fun e w' => e = .returned (.bool true) ∧ Below w.heap.size w w' := by
  have cW := fun w => works_any w
  have c1 := fun w => square_any a b c d p q r s w
  have v1 := fun w => validBox_any a b c d w
  have v2 := fun w => validBox_any p q r s w
  by_cases hA : vX a b c d = true
  rotate_left
  · rw [show squareS a b c d p q r s = ⟨0, 0, 2⟩ from if_neg (fun h => hA h.1)] at c1
    rw [show vX a b c d = false by simpa using hA] at v1
    dsimp only at c1
    clear hA v2 u0 u1 u2 u3
    go_enter Try.func15, Try.ntmps15
    go_wp2_with fail
    refine (c1 _).mono ?_
    rintro e w1 ⟨rfl, hb⟩
    obtain ⟨hc, hf⟩ := bcell hb
    have q1 : ¬ w.heap.size = (w.heap.size + 1) := by omega
    have q1s : ¬ (w.heap.size + 1) = w.heap.size := by omega
    have q2 : ¬ w.heap.size = (w.heap.size + 2) := by omega
    have q2s : ¬ (w.heap.size + 2) = w.heap.size := by omega
    have q3 : ¬ (w.heap.size + 1) = (w.heap.size + 2) := by omega
    have q3s : ¬ (w.heap.size + 2) = (w.heap.size + 1) := by omega
    have k1_00 : w1.cell? ⟨w.heap.size, 0, none⟩ = some (.int .i64 a) := by rw [hc _ _ (by first | omega | (simp; omega) | simp)]; simp [go_sem, *]
    have k1_01 : w1.cell? ⟨w.heap.size, 1, none⟩ = some (.int .i64 b) := by rw [hc _ _ (by first | omega | (simp; omega) | simp)]; simp [go_sem, *]
    have k1_02 : w1.cell? ⟨w.heap.size, 2, none⟩ = some (.int .i64 c) := by rw [hc _ _ (by first | omega | (simp; omega) | simp)]; simp [go_sem, *]
    have k1_03 : w1.cell? ⟨w.heap.size, 3, none⟩ = some (.int .i64 d) := by rw [hc _ _ (by first | omega | (simp; omega) | simp)]; simp [go_sem, *]
    have z1_0 : w.heap.size < w1.heap.size := by have := hb.size; (try simp at this); omega
    have k1_10 : w1.cell? ⟨(w.heap.size + 1), 0, none⟩ = some (.int .i64 p) := by rw [hc _ _ (by first | omega | (simp; omega) | simp)]; simp [go_sem, *]
    have k1_11 : w1.cell? ⟨(w.heap.size + 1), 1, none⟩ = some (.int .i64 q) := by rw [hc _ _ (by first | omega | (simp; omega) | simp)]; simp [go_sem, *]
    have k1_12 : w1.cell? ⟨(w.heap.size + 1), 2, none⟩ = some (.int .i64 r) := by rw [hc _ _ (by first | omega | (simp; omega) | simp)]; simp [go_sem, *]
    have k1_13 : w1.cell? ⟨(w.heap.size + 1), 3, none⟩ = some (.int .i64 s) := by rw [hc _ _ (by first | omega | (simp; omega) | simp)]; simp [go_sem, *]
    have z1_1 : (w.heap.size + 1) < w1.heap.size := by have := hb.size; (try simp at this); omega
    have k1_20 : w1.cell? ⟨(w.heap.size + 2), 0, none⟩ = some (.int .u16 f0) := by rw [hc _ _ (by first | omega | (simp; omega) | simp)]; simp [go_sem, *]
    have k1_21 : w1.cell? ⟨(w.heap.size + 2), 1, none⟩ = some (.int .u16 f1) := by rw [hc _ _ (by first | omega | (simp; omega) | simp)]; simp [go_sem, *]
    have k1_22 : w1.cell? ⟨(w.heap.size + 2), 2, none⟩ = some (.int .u16 f2) := by rw [hc _ _ (by first | omega | (simp; omega) | simp)]; simp [go_sem, *]
    have k1_23 : w1.cell? ⟨(w.heap.size + 2), 3, none⟩ = some (.int .u16 f3) := by rw [hc _ _ (by first | omega | (simp; omega) | simp)]; simp [go_sem, *]
    have z1_2 : (w.heap.size + 2) < w1.heap.size := by have := hb.size; (try simp at this); omega
    have hB1 : Below w.heap.size w w1 := by repeat (first | exact (Below.refl _ _) | refine Below.drew ?_ | refine below_drewN ?_ _ | refine Below.setCell ?_ (by first | omega | (simp; omega) | simp) _ | refine Below.alloc ?_ (by first | omega | (simp; omega) | simp) _ | refine chainB (by assumption) ?_)
    have hs1 : w.heap.size ≤ w1.heap.size := hB1.size
    clear hc hf hb 
    go_wp2_with fail
    refine (v1 _).mono ?_
    rintro e w2 ⟨rfl, hb⟩
    obtain ⟨hc, hf⟩ := bcell hb
    have k2_00 : w2.cell? ⟨w.heap.size, 0, none⟩ = some (.int .i64 a) := by rw [hc _ _ (by first | omega | (simp; omega) | simp)]; simp [go_sem, *]
    have k2_01 : w2.cell? ⟨w.heap.size, 1, none⟩ = some (.int .i64 b) := by rw [hc _ _ (by first | omega | (simp; omega) | simp)]; simp [go_sem, *]
    have k2_02 : w2.cell? ⟨w.heap.size, 2, none⟩ = some (.int .i64 c) := by rw [hc _ _ (by first | omega | (simp; omega) | simp)]; simp [go_sem, *]
    have k2_03 : w2.cell? ⟨w.heap.size, 3, none⟩ = some (.int .i64 d) := by rw [hc _ _ (by first | omega | (simp; omega) | simp)]; simp [go_sem, *]
    have z2_0 : w.heap.size < w2.heap.size := by have := hb.size; (try simp at this); omega
    have k2_10 : w2.cell? ⟨(w.heap.size + 1), 0, none⟩ = some (.int .i64 p) := by rw [hc _ _ (by first | omega | (simp; omega) | simp)]; simp [go_sem, *]
    have k2_11 : w2.cell? ⟨(w.heap.size + 1), 1, none⟩ = some (.int .i64 q) := by rw [hc _ _ (by first | omega | (simp; omega) | simp)]; simp [go_sem, *]
    have k2_12 : w2.cell? ⟨(w.heap.size + 1), 2, none⟩ = some (.int .i64 r) := by rw [hc _ _ (by first | omega | (simp; omega) | simp)]; simp [go_sem, *]
    have k2_13 : w2.cell? ⟨(w.heap.size + 1), 3, none⟩ = some (.int .i64 s) := by rw [hc _ _ (by first | omega | (simp; omega) | simp)]; simp [go_sem, *]
    have z2_1 : (w.heap.size + 1) < w2.heap.size := by have := hb.size; (try simp at this); omega
    have k2_20 : w2.cell? ⟨(w.heap.size + 2), 0, none⟩ = some (.int .u16 f0) := by rw [hc _ _ (by first | omega | (simp; omega) | simp)]; simp [go_sem, *]
    have k2_21 : w2.cell? ⟨(w.heap.size + 2), 1, none⟩ = some (.int .u16 f1) := by rw [hc _ _ (by first | omega | (simp; omega) | simp)]; simp [go_sem, *]
    have k2_22 : w2.cell? ⟨(w.heap.size + 2), 2, none⟩ = some (.int .u16 f2) := by rw [hc _ _ (by first | omega | (simp; omega) | simp)]; simp [go_sem, *]
    have k2_23 : w2.cell? ⟨(w.heap.size + 2), 3, none⟩ = some (.int .u16 f3) := by rw [hc _ _ (by first | omega | (simp; omega) | simp)]; simp [go_sem, *]
    have z2_2 : (w.heap.size + 2) < w2.heap.size := by have := hb.size; (try simp at this); omega
    have hB2 : Below w.heap.size w w2 := by repeat (first | exact hB1 | refine Below.drew ?_ | refine below_drewN ?_ _ | refine Below.setCell ?_ (by first | omega | (simp; omega) | simp) _ | refine Below.alloc ?_ (by first | omega | (simp; omega) | simp) _ | refine chainB (by assumption) ?_)
    have hs2 : w.heap.size ≤ w2.heap.size := hB2.size
    clear hc hf hb k1_00 k1_01 k1_02 k1_03 z1_0 k1_10 k1_11 k1_12 k1_13 z1_1 k1_20 k1_21 k1_22 k1_23 z1_2 hB1 hs1
    go_wp2_with fail
    refine (cW _).mono ?_
    rintro e w3 ⟨rfl, hb⟩
    obtain ⟨hc, hf⟩ := bcell hb
    have k3_00 : w3.cell? ⟨w.heap.size, 0, none⟩ = some (.int .i64 a) := by rw [hc _ _ (by first | omega | (simp; omega) | simp)]; simp [go_sem, *]
    have k3_01 : w3.cell? ⟨w.heap.size, 1, none⟩ = some (.int .i64 b) := by rw [hc _ _ (by first | omega | (simp; omega) | simp)]; simp [go_sem, *]
    have k3_02 : w3.cell? ⟨w.heap.size, 2, none⟩ = some (.int .i64 c) := by rw [hc _ _ (by first | omega | (simp; omega) | simp)]; simp [go_sem, *]
    have k3_03 : w3.cell? ⟨w.heap.size, 3, none⟩ = some (.int .i64 d) := by rw [hc _ _ (by first | omega | (simp; omega) | simp)]; simp [go_sem, *]
    have z3_0 : w.heap.size < w3.heap.size := by have := hb.size; (try simp at this); omega
    have k3_10 : w3.cell? ⟨(w.heap.size + 1), 0, none⟩ = some (.int .i64 p) := by rw [hc _ _ (by first | omega | (simp; omega) | simp)]; simp [go_sem, *]
    have k3_11 : w3.cell? ⟨(w.heap.size + 1), 1, none⟩ = some (.int .i64 q) := by rw [hc _ _ (by first | omega | (simp; omega) | simp)]; simp [go_sem, *]
    have k3_12 : w3.cell? ⟨(w.heap.size + 1), 2, none⟩ = some (.int .i64 r) := by rw [hc _ _ (by first | omega | (simp; omega) | simp)]; simp [go_sem, *]
    have k3_13 : w3.cell? ⟨(w.heap.size + 1), 3, none⟩ = some (.int .i64 s) := by rw [hc _ _ (by first | omega | (simp; omega) | simp)]; simp [go_sem, *]
    have z3_1 : (w.heap.size + 1) < w3.heap.size := by have := hb.size; (try simp at this); omega
    have k3_20 : w3.cell? ⟨(w.heap.size + 2), 0, none⟩ = some (.int .u16 f0) := by rw [hc _ _ (by first | omega | (simp; omega) | simp)]; simp [go_sem, *]
    have k3_21 : w3.cell? ⟨(w.heap.size + 2), 1, none⟩ = some (.int .u16 f1) := by rw [hc _ _ (by first | omega | (simp; omega) | simp)]; simp [go_sem, *]
    have k3_22 : w3.cell? ⟨(w.heap.size + 2), 2, none⟩ = some (.int .u16 f2) := by rw [hc _ _ (by first | omega | (simp; omega) | simp)]; simp [go_sem, *]
    have k3_23 : w3.cell? ⟨(w.heap.size + 2), 3, none⟩ = some (.int .u16 f3) := by rw [hc _ _ (by first | omega | (simp; omega) | simp)]; simp [go_sem, *]
    have z3_2 : (w.heap.size + 2) < w3.heap.size := by have := hb.size; (try simp at this); omega
    have hB3 : Below w.heap.size w w3 := by repeat (first | exact hB2 | refine Below.drew ?_ | refine below_drewN ?_ _ | refine Below.setCell ?_ (by first | omega | (simp; omega) | simp) _ | refine Below.alloc ?_ (by first | omega | (simp; omega) | simp) _ | refine chainB (by assumption) ?_)
    have hs3 : w.heap.size ≤ w3.heap.size := hB3.size
    clear hc hf hb k2_00 k2_01 k2_02 k2_03 z2_0 k2_10 k2_11 k2_12 k2_13 z2_1 k2_20 k2_21 k2_22 k2_23 z2_2 hB2 hs2
    go_wp2_with fail
    go_ret
    exact ⟨rfl, by repeat (first | exact hB3 | refine Below.drew ?_ | refine below_drewN ?_ _ | refine Below.setCell ?_ (by first | omega | (simp; omega) | simp) _ | refine Below.alloc ?_ (by first | omega | (simp; omega) | simp) _ | refine chainB (by assumption) ?_)⟩
  by_cases hB : vX p q r s = true
  rotate_left
  · rw [show squareS a b c d p q r s = ⟨0, 0, 2⟩ from if_neg (fun h => hB h.2)] at c1
    rw [hA] at v1
    rw [show vX p q r s = false by simpa using hB] at v2
    dsimp only at c1
    clear hA hB u0 u1 u2 u3
    go_enter Try.func15, Try.ntmps15
    go_wp2_with fail
    refine (c1 _).mono ?_
    rintro e w1 ⟨rfl, hb⟩
    obtain ⟨hc, hf⟩ := bcell hb
    have q1 : ¬ w.heap.size = (w.heap.size + 1) := by omega
    have q1s : ¬ (w.heap.size + 1) = w.heap.size := by omega
    have q2 : ¬ w.heap.size = (w.heap.size + 2) := by omega
    have q2s : ¬ (w.heap.size + 2) = w.heap.size := by omega
    have q3 : ¬ (w.heap.size + 1) = (w.heap.size + 2) := by omega
    have q3s : ¬ (w.heap.size + 2) = (w.heap.size + 1) := by omega
    have k1_00 : w1.cell? ⟨w.heap.size, 0, none⟩ = some (.int .i64 a) := by rw [hc _ _ (by first | omega | (simp; omega) | simp)]; simp [go_sem, *]
    have k1_01 : w1.cell? ⟨w.heap.size, 1, none⟩ = some (.int .i64 b) := by rw [hc _ _ (by first | omega | (simp; omega) | simp)]; simp [go_sem, *]
    have k1_02 : w1.cell? ⟨w.heap.size, 2, none⟩ = some (.int .i64 c) := by rw [hc _ _ (by first | omega | (simp; omega) | simp)]; simp [go_sem, *]
    have k1_03 : w1.cell? ⟨w.heap.size, 3, none⟩ = some (.int .i64 d) := by rw [hc _ _ (by first | omega | (simp; omega) | simp)]; simp [go_sem, *]
    have z1_0 : w.heap.size < w1.heap.size := by have := hb.size; (try simp at this); omega
    have k1_10 : w1.cell? ⟨(w.heap.size + 1), 0, none⟩ = some (.int .i64 p) := by rw [hc _ _ (by first | omega | (simp; omega) | simp)]; simp [go_sem, *]
    have k1_11 : w1.cell? ⟨(w.heap.size + 1), 1, none⟩ = some (.int .i64 q) := by rw [hc _ _ (by first | omega | (simp; omega) | simp)]; simp [go_sem, *]
    have k1_12 : w1.cell? ⟨(w.heap.size + 1), 2, none⟩ = some (.int .i64 r) := by rw [hc _ _ (by first | omega | (simp; omega) | simp)]; simp [go_sem, *]
    have k1_13 : w1.cell? ⟨(w.heap.size + 1), 3, none⟩ = some (.int .i64 s) := by rw [hc _ _ (by first | omega | (simp; omega) | simp)]; simp [go_sem, *]
    have z1_1 : (w.heap.size + 1) < w1.heap.size := by have := hb.size; (try simp at this); omega
    have k1_20 : w1.cell? ⟨(w.heap.size + 2), 0, none⟩ = some (.int .u16 f0) := by rw [hc _ _ (by first | omega | (simp; omega) | simp)]; simp [go_sem, *]
    have k1_21 : w1.cell? ⟨(w.heap.size + 2), 1, none⟩ = some (.int .u16 f1) := by rw [hc _ _ (by first | omega | (simp; omega) | simp)]; simp [go_sem, *]
    have k1_22 : w1.cell? ⟨(w.heap.size + 2), 2, none⟩ = some (.int .u16 f2) := by rw [hc _ _ (by first | omega | (simp; omega) | simp)]; simp [go_sem, *]
    have k1_23 : w1.cell? ⟨(w.heap.size + 2), 3, none⟩ = some (.int .u16 f3) := by rw [hc _ _ (by first | omega | (simp; omega) | simp)]; simp [go_sem, *]
    have z1_2 : (w.heap.size + 2) < w1.heap.size := by have := hb.size; (try simp at this); omega
    have hB1 : Below w.heap.size w w1 := by repeat (first | exact (Below.refl _ _) | refine Below.drew ?_ | refine below_drewN ?_ _ | refine Below.setCell ?_ (by first | omega | (simp; omega) | simp) _ | refine Below.alloc ?_ (by first | omega | (simp; omega) | simp) _ | refine chainB (by assumption) ?_)
    have hs1 : w.heap.size ≤ w1.heap.size := hB1.size
    clear hc hf hb 
    go_wp2_with fail
    refine (v1 _).mono ?_
    rintro e w2 ⟨rfl, hb⟩
    obtain ⟨hc, hf⟩ := bcell hb
    have k2_00 : w2.cell? ⟨w.heap.size, 0, none⟩ = some (.int .i64 a) := by rw [hc _ _ (by first | omega | (simp; omega) | simp)]; simp [go_sem, *]
    have k2_01 : w2.cell? ⟨w.heap.size, 1, none⟩ = some (.int .i64 b) := by rw [hc _ _ (by first | omega | (simp; omega) | simp)]; simp [go_sem, *]
    have k2_02 : w2.cell? ⟨w.heap.size, 2, none⟩ = some (.int .i64 c) := by rw [hc _ _ (by first | omega | (simp; omega) | simp)]; simp [go_sem, *]
    have k2_03 : w2.cell? ⟨w.heap.size, 3, none⟩ = some (.int .i64 d) := by rw [hc _ _ (by first | omega | (simp; omega) | simp)]; simp [go_sem, *]
    have z2_0 : w.heap.size < w2.heap.size := by have := hb.size; (try simp at this); omega
    have k2_10 : w2.cell? ⟨(w.heap.size + 1), 0, none⟩ = some (.int .i64 p) := by rw [hc _ _ (by first | omega | (simp; omega) | simp)]; simp [go_sem, *]
    have k2_11 : w2.cell? ⟨(w.heap.size + 1), 1, none⟩ = some (.int .i64 q) := by rw [hc _ _ (by first | omega | (simp; omega) | simp)]; simp [go_sem, *]
    have k2_12 : w2.cell? ⟨(w.heap.size + 1), 2, none⟩ = some (.int .i64 r) := by rw [hc _ _ (by first | omega | (simp; omega) | simp)]; simp [go_sem, *]
    have k2_13 : w2.cell? ⟨(w.heap.size + 1), 3, none⟩ = some (.int .i64 s) := by rw [hc _ _ (by first | omega | (simp; omega) | simp)]; simp [go_sem, *]
    have z2_1 : (w.heap.size + 1) < w2.heap.size := by have := hb.size; (try simp at this); omega
    have k2_20 : w2.cell? ⟨(w.heap.size + 2), 0, none⟩ = some (.int .u16 f0) := by rw [hc _ _ (by first | omega | (simp; omega) | simp)]; simp [go_sem, *]
    have k2_21 : w2.cell? ⟨(w.heap.size + 2), 1, none⟩ = some (.int .u16 f1) := by rw [hc _ _ (by first | omega | (simp; omega) | simp)]; simp [go_sem, *]
    have k2_22 : w2.cell? ⟨(w.heap.size + 2), 2, none⟩ = some (.int .u16 f2) := by rw [hc _ _ (by first | omega | (simp; omega) | simp)]; simp [go_sem, *]
    have k2_23 : w2.cell? ⟨(w.heap.size + 2), 3, none⟩ = some (.int .u16 f3) := by rw [hc _ _ (by first | omega | (simp; omega) | simp)]; simp [go_sem, *]
    have z2_2 : (w.heap.size + 2) < w2.heap.size := by have := hb.size; (try simp at this); omega
    have hB2 : Below w.heap.size w w2 := by repeat (first | exact hB1 | refine Below.drew ?_ | refine below_drewN ?_ _ | refine Below.setCell ?_ (by first | omega | (simp; omega) | simp) _ | refine Below.alloc ?_ (by first | omega | (simp; omega) | simp) _ | refine chainB (by assumption) ?_)
    have hs2 : w.heap.size ≤ w2.heap.size := hB2.size
    clear hc hf hb k1_00 k1_01 k1_02 k1_03 z1_0 k1_10 k1_11 k1_12 k1_13 z1_1 k1_20 k1_21 k1_22 k1_23 z1_2 hB1 hs1
    go_wp2_with fail
    refine (v2 _).mono ?_
    rintro e w3 ⟨rfl, hb⟩
    obtain ⟨hc, hf⟩ := bcell hb
    have k3_00 : w3.cell? ⟨w.heap.size, 0, none⟩ = some (.int .i64 a) := by rw [hc _ _ (by first | omega | (simp; omega) | simp)]; simp [go_sem, *]
    have k3_01 : w3.cell? ⟨w.heap.size, 1, none⟩ = some (.int .i64 b) := by rw [hc _ _ (by first | omega | (simp; omega) | simp)]; simp [go_sem, *]
    have k3_02 : w3.cell? ⟨w.heap.size, 2, none⟩ = some (.int .i64 c) := by rw [hc _ _ (by first | omega | (simp; omega) | simp)]; simp [go_sem, *]
    have k3_03 : w3.cell? ⟨w.heap.size, 3, none⟩ = some (.int .i64 d) := by rw [hc _ _ (by first | omega | (simp; omega) | simp)]; simp [go_sem, *]
    have z3_0 : w.heap.size < w3.heap.size := by have := hb.size; (try simp at this); omega
    have k3_10 : w3.cell? ⟨(w.heap.size + 1), 0, none⟩ = some (.int .i64 p) := by rw [hc _ _ (by first | omega | (simp; omega) | simp)]; simp [go_sem, *]
    have k3_11 : w3.cell? ⟨(w.heap.size + 1), 1, none⟩ = some (.int .i64 q) := by rw [hc _ _ (by first | omega | (simp; omega) | simp)]; simp [go_sem, *]
    have k3_12 : w3.cell? ⟨(w.heap.size + 1), 2, none⟩ = some (.int .i64 r) := by rw [hc _ _ (by first | omega | (simp; omega) | simp)]; simp [go_sem, *]
    have k3_13 : w3.cell? ⟨(w.heap.size + 1), 3, none⟩ = some (.int .i64 s) := by rw [hc _ _ (by first | omega | (simp; omega) | simp)]; simp [go_sem, *]
    have z3_1 : (w.heap.size + 1) < w3.heap.size := by have := hb.size; (try simp at this); omega
    have k3_20 : w3.cell? ⟨(w.heap.size + 2), 0, none⟩ = some (.int .u16 f0) := by rw [hc _ _ (by first | omega | (simp; omega) | simp)]; simp [go_sem, *]
    have k3_21 : w3.cell? ⟨(w.heap.size + 2), 1, none⟩ = some (.int .u16 f1) := by rw [hc _ _ (by first | omega | (simp; omega) | simp)]; simp [go_sem, *]
    have k3_22 : w3.cell? ⟨(w.heap.size + 2), 2, none⟩ = some (.int .u16 f2) := by rw [hc _ _ (by first | omega | (simp; omega) | simp)]; simp [go_sem, *]
    have k3_23 : w3.cell? ⟨(w.heap.size + 2), 3, none⟩ = some (.int .u16 f3) := by rw [hc _ _ (by first | omega | (simp; omega) | simp)]; simp [go_sem, *]
    have z3_2 : (w.heap.size + 2) < w3.heap.size := by have := hb.size; (try simp at this); omega
    have hB3 : Below w.heap.size w w3 := by repeat (first | exact hB2 | refine Below.drew ?_ | refine below_drewN ?_ _ | refine Below.setCell ?_ (by first | omega | (simp; omega) | simp) _ | refine Below.alloc ?_ (by first | omega | (simp; omega) | simp) _ | refine chainB (by assumption) ?_)
    have hs3 : w.heap.size ≤ w3.heap.size := hB3.size
    clear hc hf hb k2_00 k2_01 k2_02 k2_03 z2_0 k2_10 k2_11 k2_12 k2_13 z2_1 k2_20 k2_21 k2_22 k2_23 z2_2 hB2 hs2
    go_wp2_with fail
    refine (cW _).mono ?_
    rintro e w4 ⟨rfl, hb⟩
    obtain ⟨hc, hf⟩ := bcell hb
    have k4_00 : w4.cell? ⟨w.heap.size, 0, none⟩ = some (.int .i64 a) := by rw [hc _ _ (by first | omega | (simp; omega) | simp)]; simp [go_sem, *]
    have k4_01 : w4.cell? ⟨w.heap.size, 1, none⟩ = some (.int .i64 b) := by rw [hc _ _ (by first | omega | (simp; omega) | simp)]; simp [go_sem, *]
    have k4_02 : w4.cell? ⟨w.heap.size, 2, none⟩ = some (.int .i64 c) := by rw [hc _ _ (by first | omega | (simp; omega) | simp)]; simp [go_sem, *]
    have k4_03 : w4.cell? ⟨w.heap.size, 3, none⟩ = some (.int .i64 d) := by rw [hc _ _ (by first | omega | (simp; omega) | simp)]; simp [go_sem, *]
    have z4_0 : w.heap.size < w4.heap.size := by have := hb.size; (try simp at this); omega
    have k4_10 : w4.cell? ⟨(w.heap.size + 1), 0, none⟩ = some (.int .i64 p) := by rw [hc _ _ (by first | omega | (simp; omega) | simp)]; simp [go_sem, *]
    have k4_11 : w4.cell? ⟨(w.heap.size + 1), 1, none⟩ = some (.int .i64 q) := by rw [hc _ _ (by first | omega | (simp; omega) | simp)]; simp [go_sem, *]
    have k4_12 : w4.cell? ⟨(w.heap.size + 1), 2, none⟩ = some (.int .i64 r) := by rw [hc _ _ (by first | omega | (simp; omega) | simp)]; simp [go_sem, *]
    have k4_13 : w4.cell? ⟨(w.heap.size + 1), 3, none⟩ = some (.int .i64 s) := by rw [hc _ _ (by first | omega | (simp; omega) | simp)]; simp [go_sem, *]
    have z4_1 : (w.heap.size + 1) < w4.heap.size := by have := hb.size; (try simp at this); omega
    have k4_20 : w4.cell? ⟨(w.heap.size + 2), 0, none⟩ = some (.int .u16 f0) := by rw [hc _ _ (by first | omega | (simp; omega) | simp)]; simp [go_sem, *]
    have k4_21 : w4.cell? ⟨(w.heap.size + 2), 1, none⟩ = some (.int .u16 f1) := by rw [hc _ _ (by first | omega | (simp; omega) | simp)]; simp [go_sem, *]
    have k4_22 : w4.cell? ⟨(w.heap.size + 2), 2, none⟩ = some (.int .u16 f2) := by rw [hc _ _ (by first | omega | (simp; omega) | simp)]; simp [go_sem, *]
    have k4_23 : w4.cell? ⟨(w.heap.size + 2), 3, none⟩ = some (.int .u16 f3) := by rw [hc _ _ (by first | omega | (simp; omega) | simp)]; simp [go_sem, *]
    have z4_2 : (w.heap.size + 2) < w4.heap.size := by have := hb.size; (try simp at this); omega
    have hB4 : Below w.heap.size w w4 := by repeat (first | exact hB3 | refine Below.drew ?_ | refine below_drewN ?_ _ | refine Below.setCell ?_ (by first | omega | (simp; omega) | simp) _ | refine Below.alloc ?_ (by first | omega | (simp; omega) | simp) _ | refine chainB (by assumption) ?_)
    have hs4 : w.heap.size ≤ w4.heap.size := hB4.size
    clear hc hf hb k3_00 k3_01 k3_02 k3_03 z3_0 k3_10 k3_11 k3_12 k3_13 z3_1 k3_20 k3_21 k3_22 k3_23 z3_2 hB3 hs3
    go_wp2_with fail
    go_ret
    exact ⟨rfl, by repeat (first | exact hB4 | refine Below.drew ?_ | refine below_drewN ?_ _ | refine Below.setCell ?_ (by first | omega | (simp; omega) | simp) _ | refine Below.alloc ?_ (by first | omega | (simp; omega) | simp) _ | refine chainB (by assumption) ?_)⟩
  rw [show squareS a b c d p q r s = ⟨sqLo a b c d p q r s, sqHi a b c d p q r s, 0⟩ from if_pos ⟨hA, hB⟩] at c1
  rw [hA] at v1
  rw [hB] at v2
  have c2 := fun w => square_any p q r s a b c d w
  rw [show squareS p q r s a b c d = ⟨sqLo p q r s a b c d, sqHi p q r s a b c d, 0⟩ from if_pos ⟨hB, hA⟩] at c2
  have c3 := fun w => distance_any a b c d p q r s w
  rw [show distS a b c d p q r s = ⟨isq (sqLo a b c d p q r s), isqUp (sqHi a b c d p q r s), 0⟩ from if_pos ⟨hA, hB⟩] at c3
  have c4 := fun w => square_any a b c d a b c d w
  rw [show squareS a b c d a b c d = ⟨sqLo a b c d a b c d, sqHi a b c d a b c d, 0⟩ from if_pos ⟨hA, hA⟩] at c4
  dsimp only at c1 c2 c3 c4
  obtain ⟨⟨gA1, gA2⟩, ⟨gB1, gB2⟩⟩ := And.intro ((vX_iff a b c d).1 hA) ((vX_iff p q r s).1 hB)
  obtain ⟨o1, o2, o3⟩ := (vB_iff a b).1 gA1.1
  obtain ⟨o4, o5, o6⟩ := (vB_iff c d).1 gA2.1
  obtain ⟨o7, o8, o9⟩ := (vB_iff p q).1 gB1.1
  obtain ⟨o10, o11, o12⟩ := (vB_iff r s).1 gB2.1
  obtain ⟨-, n1, n2⟩ := gA1
  obtain ⟨-, n3, n4⟩ := gA2
  obtain ⟨-, n5, n6⟩ := gB1
  obtain ⟨-, n7, n8⟩ := gB2
  obtain ⟨b1, b2, b3⟩ := sqLo_bd ⟨hA, hB⟩
  have e1 : sqLo p q r s a b c d = sqLo a b c d p q r s := by unfold sqLo; rw [gLo_comm a b p q, gLo_comm c d r s]
  have e2 : sqHi p q r s a b c d = sqHi a b c d p q r s := by unfold sqHi; rw [gHi_comm a b p q, gHi_comm c d r s]
  have e3 : sqLo a b c d a b c d = 0 := by unfold sqLo; rw [gLo_self a b o1, gLo_self c d o4]; rfl
  rw [e1, e2] at c2
  rw [e3] at c4
  clear e1 e2 e3
  generalize sqHi a b c d a b c d = tt at c4
  have V1 := (vX_iff a b c d).1 hA
  have V2 := (vX_iff p q r s).1 hB
  obtain ⟨G1, G2, G3, G4, -⟩ := g_bd a b p q V1.1 V2.1
  obtain ⟨G5, G6, G7, G8, -⟩ := g_bd c d r s V1.2 V2.2
  have P0 : ∀ u v, u = Value.agg #[.int .i64 a, .int .i64 b] → v = Value.int .u16 f0 → ∀ w, Calls Try.prog 63 #[u, v] w fun e w' => e = .returned (.int .i64 (prt a b f0)) ∧ Below w.heap.size w w' := by
    rintro u v rfl rfl w; exact part_any a b f0 V1.1.1 u0.1 u0.2 w
  have P1 : ∀ u v, u = Value.agg #[.int .i64 p, .int .i64 q] → v = Value.int .u16 f1 → ∀ w, Calls Try.prog 63 #[u, v] w fun e w' => e = .returned (.int .i64 (prt p q f1)) ∧ Below w.heap.size w w' := by
    rintro u v rfl rfl w; exact part_any p q f1 V2.1.1 u1.1 u1.2 w
  have P2 : ∀ u v, u = Value.agg #[.int .i64 c, .int .i64 d] → v = Value.int .u16 f2 → ∀ w, Calls Try.prog 63 #[u, v] w fun e w' => e = .returned (.int .i64 (prt c d f2)) ∧ Below w.heap.size w w' := by
    rintro u v rfl rfl w; exact part_any c d f2 V1.2.1 u2.1 u2.2 w
  have P3 : ∀ u v, u = Value.agg #[.int .i64 r, .int .i64 s] → v = Value.int .u16 f3 → ∀ w, Calls Try.prog 63 #[u, v] w fun e w' => e = .returned (.int .i64 (prt r s f3)) ∧ Below w.heap.size w w' := by
    rintro u v rfl rfl w; exact part_any r s f3 V2.2.1 u3.1 u3.2 w
  obtain ⟨i1, i2⟩ := prt_in a b f0 o1 u0.1 u0.2
  obtain ⟨i3, i4⟩ := prt_in p q f1 o7 u1.1 u1.2
  obtain ⟨i5, i6⟩ := prt_in c d f2 o4 u2.1 u2.2
  obtain ⟨i7, i8⟩ := prt_in r s f3 o10 u3.1 u3.2
  clear V1 V2 hA hB u0 u1 u2 u3
  generalize prt a b f0 = x0 at P0 i1 i2
  generalize prt p q f1 = x1 at P1 i3 i4
  generalize prt c d f2 = y0 at P2 i5 i6
  generalize prt r s f3 = y1 at P3 i7 i8
  obtain ⟨j1, j2⟩ := gap_sq i1 i2 i3 i4
  obtain ⟨j3, j4⟩ := gap_sq i5 i6 i7 i8
  have s1 : (x0 - x1) * (x0 - x1) ≤ 288230376151711744 := by
    refine Int.le_trans j2 ?_
    exact (sq_bd _ (by unfold gHi; omega) (by unfold gHi; omega)).2
  have s2 : (y0 - y1) * (y0 - y1) ≤ 288230376151711744 := by
    refine Int.le_trans j4 ?_
    exact (sq_bd _ (by unfold gHi; omega) (by unfold gHi; omega)).2
  have s3 : 0 ≤ (x0 - x1) * (x0 - x1) := Int.le_trans (sq_bd _ (by unfold gLo; omega) (by unfold gLo; omega)).1 j1
  have s4 : 0 ≤ (y0 - y1) * (y0 - y1) := Int.le_trans (sq_bd _ (by unfold gLo; omega) (by unfold gLo; omega)).1 j3
  obtain ⟨k1, k2, k3⟩ := isq_spec b1
  have k4 := isqUp_sq (show 0 ≤ sqHi a b c d p q r s by omega)
  obtain ⟨k5, k6⟩ := isqUp_bd (show 0 ≤ sqHi a b c d p q r s by omega) b3
  have k7 : isqUp (sqHi a b c d p q r s) * isqUp (sqHi a b c d p q r s) ≤ 1152921504606846976 := by have := sq_mono k5 k6; omega
  generalize isq (sqLo a b c d p q r s) = dl at c3 k1 k2 k3
  generalize isqUp (sqHi a b c d p q r s) = dh at c3 k4 k5 k6 k7
  unfold sqLo sqHi at *
  have h1 : max 0 (max (a - q) (p - b)) = gLo a b p q := by unfold gLo; omega
  have h2 : max 0 (max (c - s) (r - d)) = gLo c d r s := by unfold gLo; omega
  have h3 : max (b - p) (q - a) = gHi a b p q := by unfold gHi; omega
  have h4 : max (d - r) (s - c) = gHi c d r s := by unfold gHi; omega
  generalize gLo a b p q = gl at *
  generalize gLo c d r s = gm at *
  generalize gHi a b p q = gu at *
  generalize gHi c d r s = gv at *
  have k8 : 0 ≤ dl * dl := Int.mul_nonneg k1 k1
  have k9 : 0 ≤ dh * dh := Int.mul_nonneg k5 k5
  obtain ⟨b4, b5⟩ := sq_bd _ G1 G2
  obtain ⟨b6, b7⟩ := sq_bd _ G5 G6
  obtain ⟨b8, b9⟩ := sq_bd _ G3 G4
  obtain ⟨b10, b11⟩ := sq_bd _ G7 G8
  generalize EX : x0 - x1 = X at *
  generalize EY : y0 - y1 = Y at *
  generalize Et1 : a - q = t1 at *
  generalize Et2 : p - b = t2 at *
  generalize Et3 : c - s = t3 at *
  generalize Et4 : r - d = t4 at *
  generalize Et5 : b - p = t5 at *
  generalize Et6 : q - a = t6 at *
  generalize Et7 : d - r = t7 at *
  generalize Et8 : s - c = t8 at *
  generalize Em1 : gl * gl = m1 at *
  generalize Em2 : gm * gm = m2 at *
  generalize Em3 : gu * gu = m3 at *
  generalize Em4 : gv * gv = m4 at *
  generalize Elo : m1 + m2 = lo at *
  generalize Ehi : m3 + m4 = hi at *
  generalize EN1 : X * X = N1 at *
  generalize EN2 : Y * Y = N2 at *
  generalize EN : N1 + N2 = N at *
  generalize ED1 : dl * dl = D1 at *
  generalize ED2 : dh * dh = D2 at *
  have WX : IntKind.i64.wrap X = X := by rw [IntKind.wrap_i64]; omega
  have WY : IntKind.i64.wrap Y = Y := by rw [IntKind.wrap_i64]; omega
  have Wt1 : IntKind.i64.wrap t1 = t1 := by rw [IntKind.wrap_i64]; omega
  have Wt2 : IntKind.i64.wrap t2 = t2 := by rw [IntKind.wrap_i64]; omega
  have Wt3 : IntKind.i64.wrap t3 = t3 := by rw [IntKind.wrap_i64]; omega
  have Wt4 : IntKind.i64.wrap t4 = t4 := by rw [IntKind.wrap_i64]; omega
  have Wt5 : IntKind.i64.wrap t5 = t5 := by rw [IntKind.wrap_i64]; omega
  have Wt6 : IntKind.i64.wrap t6 = t6 := by rw [IntKind.wrap_i64]; omega
  have Wt7 : IntKind.i64.wrap t7 = t7 := by rw [IntKind.wrap_i64]; omega
  have Wt8 : IntKind.i64.wrap t8 = t8 := by rw [IntKind.wrap_i64]; omega
  have Wm1 : IntKind.i64.wrap m1 = m1 := by rw [IntKind.wrap_i64]; omega
  have Wm2 : IntKind.i64.wrap m2 = m2 := by rw [IntKind.wrap_i64]; omega
  have Wm3 : IntKind.i64.wrap m3 = m3 := by rw [IntKind.wrap_i64]; omega
  have Wm4 : IntKind.i64.wrap m4 = m4 := by rw [IntKind.wrap_i64]; omega
  have Wlo : IntKind.i64.wrap lo = lo := by rw [IntKind.wrap_i64]; omega
  have Whi : IntKind.i64.wrap hi = hi := by rw [IntKind.wrap_i64]; omega
  have WN1 : IntKind.i64.wrap N1 = N1 := by rw [IntKind.wrap_i64]; omega
  have WN2 : IntKind.i64.wrap N2 = N2 := by rw [IntKind.wrap_i64]; omega
  have WN : IntKind.i64.wrap N = N := by rw [IntKind.wrap_i64]; omega
  have WD1 : IntKind.i64.wrap D1 = D1 := by rw [IntKind.wrap_i64]; omega
  have WD2 : IntKind.i64.wrap D2 = D2 := by rw [IntKind.wrap_i64]; omega
  have r1 : lo ≤ N := by omega
  have r2 : N ≤ hi := by omega
  have r3 : D1 ≤ N := by omega
  have r4 : N ≤ D2 := by omega
  have r5 : ¬ N < lo := by omega
  have r6 : ¬ hi < N := by omega
  have r7 : ¬ dl < 0 := by omega
  have r8 : ¬ N < D1 := by omega
  have r9 : ¬ D2 < N := by omega
  clear o1 o2 o3 o4 o5 o6 o7 o8 o9 o10 o11 o12 n1 n2 n3 n4 n5 n6 n7 n8 i1 i2 i3 i4 i5 i6 i7 i8 j1 j2 j3 j4 s1 s2 s3 s4 G1 G2 G3 G4 G5 G6 G7 G8 b1 b2 b3 b4 b5 b6 b7 b8 b9 b10 b11 k1 k2 k3 k4 k5 k6 k7 k8 k9
  go_enter Try.func15, Try.ntmps15
  go_wp2_with fail
  refine (c1 _).mono ?_
  rintro e w1 ⟨rfl, hb⟩
  obtain ⟨hc, hf⟩ := bcell hb
  have q1 : ¬ w.heap.size = (w.heap.size + 1) := by omega
  have q1s : ¬ (w.heap.size + 1) = w.heap.size := by omega
  have q2 : ¬ w.heap.size = (w.heap.size + 2) := by omega
  have q2s : ¬ (w.heap.size + 2) = w.heap.size := by omega
  have q3 : ¬ (w.heap.size + 1) = (w.heap.size + 2) := by omega
  have q3s : ¬ (w.heap.size + 2) = (w.heap.size + 1) := by omega
  have k1_00 : w1.cell? ⟨w.heap.size, 0, none⟩ = some (.int .i64 a) := by rw [hc _ _ (by first | omega | (simp; omega) | simp)]; simp [go_sem, *]
  have k1_01 : w1.cell? ⟨w.heap.size, 1, none⟩ = some (.int .i64 b) := by rw [hc _ _ (by first | omega | (simp; omega) | simp)]; simp [go_sem, *]
  have k1_02 : w1.cell? ⟨w.heap.size, 2, none⟩ = some (.int .i64 c) := by rw [hc _ _ (by first | omega | (simp; omega) | simp)]; simp [go_sem, *]
  have k1_03 : w1.cell? ⟨w.heap.size, 3, none⟩ = some (.int .i64 d) := by rw [hc _ _ (by first | omega | (simp; omega) | simp)]; simp [go_sem, *]
  have z1_0 : w.heap.size < w1.heap.size := by have := hb.size; (try simp at this); omega
  have k1_10 : w1.cell? ⟨(w.heap.size + 1), 0, none⟩ = some (.int .i64 p) := by rw [hc _ _ (by first | omega | (simp; omega) | simp)]; simp [go_sem, *]
  have k1_11 : w1.cell? ⟨(w.heap.size + 1), 1, none⟩ = some (.int .i64 q) := by rw [hc _ _ (by first | omega | (simp; omega) | simp)]; simp [go_sem, *]
  have k1_12 : w1.cell? ⟨(w.heap.size + 1), 2, none⟩ = some (.int .i64 r) := by rw [hc _ _ (by first | omega | (simp; omega) | simp)]; simp [go_sem, *]
  have k1_13 : w1.cell? ⟨(w.heap.size + 1), 3, none⟩ = some (.int .i64 s) := by rw [hc _ _ (by first | omega | (simp; omega) | simp)]; simp [go_sem, *]
  have z1_1 : (w.heap.size + 1) < w1.heap.size := by have := hb.size; (try simp at this); omega
  have k1_20 : w1.cell? ⟨(w.heap.size + 2), 0, none⟩ = some (.int .u16 f0) := by rw [hc _ _ (by first | omega | (simp; omega) | simp)]; simp [go_sem, *]
  have k1_21 : w1.cell? ⟨(w.heap.size + 2), 1, none⟩ = some (.int .u16 f1) := by rw [hc _ _ (by first | omega | (simp; omega) | simp)]; simp [go_sem, *]
  have k1_22 : w1.cell? ⟨(w.heap.size + 2), 2, none⟩ = some (.int .u16 f2) := by rw [hc _ _ (by first | omega | (simp; omega) | simp)]; simp [go_sem, *]
  have k1_23 : w1.cell? ⟨(w.heap.size + 2), 3, none⟩ = some (.int .u16 f3) := by rw [hc _ _ (by first | omega | (simp; omega) | simp)]; simp [go_sem, *]
  have z1_2 : (w.heap.size + 2) < w1.heap.size := by have := hb.size; (try simp at this); omega
  have hB1 : Below w.heap.size w w1 := by repeat (first | exact (Below.refl _ _) | refine Below.drew ?_ | refine below_drewN ?_ _ | refine Below.setCell ?_ (by first | omega | (simp; omega) | simp) _ | refine Below.alloc ?_ (by first | omega | (simp; omega) | simp) _ | refine chainB (by assumption) ?_)
  have hs1 : w.heap.size ≤ w1.heap.size := hB1.size
  clear hc hf hb 
  go_wp2_with fail
  refine (v1 _).mono ?_
  rintro e w2 ⟨rfl, hb⟩
  obtain ⟨hc, hf⟩ := bcell hb
  have k2_00 : w2.cell? ⟨w.heap.size, 0, none⟩ = some (.int .i64 a) := by rw [hc _ _ (by first | omega | (simp; omega) | simp)]; simp [go_sem, *]
  have k2_01 : w2.cell? ⟨w.heap.size, 1, none⟩ = some (.int .i64 b) := by rw [hc _ _ (by first | omega | (simp; omega) | simp)]; simp [go_sem, *]
  have k2_02 : w2.cell? ⟨w.heap.size, 2, none⟩ = some (.int .i64 c) := by rw [hc _ _ (by first | omega | (simp; omega) | simp)]; simp [go_sem, *]
  have k2_03 : w2.cell? ⟨w.heap.size, 3, none⟩ = some (.int .i64 d) := by rw [hc _ _ (by first | omega | (simp; omega) | simp)]; simp [go_sem, *]
  have z2_0 : w.heap.size < w2.heap.size := by have := hb.size; (try simp at this); omega
  have k2_10 : w2.cell? ⟨(w.heap.size + 1), 0, none⟩ = some (.int .i64 p) := by rw [hc _ _ (by first | omega | (simp; omega) | simp)]; simp [go_sem, *]
  have k2_11 : w2.cell? ⟨(w.heap.size + 1), 1, none⟩ = some (.int .i64 q) := by rw [hc _ _ (by first | omega | (simp; omega) | simp)]; simp [go_sem, *]
  have k2_12 : w2.cell? ⟨(w.heap.size + 1), 2, none⟩ = some (.int .i64 r) := by rw [hc _ _ (by first | omega | (simp; omega) | simp)]; simp [go_sem, *]
  have k2_13 : w2.cell? ⟨(w.heap.size + 1), 3, none⟩ = some (.int .i64 s) := by rw [hc _ _ (by first | omega | (simp; omega) | simp)]; simp [go_sem, *]
  have z2_1 : (w.heap.size + 1) < w2.heap.size := by have := hb.size; (try simp at this); omega
  have k2_20 : w2.cell? ⟨(w.heap.size + 2), 0, none⟩ = some (.int .u16 f0) := by rw [hc _ _ (by first | omega | (simp; omega) | simp)]; simp [go_sem, *]
  have k2_21 : w2.cell? ⟨(w.heap.size + 2), 1, none⟩ = some (.int .u16 f1) := by rw [hc _ _ (by first | omega | (simp; omega) | simp)]; simp [go_sem, *]
  have k2_22 : w2.cell? ⟨(w.heap.size + 2), 2, none⟩ = some (.int .u16 f2) := by rw [hc _ _ (by first | omega | (simp; omega) | simp)]; simp [go_sem, *]
  have k2_23 : w2.cell? ⟨(w.heap.size + 2), 3, none⟩ = some (.int .u16 f3) := by rw [hc _ _ (by first | omega | (simp; omega) | simp)]; simp [go_sem, *]
  have z2_2 : (w.heap.size + 2) < w2.heap.size := by have := hb.size; (try simp at this); omega
  have hB2 : Below w.heap.size w w2 := by repeat (first | exact hB1 | refine Below.drew ?_ | refine below_drewN ?_ _ | refine Below.setCell ?_ (by first | omega | (simp; omega) | simp) _ | refine Below.alloc ?_ (by first | omega | (simp; omega) | simp) _ | refine chainB (by assumption) ?_)
  have hs2 : w.heap.size ≤ w2.heap.size := hB2.size
  clear hc hf hb k1_00 k1_01 k1_02 k1_03 z1_0 k1_10 k1_11 k1_12 k1_13 z1_1 k1_20 k1_21 k1_22 k1_23 z1_2 hB1 hs1
  go_wp2_with fail
  refine (v2 _).mono ?_
  rintro e w3 ⟨rfl, hb⟩
  obtain ⟨hc, hf⟩ := bcell hb
  have k3_00 : w3.cell? ⟨w.heap.size, 0, none⟩ = some (.int .i64 a) := by rw [hc _ _ (by first | omega | (simp; omega) | simp)]; simp [go_sem, *]
  have k3_01 : w3.cell? ⟨w.heap.size, 1, none⟩ = some (.int .i64 b) := by rw [hc _ _ (by first | omega | (simp; omega) | simp)]; simp [go_sem, *]
  have k3_02 : w3.cell? ⟨w.heap.size, 2, none⟩ = some (.int .i64 c) := by rw [hc _ _ (by first | omega | (simp; omega) | simp)]; simp [go_sem, *]
  have k3_03 : w3.cell? ⟨w.heap.size, 3, none⟩ = some (.int .i64 d) := by rw [hc _ _ (by first | omega | (simp; omega) | simp)]; simp [go_sem, *]
  have z3_0 : w.heap.size < w3.heap.size := by have := hb.size; (try simp at this); omega
  have k3_10 : w3.cell? ⟨(w.heap.size + 1), 0, none⟩ = some (.int .i64 p) := by rw [hc _ _ (by first | omega | (simp; omega) | simp)]; simp [go_sem, *]
  have k3_11 : w3.cell? ⟨(w.heap.size + 1), 1, none⟩ = some (.int .i64 q) := by rw [hc _ _ (by first | omega | (simp; omega) | simp)]; simp [go_sem, *]
  have k3_12 : w3.cell? ⟨(w.heap.size + 1), 2, none⟩ = some (.int .i64 r) := by rw [hc _ _ (by first | omega | (simp; omega) | simp)]; simp [go_sem, *]
  have k3_13 : w3.cell? ⟨(w.heap.size + 1), 3, none⟩ = some (.int .i64 s) := by rw [hc _ _ (by first | omega | (simp; omega) | simp)]; simp [go_sem, *]
  have z3_1 : (w.heap.size + 1) < w3.heap.size := by have := hb.size; (try simp at this); omega
  have k3_20 : w3.cell? ⟨(w.heap.size + 2), 0, none⟩ = some (.int .u16 f0) := by rw [hc _ _ (by first | omega | (simp; omega) | simp)]; simp [go_sem, *]
  have k3_21 : w3.cell? ⟨(w.heap.size + 2), 1, none⟩ = some (.int .u16 f1) := by rw [hc _ _ (by first | omega | (simp; omega) | simp)]; simp [go_sem, *]
  have k3_22 : w3.cell? ⟨(w.heap.size + 2), 2, none⟩ = some (.int .u16 f2) := by rw [hc _ _ (by first | omega | (simp; omega) | simp)]; simp [go_sem, *]
  have k3_23 : w3.cell? ⟨(w.heap.size + 2), 3, none⟩ = some (.int .u16 f3) := by rw [hc _ _ (by first | omega | (simp; omega) | simp)]; simp [go_sem, *]
  have z3_2 : (w.heap.size + 2) < w3.heap.size := by have := hb.size; (try simp at this); omega
  have hB3 : Below w.heap.size w w3 := by repeat (first | exact hB2 | refine Below.drew ?_ | refine below_drewN ?_ _ | refine Below.setCell ?_ (by first | omega | (simp; omega) | simp) _ | refine Below.alloc ?_ (by first | omega | (simp; omega) | simp) _ | refine chainB (by assumption) ?_)
  have hs3 : w.heap.size ≤ w3.heap.size := hB3.size
  clear hc hf hb k2_00 k2_01 k2_02 k2_03 z2_0 k2_10 k2_11 k2_12 k2_13 z2_1 k2_20 k2_21 k2_22 k2_23 z2_2 hB2 hs2
  go_wp2_with fail
  refine (c2 _).mono ?_
  rintro e w4 ⟨rfl, hb⟩
  obtain ⟨hc, hf⟩ := bcell hb
  have k4_00 : w4.cell? ⟨w.heap.size, 0, none⟩ = some (.int .i64 a) := by rw [hc _ _ (by first | omega | (simp; omega) | simp)]; simp [go_sem, *]
  have k4_01 : w4.cell? ⟨w.heap.size, 1, none⟩ = some (.int .i64 b) := by rw [hc _ _ (by first | omega | (simp; omega) | simp)]; simp [go_sem, *]
  have k4_02 : w4.cell? ⟨w.heap.size, 2, none⟩ = some (.int .i64 c) := by rw [hc _ _ (by first | omega | (simp; omega) | simp)]; simp [go_sem, *]
  have k4_03 : w4.cell? ⟨w.heap.size, 3, none⟩ = some (.int .i64 d) := by rw [hc _ _ (by first | omega | (simp; omega) | simp)]; simp [go_sem, *]
  have z4_0 : w.heap.size < w4.heap.size := by have := hb.size; (try simp at this); omega
  have k4_10 : w4.cell? ⟨(w.heap.size + 1), 0, none⟩ = some (.int .i64 p) := by rw [hc _ _ (by first | omega | (simp; omega) | simp)]; simp [go_sem, *]
  have k4_11 : w4.cell? ⟨(w.heap.size + 1), 1, none⟩ = some (.int .i64 q) := by rw [hc _ _ (by first | omega | (simp; omega) | simp)]; simp [go_sem, *]
  have k4_12 : w4.cell? ⟨(w.heap.size + 1), 2, none⟩ = some (.int .i64 r) := by rw [hc _ _ (by first | omega | (simp; omega) | simp)]; simp [go_sem, *]
  have k4_13 : w4.cell? ⟨(w.heap.size + 1), 3, none⟩ = some (.int .i64 s) := by rw [hc _ _ (by first | omega | (simp; omega) | simp)]; simp [go_sem, *]
  have z4_1 : (w.heap.size + 1) < w4.heap.size := by have := hb.size; (try simp at this); omega
  have k4_20 : w4.cell? ⟨(w.heap.size + 2), 0, none⟩ = some (.int .u16 f0) := by rw [hc _ _ (by first | omega | (simp; omega) | simp)]; simp [go_sem, *]
  have k4_21 : w4.cell? ⟨(w.heap.size + 2), 1, none⟩ = some (.int .u16 f1) := by rw [hc _ _ (by first | omega | (simp; omega) | simp)]; simp [go_sem, *]
  have k4_22 : w4.cell? ⟨(w.heap.size + 2), 2, none⟩ = some (.int .u16 f2) := by rw [hc _ _ (by first | omega | (simp; omega) | simp)]; simp [go_sem, *]
  have k4_23 : w4.cell? ⟨(w.heap.size + 2), 3, none⟩ = some (.int .u16 f3) := by rw [hc _ _ (by first | omega | (simp; omega) | simp)]; simp [go_sem, *]
  have z4_2 : (w.heap.size + 2) < w4.heap.size := by have := hb.size; (try simp at this); omega
  have hB4 : Below w.heap.size w w4 := by repeat (first | exact hB3 | refine Below.drew ?_ | refine below_drewN ?_ _ | refine Below.setCell ?_ (by first | omega | (simp; omega) | simp) _ | refine Below.alloc ?_ (by first | omega | (simp; omega) | simp) _ | refine chainB (by assumption) ?_)
  have hs4 : w.heap.size ≤ w4.heap.size := hB4.size
  clear hc hf hb k3_00 k3_01 k3_02 k3_03 z3_0 k3_10 k3_11 k3_12 k3_13 z3_1 k3_20 k3_21 k3_22 k3_23 z3_2 hB3 hs3
  go_wp2_with fail
  refine (c3 _).mono ?_
  rintro e w5 ⟨rfl, hb⟩
  obtain ⟨hc, hf⟩ := bcell hb
  have k5_00 : w5.cell? ⟨w.heap.size, 0, none⟩ = some (.int .i64 a) := by rw [hc _ _ (by first | omega | (simp; omega) | simp)]; simp [go_sem, *]
  have k5_01 : w5.cell? ⟨w.heap.size, 1, none⟩ = some (.int .i64 b) := by rw [hc _ _ (by first | omega | (simp; omega) | simp)]; simp [go_sem, *]
  have k5_02 : w5.cell? ⟨w.heap.size, 2, none⟩ = some (.int .i64 c) := by rw [hc _ _ (by first | omega | (simp; omega) | simp)]; simp [go_sem, *]
  have k5_03 : w5.cell? ⟨w.heap.size, 3, none⟩ = some (.int .i64 d) := by rw [hc _ _ (by first | omega | (simp; omega) | simp)]; simp [go_sem, *]
  have z5_0 : w.heap.size < w5.heap.size := by have := hb.size; (try simp at this); omega
  have k5_10 : w5.cell? ⟨(w.heap.size + 1), 0, none⟩ = some (.int .i64 p) := by rw [hc _ _ (by first | omega | (simp; omega) | simp)]; simp [go_sem, *]
  have k5_11 : w5.cell? ⟨(w.heap.size + 1), 1, none⟩ = some (.int .i64 q) := by rw [hc _ _ (by first | omega | (simp; omega) | simp)]; simp [go_sem, *]
  have k5_12 : w5.cell? ⟨(w.heap.size + 1), 2, none⟩ = some (.int .i64 r) := by rw [hc _ _ (by first | omega | (simp; omega) | simp)]; simp [go_sem, *]
  have k5_13 : w5.cell? ⟨(w.heap.size + 1), 3, none⟩ = some (.int .i64 s) := by rw [hc _ _ (by first | omega | (simp; omega) | simp)]; simp [go_sem, *]
  have z5_1 : (w.heap.size + 1) < w5.heap.size := by have := hb.size; (try simp at this); omega
  have k5_20 : w5.cell? ⟨(w.heap.size + 2), 0, none⟩ = some (.int .u16 f0) := by rw [hc _ _ (by first | omega | (simp; omega) | simp)]; simp [go_sem, *]
  have k5_21 : w5.cell? ⟨(w.heap.size + 2), 1, none⟩ = some (.int .u16 f1) := by rw [hc _ _ (by first | omega | (simp; omega) | simp)]; simp [go_sem, *]
  have k5_22 : w5.cell? ⟨(w.heap.size + 2), 2, none⟩ = some (.int .u16 f2) := by rw [hc _ _ (by first | omega | (simp; omega) | simp)]; simp [go_sem, *]
  have k5_23 : w5.cell? ⟨(w.heap.size + 2), 3, none⟩ = some (.int .u16 f3) := by rw [hc _ _ (by first | omega | (simp; omega) | simp)]; simp [go_sem, *]
  have z5_2 : (w.heap.size + 2) < w5.heap.size := by have := hb.size; (try simp at this); omega
  have hB5 : Below w.heap.size w w5 := by repeat (first | exact hB4 | refine Below.drew ?_ | refine below_drewN ?_ _ | refine Below.setCell ?_ (by first | omega | (simp; omega) | simp) _ | refine Below.alloc ?_ (by first | omega | (simp; omega) | simp) _ | refine chainB (by assumption) ?_)
  have hs5 : w.heap.size ≤ w5.heap.size := hB5.size
  clear hc hf hb k4_00 k4_01 k4_02 k4_03 z4_0 k4_10 k4_11 k4_12 k4_13 z4_1 k4_20 k4_21 k4_22 k4_23 z4_2 hB4 hs4
  go_wp2_with fail
  refine (c4 _).mono ?_
  rintro e w6 ⟨rfl, hb⟩
  obtain ⟨hc, hf⟩ := bcell hb
  have q4 : ¬ w.heap.size = w5.heap.size := by omega
  have q4s : ¬ w5.heap.size = w.heap.size := by omega
  have q5 : ¬ (w.heap.size + 1) = w5.heap.size := by omega
  have q5s : ¬ w5.heap.size = (w.heap.size + 1) := by omega
  have q6 : ¬ (w.heap.size + 2) = w5.heap.size := by omega
  have q6s : ¬ w5.heap.size = (w.heap.size + 2) := by omega
  have k6_00 : w6.cell? ⟨w.heap.size, 0, none⟩ = some (.int .i64 a) := by rw [hc _ _ (by first | omega | (simp; omega) | simp)]; simp [go_sem, *]
  have k6_01 : w6.cell? ⟨w.heap.size, 1, none⟩ = some (.int .i64 b) := by rw [hc _ _ (by first | omega | (simp; omega) | simp)]; simp [go_sem, *]
  have k6_02 : w6.cell? ⟨w.heap.size, 2, none⟩ = some (.int .i64 c) := by rw [hc _ _ (by first | omega | (simp; omega) | simp)]; simp [go_sem, *]
  have k6_03 : w6.cell? ⟨w.heap.size, 3, none⟩ = some (.int .i64 d) := by rw [hc _ _ (by first | omega | (simp; omega) | simp)]; simp [go_sem, *]
  have z6_0 : w.heap.size < w6.heap.size := by have := hb.size; (try simp at this); omega
  have k6_10 : w6.cell? ⟨(w.heap.size + 1), 0, none⟩ = some (.int .i64 p) := by rw [hc _ _ (by first | omega | (simp; omega) | simp)]; simp [go_sem, *]
  have k6_11 : w6.cell? ⟨(w.heap.size + 1), 1, none⟩ = some (.int .i64 q) := by rw [hc _ _ (by first | omega | (simp; omega) | simp)]; simp [go_sem, *]
  have k6_12 : w6.cell? ⟨(w.heap.size + 1), 2, none⟩ = some (.int .i64 r) := by rw [hc _ _ (by first | omega | (simp; omega) | simp)]; simp [go_sem, *]
  have k6_13 : w6.cell? ⟨(w.heap.size + 1), 3, none⟩ = some (.int .i64 s) := by rw [hc _ _ (by first | omega | (simp; omega) | simp)]; simp [go_sem, *]
  have z6_1 : (w.heap.size + 1) < w6.heap.size := by have := hb.size; (try simp at this); omega
  have k6_20 : w6.cell? ⟨(w.heap.size + 2), 0, none⟩ = some (.int .u16 f0) := by rw [hc _ _ (by first | omega | (simp; omega) | simp)]; simp [go_sem, *]
  have k6_21 : w6.cell? ⟨(w.heap.size + 2), 1, none⟩ = some (.int .u16 f1) := by rw [hc _ _ (by first | omega | (simp; omega) | simp)]; simp [go_sem, *]
  have k6_22 : w6.cell? ⟨(w.heap.size + 2), 2, none⟩ = some (.int .u16 f2) := by rw [hc _ _ (by first | omega | (simp; omega) | simp)]; simp [go_sem, *]
  have k6_23 : w6.cell? ⟨(w.heap.size + 2), 3, none⟩ = some (.int .u16 f3) := by rw [hc _ _ (by first | omega | (simp; omega) | simp)]; simp [go_sem, *]
  have z6_2 : (w.heap.size + 2) < w6.heap.size := by have := hb.size; (try simp at this); omega
  have k6_30 : w6.cell? ⟨w5.heap.size, 0, none⟩ = some (.int .i64 dl) := by rw [hc _ _ (by first | omega | (simp; omega) | simp)]; simp [go_sem, *]
  have k6_31 : w6.cell? ⟨w5.heap.size, 1, none⟩ = some (.int .i64 dh) := by rw [hc _ _ (by first | omega | (simp; omega) | simp)]; simp [go_sem, *]
  have z6_3 : w5.heap.size < w6.heap.size := by have := hb.size; (try simp at this); omega
  have hB6 : Below w.heap.size w w6 := by repeat (first | exact hB5 | refine Below.drew ?_ | refine below_drewN ?_ _ | refine Below.setCell ?_ (by first | omega | (simp; omega) | simp) _ | refine Below.alloc ?_ (by first | omega | (simp; omega) | simp) _ | refine chainB (by assumption) ?_)
  have hs6 : w.heap.size ≤ w6.heap.size := hB6.size
  clear hc hf hb k5_00 k5_01 k5_02 k5_03 z5_0 k5_10 k5_11 k5_12 k5_13 z5_1 k5_20 k5_21 k5_22 k5_23 z5_2 hB5 hs5
  go_wp2_with fail
  go_region_held3 (fun w' => w'.cell? ⟨w.heap.size, 0, none⟩ = some (.int .i64 a) ∧ w'.cell? ⟨w.heap.size, 1, none⟩ = some (.int .i64 b) ∧ w'.cell? ⟨w.heap.size, 2, none⟩ = some (.int .i64 c) ∧ w'.cell? ⟨w.heap.size, 3, none⟩ = some (.int .i64 d) ∧ w'.cell? ⟨(w.heap.size + 1), 0, none⟩ = some (.int .i64 p) ∧ w'.cell? ⟨(w.heap.size + 1), 1, none⟩ = some (.int .i64 q) ∧ w'.cell? ⟨(w.heap.size + 1), 2, none⟩ = some (.int .i64 r) ∧ w'.cell? ⟨(w.heap.size + 1), 3, none⟩ = some (.int .i64 s) ∧ w'.cell? ⟨(w.heap.size + 2), 0, none⟩ = some ((.int .u16 f0)) ∧ w'.cell? ⟨(w.heap.size + 2), 1, none⟩ = some ((.int .u16 f1)) ∧ w'.cell? ⟨(w.heap.size + 2), 2, none⟩ = some ((.int .u16 f2)) ∧ w'.cell? ⟨(w.heap.size + 2), 3, none⟩ = some ((.int .u16 f3)) ∧ w'.cell? ⟨w5.heap.size, 0, none⟩ = some (.int .i64 dl) ∧ w'.cell? ⟨w5.heap.size, 1, none⟩ = some (.int .i64 dh)) (simp [go_sem, *])
    (first | (go_at_call 63; refine (P0 _ _ ?_ ?_ _).mono ?_; with_reducible rfl; with_reducible rfl; clear P0; rintro e w7 ⟨rfl, hb⟩; have hcc := Lib.hid (fun b o (h : b < _) => hb.cell (p := ⟨b, o, none⟩) h); have hsz := hb.size; (try simp at hsz); have kw70 : w7.cell? ⟨w.heap.size, 0, none⟩ = some (.int .i64 a) := (hcc.out _ _ (by first | omega | (simp; omega) | (simp; done))).trans (by first | (simp [go_sem, *]; done) | (go_keep; done)); have kw71 : w7.cell? ⟨w.heap.size, 1, none⟩ = some (.int .i64 b) := (hcc.out _ _ (by first | omega | (simp; omega) | (simp; done))).trans (by first | (simp [go_sem, *]; done) | (go_keep; done)); have kw72 : w7.cell? ⟨w.heap.size, 2, none⟩ = some (.int .i64 c) := (hcc.out _ _ (by first | omega | (simp; omega) | (simp; done))).trans (by first | (simp [go_sem, *]; done) | (go_keep; done)); have kw73 : w7.cell? ⟨w.heap.size, 3, none⟩ = some (.int .i64 d) := (hcc.out _ _ (by first | omega | (simp; omega) | (simp; done))).trans (by first | (simp [go_sem, *]; done) | (go_keep; done)); have kw74 : w7.cell? ⟨(w.heap.size + 1), 0, none⟩ = some (.int .i64 p) := (hcc.out _ _ (by first | omega | (simp; omega) | (simp; done))).trans (by first | (simp [go_sem, *]; done) | (go_keep; done)); have kw75 : w7.cell? ⟨(w.heap.size + 1), 1, none⟩ = some (.int .i64 q) := (hcc.out _ _ (by first | omega | (simp; omega) | (simp; done))).trans (by first | (simp [go_sem, *]; done) | (go_keep; done)); have kw76 : w7.cell? ⟨(w.heap.size + 1), 2, none⟩ = some (.int .i64 r) := (hcc.out _ _ (by first | omega | (simp; omega) | (simp; done))).trans (by first | (simp [go_sem, *]; done) | (go_keep; done)); have kw77 : w7.cell? ⟨(w.heap.size + 1), 3, none⟩ = some (.int .i64 s) := (hcc.out _ _ (by first | omega | (simp; omega) | (simp; done))).trans (by first | (simp [go_sem, *]; done) | (go_keep; done)); have kw78 : w7.cell? ⟨(w.heap.size + 2), 0, none⟩ = some ((.int .u16 f0)) := (hcc.out _ _ (by first | omega | (simp; omega) | (simp; done))).trans (by first | (simp [go_sem, *]; done) | (go_keep; done)); have kw79 : w7.cell? ⟨(w.heap.size + 2), 1, none⟩ = some ((.int .u16 f1)) := (hcc.out _ _ (by first | omega | (simp; omega) | (simp; done))).trans (by first | (simp [go_sem, *]; done) | (go_keep; done)); have kw710 : w7.cell? ⟨(w.heap.size + 2), 2, none⟩ = some ((.int .u16 f2)) := (hcc.out _ _ (by first | omega | (simp; omega) | (simp; done))).trans (by first | (simp [go_sem, *]; done) | (go_keep; done)); have kw711 : w7.cell? ⟨(w.heap.size + 2), 3, none⟩ = some ((.int .u16 f3)) := (hcc.out _ _ (by first | omega | (simp; omega) | (simp; done))).trans (by first | (simp [go_sem, *]; done) | (go_keep; done)); have kw712 : w7.cell? ⟨w5.heap.size, 0, none⟩ = some (.int .i64 dl) := (hcc.out _ _ (by first | omega | (simp; omega) | (simp; done))).trans (by first | (simp [go_sem, *]; done) | (go_keep; done)); have kw713 : w7.cell? ⟨w5.heap.size, 1, none⟩ = some (.int .i64 dh) := (hcc.out _ _ (by first | omega | (simp; omega) | (simp; done))).trans (by first | (simp [go_sem, *]; done) | (go_keep; done)); have zw70 : w.heap.size < w7.heap.size := (by first | omega | (simp at hsz; omega)); have zw71 : (w.heap.size + 1) < w7.heap.size := (by first | omega | (simp at hsz; omega)); have zw72 : (w.heap.size + 2) < w7.heap.size := (by first | omega | (simp at hsz; omega)); have zw73 : w5.heap.size < w7.heap.size := (by first | omega | (simp at hsz; omega))) | (go_at_call 63; refine (P1 _ _ ?_ ?_ _).mono ?_; with_reducible rfl; with_reducible rfl; clear P1; rintro e w8 ⟨rfl, hb⟩; have hcc := Lib.hid (fun b o (h : b < _) => hb.cell (p := ⟨b, o, none⟩) h); have hsz := hb.size; (try simp at hsz); have kw80 : w8.cell? ⟨w.heap.size, 0, none⟩ = some (.int .i64 a) := (hcc.out _ _ (by first | omega | (simp; omega) | (simp; done))).trans (by first | (simp [go_sem, *]; done) | (go_keep; done)); have kw81 : w8.cell? ⟨w.heap.size, 1, none⟩ = some (.int .i64 b) := (hcc.out _ _ (by first | omega | (simp; omega) | (simp; done))).trans (by first | (simp [go_sem, *]; done) | (go_keep; done)); have kw82 : w8.cell? ⟨w.heap.size, 2, none⟩ = some (.int .i64 c) := (hcc.out _ _ (by first | omega | (simp; omega) | (simp; done))).trans (by first | (simp [go_sem, *]; done) | (go_keep; done)); have kw83 : w8.cell? ⟨w.heap.size, 3, none⟩ = some (.int .i64 d) := (hcc.out _ _ (by first | omega | (simp; omega) | (simp; done))).trans (by first | (simp [go_sem, *]; done) | (go_keep; done)); have kw84 : w8.cell? ⟨(w.heap.size + 1), 0, none⟩ = some (.int .i64 p) := (hcc.out _ _ (by first | omega | (simp; omega) | (simp; done))).trans (by first | (simp [go_sem, *]; done) | (go_keep; done)); have kw85 : w8.cell? ⟨(w.heap.size + 1), 1, none⟩ = some (.int .i64 q) := (hcc.out _ _ (by first | omega | (simp; omega) | (simp; done))).trans (by first | (simp [go_sem, *]; done) | (go_keep; done)); have kw86 : w8.cell? ⟨(w.heap.size + 1), 2, none⟩ = some (.int .i64 r) := (hcc.out _ _ (by first | omega | (simp; omega) | (simp; done))).trans (by first | (simp [go_sem, *]; done) | (go_keep; done)); have kw87 : w8.cell? ⟨(w.heap.size + 1), 3, none⟩ = some (.int .i64 s) := (hcc.out _ _ (by first | omega | (simp; omega) | (simp; done))).trans (by first | (simp [go_sem, *]; done) | (go_keep; done)); have kw88 : w8.cell? ⟨(w.heap.size + 2), 0, none⟩ = some ((.int .u16 f0)) := (hcc.out _ _ (by first | omega | (simp; omega) | (simp; done))).trans (by first | (simp [go_sem, *]; done) | (go_keep; done)); have kw89 : w8.cell? ⟨(w.heap.size + 2), 1, none⟩ = some ((.int .u16 f1)) := (hcc.out _ _ (by first | omega | (simp; omega) | (simp; done))).trans (by first | (simp [go_sem, *]; done) | (go_keep; done)); have kw810 : w8.cell? ⟨(w.heap.size + 2), 2, none⟩ = some ((.int .u16 f2)) := (hcc.out _ _ (by first | omega | (simp; omega) | (simp; done))).trans (by first | (simp [go_sem, *]; done) | (go_keep; done)); have kw811 : w8.cell? ⟨(w.heap.size + 2), 3, none⟩ = some ((.int .u16 f3)) := (hcc.out _ _ (by first | omega | (simp; omega) | (simp; done))).trans (by first | (simp [go_sem, *]; done) | (go_keep; done)); have kw812 : w8.cell? ⟨w5.heap.size, 0, none⟩ = some (.int .i64 dl) := (hcc.out _ _ (by first | omega | (simp; omega) | (simp; done))).trans (by first | (simp [go_sem, *]; done) | (go_keep; done)); have kw813 : w8.cell? ⟨w5.heap.size, 1, none⟩ = some (.int .i64 dh) := (hcc.out _ _ (by first | omega | (simp; omega) | (simp; done))).trans (by first | (simp [go_sem, *]; done) | (go_keep; done)); have zw80 : w.heap.size < w8.heap.size := (by first | omega | (simp at hsz; omega)); have zw81 : (w.heap.size + 1) < w8.heap.size := (by first | omega | (simp at hsz; omega)); have zw82 : (w.heap.size + 2) < w8.heap.size := (by first | omega | (simp at hsz; omega)); have zw83 : w5.heap.size < w8.heap.size := (by first | omega | (simp at hsz; omega))))
  go_wp2_with fail
  go_region_held3 (fun w' => w'.cell? ⟨w.heap.size, 0, none⟩ = some (.int .i64 a) ∧ w'.cell? ⟨w.heap.size, 1, none⟩ = some (.int .i64 b) ∧ w'.cell? ⟨w.heap.size, 2, none⟩ = some (.int .i64 c) ∧ w'.cell? ⟨w.heap.size, 3, none⟩ = some (.int .i64 d) ∧ w'.cell? ⟨(w.heap.size + 1), 0, none⟩ = some (.int .i64 p) ∧ w'.cell? ⟨(w.heap.size + 1), 1, none⟩ = some (.int .i64 q) ∧ w'.cell? ⟨(w.heap.size + 1), 2, none⟩ = some (.int .i64 r) ∧ w'.cell? ⟨(w.heap.size + 1), 3, none⟩ = some (.int .i64 s) ∧ w'.cell? ⟨(w.heap.size + 2), 0, none⟩ = some ((.int .u16 f0)) ∧ w'.cell? ⟨(w.heap.size + 2), 1, none⟩ = some ((.int .u16 f1)) ∧ w'.cell? ⟨(w.heap.size + 2), 2, none⟩ = some ((.int .u16 f2)) ∧ w'.cell? ⟨(w.heap.size + 2), 3, none⟩ = some ((.int .u16 f3)) ∧ w'.cell? ⟨w5.heap.size, 0, none⟩ = some (.int .i64 dl) ∧ w'.cell? ⟨w5.heap.size, 1, none⟩ = some (.int .i64 dh)) (simp [go_sem, *])
    (first | (go_at_call 63; refine (P2 _ _ ?_ ?_ _).mono ?_; with_reducible rfl; with_reducible rfl; clear P2; rintro e w9 ⟨rfl, hb⟩; have hcc := Lib.hid (fun b o (h : b < _) => hb.cell (p := ⟨b, o, none⟩) h); have hsz := hb.size; (try simp at hsz); have kw90 : w9.cell? ⟨w.heap.size, 0, none⟩ = some (.int .i64 a) := (hcc.out _ _ (by first | omega | (simp; omega) | (simp; done))).trans (by first | (simp [go_sem, *]; done) | (go_keep; done)); have kw91 : w9.cell? ⟨w.heap.size, 1, none⟩ = some (.int .i64 b) := (hcc.out _ _ (by first | omega | (simp; omega) | (simp; done))).trans (by first | (simp [go_sem, *]; done) | (go_keep; done)); have kw92 : w9.cell? ⟨w.heap.size, 2, none⟩ = some (.int .i64 c) := (hcc.out _ _ (by first | omega | (simp; omega) | (simp; done))).trans (by first | (simp [go_sem, *]; done) | (go_keep; done)); have kw93 : w9.cell? ⟨w.heap.size, 3, none⟩ = some (.int .i64 d) := (hcc.out _ _ (by first | omega | (simp; omega) | (simp; done))).trans (by first | (simp [go_sem, *]; done) | (go_keep; done)); have kw94 : w9.cell? ⟨(w.heap.size + 1), 0, none⟩ = some (.int .i64 p) := (hcc.out _ _ (by first | omega | (simp; omega) | (simp; done))).trans (by first | (simp [go_sem, *]; done) | (go_keep; done)); have kw95 : w9.cell? ⟨(w.heap.size + 1), 1, none⟩ = some (.int .i64 q) := (hcc.out _ _ (by first | omega | (simp; omega) | (simp; done))).trans (by first | (simp [go_sem, *]; done) | (go_keep; done)); have kw96 : w9.cell? ⟨(w.heap.size + 1), 2, none⟩ = some (.int .i64 r) := (hcc.out _ _ (by first | omega | (simp; omega) | (simp; done))).trans (by first | (simp [go_sem, *]; done) | (go_keep; done)); have kw97 : w9.cell? ⟨(w.heap.size + 1), 3, none⟩ = some (.int .i64 s) := (hcc.out _ _ (by first | omega | (simp; omega) | (simp; done))).trans (by first | (simp [go_sem, *]; done) | (go_keep; done)); have kw98 : w9.cell? ⟨(w.heap.size + 2), 0, none⟩ = some ((.int .u16 f0)) := (hcc.out _ _ (by first | omega | (simp; omega) | (simp; done))).trans (by first | (simp [go_sem, *]; done) | (go_keep; done)); have kw99 : w9.cell? ⟨(w.heap.size + 2), 1, none⟩ = some ((.int .u16 f1)) := (hcc.out _ _ (by first | omega | (simp; omega) | (simp; done))).trans (by first | (simp [go_sem, *]; done) | (go_keep; done)); have kw910 : w9.cell? ⟨(w.heap.size + 2), 2, none⟩ = some ((.int .u16 f2)) := (hcc.out _ _ (by first | omega | (simp; omega) | (simp; done))).trans (by first | (simp [go_sem, *]; done) | (go_keep; done)); have kw911 : w9.cell? ⟨(w.heap.size + 2), 3, none⟩ = some ((.int .u16 f3)) := (hcc.out _ _ (by first | omega | (simp; omega) | (simp; done))).trans (by first | (simp [go_sem, *]; done) | (go_keep; done)); have kw912 : w9.cell? ⟨w5.heap.size, 0, none⟩ = some (.int .i64 dl) := (hcc.out _ _ (by first | omega | (simp; omega) | (simp; done))).trans (by first | (simp [go_sem, *]; done) | (go_keep; done)); have kw913 : w9.cell? ⟨w5.heap.size, 1, none⟩ = some (.int .i64 dh) := (hcc.out _ _ (by first | omega | (simp; omega) | (simp; done))).trans (by first | (simp [go_sem, *]; done) | (go_keep; done)); have zw90 : w.heap.size < w9.heap.size := (by first | omega | (simp at hsz; omega)); have zw91 : (w.heap.size + 1) < w9.heap.size := (by first | omega | (simp at hsz; omega)); have zw92 : (w.heap.size + 2) < w9.heap.size := (by first | omega | (simp at hsz; omega)); have zw93 : w5.heap.size < w9.heap.size := (by first | omega | (simp at hsz; omega))) | (go_at_call 63; refine (P3 _ _ ?_ ?_ _).mono ?_; with_reducible rfl; with_reducible rfl; clear P3; rintro e w10 ⟨rfl, hb⟩; have hcc := Lib.hid (fun b o (h : b < _) => hb.cell (p := ⟨b, o, none⟩) h); have hsz := hb.size; (try simp at hsz); have kw100 : w10.cell? ⟨w.heap.size, 0, none⟩ = some (.int .i64 a) := (hcc.out _ _ (by first | omega | (simp; omega) | (simp; done))).trans (by first | (simp [go_sem, *]; done) | (go_keep; done)); have kw101 : w10.cell? ⟨w.heap.size, 1, none⟩ = some (.int .i64 b) := (hcc.out _ _ (by first | omega | (simp; omega) | (simp; done))).trans (by first | (simp [go_sem, *]; done) | (go_keep; done)); have kw102 : w10.cell? ⟨w.heap.size, 2, none⟩ = some (.int .i64 c) := (hcc.out _ _ (by first | omega | (simp; omega) | (simp; done))).trans (by first | (simp [go_sem, *]; done) | (go_keep; done)); have kw103 : w10.cell? ⟨w.heap.size, 3, none⟩ = some (.int .i64 d) := (hcc.out _ _ (by first | omega | (simp; omega) | (simp; done))).trans (by first | (simp [go_sem, *]; done) | (go_keep; done)); have kw104 : w10.cell? ⟨(w.heap.size + 1), 0, none⟩ = some (.int .i64 p) := (hcc.out _ _ (by first | omega | (simp; omega) | (simp; done))).trans (by first | (simp [go_sem, *]; done) | (go_keep; done)); have kw105 : w10.cell? ⟨(w.heap.size + 1), 1, none⟩ = some (.int .i64 q) := (hcc.out _ _ (by first | omega | (simp; omega) | (simp; done))).trans (by first | (simp [go_sem, *]; done) | (go_keep; done)); have kw106 : w10.cell? ⟨(w.heap.size + 1), 2, none⟩ = some (.int .i64 r) := (hcc.out _ _ (by first | omega | (simp; omega) | (simp; done))).trans (by first | (simp [go_sem, *]; done) | (go_keep; done)); have kw107 : w10.cell? ⟨(w.heap.size + 1), 3, none⟩ = some (.int .i64 s) := (hcc.out _ _ (by first | omega | (simp; omega) | (simp; done))).trans (by first | (simp [go_sem, *]; done) | (go_keep; done)); have kw108 : w10.cell? ⟨(w.heap.size + 2), 0, none⟩ = some ((.int .u16 f0)) := (hcc.out _ _ (by first | omega | (simp; omega) | (simp; done))).trans (by first | (simp [go_sem, *]; done) | (go_keep; done)); have kw109 : w10.cell? ⟨(w.heap.size + 2), 1, none⟩ = some ((.int .u16 f1)) := (hcc.out _ _ (by first | omega | (simp; omega) | (simp; done))).trans (by first | (simp [go_sem, *]; done) | (go_keep; done)); have kw1010 : w10.cell? ⟨(w.heap.size + 2), 2, none⟩ = some ((.int .u16 f2)) := (hcc.out _ _ (by first | omega | (simp; omega) | (simp; done))).trans (by first | (simp [go_sem, *]; done) | (go_keep; done)); have kw1011 : w10.cell? ⟨(w.heap.size + 2), 3, none⟩ = some ((.int .u16 f3)) := (hcc.out _ _ (by first | omega | (simp; omega) | (simp; done))).trans (by first | (simp [go_sem, *]; done) | (go_keep; done)); have kw1012 : w10.cell? ⟨w5.heap.size, 0, none⟩ = some (.int .i64 dl) := (hcc.out _ _ (by first | omega | (simp; omega) | (simp; done))).trans (by first | (simp [go_sem, *]; done) | (go_keep; done)); have kw1013 : w10.cell? ⟨w5.heap.size, 1, none⟩ = some (.int .i64 dh) := (hcc.out _ _ (by first | omega | (simp; omega) | (simp; done))).trans (by first | (simp [go_sem, *]; done) | (go_keep; done)); have zw100 : w.heap.size < w10.heap.size := (by first | omega | (simp at hsz; omega)); have zw101 : (w.heap.size + 1) < w10.heap.size := (by first | omega | (simp at hsz; omega)); have zw102 : (w.heap.size + 2) < w10.heap.size := (by first | omega | (simp at hsz; omega)); have zw103 : w5.heap.size < w10.heap.size := (by first | omega | (simp at hsz; omega))))
  go_wp2_with fail
  refine (cW _).mono ?_
  rintro e w11 ⟨rfl, hb⟩
  go_wp2_with fail
  go_ret
  exact ⟨rfl, by repeat (first | exact hB6 | refine Below.drew ?_ | refine below_drewN ?_ _ | refine Below.setCell ?_ (by first | omega | (simp; omega) | simp) _ | refine Below.alloc ?_ (by first | omega | (simp; omega) | simp) _ | refine chainB (by assumption) ?_)⟩
end Go.Proofs.Ytamelpfhbnkggaa

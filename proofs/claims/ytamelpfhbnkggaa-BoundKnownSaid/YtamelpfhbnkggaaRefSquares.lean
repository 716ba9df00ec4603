/-
  Squares of distances: the reference.
-/
import Derived.Test.YtamelpfhbnkggaaBoxes
namespace Go.Proofs.Ytamelpfhbnkggaa
open Go.RowKit Go.Shelf
structure T3 where
  l : Int
  h : Int
  e : Int
def sqLo (a b c d p q r s : Int) : Int := gLo a b p q * gLo a b p q + gLo c d r s * gLo c d r s
def sqHi (a b c d p q r s : Int) : Int := gHi a b p q * gHi a b p q + gHi c d r s * gHi c d r s
def squareS (a b c d p q r s : Int) : T3 := if vX a b c d = true ∧ vX p q r s = true then ⟨sqLo a b c d p q r s, sqHi a b c d p q r s, 0⟩ else ⟨0, 0, 2⟩
theorem sq_bd (x : Int) (h0 : 0 ≤ x) (h1 : x ≤ 536870912) : 0 ≤ x * x ∧ x * x ≤ 288230376151711744 := by
  have := sq_mono h0 h1
  exact ⟨Int.mul_nonneg h0 h0, by omega⟩
theorem g_bd (a b c d : Int) (h1 : gX a b) (h2 : gX c d) : 0 ≤ gLo a b c d ∧ gLo a b c d ≤ 536870912 ∧ 0 ≤ gHi a b c d ∧ gHi a b c d ≤ 536870912 ∧ gLo a b c d ≤ gHi a b c d := by
  obtain ⟨k1, k2, k3⟩ := (vB_iff a b).1 h1.1
  obtain ⟨k4, k5, k6⟩ := (vB_iff c d).1 h2.1
  obtain ⟨_, k7, k8⟩ := h1
  obtain ⟨_, k9, k10⟩ := h2
  unfold gLo gHi
  omega
theorem checkBoxes_any (a b c d p q r s : Int) (w : World) :
    Calls Try.prog 109 #[.agg #[.int .i64 a, .int .i64 b, .int .i64 c, .int .i64 d], .agg #[.int .i64 p, .int .i64 q, .int .i64 r, .int .i64 s]] w fun e w' => e = .returned (.int .i64 (squareS a b c d p q r s).e) ∧ Below w.heap.size w w' := by
  have c1 := fun w => checkBox_any a b c d w
  have c2 := fun w => checkBox_any p q r s w
  by_cases h1 : vX a b c d = true
  · rw [show chkX a b c d = 0 from if_pos h1] at c1
    have e : (squareS a b c d p q r s).e = chkX p q r s := by
      unfold squareS chkX
      by_cases h2 : vX p q r s = true
      · rw [if_pos ⟨h1, h2⟩, if_pos h2]
      · rw [if_neg (fun k => h2 k.2), if_neg h2]
    rw [e]
    generalize chkX p q r s = z at c2 ⊢
    clear h1 e
    go_enter Try.func109, Try.ntmps109
    go_wp2_with fail
    refine (c1 _).mono ?_
    rintro e w1 ⟨rfl, hb⟩
    obtain ⟨hc, hf⟩ := bcell hb
    have k1_00 : w1.cell? ⟨w.heap.size, 0, none⟩ = some (.int .i64 a) := by rw [hc _ _ (by first | omega | (simp; omega) | simp)]; simp [go_sem, *]
    have k1_01 : w1.cell? ⟨w.heap.size, 1, none⟩ = some (.int .i64 b) := by rw [hc _ _ (by first | omega | (simp; omega) | simp)]; simp [go_sem, *]
    have k1_02 : w1.cell? ⟨w.heap.size, 2, none⟩ = some (.int .i64 c) := by rw [hc _ _ (by first | omega | (simp; omega) | simp)]; simp [go_sem, *]
    have k1_03 : w1.cell? ⟨w.heap.size, 3, none⟩ = some (.int .i64 d) := by rw [hc _ _ (by first | omega | (simp; omega) | simp)]; simp [go_sem, *]
    have z1_0 : w.heap.size < w1.heap.size := by have := hb.size; (try simp at this); omega
    have k1_10 : w1.cell? ⟨(w.heap.size + 1), 0, none⟩ = some (.int .i64 p) := by rw [hc _ _ (by first | omega | (simp; omega) | simp)]; simp [go_sem, *]
    have k1_11 : w1.cell? ⟨(w.heap.size + 1), 1, none⟩ = some (.int .i64 q) := by rw [hc _ _ (by first | omega | (simp; omega) | simp)]; simp [go_sem, *]
    have k1_12 : w1.cell? ⟨(w.heap.size + 1), 2, none⟩ = some (.int .i64 r) := by rw [hc _ _ (by first | omega | (simp; omega) | simp)]; simp [go_sem, *]
    have k1_13 : w1.cell? ⟨(w.heap.size + 1), 3, none⟩ = some (.int .i64 s) := by rw [hc _ _ (by first | omega | (simp; omega) | simp)]; simp [go_sem, *]
    have z1_1 : (w.heap.size + 1) < w1.heap.size := by have := hb.size; (try simp at this); omega
    have hB1 : Below w.heap.size w w1 := by repeat (first | exact (Below.refl _ _) | refine Below.drew ?_ | refine below_drewN ?_ _ | refine Below.setCell ?_ (by first | omega | (simp; omega) | simp) _ | refine Below.alloc ?_ (by first | omega | (simp; omega) | simp) _ | refine chainB (by assumption) ?_)
    have hs1 : w.heap.size ≤ w1.heap.size := hB1.size
    clear hc hf hb 
    go_wp2_with fail
    refine (c2 _).mono ?_
    rintro e w2 ⟨rfl, hb⟩
    obtain ⟨hc, hf⟩ := bcell hb
    have k2_00 : w2.cell? ⟨w.heap.size, 0, none⟩ = some (.int .i64 a) := by rw [hc _ _ (by first | omega | (simp; omega) | simp)]; simp [go_sem, *]
    have k2_01 : w2.cell? ⟨w.heap.size, 1, none⟩ = some (.int .i64 b) := by rw [hc _ _ (by first | omega | (simp; omega) | simp)]; simp [go_sem, *]
    have k2_02 : w2.cell? ⟨w.heap.size, 2, none⟩ = some (.int .i64 c) := by rw [hc _ _ (by first | omega | (simp; omega) | simp)]; simp [go_sem, *]
    have k2_03 : w2.cell? ⟨w.heap.size, 3, none⟩ = some (.int .i64 d) := by rw [hc _ _ (by first | omega | (simp; omega) | simp)]; simp [go_sem, *]
    have z2_0 : w.heap.size < w2.heap.size := by have := hb.size; (try simp at this); omega
    have k2_10 : w2.cell? ⟨(w.heap.size + 1), 0, none⟩ = some (.int .i64 p) := by rw [hc _ _ (by first | omega | (simp; omega) | simp)]; simp [go_sem, *]
    have k2_11 : w2.cell? ⟨(w.heap.size + 1), 1, none⟩ = some (.int .i64 q) := by rw [hc _ _ (by first | omega | (simp; omega) | simp)]; simp [go_sem, *]
    have k2_12 : w2.cell? ⟨(w.heap.size + 1), 2, none⟩ = some (.int .i64 r) := by rw [hc _ _ (by first | omega | (simp; omega) | simp)]; simp [go_sem, *]
    have k2_13 : w2.cell? ⟨(w.heap.size + 1), 3, none⟩ = some (.int .i64 s) := by rw [hc _ _ (by first | omega | (simp; omega) | simp)]; simp [go_sem, *]
    have z2_1 : (w.heap.size + 1) < w2.heap.size := by have := hb.size; (try simp at this); omega
    have hB2 : Below w.heap.size w w2 := by repeat (first | exact hB1 | refine Below.drew ?_ | refine below_drewN ?_ _ | refine Below.setCell ?_ (by first | omega | (simp; omega) | simp) _ | refine Below.alloc ?_ (by first | omega | (simp; omega) | simp) _ | refine chainB (by assumption) ?_)
    have hs2 : w.heap.size ≤ w2.heap.size := hB2.size
    clear hc hf hb k1_00 k1_01 k1_02 k1_03 z1_0 k1_10 k1_11 k1_12 k1_13 z1_1 hB1 hs1
    go_wp2_with fail
    go_ret
    exact ⟨rfl, by repeat (first | exact hB2 | refine Below.drew ?_ | refine below_drewN ?_ _ | refine Below.setCell ?_ (by first | omega | (simp; omega) | simp) _ | refine Below.alloc ?_ (by first | omega | (simp; omega) | simp) _ | refine chainB (by assumption) ?_)⟩
  · rw [show chkX a b c d = 2 from if_neg h1] at c1
    rw [show (squareS a b c d p q r s).e = 2 by unfold squareS; rw [if_neg (fun k => h1 k.1)]]
    clear h1
    go_enter Try.func109, Try.ntmps109
    go_wp2_with fail
    refine (c1 _).mono ?_
    rintro e w1 ⟨rfl, hb⟩
    obtain ⟨hc, hf⟩ := bcell hb
    have k1_00 : w1.cell? ⟨w.heap.size, 0, none⟩ = some (.int .i64 a) := by rw [hc _ _ (by first | omega | (simp; omega) | simp)]; simp [go_sem, *]
    have k1_01 : w1.cell? ⟨w.heap.size, 1, none⟩ = some (.int .i64 b) := by rw [hc _ _ (by first | omega | (simp; omega) | simp)]; simp [go_sem, *]
    have k1_02 : w1.cell? ⟨w.heap.size, 2, none⟩ = some (.int .i64 c) := by rw [hc _ _ (by first | omega | (simp; omega) | simp)]; simp [go_sem, *]
    have k1_03 : w1.cell? ⟨w.heap.size, 3, none⟩ = some (.int .i64 d) := by rw [hc _ _ (by first | omega | (simp; omega) | simp)]; simp [go_sem, *]
    have z1_0 : w.heap.size < w1.heap.size := by have := hb.size; (try simp at this); omega
    have k1_10 : w1.cell? ⟨(w.heap.size + 1), 0, none⟩ = some (.int .i64 p) := by rw [hc _ _ (by first | omega | (simp; omega) | simp)]; simp [go_sem, *]
    have k1_11 : w1.cell? ⟨(w.heap.size + 1), 1, none⟩ = some (.int .i64 q) := by rw [hc _ _ (by first | omega | (simp; omega) | simp)]; simp [go_sem, *]
    have k1_12 : w1.cell? ⟨(w.heap.size + 1), 2, none⟩ = some (.int .i64 r) := by rw [hc _ _ (by first | omega | (simp; omega) | simp)]; simp [go_sem, *]
    have k1_13 : w1.cell? ⟨(w.heap.size + 1), 3, none⟩ = some (.int .i64 s) := by rw [hc _ _ (by first | omega | (simp; omega) | simp)]; simp [go_sem, *]
    have z1_1 : (w.heap.size + 1) < w1.heap.size := by have := hb.size; (try simp at this); omega
    have hB1 : Below w.heap.size w w1 := by repeat (first | exact (Below.refl _ _) | refine Below.drew ?_ | refine below_drewN ?_ _ | refine Below.setCell ?_ (by first | omega | (simp; omega) | simp) _ | refine Below.alloc ?_ (by first | omega | (simp; omega) | simp) _ | refine chainB (by assumption) ?_)
    have hs1 : w.heap.size ≤ w1.heap.size := hB1.size
    clear hc hf hb 
    go_wp2_with fail
    go_ret
    exact ⟨rfl, by repeat (first | exact hB1 | refine Below.drew ?_ | refine below_drewN ?_ _ | refine Below.setCell ?_ (by first | omega | (simp; omega) | simp) _ | refine Below.alloc ?_ (by first | omega | (simp; omega) | simp) _ | refine chainB (by assumption) ?_)⟩

set_option maxRecDepth 100000 in
set_option maxHeartbeats 2000000 in
theorem rsquare_any (a b c d p q r s : Int) (w : World) :
    Calls Try.prog 57 #[.agg #[.int .i64 a, .int .i64 b, .int .i64 c, .int .i64 d], .agg #[.int .i64 p, .int .i64 q, .int .i64 r, .int .i64 s]] w fun e w' => e = .returned (.tuple #[.int .i64 (squareS a b c d p q r s).l, .int .i64 (squareS a b c d p q r s).h, .int .i64 (squareS a b c d p q r s).e]) ∧ Below w.heap.size w w' := by
  have c1 := fun w => validBox_any a b c d w
  have c2 := fun w => validBox_any p q r s w
  by_cases h1 : vX a b c d = true
  · rw [h1] at c1
    by_cases h2 : vX p q r s = true
    · rw [h2] at c2
      obtain ⟨x1, x2⟩ := (vX_iff a b c d).1 h1
      obtain ⟨y1, y2⟩ := (vX_iff p q r s).1 h2
      rw [show squareS a b c d p q r s = ⟨sqLo a b c d p q r s, sqHi a b c d p q r s, 0⟩ from if_pos ⟨h1, h2⟩]
      have c3 := fun w => gap_any a b p q x1.1 y1.1 w
      have c4 := fun w => gap_any c d r s x2.1 y2.1 w
      obtain ⟨b1, b2, b3, b4, _⟩ := g_bd a b p q x1 y1
      obtain ⟨b5, b6, b7, b8, _⟩ := g_bd c d r s x2 y2
      have e1 : sqLo a b c d p q r s = gLo a b p q * gLo a b p q + gLo c d r s * gLo c d r s := rfl
      have e2 : sqHi a b c d p q r s = gHi a b p q * gHi a b p q + gHi c d r s * gHi c d r s := rfl
      rw [e1, e2]
      clear e1 e2 h1 h2 x1 x2 y1 y2
      generalize gLo a b p q = g1 at *
      generalize gHi a b p q = g2 at *
      generalize gLo c d r s = g3 at *
      generalize gHi c d r s = g4 at *
      obtain ⟨m1, m2⟩ := sq_bd g1 b1 b2
      obtain ⟨m3, m4⟩ := sq_bd g2 b3 b4
      obtain ⟨m5, m6⟩ := sq_bd g3 b5 b6
      obtain ⟨m7, m8⟩ := sq_bd g4 b7 b8
      go_enter Try.func57, Try.ntmps57
      go_wp2_with fail
      refine (c1 _).mono ?_
      rintro e w1 ⟨rfl, hb⟩
      obtain ⟨hc, hf⟩ := bcell hb
      have k1_00 : w1.cell? ⟨w.heap.size, 0, none⟩ = some (.int .i64 a) := by rw [hc _ _ (by first | omega | (simp; omega) | simp)]; simp [go_sem, *]
      have k1_01 : w1.cell? ⟨w.heap.size, 1, none⟩ = some (.int .i64 b) := by rw [hc _ _ (by first | omega | (simp; omega) | simp)]; simp [go_sem, *]
      have k1_02 : w1.cell? ⟨w.heap.size, 2, none⟩ = some (.int .i64 c) := by rw [hc _ _ (by first | omega | (simp; omega) | simp)]; simp [go_sem, *]
      have k1_03 : w1.cell? ⟨w.heap.size, 3, none⟩ = some (.int .i64 d) := by rw [hc _ _ (by first | omega | (simp; omega) | simp)]; simp [go_sem, *]
      have z1_0 : w.heap.size < w1.heap.size := by have := hb.size; (try simp at this); omega
      have k1_10 : w1.cell? ⟨(w.heap.size + 1), 0, none⟩ = some (.int .i64 p) := by rw [hc _ _ (by first | omega | (simp; omega) | simp)]; simp [go_sem, *]
      have k1_11 : w1.cell? ⟨(w.heap.size + 1), 1, none⟩ = some (.int .i64 q) := by rw [hc _ _ (by first | omega | (simp; omega) | simp)]; simp [go_sem, *]
      have k1_12 : w1.cell? ⟨(w.heap.size + 1), 2, none⟩ = some (.int .i64 r) := by rw [hc _ _ (by first | omega | (simp; omega) | simp)]; simp [go_sem, *]
      have k1_13 : w1.cell? ⟨(w.heap.size + 1), 3, none⟩ = some (.int .i64 s) := by rw [hc _ _ (by first | omega | (simp; omega) | simp)]; simp [go_sem, *]
      have z1_1 : (w.heap.size + 1) < w1.heap.size := by have := hb.size; (try simp at this); omega
      have hB1 : Below w.heap.size w w1 := by repeat (first | exact (Below.refl _ _) | refine Below.drew ?_ | refine below_drewN ?_ _ | refine Below.setCell ?_ (by first | omega | (simp; omega) | simp) _ | refine Below.alloc ?_ (by first | omega | (simp; omega) | simp) _ | refine chainB (by assumption) ?_)
      have hs1 : w.heap.size ≤ w1.heap.size := hB1.size
      clear hc hf hb 
      go_wp2_with fail
      refine (c2 _).mono ?_
      rintro e w2 ⟨rfl, hb⟩
      obtain ⟨hc, hf⟩ := bcell hb
      have k2_00 : w2.cell? ⟨w.heap.size, 0, none⟩ = some (.int .i64 a) := by rw [hc _ _ (by first | omega | (simp; omega) | simp)]; simp [go_sem, *]
      have k2_01 : w2.cell? ⟨w.heap.size, 1, none⟩ = some (.int .i64 b) := by rw [hc _ _ (by first | omega | (simp; omega) | simp)]; simp [go_sem, *]
      have k2_02 : w2.cell? ⟨w.heap.size, 2, none⟩ = some (.int .i64 c) := by rw [hc _ _ (by first | omega | (simp; omega) | simp)]; simp [go_sem, *]
      have k2_03 : w2.cell? ⟨w.heap.size, 3, none⟩ = some (.int .i64 d) := by rw [hc _ _ (by first | omega | (simp; omega) | simp)]; simp [go_sem, *]
      have z2_0 : w.heap.size < w2.heap.size := by have := hb.size; (try simp at this); omega
      have k2_10 : w2.cell? ⟨(w.heap.size + 1), 0, none⟩ = some (.int .i64 p) := by rw [hc _ _ (by first | omega | (simp; omega) | simp)]; simp [go_sem, *]
      have k2_11 : w2.cell? ⟨(w.heap.size + 1), 1, none⟩ = some (.int .i64 q) := by rw [hc _ _ (by first | omega | (simp; omega) | simp)]; simp [go_sem, *]
      have k2_12 : w2.cell? ⟨(w.heap.size + 1), 2, none⟩ = some (.int .i64 r) := by rw [hc _ _ (by first | omega | (simp; omega) | simp)]; simp [go_sem, *]
      have k2_13 : w2.cell? ⟨(w.heap.size + 1), 3, none⟩ = some (.int .i64 s) := by rw [hc _ _ (by first | omega | (simp; omega) | simp)]; simp [go_sem, *]
      have z2_1 : (w.heap.size + 1) < w2.heap.size := by have := hb.size; (try simp at this); omega
      have hB2 : Below w.heap.size w w2 := by repeat (first | exact hB1 | refine Below.drew ?_ | refine below_drewN ?_ _ | refine Below.setCell ?_ (by first | omega | (simp; omega) | simp) _ | refine Below.alloc ?_ (by first | omega | (simp; omega) | simp) _ | refine chainB (by assumption) ?_)
      have hs2 : w.heap.size ≤ w2.heap.size := hB2.size
      clear hc hf hb k1_00 k1_01 k1_02 k1_03 z1_0 k1_10 k1_11 k1_12 k1_13 z1_1 hB1 hs1
      go_wp2_with fail
      refine (c3 _).mono ?_
      rintro e w3 ⟨rfl, hb⟩
      obtain ⟨hc, hf⟩ := bcell hb
      have k3_00 : w3.cell? ⟨w.heap.size, 0, none⟩ = some (.int .i64 a) := by rw [hc _ _ (by first | omega | (simp; omega) | simp)]; simp [go_sem, *]
      have k3_01 : w3.cell? ⟨w.heap.size, 1, none⟩ = some (.int .i64 b) := by rw [hc _ _ (by first | omega | (simp; omega) | simp)]; simp [go_sem, *]
      have k3_02 : w3.cell? ⟨w.heap.size, 2, none⟩ = some (.int .i64 c) := by rw [hc _ _ (by first | omega | (simp; omega) | simp)]; simp [go_sem, *]
      have k3_03 : w3.cell? ⟨w.heap.size, 3, none⟩ = some (.int .i64 d) := by rw [hc _ _ (by first | omega | (simp; omega) | simp)]; simp [go_sem, *]
      have z3_0 : w.heap.size < w3.heap.size := by have := hb.size; (try simp at this); omega
      have k3_10 : w3.cell? ⟨(w.heap.size + 1), 0, none⟩ = some (.int .i64 p) := by rw [hc _ _ (by first | omega | (simp; omega) | simp)]; simp [go_sem, *]
      have k3_11 : w3.cell? ⟨(w.heap.size + 1), 1, none⟩ = some (.int .i64 q) := by rw [hc _ _ (by first | omega | (simp; omega) | simp)]; simp [go_sem, *]
      have k3_12 : w3.cell? ⟨(w.heap.size + 1), 2, none⟩ = some (.int .i64 r) := by rw [hc _ _ (by first | omega | (simp; omega) | simp)]; simp [go_sem, *]
      have k3_13 : w3.cell? ⟨(w.heap.size + 1), 3, none⟩ = some (.int .i64 s) := by rw [hc _ _ (by first | omega | (simp; omega) | simp)]; simp [go_sem, *]
      have z3_1 : (w.heap.size + 1) < w3.heap.size := by have := hb.size; (try simp at this); omega
      have hB3 : Below w.heap.size w w3 := by repeat (first | exact hB2 | refine Below.drew ?_ | refine below_drewN ?_ _ | refine Below.setCell ?_ (by first | omega | (simp; omega) | simp) _ | refine Below.alloc ?_ (by first | omega | (simp; omega) | simp) _ | refine chainB (by assumption) ?_)
      have hs3 : w.heap.size ≤ w3.heap.size := hB3.size
      clear hc hf hb k2_00 k2_01 k2_02 k2_03 z2_0 k2_10 k2_11 k2_12 k2_13 z2_1 hB2 hs2
      go_wp2_with fail
      refine (c4 _).mono ?_
      rintro e w4 ⟨rfl, hb⟩
      obtain ⟨hc, hf⟩ := bcell hb
      have k4_00 : w4.cell? ⟨w.heap.size, 0, none⟩ = some (.int .i64 a) := by rw [hc _ _ (by first | omega | (simp; omega) | simp)]; simp [go_sem, *]
      have k4_01 : w4.cell? ⟨w.heap.size, 1, none⟩ = some (.int .i64 b) := by rw [hc _ _ (by first | omega | (simp; omega) | simp)]; simp [go_sem, *]
      have k4_02 : w4.cell? ⟨w.heap.size, 2, none⟩ = some (.int .i64 c) := by rw [hc _ _ (by first | omega | (simp; omega) | simp)]; simp [go_sem, *]
      have k4_03 : w4.cell? ⟨w.heap.size, 3, none⟩ = some (.int .i64 d) := by rw [hc _ _ (by first | omega | (simp; omega) | simp)]; simp [go_sem, *]
      have z4_0 : w.heap.size < w4.heap.size := by have := hb.size; (try simp at this); omega
      have k4_10 : w4.cell? ⟨(w.heap.size + 1), 0, none⟩ = some (.int .i64 p) := by rw [hc _ _ (by first | omega | (simp; omega) | simp)]; simp [go_sem, *]
      have k4_11 : w4.cell? ⟨(w.heap.size + 1), 1, none⟩ = some (.int .i64 q) := by rw [hc _ _ (by first | omega | (simp; omega) | simp)]; simp [go_sem, *]
      have k4_12 : w4.cell? ⟨(w.heap.size + 1), 2, none⟩ = some (.int .i64 r) := by rw [hc _ _ (by first | omega | (simp; omega) | simp)]; simp [go_sem, *]
      have k4_13 : w4.cell? ⟨(w.heap.size + 1), 3, none⟩ = some (.int .i64 s) := by rw [hc _ _ (by first | omega | (simp; omega) | simp)]; simp [go_sem, *]
      have z4_1 : (w.heap.size + 1) < w4.heap.size := by have := hb.size; (try simp at this); omega
      have hB4 : Below w.heap.size w w4 := by repeat (first | exact hB3 | refine Below.drew ?_ | refine below_drewN ?_ _ | refine Below.setCell ?_ (by first | omega | (simp; omega) | simp) _ | refine Below.alloc ?_ (by first | omega | (simp; omega) | simp) _ | refine chainB (by assumption) ?_)
      have hs4 : w.heap.size ≤ w4.heap.size := hB4.size
      clear hc hf hb k3_00 k3_01 k3_02 k3_03 z3_0 k3_10 k3_11 k3_12 k3_13 z3_1 hB3 hs3
      go_wp2_with fail
      go_ret3
      exact ⟨rfl, by repeat (first | exact hB4 | refine Below.drew ?_ | refine below_drewN ?_ _ | refine Below.setCell ?_ (by first | omega | (simp; omega) | simp) _ | refine Below.alloc ?_ (by first | omega | (simp; omega) | simp) _ | refine chainB (by assumption) ?_)⟩
    · rw [show vX p q r s = false by simpa using h2] at c2
      rw [show squareS a b c d p q r s = ⟨0, 0, 2⟩ from if_neg (fun k => h2 k.2)]
      clear h1 h2
      go_enter Try.func57, Try.ntmps57
      go_wp2_with fail
      refine (c1 _).mono ?_
      rintro e w1 ⟨rfl, hb⟩
      obtain ⟨hc, hf⟩ := bcell hb
      have k1_00 : w1.cell? ⟨w.heap.size, 0, none⟩ = some (.int .i64 a) := by rw [hc _ _ (by first | omega | (simp; omega) | simp)]; simp [go_sem, *]
      have k1_01 : w1.cell? ⟨w.heap.size, 1, none⟩ = some (.int .i64 b) := by rw [hc _ _ (by first | omega | (simp; omega) | simp)]; simp [go_sem, *]
      have k1_02 : w1.cell? ⟨w.heap.size, 2, none⟩ = some (.int .i64 c) := by rw [hc _ _ (by first | omega | (simp; omega) | simp)]; simp [go_sem, *]
      have k1_03 : w1.cell? ⟨w.heap.size, 3, none⟩ = some (.int .i64 d) := by rw [hc _ _ (by first | omega | (simp; omega) | simp)]; simp [go_sem, *]
      have z1_0 : w.heap.size < w1.heap.size := by have := hb.size; (try simp at this); omega
      have k1_10 : w1.cell? ⟨(w.heap.size + 1), 0, none⟩ = some (.int .i64 p) := by rw [hc _ _ (by first | omega | (simp; omega) | simp)]; simp [go_sem, *]
      have k1_11 : w1.cell? ⟨(w.heap.size + 1), 1, none⟩ = some (.int .i64 q) := by rw [hc _ _ (by first | omega | (simp; omega) | simp)]; simp [go_sem, *]
      have k1_12 : w1.cell? ⟨(w.heap.size + 1), 2, none⟩ = some (.int .i64 r) := by rw [hc _ _ (by first | omega | (simp; omega) | simp)]; simp [go_sem, *]
      have k1_13 : w1.cell? ⟨(w.heap.size + 1), 3, none⟩ = some (.int .i64 s) := by rw [hc _ _ (by first | omega | (simp; omega) | simp)]; simp [go_sem, *]
      have z1_1 : (w.heap.size + 1) < w1.heap.size := by have := hb.size; (try simp at this); omega
      have hB1 : Below w.heap.size w w1 := by repeat (first | exact (Below.refl _ _) | refine Below.drew ?_ | refine below_drewN ?_ _ | refine Below.setCell ?_ (by first | omega | (simp; omega) | simp) _ | refine Below.alloc ?_ (by first | omega | (simp; omega) | simp) _ | refine chainB (by assumption) ?_)
      have hs1 : w.heap.size ≤ w1.heap.size := hB1.size
      clear hc hf hb 
      go_wp2_with fail
      refine (c2 _).mono ?_
      rintro e w2 ⟨rfl, hb⟩
      obtain ⟨hc, hf⟩ := bcell hb
      have k2_00 : w2.cell? ⟨w.heap.size, 0, none⟩ = some (.int .i64 a) := by rw [hc _ _ (by first | omega | (simp; omega) | simp)]; simp [go_sem, *]
      have k2_01 : w2.cell? ⟨w.heap.size, 1, none⟩ = some (.int .i64 b) := by rw [hc _ _ (by first | omega | (simp; omega) | simp)]; simp [go_sem, *]
      have k2_02 : w2.cell? ⟨w.heap.size, 2, none⟩ = some (.int .i64 c) := by rw [hc _ _ (by first | omega | (simp; omega) | simp)]; simp [go_sem, *]
      have k2_03 : w2.cell? ⟨w.heap.size, 3, none⟩ = some (.int .i64 d) := by rw [hc _ _ (by first | omega | (simp; omega) | simp)]; simp [go_sem, *]
      have z2_0 : w.heap.size < w2.heap.size := by have := hb.size; (try simp at this); omega
      have k2_10 : w2.cell? ⟨(w.heap.size + 1), 0, none⟩ = some (.int .i64 p) := by rw [hc _ _ (by first | omega | (simp; omega) | simp)]; simp [go_sem, *]
      have k2_11 : w2.cell? ⟨(w.heap.size + 1), 1, none⟩ = some (.int .i64 q) := by rw [hc _ _ (by first | omega | (simp; omega) | simp)]; simp [go_sem, *]
      have k2_12 : w2.cell? ⟨(w.heap.size + 1), 2, none⟩ = some (.int .i64 r) := by rw [hc _ _ (by first | omega | (simp; omega) | simp)]; simp [go_sem, *]
      have k2_13 : w2.cell? ⟨(w.heap.size + 1), 3, none⟩ = some (.int .i64 s) := by rw [hc _ _ (by first | omega | (simp; omega) | simp)]; simp [go_sem, *]
      have z2_1 : (w.heap.size + 1) < w2.heap.size := by have := hb.size; (try simp at this); omega
      have hB2 : Below w.heap.size w w2 := by repeat (first | exact hB1 | refine Below.drew ?_ | refine below_drewN ?_ _ | refine Below.setCell ?_ (by first | omega | (simp; omega) | simp) _ | refine Below.alloc ?_ (by first | omega | (simp; omega) | simp) _ | refine chainB (by assumption) ?_)
      have hs2 : w.heap.size ≤ w2.heap.size := hB2.size
      clear hc hf hb k1_00 k1_01 k1_02 k1_03 z1_0 k1_10 k1_11 k1_12 k1_13 z1_1 hB1 hs1
      go_wp2_with fail
      go_ret3
      exact ⟨rfl, by repeat (first | exact hB2 | refine Below.drew ?_ | refine below_drewN ?_ _ | refine Below.setCell ?_ (by first | omega | (simp; omega) | simp) _ | refine Below.alloc ?_ (by first | omega | (simp; omega) | simp) _ | refine chainB (by assumption) ?_)⟩
  · rw [show vX a b c d = false by simpa using h1] at c1
    rw [show squareS a b c d p q r s = ⟨0, 0, 2⟩ from if_neg (fun k => h1 k.1)]
    clear h1
    go_enter Try.func57, Try.ntmps57
    go_wp2_with fail
    refine (c1 _).mono ?_
    rintro e w1 ⟨rfl, hb⟩
    obtain ⟨hc, hf⟩ := bcell hb
    have k1_00 : w1.cell? ⟨w.heap.size, 0, none⟩ = some (.int .i64 a) := by rw [hc _ _ (by first | omega | (simp; omega) | simp)]; simp [go_sem, *]
    have k1_01 : w1.cell? ⟨w.heap.size, 1, none⟩ = some (.int .i64 b) := by rw [hc _ _ (by first | omega | (simp; omega) | simp)]; simp [go_sem, *]
    have k1_02 : w1.cell? ⟨w.heap.size, 2, none⟩ = some (.int .i64 c) := by rw [hc _ _ (by first | omega | (simp; omega) | simp)]; simp [go_sem, *]
    have k1_03 : w1.cell? ⟨w.heap.size, 3, none⟩ = some (.int .i64 d) := by rw [hc _ _ (by first | omega | (simp; omega) | simp)]; simp [go_sem, *]
    have z1_0 : w.heap.size < w1.heap.size := by have := hb.size; (try simp at this); omega
    have k1_10 : w1.cell? ⟨(w.heap.size + 1), 0, none⟩ = some (.int .i64 p) := by rw [hc _ _ (by first | omega | (simp; omega) | simp)]; simp [go_sem, *]
    have k1_11 : w1.cell? ⟨(w.heap.size + 1), 1, none⟩ = some (.int .i64 q) := by rw [hc _ _ (by first | omega | (simp; omega) | simp)]; simp [go_sem, *]
    have k1_12 : w1.cell? ⟨(w.heap.size + 1), 2, none⟩ = some (.int .i64 r) := by rw [hc _ _ (by first | omega | (simp; omega) | simp)]; simp [go_sem, *]
    have k1_13 : w1.cell? ⟨(w.heap.size + 1), 3, none⟩ = some (.int .i64 s) := by rw [hc _ _ (by first | omega | (simp; omega) | simp)]; simp [go_sem, *]
    have z1_1 : (w.heap.size + 1) < w1.heap.size := by have := hb.size; (try simp at this); omega
    have hB1 : Below w.heap.size w w1 := by repeat (first | exact (Below.refl _ _) | refine Below.drew ?_ | refine below_drewN ?_ _ | refine Below.setCell ?_ (by first | omega | (simp; omega) | simp) _ | refine Below.alloc ?_ (by first | omega | (simp; omega) | simp) _ | refine chainB (by assumption) ?_)
    have hs1 : w.heap.size ≤ w1.heap.size := hB1.size
    clear hc hf hb 
    go_wp2_with fail
    go_ret3
    exact ⟨rfl, by repeat (first | exact hB1 | refine Below.drew ?_ | refine below_drewN ?_ _ | refine Below.setCell ?_ (by first | omega | (simp; omega) | simp) _ | refine Below.alloc ?_ (by first | omega | (simp; omega) | simp) _ | refine chainB (by assumption) ?_)⟩
end Go.Proofs.Ytamelpfhbnkggaa

/-
  bound.Distance.
-/
import Derived.Test.YthogahdnidjelaaSquare
namespace Go.Proofs.Ythogahdnidjelaa
open Go.RowKit Go.Shelf
set_option linter.unusedSimpArgs false
/-- a span and an error -/
structure R3 where
  lo : Int
  hi : Int
  e : Int
noncomputable def distS (a b c d p q r s : Int) : R3 := if vX a b c d = true ∧ vX p q r s = true then ⟨isq (sqLo a b c d p q r s), isqUp (sqHi a b c d p q r s), 0⟩ else ⟨0, 0, 2⟩
theorem sqLo_bd {a b c d p q r s : Int} (h : vX a b c d = true ∧ vX p q r s = true) : 0 ≤ sqLo a b c d p q r s ∧ sqLo a b c d p q r s ≤ sqHi a b c d p q r s ∧ sqHi a b c d p q r s ≤ 1152921504606846976 := by
  obtain ⟨⟨gA1, gA2⟩, ⟨gB1, gB2⟩⟩ := And.intro ((vX_iff a b c d).1 h.1) ((vX_iff p q r s).1 h.2)
  obtain ⟨x1, x2, x3, x4, x5⟩ := g_bd a b p q gA1 gB1
  obtain ⟨y1, y2, y3, y4, y5⟩ := g_bd c d r s gA2 gB2
  unfold sqLo sqHi
  have e1 := sq_mono x1 x5
  have e2 := sq_mono y1 y5
  have e3 := (sq_bd _ x1 x2).1
  have e4 := (sq_bd _ y1 y2).1
  have e5 := (sq_bd _ x3 x4).2
  have e6 := (sq_bd _ y3 y4).2
  omega
set_option maxRecDepth 100000 in
set_option maxHeartbeats 4000000 in
theorem bdistance_any (a b c d p q r s : Int) (w : World) :
    Calls Try.prog 112 #[.agg #[.int .i64 a, .int .i64 b, .int .i64 c, .int .i64 d], .agg #[.int .i64 p, .int .i64 q, .int .i64 r, .int .i64 s]] w fun e w' => e = .returned (.tuple #[.agg #[.int .i64 (distS a b c d p q r s).lo, .int .i64 (distS a b c d p q r s).hi], .int .i64 (distS a b c d p q r s).e]) ∧ Below w.heap.size w w' := by
  have c1 := fun w => square_any a b c d p q r s w
  by_cases h : vX a b c d = true ∧ vX p q r s = true
  · rw [show squareS a b c d p q r s = ⟨sqLo a b c d p q r s, sqHi a b c d p q r s, 0⟩ from if_pos h] at c1
    rw [show distS a b c d p q r s = ⟨isq (sqLo a b c d p q r s), isqUp (sqHi a b c d p q r s), 0⟩ from if_pos h]
    obtain ⟨b1, b2, b3⟩ := sqLo_bd h
    dsimp only at c1
    have c2 := fun w => rootS_any (sqLo a b c d p q r s) (sqHi a b c d p q r s) b1 (by omega) (by omega) b3 w
    generalize sqLo a b c d p q r s = lo at c1 c2 b1 b2 b3 ⊢
    generalize sqHi a b c d p q r s = hi at c1 c2 b2 b3 ⊢
    generalize isq lo = x at c2 ⊢
    generalize isqUp hi = y at c2 ⊢
    clear b1 b2 b3 h
    go_enter Try.func112, Try.ntmps112
    go_wp2_with fail
    refine (c1 _).mono ?_
    rintro e w1 ⟨rfl, hb⟩
    obtain ⟨hc, hf⟩ := bcell hb
    have k1_00 : w1.cell? ⟨w.heap.size, 0, none⟩ = some (.int .i64 a) := by rw [hc _ _ (by first | omega | (simp; omega) | simp)]; simp [go_sem, *]
    have k1_01 : w1.cell? ⟨w.heap.size, 1, none⟩ = some (.int .i64 b) := by rw [hc _ _ (by first | omega | (simp; omega) | simp)]; simp [go_sem, *]
    have k1_02 : w1.cell? ⟨w.heap.size, 2, none⟩ = some (.int .i64 c) := by rw [hc _ _ (by first | omega | (simp; omega) | simp)]; simp [go_sem, *]
    have k1_03 : w1.cell? ⟨w.heap.size, 3, none⟩ = some (.int .i64 d) := by rw [hc _ _ (by first | omega | (simp; omega) | simp)]; simp [go_sem, *]
    have z1_0 : w.heap.size < w1.heap.size := by have := hb.size; (try simp at this); omega
    have k1_10 : w1.cell? ⟨(w.heap.size + 1), 0, none⟩ = some (.int .i64 p) := by rw [hc _ _ (by first | omega | (simp; omega) | simp)]; simp [go_sem, *]
    have k1_11 : w1.cell? ⟨(w.heap.size + 1), 1, none⟩ = some (.int .i64 q) := by rw [hc _ _ (by first | omega | (simp; omega) | simp)]; simp [go_sem, *]
    have k1_12 : w1.cell? ⟨(w.heap.size + 1), 2, none⟩ = some (.int .i64 r) := by rw [hc _ _ (by first | omega | (simp; omega) | simp)]; simp [go_sem, *]
    have k1_13 : w1.cell? ⟨(w.heap.size + 1), 3, none⟩ = some (.int .i64 s) := by rw [hc _ _ (by first | omega | (simp; omega) | simp)]; simp [go_sem, *]
    have z1_1 : (w.heap.size + 1) < w1.heap.size := by have := hb.size; (try simp at this); omega
    have k1_20 : w1.cell? ⟨(w.heap.size + 2), 0, none⟩ = some (.int .i64 0) := by rw [hc _ _ (by first | omega | (simp; omega) | simp)]; simp [go_sem, *]
    have f1_20 : w1.frozen? ⟨(w.heap.size + 2), 0, none⟩ = false := by rw [hf _ _ (by first | omega | (simp; omega) | simp)]; simp [go_sem, *]
    have k1_21 : w1.cell? ⟨(w.heap.size + 2), 1, none⟩ = some (.int .i64 0) := by rw [hc _ _ (by first | omega | (simp; omega) | simp)]; simp [go_sem, *]
    have f1_21 : w1.frozen? ⟨(w.heap.size + 2), 1, none⟩ = false := by rw [hf _ _ (by first | omega | (simp; omega) | simp)]; simp [go_sem, *]
    have z1_2 : (w.heap.size + 2) < w1.heap.size := by have := hb.size; (try simp at this); omega
    have hB1 : Below w.heap.size w w1 := by repeat (first | exact (Below.refl _ _) | refine Below.drew ?_ | refine below_drewN ?_ _ | refine Below.setCell ?_ (by first | omega | (simp; omega) | simp) _ | refine Below.alloc ?_ (by first | omega | (simp; omega) | simp) _ | refine chainB (by assumption) ?_)
    have hs1 : w.heap.size ≤ w1.heap.size := hB1.size
    clear hc hf hb 
    go_wp2_with fail
    refine (c2 _).mono ?_
    rintro e w2 ⟨rfl, hb⟩
    obtain ⟨hc, hf⟩ := bcell hb
    have k2_00 : w2.cell? ⟨w.heap.size, 0, none⟩ = some (.int .i64 a) := by rw [hc _ _ (by first | omega | (simp; omega) | simp)]; simp [go_sem, *]
    have k2_01 : w2.cell? ⟨w.heap.size, 1, none⟩ = some (.int .i64 b) := by rw [hc _ _ (by first | omega | (simp; omega) | simp)]; simp [go_sem, *]
    have k2_02 : w2.cell? ⟨w.heap.size, 2, none⟩ = some (.int .i64 c) := by rw [hc _ _ (by first | omega | (simp; omega) | simp)]; simp [go_sem, *]
    have k2_03 : w2.cell? ⟨w.heap.size, 3, none⟩ = some (.int .i64 d) := by rw [hc _ _ (by first | omega | (simp; omega) | simp)]; simp [go_sem, *]
    have z2_0 : w.heap.size < w2.heap.size := by have := hb.size; (try simp at this); omega
    have k2_10 : w2.cell? ⟨(w.heap.size + 1), 0, none⟩ = some (.int .i64 p) := by rw [hc _ _ (by first | omega | (simp; omega) | simp)]; simp [go_sem, *]
    have k2_11 : w2.cell? ⟨(w.heap.size + 1), 1, none⟩ = some (.int .i64 q) := by rw [hc _ _ (by first | omega | (simp; omega) | simp)]; simp [go_sem, *]
    have k2_12 : w2.cell? ⟨(w.heap.size + 1), 2, none⟩ = some (.int .i64 r) := by rw [hc _ _ (by first | omega | (simp; omega) | simp)]; simp [go_sem, *]
    have k2_13 : w2.cell? ⟨(w.heap.size + 1), 3, none⟩ = some (.int .i64 s) := by rw [hc _ _ (by first | omega | (simp; omega) | simp)]; simp [go_sem, *]
    have z2_1 : (w.heap.size + 1) < w2.heap.size := by have := hb.size; (try simp at this); omega
    have k2_20 : w2.cell? ⟨(w.heap.size + 2), 0, none⟩ = some (.int .i64 0) := by rw [hc _ _ (by first | omega | (simp; omega) | simp)]; simp [go_sem, *]
    have f2_20 : w2.frozen? ⟨(w.heap.size + 2), 0, none⟩ = false := by rw [hf _ _ (by first | omega | (simp; omega) | simp)]; simp [go_sem, *]
    have k2_21 : w2.cell? ⟨(w.heap.size + 2), 1, none⟩ = some (.int .i64 0) := by rw [hc _ _ (by first | omega | (simp; omega) | simp)]; simp [go_sem, *]
    have f2_21 : w2.frozen? ⟨(w.heap.size + 2), 1, none⟩ = false := by rw [hf _ _ (by first | omega | (simp; omega) | simp)]; simp [go_sem, *]
    have z2_2 : (w.heap.size + 2) < w2.heap.size := by have := hb.size; (try simp at this); omega
    have hB2 : Below w.heap.size w w2 := by repeat (first | exact hB1 | refine Below.drew ?_ | refine below_drewN ?_ _ | refine Below.setCell ?_ (by first | omega | (simp; omega) | simp) _ | refine Below.alloc ?_ (by first | omega | (simp; omega) | simp) _ | refine chainB (by assumption) ?_)
    have hs2 : w.heap.size ≤ w2.heap.size := hB2.size
    clear hc hf hb k1_00 k1_01 k1_02 k1_03 z1_0 k1_10 k1_11 k1_12 k1_13 z1_1 k1_20 f1_20 k1_21 f1_21 z1_2 hB1 hs1
    go_wp2_with fail
    refine bodyPost_ret (v := .tuple #[.agg #[.int .i64 x, .int .i64 y], .int .i64 0]) (by simp [results, Try.results112, go_sem, *]) rfl ⟨rfl, ?_⟩
    repeat (first | exact hB2 | refine Below.drew ?_ | refine below_drewN ?_ _ | refine Below.setCell ?_ (by first | omega | (simp; omega) | simp) _ | refine Below.alloc ?_ (by first | omega | (simp; omega) | simp) _ | refine chainB (by assumption) ?_)
  · rw [show squareS a b c d p q r s = ⟨0, 0, 2⟩ from if_neg h] at c1
    rw [show distS a b c d p q r s = ⟨0, 0, 2⟩ from if_neg h]
    dsimp only at c1
    clear h
    go_enter Try.func112, Try.ntmps112
    go_wp2_with fail
    refine (c1 _).mono ?_
    rintro e w1 ⟨rfl, hb⟩
    obtain ⟨hc, hf⟩ := bcell hb
    have k1_00 : w1.cell? ⟨w.heap.size, 0, none⟩ = some (.int .i64 a) := by rw [hc _ _ (by first | omega | (simp; omega) | simp)]; simp [go_sem, *]
    have k1_01 : w1.cell? ⟨w.heap.size, 1, none⟩ = some (.int .i64 b) := by rw [hc _ _ (by first | omega | (simp; omega) | simp)]; simp [go_sem, *]
    have k1_02 : w1.cell? ⟨w.heap.size, 2, none⟩ = some (.int .i64 c) := by rw [hc _ _ (by first | omega | (simp; omega) | simp)]; simp [go_sem, *]
    have k1_03 : w1.cell? ⟨w.heap.size, 3, none⟩ = some (.int .i64 d) := by rw [hc _ _ (by first | omega | (simp; omega) | simp)]; simp [go_sem, *]
    have z1_0 : w.heap.size < w1.heap.size := by have := hb.size; (try simp at this); omega
    have k1_10 : w1.cell? ⟨(w.heap.size + 1), 0, none⟩ = some (.int .i64 p) := by rw [hc _ _ (by first | omega | (simp; omega) | simp)]; simp [go_sem, *]
    have k1_11 : w1.cell? ⟨(w.heap.size + 1), 1, none⟩ = some (.int .i64 q) := by rw [hc _ _ (by first | omega | (simp; omega) | simp)]; simp [go_sem, *]
    have k1_12 : w1.cell? ⟨(w.heap.size + 1), 2, none⟩ = some (.int .i64 r) := by rw [hc _ _ (by first | omega | (simp; omega) | simp)]; simp [go_sem, *]
    have k1_13 : w1.cell? ⟨(w.heap.size + 1), 3, none⟩ = some (.int .i64 s) := by rw [hc _ _ (by first | omega | (simp; omega) | simp)]; simp [go_sem, *]
    have z1_1 : (w.heap.size + 1) < w1.heap.size := by have := hb.size; (try simp at this); omega
    have k1_20 : w1.cell? ⟨(w.heap.size + 2), 0, none⟩ = some (.int .i64 0) := by rw [hc _ _ (by first | omega | (simp; omega) | simp)]; simp [go_sem, *]
    have f1_20 : w1.frozen? ⟨(w.heap.size + 2), 0, none⟩ = false := by rw [hf _ _ (by first | omega | (simp; omega) | simp)]; simp [go_sem, *]
    have k1_21 : w1.cell? ⟨(w.heap.size + 2), 1, none⟩ = some (.int .i64 0) := by rw [hc _ _ (by first | omega | (simp; omega) | simp)]; simp [go_sem, *]
    have f1_21 : w1.frozen? ⟨(w.heap.size + 2), 1, none⟩ = false := by rw [hf _ _ (by first | omega | (simp; omega) | simp)]; simp [go_sem, *]
    have z1_2 : (w.heap.size + 2) < w1.heap.size := by have := hb.size; (try simp at this); omega
    have hB1 : Below w.heap.size w w1 := by repeat (first | exact (Below.refl _ _) | refine Below.drew ?_ | refine below_drewN ?_ _ | refine Below.setCell ?_ (by first | omega | (simp; omega) | simp) _ | refine Below.alloc ?_ (by first | omega | (simp; omega) | simp) _ | refine chainB (by assumption) ?_)
    have hs1 : w.heap.size ≤ w1.heap.size := hB1.size
    clear hc hf hb 
    go_wp2_with fail
    refine bodyPost_ret (v := .tuple #[.agg #[.int .i64 0, .int .i64 0], .int .i64 2]) (by simp [results, Try.results112, go_sem, *]) rfl ⟨rfl, ?_⟩
    repeat (first | exact hB1 | refine Below.drew ?_ | refine below_drewN ?_ _ | refine Below.setCell ?_ (by first | omega | (simp; omega) | simp) _ | refine Below.alloc ?_ (by first | omega | (simp; omega) | simp) _ | refine chainB (by assumption) ?_)
end Go.Proofs.Ythogahdnidjelaa

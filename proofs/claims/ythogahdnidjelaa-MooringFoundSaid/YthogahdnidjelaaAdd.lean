/-
  The method add of sums.
-/
import Derived.Test.YthogahdnidjelaaSlant
import Derived.BigRegion
namespace Go.Proofs.Ythogahdnidjelaa
open Go.RowKit Go.Shelf
set_option linter.unusedSimpArgs false
theorem Below.set_both {B : Nat} {W W' : World} (h : Below B W W') (p : Addr) (u : Value) : Below B (W.setCell p u) (W'.setCell p u) := by
  refine ⟨h.os, h.tape, h.output, by have := h.size; simpa [World.setCell] using this, fun k hk => ?_⟩
  simp only [World.setCell, Array.getElem?_modify]
  rw [h.block k hk]
/-- the four numbers of a sums set anew -/
def setS (W : World) (B : Nat) (lift lo hi wd : Int) : World :=
  (((W.setCell ⟨B, 1, none⟩ (.int .i64 lift)).setCell ⟨B, 2, none⟩ (.int .i64 lo)).setCell ⟨B, 3, none⟩ (.int .i64 hi)).setCell ⟨B, 4, none⟩ (.int .i64 wd)
theorem setS_below {n : Nat} {W W' : World} (h : Below n W W') (B : Nat) (a b c d : Int) : Below n (setS W B a b c d) (setS W' B a b c d) :=
  Below.set_both (Below.set_both (Below.set_both (Below.set_both h _ _) _ _) _ _) _ _
set_option maxRecDepth 100000 in
set_option maxHeartbeats 4000000 in
theorem add_any (B : Nat) (free : Bool) (lift lo hi wd : Int) (x : El) (a : Pr) (hx : vE x = true) (ha : okC a = true)
    (l0 : -1073741824 ≤ lift ∧ lift ≤ 1073741824) (l1 : 0 ≤ lo ∧ lo ≤ 1073741824) (l2 : 0 ≤ hi ∧ hi ≤ 1073741824) (w : World) (hS : SumsAt w B free lift lo hi wd) :
    Calls Try.prog 97 #[.pointer (some ⟨B, 0, none⟩), elv x, prv a] w fun e w' => e = .returned (.tuple #[]) ∧ Below w.heap.size (setS w B (lift + x.lift) (lo + fLo x a) (hi + fHi x a) (max wd (fLo x a + fHi x a))) w' := by
  have c1 := fun w => force_any x a hx ha w
  obtain ⟨-, ⟨t0, t1⟩, -, -⟩ := (vE_iff x).1 hx
  obtain ⟨f0, f1, f2⟩ := force_bd hx ha
  generalize fLo x a = p at *
  generalize fHi x a = q at *
  obtain ⟨x0, x1, x2, x3⟩ := x
  obtain ⟨y0, y1⟩ := a
  unfold prv elv at *
  dsimp only at *
  have W1 : IntKind.i64.wrap (lift + x1) = lift + x1 := by rw [IntKind.wrap_i64]; omega
  have W2 : IntKind.i64.wrap (lo + p) = lo + p := by rw [IntKind.wrap_i64]; omega
  have W3 : IntKind.i64.wrap (hi + q) = hi + q := by rw [IntKind.wrap_i64]; omega
  have W4 : IntKind.i64.wrap (p + q) = p + q := by rw [IntKind.wrap_i64]; omega
  obtain ⟨z, k0, k1, k2, k3, k4, ff1, ff2, ff3, ff4⟩ := hS
  clear hx ha
  have g1 : ¬ w.heap.size = B := by omega
  have g2 : ¬ B = w.heap.size := by omega
  have g3 : ¬ w.heap.size + 1 = B := by omega
  have g4 : ¬ B = w.heap.size + 1 := by omega
  go_enter Try.func97, Try.ntmps97
  go_wp2_with fail
  refine (c1 _).mono ?_
  rintro e w1 ⟨rfl, hb⟩
  obtain ⟨hc, hf⟩ := bcell hb
  have k1_00 : w1.cell? ⟨B, 0, none⟩ = some (.bool free) := by rw [hc _ _ (by first | omega | (simp; omega) | simp)]; simp [go_sem, *]
  have k1_01 : w1.cell? ⟨B, 1, none⟩ = some (.int .i64 lift) := by rw [hc _ _ (by first | omega | (simp; omega) | simp)]; simp [go_sem, *]
  have f1_01 : w1.frozen? ⟨B, 1, none⟩ = false := by rw [hf _ _ (by first | omega | (simp; omega) | simp)]; simp [go_sem, *]
  have k1_02 : w1.cell? ⟨B, 2, none⟩ = some (.int .i64 lo) := by rw [hc _ _ (by first | omega | (simp; omega) | simp)]; simp [go_sem, *]
  have f1_02 : w1.frozen? ⟨B, 2, none⟩ = false := by rw [hf _ _ (by first | omega | (simp; omega) | simp)]; simp [go_sem, *]
  have k1_03 : w1.cell? ⟨B, 3, none⟩ = some (.int .i64 hi) := by rw [hc _ _ (by first | omega | (simp; omega) | simp)]; simp [go_sem, *]
  have f1_03 : w1.frozen? ⟨B, 3, none⟩ = false := by rw [hf _ _ (by first | omega | (simp; omega) | simp)]; simp [go_sem, *]
  have k1_04 : w1.cell? ⟨B, 4, none⟩ = some (.int .i64 wd) := by rw [hc _ _ (by first | omega | (simp; omega) | simp)]; simp [go_sem, *]
  have f1_04 : w1.frozen? ⟨B, 4, none⟩ = false := by rw [hf _ _ (by first | omega | (simp; omega) | simp)]; simp [go_sem, *]
  have z1_0 : B < w1.heap.size := by have := hb.size; (try simp at this); omega
  have k1_10 : w1.cell? ⟨w.heap.size, 0, none⟩ = some (.int .i64 x0) := by rw [hc _ _ (by first | omega | (simp; omega) | simp)]; simp [go_sem, *]
  have k1_11 : w1.cell? ⟨w.heap.size, 1, none⟩ = some (.int .i64 x1) := by rw [hc _ _ (by first | omega | (simp; omega) | simp)]; simp [go_sem, *]
  have k1_12 : w1.cell? ⟨w.heap.size, 2, none⟩ = some (.int .i64 x2) := by rw [hc _ _ (by first | omega | (simp; omega) | simp)]; simp [go_sem, *]
  have k1_13 : w1.cell? ⟨w.heap.size, 3, none⟩ = some (.int .i64 x3) := by rw [hc _ _ (by first | omega | (simp; omega) | simp)]; simp [go_sem, *]
  have z1_1 : w.heap.size < w1.heap.size := by have := hb.size; (try simp at this); omega
  have k1_20 : w1.cell? ⟨(w.heap.size + 1), 0, none⟩ = some (.int .i64 y0) := by rw [hc _ _ (by first | omega | (simp; omega) | simp)]; simp [go_sem, *]
  have k1_21 : w1.cell? ⟨(w.heap.size + 1), 1, none⟩ = some (.int .i64 y1) := by rw [hc _ _ (by first | omega | (simp; omega) | simp)]; simp [go_sem, *]
  have z1_2 : (w.heap.size + 1) < w1.heap.size := by have := hb.size; (try simp at this); omega
  have hB1 : Below w.heap.size w w1 := by repeat (first | exact (Below.refl _ _) | refine Below.drew ?_ | refine below_drewN ?_ _ | refine Below.setCell ?_ (by first | omega | (simp; omega) | simp) _ | refine Below.alloc ?_ (by first | omega | (simp; omega) | simp) _ | refine chainB (by assumption) ?_)
  have hs1 : w.heap.size ≤ w1.heap.size := hB1.size
  clear hc hf hb 
  have g5 : ¬ w1.heap.size = B := by omega
  have g6 : ¬ B = w1.heap.size := by omega
  have g7 : ¬ w1.heap.size = w.heap.size := by omega
  have g8 : ¬ w.heap.size = w1.heap.size := by omega
  clear k0 k1 k2 k3 k4 ff1 ff2 ff3 ff4
  go_wp2_with fail
  go_region
  go_wp2_with fail
  go_region
  go_wp2_with fail
  go_region
  go_wp2_with fail
  go_end0
  refine ⟨rfl, ?_⟩
  unfold setS
  repeat (first | exact hB1 | refine Below.drew ?_ | refine Below.set_both ?_ _ _ | refine Below.alloc ?_ (by first | omega | (simp; omega) | simp) _)
end Go.Proofs.Ythogahdnidjelaa

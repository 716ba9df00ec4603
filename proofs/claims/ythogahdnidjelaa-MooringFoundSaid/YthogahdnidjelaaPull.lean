/-
  pull, slant, tension.
-/
import Derived.Test.YthogahdnidjelaaForceF
import Derived.Test.YthogahdnidjelaaDistance
namespace Go.Proofs.Ythogahdnidjelaa
open Go.RowKit Go.Shelf
set_option linter.unusedSimpArgs false
/-- a sums in memory: at the head of block B -/
structure SumsAt (W : World) (B : Nat) (free : Bool) (lift lo hi wd : Int) : Prop where
  lt : B < W.heap.size
  c0 : W.cell? ⟨B, 0, none⟩ = some (.bool free)
  c1 : W.cell? ⟨B, 1, none⟩ = some (.int .i64 lift)
  c2 : W.cell? ⟨B, 2, none⟩ = some (.int .i64 lo)
  c3 : W.cell? ⟨B, 3, none⟩ = some (.int .i64 hi)
  c4 : W.cell? ⟨B, 4, none⟩ = some (.int .i64 wd)
  f1 : W.frozen? ⟨B, 1, none⟩ = false
  f2 : W.frozen? ⟨B, 2, none⟩ = false
  f3 : W.frozen? ⟨B, 3, none⟩ = false
  f4 : W.frozen? ⟨B, 4, none⟩ = false
theorem SumsAt.at {W W' : World} {B : Nat} {free : Bool} {lift lo hi wd : Int} (h : SumsAt W B free lift lo hi wd) (hb : Below W.heap.size W W') : SumsAt W' B free lift lo hi wd := by
  have z := h.lt
  exact ⟨Nat.lt_of_lt_of_le z hb.size, (hb.cell (p := ⟨B, 0, none⟩) z).trans h.c0, (hb.cell (p := ⟨B, 1, none⟩) z).trans h.c1, (hb.cell (p := ⟨B, 2, none⟩) z).trans h.c2, (hb.cell (p := ⟨B, 3, none⟩) z).trans h.c3, (hb.cell (p := ⟨B, 4, none⟩) z).trans h.c4,
    (hb.frozen (p := ⟨B, 1, none⟩) z).trans h.f1, (hb.frozen (p := ⟨B, 2, none⟩) z).trans h.f2, (hb.frozen (p := ⟨B, 3, none⟩) z).trans h.f3, (hb.frozen (p := ⟨B, 4, none⟩) z).trans h.f4⟩
def plo (free : Bool) (lo hi wd : Int) : Int := if free = true then max 0 (wd - hi) else lo
set_option maxHeartbeats 1000000 in
theorem pull_any (B : Nat) (free : Bool) (lift lo hi wd : Int) (h0 : -2305843009213693952 ≤ hi) (h1 : hi ≤ 2305843009213693952) (w0 : -2305843009213693952 ≤ wd) (w1 : wd ≤ 2305843009213693952) (w : World) (hS : SumsAt w B free lift lo hi wd) :
    Calls Try.prog 62 #[.pointer (some ⟨B, 0, none⟩)] w fun e w' => e = .returned (.agg #[.int .i64 (plo free lo hi wd), .int .i64 hi]) ∧ Below w.heap.size w w' := by
  obtain ⟨z, k0, k1, k2, k3, k4, -, -, -, -⟩ := hS
  have g1 : ¬ w.heap.size = B := by omega
  have g2 : ¬ B = w.heap.size := by omega
  have g3 : ¬ w.heap.size + 1 = B := by omega
  have g4 : ¬ B = w.heap.size + 1 := by omega
  cases free
  · rw [show plo false lo hi wd = lo from rfl]
    go_enter Try.func62, Try.ntmps62
    go_wp2_with fail
    refine bodyPost_ret (v := .agg #[.int .i64 lo, .int .i64 hi]) (by simp [results, Try.results62, go_sem, *]) rfl ⟨rfl, ?_⟩
    repeat (first | exact Below.refl _ _ | refine Below.drew ?_ | refine Below.setCell ?_ (by first | omega | (simp; omega) | simp) _ | refine Below.alloc ?_ (by first | omega | (simp; omega) | simp) _)
  · rw [show plo true lo hi wd = max 0 (wd - hi) from rfl]
    have W1 : IntKind.i64.wrap (wd - hi) = wd - hi := by rw [IntKind.wrap_i64]; omega
    go_enter Try.func62, Try.ntmps62
    go_wp2_with fail
    go_region
    all_goals
      go_wp2_with fail
      refine bodyPost_ret (v := .agg #[.int .i64 (max 0 (wd - hi)), .int .i64 hi]) (by simp [results, Try.results62, go_sem, *]) rfl ⟨rfl, ?_⟩
      repeat (first | exact Below.refl _ _ | refine Below.drew ?_ | refine Below.setCell ?_ (by first | omega | (simp; omega) | simp) _ | refine Below.alloc ?_ (by first | omega | (simp; omega) | simp) _)
end Go.Proofs.Ythogahdnidjelaa

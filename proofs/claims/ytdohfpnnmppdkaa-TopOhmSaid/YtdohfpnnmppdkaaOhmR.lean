/-
  TopOhm: what its round's calls return, over letters.
-/
import Derived.Test.YtdohfpnnmppdkaaOhMath
import Derived.Test.YtdohfpnnmppdkaaCcD
namespace Go.Proofs.Ytdohfpnnmppdkaa
open Go.RowKit Go.Shelf
set_option linter.unusedSimpArgs false
theorem ohm_round {ws : List Wr} {N k : Nat} (hN : N ≤ 10) (h : ∀ k, k < N → OkW (wr ws k)) (h1 : 1 ≤ k) (h2 : k < N + 1) :
    ∃ (cl ch ol oh p q dl dh vl vh ul uh x y : Int) (pn : Nat),
      (curL (wirF ws N) k = cl ∧ curH (wirF ws N) k = ch) ∧ ((nd (wirF ws N) k).ol = ol ∧ (nd (wirF ws N) k).oh = oh) ∧
      (nd (wirF ws N) k).par = (pn : Int) ∧ pn < N + 1 ∧ (nd (wirF ws N) k).lea = 19000 ∧
      vol 20000 20500 (wirF ws N) pn = (ul, uh) ∧ vol 20000 20500 (wirF ws N) k = (vl, vh) ∧ ansF 20000 20500 (wirF ws N) k = y ∧
      (∀ W, Calls Try.prog 66 #[.agg #[.int .i64 cl, .int .i64 ch], .agg #[.int .i64 ol, .int .i64 oh]] W fun e w' => e = .returned (.tuple #[.agg #[.int .i64 p, .int .i64 q], .int .i64 0]) ∧ Below W.heap.size W w') ∧
      (∀ W, Calls Try.prog 62 #[.agg #[.int .i64 p, .int .i64 q], .int .i64 1, .int .i64 1000] W fun e w' => e = .returned (.tuple #[.agg #[.int .i64 dl, .int .i64 dh], .int .i64 0]) ∧ Below W.heap.size W w') ∧
      (∀ W, Calls Try.prog 64 #[.agg #[.int .i64 ul, .int .i64 uh], .agg #[.int .i64 dl, .int .i64 dh]] W fun e w' => e = .returned (.tuple #[.agg #[.int .i64 vl, .int .i64 vh], .int .i64 0]) ∧ Below W.heap.size W w') ∧
      (∀ W, Calls Try.prog 67 #[.agg #[.int .i64 vl, .int .i64 vh], .agg #[.int .i64 19000, .int .i64 19000]] W fun e w' => e = .returned (.tuple #[.int .i64 x, .int .i64 0]) ∧ Below W.heap.size W w') ∧
      (∀ W, Calls Try.prog 68 #[.int .i64 x] W fun e w' => e = .returned (.tuple #[.int .i64 y, .int .i64 0]) ∧ w' = W) := by
  obtain ⟨j, rfl⟩ : ∃ j, k = j + 1 := ⟨k - 1, by omega⟩
  have hj : j < N := by omega
  obtain ⟨d1, d2, d3, d4, d5⟩ := wir_drop hN h hj
  have s1 := wir_sub hN h hj
  have v1 := wir_vol hN h (j + 1) (by omega)
  have hv := wir_valid hN h
  have hp := hv.all.tree (j + 1) (by omega)
  have hpar : (nd (wirF ws N) (j + 1)).par = (par (wirF ws N) (j + 1) : Int) := by
    have e : (nd (wirF ws N) (j + 1)).par = wrP ws j := by rw [wirF_nd ws hj]; rfl
    unfold par
    rw [if_pos (by rw [wirF_len]; omega), e]
    exact (Int.toNat_of_nonneg (wrP_bd (ws := ws) j).1).symm
  have hlea : (nd (wirF ws N) (j + 1)).lea = 19000 := by rw [wirF_nd ws hj]; rfl
  have hf := fed_ans (a := (vol 20000 20500 (wirF ws N) (j + 1)).1) (b := (vol 20000 20500 (wirF ws N) (j + 1)).2) (n := 19000) (by omega) v1.2.1 (by omega) (by decide) (by decide)
  have hlen := wirF_len ws N
  refine ⟨_, _, _, _, curL (wirF ws N) (j + 1) * (nd (wirF ws N) (j + 1)).ol, curH (wirF ws N) (j + 1) * (nd (wirF ws N) (j + 1)).oh, dropL (wirF ws N) (j + 1), dropH (wirF ws N) (j + 1), _, _, _, _, 2 - ansV (decide (19000 ≤ (vol 20000 20500 (wirF ws N) (j + 1)).1)) (decide (19000 ≤ (vol 20000 20500 (wirF ws N) (j + 1)).2)), _, par (wirF ws N) (j + 1), ⟨rfl, rfl⟩, ⟨rfl, rfl⟩, hpar, by omega, hlea, rfl, rfl, rfl, fun W => ?_, fun W => ?_, fun W => ?_, fun W => ?_, fun W => ?_⟩
  · have q := Bd.mul_any (curL (wirF ws N) (j + 1)) (curH (wirF ws N) (j + 1)) (nd (wirF ws N) (j + 1)).ol (nd (wirF ws N) (j + 1)).oh W
    rw [d1] at q
    exact q
  · have q := scale_any (curL (wirF ws N) (j + 1) * (nd (wirF ws N) (j + 1)).ol) (curH (wirF ws N) (j + 1) * (nd (wirF ws N) (j + 1)).oh) 1 1000 W
    rw [d2] at q
    exact q
  · have q := bsub_any (vol 20000 20500 (wirF ws N) (par (wirF ws N) (j + 1))).1 (vol 20000 20500 (wirF ws N) (par (wirF ws N) (j + 1))).2 (dropL (wirF ws N) (j + 1)) (dropH (wirF ws N) (j + 1)) W
    rw [s1] at q
    exact q
  · have q := Bd.less_any (vol 20000 20500 (wirF ws N) (j + 1)).1 (vol 20000 20500 (wirF ws N) (j + 1)).2 19000 19000 W
    rw [hf.1] at q
    exact q
  · have q := Bd.not_any (2 - ansV (decide (19000 ≤ (vol 20000 20500 (wirF ws N) (j + 1)).1)) (decide (19000 ≤ (vol 20000 20500 (wirF ws N) (j + 1)).2))) W
    rw [hf.2] at q
    unfold ansF
    rw [hlea]
    exact q
end Go.Proofs.Ytdohfpnnmppdkaa

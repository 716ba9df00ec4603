/-
  Cables: distances, by Scale and Div (mathematics).
-/
import Derived.Test.YtdohfpnnmppdkaaCbDi
import Derived.Test.YtdohfpnnmppdkaaCbY
namespace Go.Proofs.Ytdohfpnnmppdkaa
open Go.RowKit Go.Shelf
set_option linter.unusedSimpArgs false
attribute [local go_sem] Oper.semAt_some
theorem dsS_bad {kd v0 v1 b0 b1 : Int} (h : (dsS kd v0 v1 b0 b1).e ≠ 0) : (dsS kd v0 v1 b0 b1).lo = 0 ∧ (dsS kd v0 v1 b0 b1).hi = 0 := by
  unfold dsS fit at *
  split at h
  · rename_i hf
    rw [if_pos hf]
    split at h
    · exact absurd rfl h
    · rename_i hv
      rw [if_neg hv]
      exact ⟨rfl, rfl⟩
  · rename_i hf
    rw [if_neg hf]
    exact ⟨rfl, rfl⟩
theorem dsS_ok {kd v0 v1 b0 b1 : Int} (h : (dsS kd v0 v1 b0 b1).e = 0) : fitB kd v0 v1 b0 b1 = true ∧ vB (dsQ kd v0 v1 b0 b1).1 (dsQ kd v0 v1 b0 b1).2 = true ∧ dsS kd v0 v1 b0 b1 = ⟨(dsQ kd v0 v1 b0 b1).1, (dsQ kd v0 v1 b0 b1).2, 0⟩ := by
  unfold dsS fit at *
  split at h
  · rename_i hf
    split at h
    · rename_i hv
      exact ⟨hf, hv, by rw [if_pos hf, if_pos hv]⟩
    · exact absurd h (by decide)
  · exact absurd h (by decide)
theorem up_eq {x d : Int} (h : 1 ≤ d) : up x d = (x + d - 1) / d := by
  unfold up
  have e1 := Int.mul_ediv_add_emod (-x) d
  have e2 := Int.emod_nonneg (-x) (show d ≠ 0 by omega)
  have e3 := Int.emod_lt_of_pos (-x) (show 0 < d by omega)
  symm
  rw [Int.ediv_eq_iff_of_pos (by omega)]
  generalize -x / d = q at *
  generalize -x % d = r at *
  have e5 : -q * d = -(d * q) := by rw [Int.neg_mul, Int.mul_comm]
  constructor
  · rw [e5]; omega
  · rw [e5]; omega
theorem ediv_le {x c d : Int} (h0 : 0 ≤ x) (h1 : 1 ≤ c) (h2 : c ≤ d) : x / d ≤ x / c := by
  rw [Int.le_ediv_iff_mul_le (by omega)]
  have a := Int.ediv_mul_le x (show d ≠ 0 by omega)
  have b := Int.ediv_nonneg h0 (show 0 ≤ d by omega)
  exact Int.le_trans (Int.mul_le_mul_of_nonneg_left h2 b) a
theorem scale_thou {v0 v1 : Int} (h0 : 0 ≤ v0) (h1 : v0 ≤ v1) (h2 : v1 ≤ 16777216) : scaleS v0 v1 1000 1 = fit (1000 * v0) (1000 * v1) := by
  unfold scaleS
  rw [if_pos ((vB_iff _ _).2 (by omega)), if_pos (by decide), up_eq (by decide)]
  congr 1
  · omega
  · omega
theorem div_thou {x0 x1 b0 b1 : Int} (h0 : 0 ≤ x0) (h1 : x0 ≤ x1) (h2 : x1 ≤ 1073741824) (h3 : 1 ≤ b0) (h4 : b0 ≤ b1) (h5 : b1 ≤ 16777216) : divS x0 x1 b0 b1 = ⟨x0 / b1, (x1 + b0 - 1) / b0, 0⟩ := by
  unfold divS qLo qHi
  rw [if_pos ⟨(vB_iff _ _).2 (by omega), (vB_iff _ _).2 (by omega)⟩, if_neg (by omega), if_neg (by omega), if_neg (by omega), if_neg (by omega), if_neg (by omega), up_eq h3, up_eq (by omega)]
  have a := ediv_le h0 h3 h4
  have e1 : (x1 + b0 - 1) / b0 = (x1 - 1) / b0 + 1 := by rw [show x1 + b0 - 1 = (x1 - 1) + 1 * b0 by omega, Int.add_mul_ediv_right _ _ (by omega)]
  have e2 : (x1 + b1 - 1) / b1 = (x1 - 1) / b1 + 1 := by rw [show x1 + b1 - 1 = (x1 - 1) + 1 * b1 by omega, Int.add_mul_ediv_right _ _ (by omega)]
  have b : (x1 - 1) / b1 ≤ (x1 - 1) / b0 := by
    by_cases hz : x1 = 0
    · subst hz
      rw [show (0 : Int) - 1 = -1 from rfl, show (-1 : Int) / b1 = -1 by rw [Int.ediv_eq_iff_of_pos (by omega)]; omega, show (-1 : Int) / b0 = -1 by rw [Int.ediv_eq_iff_of_pos (by omega)]; omega]
      exact Int.le_refl _
    · exact ediv_le (by omega) h3 h4
  congr 1
  · omega
  · omega
end Go.Proofs.Ytdohfpnnmppdkaa

/-
  The reference's line and quotient.
-/
import Derived.Test.YtamelpfhbnkggaaRef2
namespace Go.Proofs.Ytamelpfhbnkggaa
open Go.RowKit Go.Shelf
theorem dn_le_up (y d : Int) (hd : 1 ≤ d) : y / d ≤ up y d := by
  unfold up
  have h1 : y / d * d ≤ y := Int.ediv_mul_le y (by omega)
  have h2 : -y ≤ (-(y / d)) * d := by rw [Int.neg_mul]; omega
  have h3 := Int.ediv_le_ediv (show 0 < d by omega) h2
  rw [Int.mul_ediv_cancel _ (by omega)] at h3
  omega
theorem up_le (y d B : Int) (hd : 1 ≤ d) (h : y ≤ B * d) : up y d ≤ B := by
  have : -B ≤ (-y) / d := Int.le_ediv_of_mul_le (by omega) (by rw [Int.neg_mul]; omega)
  unfold up; omega
theorem line_fit (t0 a b t1 c d t : Int) (h1 : a ≤ b) (h2 : -1073741824 ≤ a) (h3 : b ≤ 1073741824) (h4 : c ≤ d) (h5 : -1073741824 ≤ c) (h6 : d ≤ 1073741824) (g1 : t0 < t1) (g2 : t0 ≤ t) (g3 : t ≤ t1) :
    vB (lLo t0 a t1 c t) (lHi t0 b t1 d t) = true := by
  have e1 := Int.mul_le_mul_of_nonneg_right h1 (show 0 ≤ t1 - t by omega)
  have e2 := Int.mul_le_mul_of_nonneg_right h4 (show 0 ≤ t - t0 by omega)
  have e3 := Int.mul_le_mul_of_nonneg_right h2 (show 0 ≤ t1 - t by omega)
  have e4 := Int.mul_le_mul_of_nonneg_right h5 (show 0 ≤ t - t0 by omega)
  have e5 := Int.mul_le_mul_of_nonneg_right h3 (show 0 ≤ t1 - t by omega)
  have e6 := Int.mul_le_mul_of_nonneg_right h6 (show 0 ≤ t - t0 by omega)
  unfold lLo lHi
  generalize a * (t1 - t) = p1 at *
  generalize b * (t1 - t) = p2 at *
  generalize c * (t - t0) = p3 at *
  generalize d * (t - t0) = p4 at *
  have k1 : -1073741824 ≤ (p1 + p3) / (t1 - t0) := Int.le_ediv_of_mul_le (by omega) (by omega)
  have k2 : up (p2 + p4) (t1 - t0) ≤ 1073741824 := up_le _ _ _ (by omega) (by omega)
  have k3 := Int.ediv_le_ediv (show 0 < t1 - t0 by omega) (show p1 + p3 ≤ p2 + p4 by omega)
  have k4 := dn_le_up (p2 + p4) (t1 - t0) (by omega)
  exact (vB_iff _ _).2 ⟨by omega, k1, k2⟩
theorem rD_le_rU (x d : Int) (hd : d ≠ 0) : rD x d ≤ rU x d := by
  unfold rU rD
  split
  · have := dn_le_up (-x) (-d) (by omega); unfold up at this; rw [Int.neg_neg] at this ⊢; exact this
  · exact dn_le_up x d (by omega)
theorem qLo_min (a b d : Int) (hd : d ≠ 0) (h : a ≤ b) : qLo a b d = min (rD a d) (rD b d) := by
  unfold qLo rD
  split
  · have := Int.ediv_le_ediv (show 0 < -d by omega) (show -b ≤ -a by omega); omega
  · have := Int.ediv_le_ediv (show 0 < d by omega) h; omega
theorem qHi_max (a b d : Int) (hd : d ≠ 0) (h : a ≤ b) : qHi a b d = max (rU a d) (rU b d) := by
  unfold qHi rU rD up
  split
  · have := Int.ediv_le_ediv (show 0 < -d by omega) h; rw [Int.neg_neg, Int.neg_neg]; omega
  · have := Int.ediv_le_ediv (show 0 < d by omega) (show -b ≤ -a by omega); omega
theorem rD_bd2 (x d B : Int) (hd : d ≠ 0) (h1 : -B ≤ x) (h2 : x ≤ B) : -B ≤ rD x d ∧ rD x d ≤ B := by
  unfold rD; split
  · exact dn_bd (-x) (-d) _ (by omega) (by omega) (by omega)
  · exact dn_bd x d _ (by omega) (by omega) (by omega)
theorem div_eq (a b c d : Int) (h : vB a b = true ∧ vB c d = true) (hz : ¬ (c ≤ 0 ∧ 0 ≤ d)) :
    divS a b c d = fit (min (rD a c) (min (rD a d) (min (rD b c) (rD b d)))) (max (rU a c) (max (rU a d) (max (rU b c) (rU b d)))) := by
  obtain ⟨h3, h4, h5⟩ := (vB_iff a b).1 h.1
  obtain ⟨h6, h7, h8⟩ := (vB_iff c d).1 h.2
  have hc : c ≠ 0 := by omega
  have hd : d ≠ 0 := by omega
  have x1 := rD_bd2 a c 1073741824 hc (by omega) (by omega)
  have x2 := rD_bd2 a d 1073741824 hd (by omega) (by omega)
  have x3 := rD_bd2 b c 1073741824 hc (by omega) (by omega)
  have x4 := rD_bd2 b d 1073741824 hd (by omega) (by omega)
  have y1 := rD_bd2 (-a) c 1073741824 hc (by omega) (by omega)
  have y2 := rD_bd2 (-a) d 1073741824 hd (by omega) (by omega)
  have y3 := rD_bd2 (-b) c 1073741824 hc (by omega) (by omega)
  have y4 := rD_bd2 (-b) d 1073741824 hd (by omega) (by omega)
  have z1 := rD_le_rU a c hc
  unfold divS
  rw [if_pos h, if_neg hz, qLo_min a b c hc h3, qLo_min a b d hd h3, qHi_max a b c hc h3, qHi_max a b d hd h3]
  have w1 : rU a c = -rD (-a) c := rfl
  have w2 : rU a d = -rD (-a) d := rfl
  have w3 : rU b c = -rD (-b) c := rfl
  have w4 : rU b d = -rD (-b) d := rfl
  have e1 : min (min (rD a c) (rD b c)) (min (rD a d) (rD b d)) = min (rD a c) (min (rD a d) (min (rD b c) (rD b d))) := by omega
  have e2 : max (max (rU a c) (rU b c)) (max (rU a d) (rU b d)) = max (rU a c) (max (rU a d) (max (rU b c) (rU b d))) := by omega
  unfold fit
  rw [e1, e2, if_pos ((vB_iff _ _).2 (by omega))]
end Go.Proofs.Ytamelpfhbnkggaa

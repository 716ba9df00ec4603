/-
  The operations of wider spans.
-/
import Derived.Test.YtamelpfhbnkggaaOperate
import Derived.Test.YtamelpfhbnkggaaRefMath
import Derived.Test.YtamelpfhbnkggaaLawThree
namespace Go.Proofs.Ytamelpfhbnkggaa
open Go.RowKit Go.Shelf
theorem fit_e {lo hi : Int} (h : (fit lo hi).e = 0) : (fit lo hi).lo = lo ∧ (fit lo hi).hi = hi := by
  unfold fit at *
  split at h
  · rename_i k; rw [if_pos k]; exact ⟨rfl, rfl⟩
  · exact absurd h (by decide)
/-- a is inside b -/
def Ins (x y : R3) : Prop := y.lo ≤ x.lo ∧ x.hi ≤ y.hi
theorem fit_mono {l h l' h' : Int} (k1 : l' ≤ l) (k2 : h ≤ h') (e1 : (fit l h).e = 0) (e2 : (fit l' h').e = 0) : Ins (fit l h) (fit l' h') := by
  obtain ⟨x1, x2⟩ := fit_e e1
  obtain ⟨y1, y2⟩ := fit_e e2
  unfold Ins; rw [x1, x2, y1, y2]; exact ⟨k1, k2⟩
theorem mul_btw (l x h c : Int) (h1 : l ≤ x) (h2 : x ≤ h) : min (l * c) (h * c) ≤ x * c ∧ x * c ≤ max (l * c) (h * c) := by
  rcases Int.le_total 0 c with hc | hc
  · have e1 := Int.mul_le_mul_of_nonneg_right h1 hc
    have e2 := Int.mul_le_mul_of_nonneg_right h2 hc
    omega
  · have e1 := Int.mul_le_mul_of_nonpos_right h1 hc
    have e2 := Int.mul_le_mul_of_nonpos_right h2 hc
    omega
theorem mLo_def (a b c d : Int) : mLo a b c d = min (min (min (a * c) (a * d)) (b * c)) (b * d) := rfl
theorem mHi_def (a b c d : Int) : mHi a b c d = max (max (max (a * c) (a * d)) (b * c)) (b * d) := rfl
theorem isq_mono {a b : Int} (h0 : 0 ≤ a) (h : a ≤ b) : isq a ≤ isq b := by
  obtain ⟨a1, a2, a3⟩ := isq_spec h0
  obtain ⟨b1, b2, b3⟩ := isq_spec (show 0 ≤ b by omega)
  rcases Int.lt_or_le (isq b) (isq a) with hl | hl
  · have := sq_mono (a := isq b + 1) (b := isq a) (by omega) (by omega); omega
  · exact hl
theorem isqUp_mono {a b : Int} (h0 : 0 ≤ a) (h : a ≤ b) : isqUp a ≤ isqUp b := by
  obtain ⟨a1, a2, a3⟩ := isq_spec h0
  obtain ⟨b1, b2, b3⟩ := isq_spec (show 0 ≤ b by omega)
  have hm := isq_mono h0 h
  unfold isqUp
  split <;> split
  · omega
  · rename_i k1 k2
    rcases Int.lt_or_le (isq a) (isq b) with hl | hl
    · omega
    · have e : isq a = isq b := by omega
      rw [e] at k1; omega
  · omega
  · omega
theorem dn_mono (x y d : Int) (hd : 1 ≤ d) (h : x ≤ y) : x / d ≤ y / d := Int.ediv_le_ediv (by omega) h
theorem op_mono (k : Nat) (a b a' b' c d n m t0 t1 t : Int) (h1 : vB a b = true) (h2 : vB c d = true) (h3 : vB a' b' = true) (l1 : a' ≤ a) (l2 : b ≤ b')
    (e1 : (opS k a b c d n m t0 t1 t).e = 0) (e2 : (opS k a' b' c d n m t0 t1 t).e = 0) : Ins (opS k a b c d n m t0 t1 t) (opS k a' b' c d n m t0 t1 t) := by
  obtain ⟨g1, g2, g3⟩ := (vB_iff a b).1 h1
  obtain ⟨g4, g5, g6⟩ := (vB_iff c d).1 h2
  obtain ⟨g7, g8, g9⟩ := (vB_iff a' b').1 h3
  match k with
  | 0 =>
    simp only [opS, addS, if_pos (And.intro h1 h2), if_pos (And.intro h3 h2)] at *
    exact fit_mono (by omega) (by omega) e1 e2
  | 1 =>
    simp only [opS, subS, if_pos (And.intro h1 h2), if_pos (And.intro h3 h2)] at *
    exact fit_mono (by omega) (by omega) e1 e2
  | 2 =>
    simp only [opS, mulS, if_pos (And.intro h1 h2), if_pos (And.intro h3 h2)] at *
    have p1 := mul_btw a' a b' c (by omega) (by omega)
    have p2 := mul_btw a' a b' d (by omega) (by omega)
    have p3 := mul_btw a' b b' c (by omega) (by omega)
    have p4 := mul_btw a' b b' d (by omega) (by omega)
    refine fit_mono ?_ ?_ e1 e2
    · rw [mLo_def, mLo_def]; omega
    · rw [mHi_def, mHi_def]; omega
  | 3 =>
    simp only [opS, divS, if_pos (And.intro h1 h2), if_pos (And.intro h3 h2)] at *
    by_cases hz : c ≤ 0 ∧ 0 ≤ d
    · rw [if_pos hz] at e1; exact absurd e1 (by decide)
    · rw [if_neg hz, if_neg hz]
      have q : ∀ s, s ≠ 0 → qLo a' b' s ≤ qLo a b s ∧ qHi a b s ≤ qHi a' b' s := by
        intro s hs
        unfold qLo qHi
        split
        · exact ⟨dn_mono _ _ _ (by omega) (by omega), up_mono _ _ _ (by omega) (by omega)⟩
        · exact ⟨dn_mono _ _ _ (by omega) (by omega), up_mono _ _ _ (by omega) (by omega)⟩
      have q1 := q c (by omega)
      have q2 := q d (by omega)
      unfold Ins; dsimp only; omega
  | 4 =>
    simp only [opS, hullS, if_pos (And.intro h1 h2), if_pos (And.intro h3 h2)] at *
    unfold Ins; dsimp only; omega
  | 5 =>
    simp only [opS, meetS, if_pos (And.intro h1 h2), if_pos (And.intro h3 h2)] at *
    split at e1
    · exact absurd e1 (by decide)
    · rename_i k1
      rw [if_neg k1]
      split at e2
      · exact absurd e2 (by decide)
      · rename_i k2
        rw [if_neg k2]; unfold Ins; dsimp only; omega
  | 6 =>
    simp only [opS, scaleS, if_pos h1, if_pos h3] at *
    split at e1
    · rename_i k1
      rw [if_pos k1] at e2
      rw [if_pos k1, if_pos k1]
      have p1 := mul_btw a' a b' n (by omega) (by omega)
      have p3 := mul_btw a' b b' n (by omega) (by omega)
      exact fit_mono (dn_mono _ _ _ k1.2.1 (by omega)) (up_mono _ _ _ k1.2.1 (by omega)) e1 e2
    · exact absurd e1 (by decide)
  | 7 =>
    simp only [opS, rootR, if_pos h1, if_pos h3] at *
    split at e2
    · exact absurd e2 (by decide)
    · rename_i k2
      rw [if_neg k2, if_neg (show ¬ a < 0 by omega)]
      exact ⟨isq_mono (by omega) l1, isqUp_mono (by omega) l2⟩
  | k + 8 =>
    simp only [opS, lineS, if_pos (And.intro h1 h2), if_pos (And.intro h3 h2)] at *
    split at e1
    · rename_i k1
      rw [if_pos k1, if_pos k1]
      have x1 := Int.mul_le_mul_of_nonneg_right l1 (show 0 ≤ t1 - t by omega)
      have x2 := Int.mul_le_mul_of_nonneg_right l2 (show 0 ≤ t1 - t by omega)
      exact ⟨dn_mono _ _ _ (by omega) (by omega), up_mono _ _ _ (by omega) (by omega)⟩
    · exact absurd e1 (by decide)
end Go.Proofs.Ytamelpfhbnkggaa

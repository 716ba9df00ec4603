/-
  BoundTight: the numbers.
-/
import Derived.Test.YtamelpfhbnkggaaHold
namespace Go.Proofs.Ytamelpfhbnkggaa
open Go.RowKit Go.Shelf
set_option linter.unusedSimpArgs false
/-- whether n / d lies from lo to hi, as the law asks it -/
def betB (lo hi n d : Int) : Bool := if d < 0 then decide (lo * (-d) ≤ -n) && decide (-n ≤ hi * (-d)) else decide (lo * d ≤ n) && decide (n ≤ hi * d)
def tX (a b : Int) (k : Nat) : Int := if k < 2 then a else b
def tY (c d : Int) (k : Nat) : Int := if k % 2 = 0 then c else d
structure T5 where
  s : R3
  t : R3
  m : R3
  q : R3
  c : R3
  n : Int
  d : Int
def tP (z : T5) (x y : Int) : Nat → Bool
  | 0 => z.s.lo == x + y
  | 1 => z.s.hi == x + y
  | 2 => z.t.lo == x - y
  | 3 => z.t.hi == x - y
  | 4 => z.m.lo == x * y
  | 5 => z.m.hi == x * y
  | 6 => (z.q.e == 0 && y != 0) && !betB (z.q.lo + 1) (z.q.hi + 1) x y
  | 7 => (z.q.e == 0 && y != 0) && !betB (z.q.lo - 1) (z.q.hi - 1) x y
  | 8 => (z.c.e == 0 && decide (0 < z.d)) && decide (x * z.n < (z.c.lo + 1) * z.d)
  | 9 => (z.c.e == 0 && decide (0 < z.d)) && decide (x * z.n > (z.c.hi - 1) * z.d)
  | _ => false
/-- what is found in the first k rounds -/
def tG (z : T5) (a b c d : Int) : Nat → Nat → Bool
  | 0, _ => false
  | k + 1, j => tG z a b c d k j || tP z (tX a b k) (tY c d k) j
theorem tG_of {z : T5} {a b c d : Int} {j : Nat} (k : Nat) (hk : k < 4) (h : tP z (tX a b k) (tY c d k) j = true) : tG z a b c d 4 j = true := by
  match k, hk with
  | 0, _ => simp [tG, h]
  | 1, _ => simp [tG, h]
  | 2, _ => simp [tG, h]
  | 3, _ => simp [tG, h]
theorem min4 (p q r s : Int) : [q, r, s].foldl min p = p ∨ [q, r, s].foldl min p = q ∨ [q, r, s].foldl min p = r ∨ [q, r, s].foldl min p = s := by
  simp only [List.foldl_cons, List.foldl_nil]; omega
theorem max4 (p q r s : Int) : [q, r, s].foldl max p = p ∨ [q, r, s].foldl max p = q ∨ [q, r, s].foldl max p = r ∨ [q, r, s].foldl max p = s := by
  simp only [List.foldl_cons, List.foldl_nil]; omega
theorem dn_next (x d : Int) (hd : 1 ≤ d) : x < (x / d + 1) * d := by
  have h1 := Int.lt_ediv_add_one_mul_self x (show 0 < d by omega)
  exact h1
theorem up_prev (x d : Int) (hd : 1 ≤ d) : (up x d - 1) * d < x := by
  have h1 := dn_next (-x) d hd
  unfold up
  have e : (-(-x / d) - 1) * d = -((-x / d + 1) * d) := by rw [← Int.neg_mul]; congr 1; omega
  rw [e]; omega
theorem bet_pos {lo hi n d : Int} (hd : 0 < d) (h : n < lo * d ∨ hi * d < n) : betB lo hi n d = false := by
  unfold betB
  rw [if_neg (by omega)]
  rcases h with h | h
  · rw [Bool.and_eq_false_iff]; left; rw [decide_eq_false_iff_not]; omega
  · rw [Bool.and_eq_false_iff]; right; rw [decide_eq_false_iff_not]; omega
theorem bet_neg {lo hi n d : Int} (hd : d < 0) (h : -n < lo * (-d) ∨ hi * (-d) < -n) : betB lo hi n d = false := by
  unfold betB
  rw [if_pos hd]
  rcases h with h | h
  · rw [Bool.and_eq_false_iff]; left; rw [decide_eq_false_iff_not]; omega
  · rw [Bool.and_eq_false_iff]; right; rw [decide_eq_false_iff_not]; omega
theorem tight_add {z : T5} {a b c d : Int} (hv : vB a b = true ∧ vB c d = true) (hs : z.s = addS a b c d) (he : z.s.e = 0) : tG z a b c d 4 0 = true ∧ tG z a b c d 4 1 = true := by
  have h : z.s.lo = a + c ∧ z.s.hi = b + d := by
    rw [hs] at he ⊢
    rw [show addS a b c d = fit (a + c) (b + d) from if_pos hv] at he ⊢
    unfold fit at he ⊢
    split at he
    · rename_i k; rw [if_pos k]; exact ⟨rfl, rfl⟩
    · exact absurd he (by decide)
  exact ⟨tG_of 0 (by decide) (by simp [tP, tX, tY, h]), tG_of 3 (by decide) (by simp [tP, tX, tY, h])⟩
theorem tight_sub {z : T5} {a b c d : Int} (hv : vB a b = true ∧ vB c d = true) (hs : z.t = subS a b c d) (he : z.t.e = 0) : tG z a b c d 4 2 = true ∧ tG z a b c d 4 3 = true := by
  have h : z.t.lo = a - d ∧ z.t.hi = b - c := by
    rw [hs] at he ⊢
    rw [show subS a b c d = fit (a - d) (b - c) from if_pos hv] at he ⊢
    unfold fit at he ⊢
    split at he
    · rename_i k; rw [if_pos k]; exact ⟨rfl, rfl⟩
    · exact absurd he (by decide)
  exact ⟨tG_of 1 (by decide) (by simp [tP, tX, tY, h]), tG_of 2 (by decide) (by simp [tP, tX, tY, h])⟩
theorem tight_mul {z : T5} {a b c d : Int} (hv : vB a b = true ∧ vB c d = true) (hs : z.m = mulS a b c d) (he : z.m.e = 0) : tG z a b c d 4 4 = true ∧ tG z a b c d 4 5 = true := by
  have h : z.m.lo = mLo a b c d ∧ z.m.hi = mHi a b c d := by
    rw [hs] at he ⊢
    rw [show mulS a b c d = fit (mLo a b c d) (mHi a b c d) from if_pos hv] at he ⊢
    unfold fit at he ⊢
    split at he
    · rename_i k; rw [if_pos k]; exact ⟨rfl, rfl⟩
    · exact absurd he (by decide)
  obtain ⟨h1, h2⟩ := h
  refine ⟨?_, ?_⟩
  · rcases min4 (a * c) (a * d) (b * c) (b * d) with k | k | k | k
    · exact tG_of 0 (by decide) (by simp [tP, tX, tY, h1, mLo, -List.foldl_cons, -List.foldl_nil, k])
    · exact tG_of 1 (by decide) (by simp [tP, tX, tY, h1, mLo, -List.foldl_cons, -List.foldl_nil, k])
    · exact tG_of 2 (by decide) (by simp [tP, tX, tY, h1, mLo, -List.foldl_cons, -List.foldl_nil, k])
    · exact tG_of 3 (by decide) (by simp [tP, tX, tY, h1, mLo, -List.foldl_cons, -List.foldl_nil, k])
  · rcases max4 (a * c) (a * d) (b * c) (b * d) with k | k | k | k
    · exact tG_of 0 (by decide) (by simp [tP, tX, tY, h2, mHi, -List.foldl_cons, -List.foldl_nil, k])
    · exact tG_of 1 (by decide) (by simp [tP, tX, tY, h2, mHi, -List.foldl_cons, -List.foldl_nil, k])
    · exact tG_of 2 (by decide) (by simp [tP, tX, tY, h2, mHi, -List.foldl_cons, -List.foldl_nil, k])
    · exact tG_of 3 (by decide) (by simp [tP, tX, tY, h2, mHi, -List.foldl_cons, -List.foldl_nil, k])
theorem tight_scale {z : T5} {a b c d : Int} (hv : vB a b = true) (hs : z.c = scaleS a b z.n z.d) (he : z.c.e = 0) : (-1073741824 ≤ z.n ∧ z.n ≤ 1073741824 ∧ 1 ≤ z.d ∧ z.d ≤ 1073741824 ∧ vB z.c.lo z.c.hi = true) ∧ tG z a b c d 4 8 = true ∧ tG z a b c d 4 9 = true := by
  have h : (-1073741824 ≤ z.n ∧ z.n ≤ 1073741824 ∧ 1 ≤ z.d ∧ z.d ≤ 1073741824 ∧ vB z.c.lo z.c.hi = true) ∧ z.c.lo = min (a * z.n) (b * z.n) / z.d ∧ z.c.hi = up (max (a * z.n) (b * z.n)) z.d := by
    rw [hs] at he ⊢
    unfold scaleS at he ⊢
    rw [if_pos hv] at he ⊢
    split at he
    · rename_i k
      rw [if_pos k]
      unfold fit at he ⊢
      split at he
      · rename_i k2; rw [if_pos k2]; exact ⟨⟨k.1.1, k.1.2, k.2.1, k.2.2, k2⟩, rfl, rfl⟩
      · exact absurd he (by decide)
    · exact absurd he (by decide)
  obtain ⟨hb, h1, h2⟩ := h
  have hd := hb.2.2.1
  refine ⟨hb, ?_, ?_⟩
  · have k := dn_next (min (a * z.n) (b * z.n)) z.d hd
    rw [← h1] at k
    rcases Int.le_total (a * z.n) (b * z.n) with g | g
    · rw [Int.min_eq_left g] at k
      exact tG_of 0 (by decide) (by simp [tP, tX, tY, he, k]; omega)
    · rw [Int.min_eq_right g] at k
      exact tG_of 2 (by decide) (by simp [tP, tX, tY, he, k]; omega)
  · have k := up_prev (max (a * z.n) (b * z.n)) z.d hd
    rw [← h2] at k
    rcases Int.le_total (a * z.n) (b * z.n) with g | g
    · rw [Int.max_eq_right g] at k
      exact tG_of 2 (by decide) (by simp [tP, tX, tY, he, k]; omega)
    · rw [Int.max_eq_left g] at k
      exact tG_of 0 (by decide) (by simp [tP, tX, tY, he, k]; omega)
theorem tight_div {z : T5} {a b c d : Int} (hv : vB a b = true ∧ vB c d = true) (hs : z.q = divS a b c d) (he : z.q.e = 0) : vB z.q.lo z.q.hi = true ∧ tG z a b c d 4 6 = true ∧ tG z a b c d 4 7 = true := by
  by_cases hz : c ≤ 0 ∧ 0 ≤ d
  · exfalso
    rw [hs] at he
    unfold divS at he
    rw [if_pos hv, if_pos hz] at he
    exact absurd he (by decide)
  have hq : z.q.lo = min (qLo a b c) (qLo a b d) ∧ z.q.hi = max (qHi a b c) (qHi a b d) := by
    rw [hs]; unfold divS; rw [if_pos hv, if_neg hz]; exact ⟨rfl, rfl⟩
  have hvq : vB z.q.lo z.q.hi = true := by
    obtain ⟨g1, g2, g3⟩ := (vB_iff a b).1 hv.1
    obtain ⟨g4, g5, g6⟩ := (vB_iff c d).1 hv.2
    rcases div_h a b c d a c hv (Int.le_refl _) g1 (Int.le_refl _) g4 with ⟨l, u, e, _, _, _, k⟩ | ⟨e, h1, h2⟩
    · rw [hs, e]; exact k
    · exact absurd ⟨h1, h2⟩ hz
  obtain ⟨h1, h2⟩ := hq
  refine ⟨hvq, ?_⟩
  obtain ⟨g1, -, -⟩ := (vB_iff a b).1 hv.1
  obtain ⟨g4, -, -⟩ := (vB_iff c d).1 hv.2
  rcases Int.lt_or_le 0 c with hc | hc
  · have e1 : qLo a b c = a / c := if_neg (by omega)
    have e2 : qLo a b d = a / d := if_neg (by omega)
    have e3 : qHi a b c = up b c := if_neg (by omega)
    have e4 : qHi a b d = up b d := if_neg (by omega)
    rw [e1, e2] at h1
    rw [e3, e4] at h2
    refine ⟨?_, ?_⟩
    · have k1 := dn_next a c (by omega)
      have k2 := dn_next a d (by omega)
      rcases Int.le_total (a / c) (a / d) with g | g
      · rw [Int.min_eq_left g] at h1
        rw [← h1] at k1
        exact tG_of 0 (by decide) (by simp [tP, tX, tY, bet_pos hc (.inl k1), he]; omega)
      · rw [Int.min_eq_right g] at h1
        rw [← h1] at k2
        exact tG_of 1 (by decide) (by simp [tP, tX, tY, bet_pos (by omega) (.inl k2), he]; omega)
    · have k1 := up_prev b c (by omega)
      have k2 := up_prev b d (by omega)
      rcases Int.le_total (up b c) (up b d) with g | g
      · rw [Int.max_eq_right g] at h2
        rw [← h2] at k2
        exact tG_of 3 (by decide) (by simp [tP, tX, tY, bet_pos (by omega) (.inr k2), he]; omega)
      · rw [Int.max_eq_left g] at h2
        rw [← h2] at k1
        exact tG_of 2 (by decide) (by simp [tP, tX, tY, bet_pos (by omega) (.inr k1), he]; omega)
  · have e1 : qLo a b c = -b / -c := if_pos (by omega)
    have e2 : qLo a b d = -b / -d := if_pos (by omega)
    have e3 : qHi a b c = up (-a) (-c) := if_pos (by omega)
    have e4 : qHi a b d = up (-a) (-d) := if_pos (by omega)
    rw [e1, e2] at h1
    rw [e3, e4] at h2
    refine ⟨?_, ?_⟩
    · have k1 := dn_next (-b) (-c) (by omega)
      have k2 := dn_next (-b) (-d) (by omega)
      rcases Int.le_total (-b / -c) (-b / -d) with g | g
      · rw [Int.min_eq_left g] at h1
        rw [← h1] at k1
        exact tG_of 2 (by decide) (by simp [tP, tX, tY, bet_neg (by omega) (.inl k1), he]; omega)
      · rw [Int.min_eq_right g] at h1
        rw [← h1] at k2
        exact tG_of 3 (by decide) (by simp [tP, tX, tY, bet_neg (by omega) (.inl k2), he]; omega)
    · have k1 := up_prev (-a) (-c) (by omega)
      have k2 := up_prev (-a) (-d) (by omega)
      rcases Int.le_total (up (-a) (-c)) (up (-a) (-d)) with g | g
      · rw [Int.max_eq_right g] at h2
        rw [← h2] at k2
        exact tG_of 1 (by decide) (by simp [tP, tX, tY, bet_neg (by omega) (.inr k2), he]; omega)
      · rw [Int.max_eq_left g] at h2
        rw [← h2] at k1
        exact tG_of 0 (by decide) (by simp [tP, tX, tY, bet_neg (by omega) (.inr k1), he]; omega)
/-- the root's span is tight -/
theorem tight_root {a b : Int} (hv : vB a b = true) (he : (rootR a b).e = 0) : 0 ≤ (rootR a b).lo ∧ (rootR a b).lo ≤ 1073741824 ∧ 0 ≤ (rootR a b).hi ∧ (rootR a b).hi ≤ 1073741824 ∧ a < ((rootR a b).lo + 1) * ((rootR a b).lo + 1) ∧ (0 < (rootR a b).hi → 0 < b → ((rootR a b).hi - 1) * ((rootR a b).hi - 1) < b) := by
  obtain ⟨g1, g2, g3⟩ := (vB_iff a b).1 hv
  by_cases hn : a < 0
  · exfalso; unfold rootR at he; rw [if_pos hv, if_pos hn] at he; exact absurd he (by decide)
  have e : rootR a b = ⟨isq a, isqUp b, 0⟩ := by unfold rootR; rw [if_pos hv, if_neg hn]
  rw [e]
  obtain ⟨u1, u2, u3, u4⟩ := isq_bd (x := a) (by omega) (by omega)
  obtain ⟨u5, u6⟩ := isqUp_bd (x := b) (by omega) (by omega)
  obtain ⟨s1, s2, s3⟩ := isq_spec (x := a) (by omega)
  obtain ⟨r1, r2, r3⟩ := isq_spec (x := b) (by omega)
  refine ⟨u1, u2, u5, u6, s3, fun h1 h2 => ?_⟩
  show (isqUp b - 1) * (isqUp b - 1) < b
  unfold isqUp at h1 ⊢
  split
  · rw [show isq b + 1 - 1 = isq b by omega]; assumption
  · rename_i h3
    rw [if_neg h3] at h1
    have h1' : 0 < isq b := h1
    have : (isq b - 1) * (isq b - 1) < isq b * isq b := by
      have e3 : isq b * isq b = (isq b - 1) * (isq b - 1) + 2 * isq b - 1 := by
        rw [Int.sub_mul, Int.mul_sub]; omega
      omega
    omega
end Go.Proofs.Ytamelpfhbnkggaa

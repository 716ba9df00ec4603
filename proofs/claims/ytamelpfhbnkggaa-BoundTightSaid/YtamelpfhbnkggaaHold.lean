/-
  What the operations hold: the numbers.
-/
import Derived.Test.YtamelpfhbnkggaaIso
namespace Go.Proofs.Ytamelpfhbnkggaa
open Go.RowKit Go.Shelf
theorem prod_btw (a b c d x y : Int) (h1 : a ≤ x) (h2 : x ≤ b) (h3 : c ≤ y) (h4 : y ≤ d) : mLo a b c d ≤ x * y ∧ x * y ≤ mHi a b c d := by
  have p1 := mul_btw a x b y h1 h2
  have p2 := mul_btw c y d a h3 h4
  have p3 := mul_btw c y d b h3 h4
  rw [Int.mul_comm c a, Int.mul_comm d a, Int.mul_comm y a] at p2
  rw [Int.mul_comm c b, Int.mul_comm d b, Int.mul_comm y b] at p3
  rw [mLo_def, mHi_def]; omega
theorem dn_mul (x d : Int) (hd : 1 ≤ d) : x / d * d ≤ x := Int.ediv_mul_le x (by omega)
theorem up_mul (x d : Int) (hd : 1 ≤ d) : x ≤ up x d * d := by
  have := dn_mul (-x) d hd
  unfold up; rw [Int.neg_mul]; omega
/-- a lower end of a quotient by numbers from c to d -/
theorem q_low (a c d y lo : Int) (hc : 1 ≤ c) (h1 : c ≤ y) (h2 : y ≤ d) (k1 : lo ≤ a / c) (k2 : lo ≤ a / d) : lo * y ≤ a := by
  have hd : 1 ≤ d := by omega
  rcases Int.le_total 0 a with h | h
  · have e0 : 0 ≤ a / d := Int.ediv_nonneg h (by omega)
    have e1 := Int.mul_le_mul_of_nonneg_right k2 (show 0 ≤ y by omega)
    have e2 := Int.mul_le_mul_of_nonneg_left h2 e0
    have e3 := dn_mul a d hd
    omega
  · have e0 : a / c ≤ 0 := by
      have := Int.ediv_le_ediv (show 0 < c by omega) h
      rw [Int.zero_ediv] at this; exact this
    have e1 := Int.mul_le_mul_of_nonneg_right k1 (show 0 ≤ y by omega)
    have e2 := Int.mul_le_mul_of_nonpos_left e0 h1
    have e3 := dn_mul a c hc
    omega
theorem q_high (b c d y hi : Int) (hc : 1 ≤ c) (h1 : c ≤ y) (h2 : y ≤ d) (k1 : up b c ≤ hi) (k2 : up b d ≤ hi) : b ≤ hi * y := by
  have := q_low (-b) c d y (-hi) hc h1 h2 (by unfold up at k1; omega) (by unfold up at k2; omega)
  rw [Int.neg_mul] at this; omega
/-- n / d lies from lo to hi -/
def Btw (lo hi n d : Int) : Prop := (0 < d ∧ lo * d ≤ n ∧ n ≤ hi * d) ∨ (d < 0 ∧ lo * (-d) ≤ -n ∧ -n ≤ hi * (-d))
theorem div_btw (a b c d x y : Int) (h1 : a ≤ x) (h2 : x ≤ b) (h3 : c ≤ y) (h4 : y ≤ d) (hz : ¬ (c ≤ 0 ∧ 0 ≤ d)) :
    Btw (min (qLo a b c) (qLo a b d)) (max (qHi a b c) (qHi a b d)) x y := by
  rcases Int.lt_or_le 0 c with hc | hc
  · left
    have e1 : qLo a b c = a / c := if_neg (by omega)
    have e2 : qLo a b d = a / d := if_neg (by omega)
    have e3 : qHi a b c = up b c := if_neg (by omega)
    have e4 : qHi a b d = up b d := if_neg (by omega)
    rw [e1, e2, e3, e4]
    have k1 := q_low a c d y (min (a / c) (a / d)) (by omega) h3 h4 (by omega) (by omega)
    have k2 := q_high b c d y (max (up b c) (up b d)) (by omega) h3 h4 (by omega) (by omega)
    exact ⟨by omega, by omega, by omega⟩
  · right
    have e1 : qLo a b c = -b / -c := if_pos (by omega)
    have e2 : qLo a b d = -b / -d := if_pos (by omega)
    have e3 : qHi a b c = up (-a) (-c) := if_pos (by omega)
    have e4 : qHi a b d = up (-a) (-d) := if_pos (by omega)
    rw [e1, e2, e3, e4]
    have k1 := q_low (-b) (-d) (-c) (-y) (min (-b / -c) (-b / -d)) (by omega) (by omega) (by omega) (by omega) (by omega)
    have k2 := q_high (-a) (-d) (-c) (-y) (max (up (-a) (-c)) (up (-a) (-d))) (by omega) (by omega) (by omega) (by omega) (by omega)
    exact ⟨by omega, by omega, by omega⟩
theorem isqUp_sq {x : Int} (h0 : 0 ≤ x) : x ≤ isqUp x * isqUp x := by
  obtain ⟨a, b, c⟩ := isq_spec h0
  unfold isqUp
  split <;> omega
theorem add_h (a b c d x y : Int) (h : vB a b = true ∧ vB c d = true) (h1 : a ≤ x) (h2 : x ≤ b) (h3 : c ≤ y) (h4 : y ≤ d) :
    (∃ l u, addS a b c d = ⟨l, u, 0⟩ ∧ l ≤ x + y ∧ x + y ≤ u) ∨ addS a b c d = ⟨0, 0, 4⟩ := by
  rw [show addS a b c d = fit (a + c) (b + d) from if_pos h]; unfold fit; split
  · exact .inl ⟨_, _, rfl, by omega, by omega⟩
  · exact .inr rfl
theorem sub_h (a b c d x y : Int) (h : vB a b = true ∧ vB c d = true) (h1 : a ≤ x) (h2 : x ≤ b) (h3 : c ≤ y) (h4 : y ≤ d) :
    (∃ l u, subS a b c d = ⟨l, u, 0⟩ ∧ l ≤ x - y ∧ x - y ≤ u) ∨ subS a b c d = ⟨0, 0, 4⟩ := by
  rw [show subS a b c d = fit (a - d) (b - c) from if_pos h]; unfold fit; split
  · exact .inl ⟨_, _, rfl, by omega, by omega⟩
  · exact .inr rfl
theorem mul_h (a b c d x y : Int) (h : vB a b = true ∧ vB c d = true) (h1 : a ≤ x) (h2 : x ≤ b) (h3 : c ≤ y) (h4 : y ≤ d) :
    (∃ l u, mulS a b c d = ⟨l, u, 0⟩ ∧ l ≤ x * y ∧ x * y ≤ u) ∨ mulS a b c d = ⟨0, 0, 4⟩ := by
  have := prod_btw a b c d x y h1 h2 h3 h4
  rw [show mulS a b c d = fit (mLo a b c d) (mHi a b c d) from if_pos h]; unfold fit; split
  · exact .inl ⟨_, _, rfl, this.1, this.2⟩
  · exact .inr rfl
theorem div_h (a b c d x y : Int) (h : vB a b = true ∧ vB c d = true) (h1 : a ≤ x) (h2 : x ≤ b) (h3 : c ≤ y) (h4 : y ≤ d) :
    (∃ l u, divS a b c d = ⟨l, u, 0⟩ ∧ Btw l u x y ∧ ¬ y = 0 ∧ ¬ (c ≤ 0 ∧ 0 ≤ d) ∧ vB l u = true) ∨ (divS a b c d = ⟨0, 0, 9⟩ ∧ c ≤ 0 ∧ 0 ≤ d) := by
  by_cases hz : c ≤ 0 ∧ 0 ≤ d
  · right; unfold divS; rw [if_pos h, if_pos hz]; exact ⟨rfl, hz.1, hz.2⟩
  · left
    have k := div_btw a b c d x y h1 h2 h3 h4 hz
    have q := div_eq a b c d h hz
    have hv : vB (min (qLo a b c) (qLo a b d)) (max (qHi a b c) (qHi a b d)) = true := by
      have e : divS a b c d = ⟨min (qLo a b c) (qLo a b d), max (qHi a b c) (qHi a b d), 0⟩ := by unfold divS; rw [if_pos h, if_neg hz]
      rw [e] at q
      unfold fit at q
      split at q
      · rename_i hh
        rw [R3.mk.injEq] at q
        rw [q.1, q.2.1]; exact hh
      · rw [R3.mk.injEq] at q; exact absurd q.2.2 (by decide)
    refine ⟨_, _, ?_, k, by omega, hz, hv⟩
    unfold divS; rw [if_pos h, if_neg hz]
theorem root_h (a b x : Int) (h : vB a b = true) (h1 : a ≤ x) (h2 : x ≤ b) :
    (∃ l u, rootR a b = ⟨l, u, 0⟩ ∧ 0 ≤ a ∧ 0 ≤ l ∧ l ≤ 1073741824 ∧ 0 ≤ u ∧ u ≤ 1073741824 ∧ l * l ≤ x ∧ x ≤ u * u ∧ u * u ≤ 1152921504606846976) ∨ (rootR a b = ⟨0, 0, 3⟩ ∧ a < 0) := by
  obtain ⟨g1, g2, g3⟩ := (vB_iff a b).1 h
  by_cases hn : a < 0
  · right; unfold rootR; rw [if_pos h, if_pos hn]; exact ⟨rfl, hn⟩
  · left
    obtain ⟨u1, u2, u3, u4⟩ := isq_bd (x := a) (by omega) (by omega)
    obtain ⟨u5, u6⟩ := isqUp_bd (x := b) (by omega) (by omega)
    have u7 := isqUp_sq (x := b) (by omega)
    have u8 := sq_mono (a := isqUp b) (b := 1073741824) u5 u6
    refine ⟨_, _, ?_, by omega, u1, u2, u5, u6, by omega, by omega, by omega⟩
    unfold rootR; rw [if_pos h, if_neg hn]
theorem scale_h (a b n m x : Int) (h : vB a b = true) (h1 : a ≤ x) (h2 : x ≤ b) :
    (∃ l u, scaleS a b n m = ⟨l, u, 0⟩ ∧ Btw l u (x * n) m ∧ 1 ≤ m ∧ m ≤ 1073741824 ∧ -1073741824 ≤ n ∧ n ≤ 1073741824 ∧ vB l u = true) ∨ (∃ e, scaleS a b n m = ⟨0, 0, e⟩ ∧ ¬ e = 0) := by
  unfold scaleS; rw [if_pos h]
  split
  · rename_i k
    unfold fit; split
    · rename_i hv
      have p := mul_btw a x b n h1 h2
      have q1 := dn_mul (min (a * n) (b * n)) m k.2.1
      have q2 := up_mul (max (a * n) (b * n)) m k.2.1
      exact .inl ⟨_, _, rfl, .inl ⟨by omega, by omega, by omega⟩, k.2.1, k.2.2, k.1.1, k.1.2, hv⟩
    · exact .inr ⟨_, rfl, by decide⟩
  · exact .inr ⟨_, rfl, by decide⟩
theorem line_h (t0 a b t1 c d t x y : Int) (h : vB a b = true ∧ vB c d = true) (h1 : a ≤ x) (h2 : x ≤ b) (h3 : c ≤ y) (h4 : y ≤ d) :
    (∃ l u, lineS t0 a b t1 c d t = ⟨l, u, 0⟩ ∧ Btw l u (x * (t1 - t) + y * (t - t0)) (t1 - t0) ∧ 0 ≤ t0 ∧ t1 ≤ 1073741824 ∧ t0 < t1 ∧ t0 ≤ t ∧ t ≤ t1 ∧ vB l u = true) ∨ (lineS t0 a b t1 c d t = ⟨0, 0, 3⟩) := by
  unfold lineS; rw [if_pos h]
  split
  · rename_i k
    obtain ⟨k1, k2, k3, k4, k5⟩ := k
    obtain ⟨g1, g2, g3⟩ := (vB_iff a b).1 h.1
    obtain ⟨g4, g5, g6⟩ := (vB_iff c d).1 h.2
    have x1 := Int.mul_le_mul_of_nonneg_right h1 (show 0 ≤ t1 - t by omega)
    have x2 := Int.mul_le_mul_of_nonneg_right h2 (show 0 ≤ t1 - t by omega)
    have x3 := Int.mul_le_mul_of_nonneg_right h3 (show 0 ≤ t - t0 by omega)
    have x4 := Int.mul_le_mul_of_nonneg_right h4 (show 0 ≤ t - t0 by omega)
    have q1 := dn_mul (a * (t1 - t) + c * (t - t0)) (t1 - t0) (by omega)
    have q2 := up_mul (b * (t1 - t) + d * (t - t0)) (t1 - t0) (by omega)
    have hv := line_fit t0 a b t1 c d t g1 g2 g3 g4 g5 g6 k3 k4 k5
    refine .inl ⟨_, _, rfl, .inl ⟨by omega, ?_, ?_⟩, k1, k2, k3, k4, k5, hv⟩
    · unfold lLo; omega
    · unfold lHi; omega
  · exact .inr rfl

set_option maxHeartbeats 1000000 in
theorem between_yes (lo hi n d : Int) (hv : vB lo hi = true) (hb : Btw lo hi n d) (d1 : -1073741824 ≤ d) (d2 : d ≤ 1073741824) (n1 : -4611686018427387904 ≤ n) (n2 : n ≤ 4611686018427387904) (w : World) :
    Calls Try.prog 69 #[.agg #[.int .i64 lo, .int .i64 hi], .int .i64 n, .int .i64 d] w fun e w' => e = .returned (.bool true) ∧ Below w.heap.size w w' := by
  obtain ⟨g1, g2, g3⟩ := (vB_iff lo hi).1 hv
  clear hv
  rcases hb with ⟨b1, b2, b3⟩ | ⟨b1, b2, b3⟩
  · obtain ⟨p1, p2⟩ := prod_bd lo d (by omega) (by omega) (by omega) (by omega)
    obtain ⟨p3, p4⟩ := prod_bd hi d (by omega) (by omega) (by omega) (by omega)
    go_enter Try.func69, Try.ntmps69
    go_wp2
    all_goals
      go_ret
      exact ⟨rfl, (Below.refl _ _).alloc (Nat.le_refl _) _⟩
  · obtain ⟨p1, p2⟩ := prod_bd lo (-d) (by omega) (by omega) (by omega) (by omega)
    obtain ⟨p3, p4⟩ := prod_bd hi (-d) (by omega) (by omega) (by omega) (by omega)
    go_enter Try.func69, Try.ntmps69
    go_wp2
    all_goals
      go_ret
      exact ⟨rfl, (Below.refl _ _).alloc (Nat.le_refl _) _⟩
end Go.Proofs.Ytamelpfhbnkggaa

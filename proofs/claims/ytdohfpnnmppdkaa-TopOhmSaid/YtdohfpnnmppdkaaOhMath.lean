/-
  TopOhm's mathematics: by layer 1's operations a voltage is the one before less the drop; an answer is that of the comparison.
-/
import Derived.Test.YtdohfpnnmppdkaaWiMath
import Derived.Test.YtdohfpnnmppdkaaCbY
import Derived.Test.YtdohfpnnmppdkaaNarMath
import Derived.Test.YtdohfpnnmppdkaaBdA
namespace Go.Proofs.Ytdohfpnnmppdkaa
set_option linter.unusedSimpArgs false
theorem mul_in {a b c d A B : Int} (h1 : 0 ≤ a) (h2 : a ≤ b) (h3 : 0 ≤ c) (h4 : c ≤ d) (hb : b ≤ A) (hd : d ≤ B) : 0 ≤ a * c ∧ a * c ≤ a * d ∧ a * c ≤ b * c ∧ a * d ≤ b * d ∧ b * c ≤ b * d ∧ b * d ≤ A * B :=
  ⟨Int.mul_nonneg h1 h3, Int.mul_le_mul_of_nonneg_left h4 h1, Int.mul_le_mul_of_nonneg_right h2 h3, Int.mul_le_mul_of_nonneg_right h2 (by omega), Int.mul_le_mul_of_nonneg_left h4 (by omega), Int.mul_le_mul hb hd (by omega) (by omega)⟩
/-- a product of spans that begin at zero or later -/
theorem mulS_pos {a b c d : Int} (h1 : 0 ≤ a) (h2 : a ≤ b) (h3 : 0 ≤ c) (h4 : c ≤ d) (hb : b ≤ 32768) (hd : d ≤ 32767) : Bd.mulS a b c d = ⟨a * c, b * d, 0⟩ := by
  obtain ⟨m1, m2, m3, m4, m5, m6⟩ := mul_in h1 h2 h3 h4 hb hd
  have e1 : Bd.mLo a b c d = a * c := by
    show min (min (min (a * c) (a * d)) (b * c)) (b * d) = a * c
    omega
  have e2 : Bd.mHi a b c d = b * d := by
    show max (max (max (a * c) (a * d)) (b * c)) (b * d) = b * d
    omega
  unfold Bd.mulS
  rw [if_pos ⟨(Bd.vB_iff _ _).2 (by omega), (Bd.vB_iff _ _).2 (by omega)⟩, e1, e2]
  unfold Bd.fit
  rw [if_pos ((Bd.vB_iff _ _).2 (by omega))]
/-- a thousandth of it, outward -/
theorem scaleS_pos {x y : Int} (h1 : 0 ≤ x) (h2 : x ≤ y) (h3 : y ≤ 1073741824) : scaleS x y 1 1000 = ⟨x / 1000, (y + 999) / 1000, 0⟩ := by
  unfold scaleS
  rw [if_pos ((vB_iff _ _).2 (by omega)), if_pos (by decide), Int.mul_one, Int.mul_one]
  have e1 : min x y = x := by omega
  have e2 : up (max x y) 1000 = (y + 999) / 1000 := by
    unfold up
    have : max x y = y := by omega
    rw [this]
    omega
  rw [e1, e2]
  unfold fit
  rw [if_pos ((vB_iff _ _).2 (by omega))]
theorem subS_in {a b x y : Int} (h1 : -1000000 ≤ a) (h2 : a ≤ b) (h3 : b ≤ 1000000) (h4 : 0 ≤ x) (h5 : x ≤ y) (h6 : y ≤ 1000000) : subS a b x y = ⟨a - y, b - x, 0⟩ := by
  unfold subS
  rw [if_pos ⟨(vB_iff _ _).2 (by omega), (vB_iff _ _).2 (by omega)⟩]
  unfold fit
  rw [if_pos ((vB_iff _ _).2 (by omega))]
/-- the opposite of 'less than what it needs' is the answer that it is fed -/
theorem fed_ans {a b n : Int} (h1 : -1000000 ≤ a) (h2 : a ≤ b) (h3 : b ≤ 1000000) (h4 : 0 ≤ n) (h5 : n ≤ 1000000) : Bd.lessS a b n n = ⟨2 - ansV (decide (n ≤ a)) (decide (n ≤ b)), 0⟩ ∧ Bd.notS (2 - ansV (decide (n ≤ a)) (decide (n ≤ b))) = ⟨ansV (decide (n ≤ a)) (decide (n ≤ b)), 0⟩ := by
  have hl : Bd.lessS a b n n = (if b < n then ⟨2, 0⟩ else if n ≤ a then ⟨0, 0⟩ else ⟨1, 0⟩) := if_pos ⟨(Bd.vB_iff _ _).2 (by omega), (Bd.vB_iff _ _).2 (by omega)⟩
  rw [hl]
  unfold ansV Bd.notS
  by_cases h : n ≤ a
  · have : n ≤ b := by omega
    have : ¬ b < n := by omega
    simp [*]
  · by_cases h' : n ≤ b
    · have : ¬ b < n := by omega
      simp [*]
    · have : b < n := by omega
      simp [*]
theorem wir_valid {ws : List Wr} {i : Nat} (hi : i ≤ 10) (h : ∀ k, k < i → OkW (wr ws k)) : ValidC 20000 20500 (wirF ws i) :=
  ⟨by rw [wirF_len]; omega, by rw [wirF_len]; omega, by omega, wirF_all ws i hi h⟩
/-- the currents of such a cable are small -/
theorem wir_cur {ws : List Wr} {i : Nat} (hi : i ≤ 10) (h : ∀ k, k < i → OkW (wr ws k)) (k : Nat) : 0 ≤ curL (wirF ws i) k ∧ curL (wirF ws i) k ≤ curH (wirF ws i) k ∧ curH (wirF ws i) k ≤ 2805 := by
  have hv := wir_valid hi h
  obtain ⟨c1, c2, c3⟩ := cur_part hv.all hv.len (fun j => decide (k ∈ pth (par (wirF ws i)) j)) (wirF ws i).length (Nat.le_refl _)
  refine ⟨c1.1, c3, ?_⟩
  have hs := sm_bd (f := fun j => (nd (wirF ws i) j).lh) (p := fun j => decide (k ∈ pth (par (wirF ws i)) j)) (M := 255) (by decide) (wirF ws i).length fun j hj => by
    rw [wirF_len] at hj
    cases j with
    | zero => rw [wirF_zero]; exact ⟨by decide, by decide⟩
    | succ j =>
      rw [wirF_nd ws (show j < i by omega)]
      have q := h j (by omega)
      have q1 := q.l0
      have q2 := q.l1
      show 0 ≤ max _ _ ∧ max _ _ ≤ 255
      omega
  have e := wirF_len ws i
  have : ((wirF ws i).length : Int) ≤ 11 := by omega
  have h2 : curH (wirF ws i) k ≤ ((wirF ws i).length : Int) * 255 := hs.2
  omega
theorem wir_ohm {ws : List Wr} {i k : Nat} (h : OkW (wr ws k)) (hk : k < i) : 0 ≤ (nd (wirF ws i) (k + 1)).ol ∧ (nd (wirF ws i) (k + 1)).ol ≤ (nd (wirF ws i) (k + 1)).oh ∧ (nd (wirF ws i) (k + 1)).oh ≤ 2550 := by
  rw [wirF_nd ws hk]
  have q1 := h.o0
  have q2 := h.o1
  show 0 ≤ 10 * min _ _ ∧ 10 * min _ _ ≤ 10 * max _ _ ∧ 10 * max _ _ ≤ 2550
  omega
/-- the drop of each segment, by a product and a thousandth of it -/
theorem wir_drop {ws : List Wr} {i k : Nat} (hi : i ≤ 10) (h : ∀ k, k < i → OkW (wr ws k)) (hk : k < i) :
    Bd.mulS (curL (wirF ws i) (k + 1)) (curH (wirF ws i) (k + 1)) (nd (wirF ws i) (k + 1)).ol (nd (wirF ws i) (k + 1)).oh = ⟨curL (wirF ws i) (k + 1) * (nd (wirF ws i) (k + 1)).ol, curH (wirF ws i) (k + 1) * (nd (wirF ws i) (k + 1)).oh, 0⟩ ∧
    scaleS (curL (wirF ws i) (k + 1) * (nd (wirF ws i) (k + 1)).ol) (curH (wirF ws i) (k + 1) * (nd (wirF ws i) (k + 1)).oh) 1 1000 = ⟨dropL (wirF ws i) (k + 1), dropH (wirF ws i) (k + 1), 0⟩ ∧
    0 ≤ dropL (wirF ws i) (k + 1) ∧ dropL (wirF ws i) (k + 1) ≤ dropH (wirF ws i) (k + 1) ∧ dropH (wirF ws i) (k + 1) ≤ 7154 := by
  obtain ⟨c1, c2, c3⟩ := wir_cur hi h (k + 1)
  obtain ⟨o1, o2, o3⟩ := wir_ohm (i := i) (h k hk) hk
  unfold dropL dropH
  generalize curL (wirF ws i) (k + 1) = a at *
  generalize curH (wirF ws i) (k + 1) = b at *
  generalize (nd (wirF ws i) (k + 1)).ol = c at *
  generalize (nd (wirF ws i) (k + 1)).oh = d at *
  obtain ⟨m1, m2, m3, m4, m5, m6⟩ := mul_in c1 c2 o1 o2 c3 o3
  refine ⟨mulS_pos c1 c2 o1 o2 (by omega) (by omega), scaleS_pos m1 (by omega) (by omega), ?_, ?_, ?_⟩ <;> omega
/-- the voltages of such a cable are small spans -/
theorem wir_vol {ws : List Wr} {i : Nat} (hi : i ≤ 10) (h : ∀ k, k < i → OkW (wr ws k)) : ∀ k, k < i + 1 → 20000 - 7154 * (k : Int) ≤ (vol 20000 20500 (wirF ws i) k).1 ∧ (vol 20000 20500 (wirF ws i) k).1 ≤ (vol 20000 20500 (wirF ws i) k).2 ∧ (vol 20000 20500 (wirF ws i) k).2 ≤ 20500 := by
  have hv := wir_valid hi h
  intro k
  induction k using Nat.strongRecOn with
  | ind k ih =>
    intro hk
    cases k with
    | zero => rw [vol_zero]; simp
    | succ k =>
      have hp := hv.all.tree (k + 1) (by omega)
      have q := ih _ hp (by omega)
      obtain ⟨-, -, d1, d2, d3⟩ := wir_drop hi h (show k < i by omega)
      rw [vol_pos hv.all.tree (by omega)]
      generalize dropL (wirF ws i) (k + 1) = X at *
      generalize dropH (wirF ws i) (k + 1) = Y at *
      simp only
      have : ((par (wirF ws i) (k + 1) : Nat) : Int) ≤ (k : Int) := by omega
      omega
/-- a voltage is the difference, as layer 1 takes it -/
theorem wir_sub {ws : List Wr} {i k : Nat} (hi : i ≤ 10) (h : ∀ k, k < i → OkW (wr ws k)) (hk : k < i) :
    subS (vol 20000 20500 (wirF ws i) (par (wirF ws i) (k + 1))).1 (vol 20000 20500 (wirF ws i) (par (wirF ws i) (k + 1))).2 (dropL (wirF ws i) (k + 1)) (dropH (wirF ws i) (k + 1)) = ⟨(vol 20000 20500 (wirF ws i) (k + 1)).1, (vol 20000 20500 (wirF ws i) (k + 1)).2, 0⟩ := by
  have hv := wir_valid hi h
  have hp := hv.all.tree (k + 1) (by omega)
  have q := wir_vol hi h (par (wirF ws i) (k + 1)) (by omega)
  obtain ⟨-, -, d1, d2, d3⟩ := wir_drop hi h hk
  rw [vol_pos hv.all.tree (show 0 < k + 1 by omega)]
  have : ((par (wirF ws i) (k + 1) : Nat) : Int) ≤ 10 := by omega
  exact subS_in (by omega) q.2.1 (by omega) d1 d2 (by omega)
end Go.Proofs.Ytdohfpnnmppdkaa

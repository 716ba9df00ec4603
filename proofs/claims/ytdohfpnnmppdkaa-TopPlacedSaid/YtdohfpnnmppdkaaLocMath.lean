/-
  Cables: the common part of distances; probes (mathematics).
-/
import Derived.Test.YtdohfpnnmppdkaaTiMath
namespace Go.Proofs.Ytdohfpnnmppdkaa
noncomputable section
structure Ms where
  kd : Int
  v0 : Int
  v1 : Int
  b0 : Int
  b1 : Int
  deriving Inhabited
def ms (l : List Ms) (k : Nat) : Ms := l[k]?.getD default
def dsM (m : Ms) : R3 := dsS m.kd m.v0 m.v1 m.b0 m.b1
/-- the error of the first measurement that has one -/
def errL : List Ms → Int
  | [] => 0
  | m :: l => if (dsM m).e = 0 then errL l else (dsM m).e
theorem errL_zero {l : List Ms} : errL l = 0 ↔ ∀ m, m ∈ l → (dsM m).e = 0 := by
  induction l with
  | nil => simp [errL]
  | cons a l ih =>
    unfold errL
    split
    · rw [ih]; simp [*]
    · simp [*]
theorem errL_app_ok {l r : List Ms} (h : errL l = 0) : errL (l ++ r) = errL r := by
  induction l with
  | nil => rfl
  | cons a l ih =>
    unfold errL at h
    split at h
    · rename_i hz
      show (if (dsM a).e = 0 then errL (l ++ r) else (dsM a).e) = _
      rw [if_pos hz]; exact ih h
    · exact absurd h (by assumption)
theorem errL_first {l : List Ms} {k : Nat} (hk : k < l.length) (h0 : errL (l.take k) = 0) (h1 : (dsM (ms l k)).e ≠ 0) : errL l = (dsM (ms l k)).e := by
  have e : l = l.take k ++ (ms l k :: l.drop (k + 1)) := by
    rw [show ms l k = l[k] by simp [ms, hk], List.getElem_cons_drop, List.take_append_drop]
  have q : errL l = errL (l.take k ++ (ms l k :: l.drop (k + 1))) := congrArg errL e
  rw [q, errL_app_ok h0]
  unfold errL
  rw [if_neg h1]
theorem ms_take {l : List Ms} {k : Nat} (hk : k < l.length) : l.take (k + 1) = l.take k ++ [ms l k] := by
  rw [List.take_succ_eq_append_getElem hk]; simp [ms, hk]
theorem errL_step {l : List Ms} {k : Nat} (hk : k < l.length) (h0 : errL (l.take k) = 0) (h1 : (dsM (ms l k)).e = 0) : errL (l.take (k + 1)) = 0 := by
  rw [ms_take hk, errL_app_ok h0]; simp [errL, h1]
/-- the common part of distances -/
def comM (a : Int × Int) (m : Ms) : Int × Int := (max a.1 (dsM m).lo, min a.2 (dsM m).hi)
def comL (l : List Ms) : Int × Int := (l.tail).foldl comM ((dsM (ms l 0)).lo, (dsM (ms l 0)).hi)
def locR (l : List Ms) : R3 :=
  if l.length = 0 then ⟨0, 0, 5⟩ else if 32 < l.length then ⟨0, 0, 6⟩ else if errL l = 0 then (if (comL l).2 < (comL l).1 then ⟨0, 0, 16⟩ else ⟨(comL l).1, (comL l).2, 0⟩) else ⟨0, 0, errL l⟩
theorem com_lo (l : List Ms) : ∀ a : Int × Int, a.1 ≤ (l.foldl comM a).1 ∧ (l.foldl comM a).2 ≤ a.2 := by
  induction l with
  | nil => intro a; exact ⟨Int.le_refl _, Int.le_refl _⟩
  | cons m l ih =>
    intro a
    have q := ih (comM a m)
    rw [List.foldl_cons]
    unfold comM at q ⊢
    simp only at q ⊢
    omega
theorem com_iff (l : List Ms) : ∀ (a : Int × Int) (x : Int), ((l.foldl comM a).1 ≤ x ↔ a.1 ≤ x ∧ ∀ m, m ∈ l → (dsM m).lo ≤ x) ∧ (x ≤ (l.foldl comM a).2 ↔ x ≤ a.2 ∧ ∀ m, m ∈ l → x ≤ (dsM m).hi) := by
  induction l with
  | nil => intro a x; simp
  | cons m l ih =>
    intro a x
    obtain ⟨q1, q2⟩ := ih (comM a m) x
    rw [List.foldl_cons, q1, q2]
    unfold comM
    simp only [List.mem_cons, forall_eq_or_imp]
    constructor
    · constructor
      · rintro ⟨h1, h2⟩; exact ⟨by omega, by omega, h2⟩
      · rintro ⟨h1, h2, h3⟩; exact ⟨by omega, h3⟩
    · constructor
      · rintro ⟨h1, h2⟩; exact ⟨by omega, by omega, h2⟩
      · rintro ⟨h1, h2, h3⟩; exact ⟨by omega, h3⟩
theorem comL_iff {l : List Ms} (hl : 0 < l.length) (x : Int) : ((comL l).1 ≤ x ↔ ∀ m, m ∈ l → (dsM m).lo ≤ x) ∧ (x ≤ (comL l).2 ↔ ∀ m, m ∈ l → x ≤ (dsM m).hi) := by
  cases l with
  | nil => simp at hl
  | cons a l =>
    obtain ⟨q1, q2⟩ := com_iff l ((dsM a).lo, (dsM a).hi) x
    have e : comL (a :: l) = l.foldl comM ((dsM a).lo, (dsM a).hi) := rfl
    rw [e, q1, q2]
    simp
/-- the same measurements in another order, or some of them more than once, have the same common part -/
theorem comL_same {l r : List Ms} (hl : 0 < l.length) (h : ∀ m, m ∈ l ↔ m ∈ r) : comL l = comL r := by
  have hr : 0 < r.length := by
    cases l with
    | nil => simp at hl
    | cons a l => exact List.length_pos_of_mem ((h a).1 (by simp))
  have e1 : ∀ x, (comL l).1 ≤ x ↔ (comL r).1 ≤ x := fun x => by
    rw [(comL_iff hl x).1, (comL_iff hr x).1]
    exact ⟨fun q m hm => q m ((h m).2 hm), fun q m hm => q m ((h m).1 hm)⟩
  have e2 : ∀ x, x ≤ (comL l).2 ↔ x ≤ (comL r).2 := fun x => by
    rw [(comL_iff hl x).2, (comL_iff hr x).2]
    exact ⟨fun q m hm => q m ((h m).2 hm), fun q m hm => q m ((h m).1 hm)⟩
  have a1 := (e1 (comL r).1).2 (Int.le_refl _)
  have a2 := (e1 (comL l).1).1 (Int.le_refl _)
  have b1 := (e2 (comL l).2).1 (Int.le_refl _)
  have b2 := (e2 (comL r).2).2 (Int.le_refl _)
  exact Prod.ext (by omega) (by omega)
/-- the common part of the first spans -/
def comN (f : Nat → Int × Int) : Nat → Int × Int
  | 0 => f 0
  | k + 1 => (max (comN f k).1 (f (k + 1)).1, min (comN f k).2 (f (k + 1)).2)
theorem comN_mono (f : Nat → Int × Int) (k : Nat) : ∀ n, k ≤ n → (comN f k).1 ≤ (comN f n).1 ∧ (comN f n).2 ≤ (comN f k).2 := by
  intro n
  induction n with
  | zero => intro h; obtain rfl : k = 0 := by omega
            exact ⟨Int.le_refl _, Int.le_refl _⟩
  | succ n ih =>
    intro h
    by_cases e : k = n + 1
    · subst e; exact ⟨Int.le_refl _, Int.le_refl _⟩
    · have q := ih (by omega)
      simp only [comN]
      omega
def msF (l : List Ms) (k : Nat) : Int × Int := ((dsM (ms l k)).lo, (dsM (ms l k)).hi)
theorem comN_fold (l : List Ms) : ∀ k, k < l.length → comN (msF l) k = ((l.take (k + 1)).tail).foldl comM (msF l 0) := by
  intro k
  induction k with
  | zero =>
    intro h
    cases l with
    | nil => simp at h
    | cons a l => rfl
  | succ k ih =>
    intro h
    have e : (l.take (k + 1 + 1)).tail = (l.take (k + 1)).tail ++ [ms l (k + 1)] := by
      rw [ms_take (by omega), List.tail_append_of_ne_nil (by
        intro e
        have := congrArg List.length e
        rw [List.length_take] at this
        simp at this
        rw [this] at h; simp at h)]
    rw [e, List.foldl_append, ← ih (by omega)]
    rfl
theorem comN_all {l : List Ms} (h : 0 < l.length) : comN (msF l) (l.length - 1) = comL l := by
  rw [comN_fold l _ (by omega), show l.length - 1 + 1 = l.length by omega, List.take_length]
  rfl
theorem locR_def (l : List Ms) : locR l = (if l.length = 0 then ⟨0, 0, 5⟩ else if 32 < l.length then ⟨0, 0, 6⟩ else if errL l = 0 then (if (comL l).2 < (comL l).1 then ⟨0, 0, 16⟩ else ⟨(comL l).1, (comL l).2, 0⟩) else ⟨0, 0, errL l⟩) := rfl
/-- the fold that begins with all measurements -/
def comA (l : List Ms) (i : Nat) : Int × Int := (l.take i).foldl comM (msF l 0)
theorem comA_zero (l : List Ms) : comA l 0 = msF l 0 := rfl
theorem comA_succ {l : List Ms} {i : Nat} (hi : i < l.length) : comA l (i + 1) = (max (comA l i).1 (msF l i).1, min (comA l i).2 (msF l i).2) := by
  unfold comA
  rw [ms_take hi, List.foldl_append]
  rfl
theorem comA_all {l : List Ms} (h : 0 < l.length) : comA l l.length = comL l := by
  unfold comA
  rw [List.take_length]
  cases l with
  | nil => simp at h
  | cons a l =>
    rw [List.foldl_cons]
    have e : comM (msF (a :: l) 0) a = msF (a :: l) 0 := by
      show (max (dsM a).lo (dsM a).lo, min (dsM a).hi (dsM a).hi) = ((dsM a).lo, (dsM a).hi)
      rw [Int.max_self, Int.min_self]
    rw [e]
    rfl
theorem dsM_valid {m : Ms} (h : (dsM m).e = 0) : vB (dsM m).lo (dsM m).hi = true := by
  obtain ⟨h1, h2, h3⟩ := dsS_ok h
  have e : dsM m = _ := h3
  rw [e]
  exact h2
/-- what a probe measures: of the distance m, by p, with errors -/
def prK (kd : Int) : Int := 1 + kd % 3
def prBy (kd p m : Int) : Int := if kd % 3 = 0 then 1000 * (1 + p % 16) else if kd % 3 = 1 then 100 * (1 + p % 2) else m + p
def prVal (kd p m : Int) : Int := if kd % 3 = 0 then m * prBy kd p m / 1000 else if kd % 3 = 1 then m * 2000000 / prBy kd p m else p
def prLe (kd : Int) : Int := if kd % 3 = 2 then 0 else 1
def prMs (kd p e0 e1 e2 e3 m : Int) : Ms := ⟨prK kd, max 0 (prVal kd p m - e0), prVal kd p m + e1, max (prLe kd) (prBy kd p m - e2), prBy kd p m + e3⟩
theorem pr_in {kd p e0 e1 e2 e3 m : Int} (hp : 0 ≤ p) (h0 : 0 ≤ e0) (h1 : 0 ≤ e1) (h2 : 0 ≤ e2) (h3 : 0 ≤ e3) (hm : 0 ≤ m) (he : (dsM (prMs kd p e0 e1 e2 e3 m)).e = 0) :
    (dsM (prMs kd p e0 e1 e2 e3 m)).lo ≤ m ∧ m ≤ (dsM (prMs kd p e0 e1 e2 e3 m)).hi := by
  obtain ⟨_, _, hs⟩ := dsS_ok he
  have hs' : dsM (prMs kd p e0 e1 e2 e3 m) = _ := hs
  rw [hs']
  clear hs hs' he
  simp only [prMs]
  rcases (show kd % 3 = 0 ∨ kd % 3 = 1 ∨ kd % 3 = 2 by omega) with h | h | h
  · have ek : prK kd = 1 := by unfold prK; omega
    have ev : prVal kd p m = m * prBy kd p m / 1000 := by unfold prVal; rw [if_pos h]
    have eb : prBy kd p m = 1000 * (1 + p % 16) := by unfold prBy; rw [if_pos h]
    have el : prLe kd = 1 := by unfold prLe; rw [if_neg (by omega)]
    rw [ek, ev, eb, el]
    unfold dsQ
    rw [if_pos rfl]
    simp only
    have hq : 1 ≤ 1 + p % 16 := by omega
    generalize 1 + p % 16 = q at *
    have em : m * (1000 * q) / 1000 = m * q := by
      rw [show m * (1000 * q) = 1000 * (m * q) by rw [← Int.mul_assoc, Int.mul_comm m 1000, Int.mul_assoc]]
      exact Int.mul_ediv_cancel_left _ (by decide)
    rw [em]
    have hmq : 0 ≤ m * q := Int.mul_nonneg hm (by omega)
    constructor
    · refine Int.le_trans (Int.ediv_le_ediv (by omega) (show 1000 * max 0 (m * q - e0) ≤ m * (1000 * q + e3) from ?_)) ?_
      · have a1 : m * (1000 * q + e3) = 1000 * (m * q) + m * e3 := by
          rw [Int.mul_add, ← Int.mul_assoc, Int.mul_comm m 1000, Int.mul_assoc]
        have a2 : 0 ≤ m * e3 := Int.mul_nonneg hm h3
        omega
      · rw [Int.mul_ediv_cancel _ (by omega)]
        exact Int.le_refl _
    · have hb : 1 ≤ max 1 (1000 * q - e2) := by omega
      have hb2 : max 1 (1000 * q - e2) ≤ 1000 * q := by omega
      generalize max 1 (1000 * q - e2) = b at *
      refine Int.le_ediv_of_mul_le (by omega) ?_
      have a1 : m * b ≤ m * (1000 * q) := Int.mul_le_mul_of_nonneg_left hb2 hm
      have a2 : m * (1000 * q) = 1000 * (m * q) := by rw [← Int.mul_assoc, Int.mul_comm m 1000, Int.mul_assoc]
      omega
  · have ek : prK kd = 2 := by unfold prK; omega
    have ev : prVal kd p m = m * 2000000 / prBy kd p m := by unfold prVal; rw [if_neg (by omega), if_pos h]
    have eb : prBy kd p m = 100 * (1 + p % 2) := by unfold prBy; rw [if_neg (by omega), if_pos h]
    have el : prLe kd = 1 := by unfold prLe; rw [if_neg (by omega)]
    rw [ek, ev, eb, el]
    unfold dsQ
    rw [if_neg (by decide), if_pos rfl]
    simp only
    have hV : m * 2000000 / (100 * (1 + p % 2)) * (100 * (1 + p % 2)) = m * 2000000 := by
      rcases (show p % 2 = 0 ∨ p % 2 = 1 by omega) with h | h <;> rw [h] <;> omega
    have hB : 0 ≤ 100 * (1 + p % 2) := by omega
    have hV0 : 0 ≤ m * 2000000 / (100 * (1 + p % 2)) := Int.ediv_nonneg (by omega) hB
    have hB1 : 1 ≤ 100 * (1 + p % 2) := by omega
    generalize m * 2000000 / (100 * (1 + p % 2)) = V at *
    generalize 100 * (1 + p % 2) = B at *
    constructor
    · have a : max 0 (V - e0) * max 1 (B - e2) ≤ V * B := Int.mul_le_mul (by omega) (by omega) (by omega) hV0
      generalize max 0 (V - e0) * max 1 (B - e2) = X at *
      omega
    · have a : V * B ≤ (V + e1) * (B + e3) := Int.mul_le_mul (by omega) (by omega) (by omega) (by omega)
      generalize (V + e1) * (B + e3) = X at *
      omega
  · have ek : prK kd = 3 := by unfold prK; omega
    have ev : prVal kd p m = p := by unfold prVal; rw [if_neg (by omega), if_neg (by omega)]
    have eb : prBy kd p m = m + p := by unfold prBy; rw [if_neg (by omega), if_neg (by omega)]
    have el : prLe kd = 0 := by unfold prLe; rw [if_pos h]
    rw [ek, ev, eb, el]
    unfold dsQ
    rw [if_neg (by decide), if_neg (by decide)]
    simp only
    omega
end
end Go.Proofs.Ytdohfpnnmppdkaa

/-
  Cables: sums over children (mathematics).
-/
import Derived.Test.YtdohfpnnmppdkaaCbC
namespace Go.Proofs.Ytdohfpnnmppdkaa
open Go.RowKit Go.Shelf
set_option linter.unusedSimpArgs false
theorem sm_ext {f g : Nat → Int} {p q : Nat → Bool} : ∀ n, (∀ i, i < n → f i = g i ∧ p i = q i) → sm f p n = sm g q n := by
  intro n
  induction n with
  | zero => intro _; rfl
  | succ n ih =>
    intro h
    simp only [sm]
    rw [ih fun i hi => h i (by omega), (h n (by omega)).1, (h n (by omega)).2]
theorem sm_yes {f : Nat → Int} {p : Nat → Bool} {n : Nat} (h : p n = true) : sm f p (n + 1) = sm f p n + f n := by
  simp only [sm]
  rw [if_pos h]
theorem sm_no {f : Nat → Int} {p : Nat → Bool} {n : Nat} (h : p n = false) : sm f p (n + 1) = sm f p n := by
  simp only [sm]
  rw [h]
  simp
theorem sm_add (f g : Nat → Int) (p : Nat → Bool) (n : Nat) : sm (fun i => f i + g i) p n = sm f p n + sm g p n := by
  induction n with
  | zero => rfl
  | succ n ih => simp only [sm]; rw [ih]; split <;> omega
theorem sm_off {f : Nat → Int} {p : Nat → Bool} : ∀ n, (∀ i, i < n → p i = false) → sm f p n = 0 := by
  intro n
  induction n with
  | zero => intro _; rfl
  | succ n ih =>
    intro h
    simp only [sm]
    rw [ih fun i hi => h i (by omega), h n (by omega)]
    simp
theorem sm_if (f : Nat → Int) (p : Nat → Bool) (n : Nat) : sm f p n = sm (fun i => if p i = true then f i else 0) (fun _ => true) n := by
  induction n with
  | zero => rfl
  | succ n ih => simp only [sm]; rw [ih]; simp
theorem sm_one {f : Nat → Int} {p : Nat → Bool} {k : Nat} : ∀ n, (∀ i, i < n → p i = true → i = k) → p k = true → sm f p n = if k < n then f k else 0 := by
  intro n
  induction n with
  | zero => intro _ _; rfl
  | succ n ih =>
    intro h hk
    simp only [sm]
    rw [ih (fun i hi => h i (by omega)) hk]
    by_cases e : p n = true
    · have e1 := h n (by omega) e
      subst e1
      rw [if_neg (Nat.lt_irrefl _), if_pos e, if_pos (Nat.lt_succ_self _)]
      omega
    · rw [if_neg e]
      have e1 : n ≠ k := fun q => e (q ▸ hk)
      by_cases h2 : k < n
      · rw [if_pos h2, if_pos (by omega)]; omega
      · rw [if_neg h2, if_neg (by omega)]; omega
theorem sm_swap (f : Nat → Int) (c : Nat → Bool) (q : Nat → Nat → Bool) (n m : Nat) : sm (fun j => sm f (q j) n) c m = sm (fun i => f i * sm (fun _ => 1) (fun j => c j && q j i) m) (fun _ => true) n := by
  induction m with
  | zero =>
    simp only [sm]
    rw [sm_ext (g := fun _ => 0) (q := fun _ => true) n (fun i _ => ⟨by simp, rfl⟩)]
    induction n with
    | zero => rfl
    | succ n ih => simp only [sm]; rw [← ih]; simp
  | succ m ih =>
    simp only [sm]
    rw [ih]
    by_cases hc : c m = true
    · rw [if_pos hc, sm_if f (q m) n, ← sm_add]
      refine sm_ext n fun i _ => ⟨?_, rfl⟩
      rw [hc, Bool.true_and]
      split
      · rw [Int.mul_add]; simp
      · simp
    · rw [if_neg hc]
      have hc' : c m = false := by simpa using hc
      rw [Int.add_zero]
      refine sm_ext n fun i _ => ⟨?_, rfl⟩
      rw [hc', Bool.false_and]
      simp
/-- a sum over a subtree: the root's, and those of the subtrees of its children -/
theorem child_sum {P : Nat → Nat} (hP : Tree P) (f : Nat → Int) {n k : Nat} (hk : k < n) :
    sm f (fun i => decide (k ∈ pth P i)) n = f k + sm (fun j => sm f (fun i => decide (j ∈ pth P i)) n) (fun j => decide (0 < j ∧ P j = k)) n := by
  have h1 : f k = sm f (fun i => decide (i = k)) n := by
    rw [sm_one (k := k) n (fun i _ h => of_decide_eq_true h) (by simp), if_pos hk]
  rw [sm_swap f (fun j => decide (0 < j ∧ P j = k)) (fun j i => decide (j ∈ pth P i)) n n, sm_if f (fun i => decide (k ∈ pth P i)) n]
  conv => rhs; rw [h1, sm_if f (fun i => decide (i = k)) n, ← sm_add]
  refine sm_ext n fun i hi => ⟨?_, rfl⟩
  by_cases hm : k ∈ pth P i
  · by_cases e : i = k
    · subst e
      rw [sm_off n (fun j _ => ?_)]
      · simp [self_mem]
      · rw [Bool.and_eq_false_iff]
        by_cases hj : 0 < j ∧ P j = i
        · refine .inr (decide_eq_false fun h => ?_)
          have := mem_le hP _ _ h
          have := hP j hj.1
          omega
        · exact .inl (decide_eq_false hj)
    · obtain ⟨j, h0, h2, h3⟩ := child_on hP i k hm (fun q => e q.symm)
      have hjn : j < n := by have := mem_le hP _ _ h3; omega
      rw [sm_one (k := j) n (fun x _ hx => ?_) (by simp [h0, h2, h3]), if_pos hjn]
      · simp [hm, e]
      · simp only [Bool.and_eq_true, decide_eq_true_iff] at hx
        obtain ⟨⟨g0, g1⟩, g2⟩ := hx
        rcases Nat.le_total x j with hle | hle
        · rcases (mem_pos hP h0).1 (pth_line hP i x j g2 h3 hle) with q | q
          · exact q
          · have := mem_le hP _ _ q
            have := hP x g0
            omega
        · rcases (mem_pos hP g0).1 (pth_line hP i j x h3 g2 hle) with q | q
          · exact q.symm
          · have := mem_le hP _ _ q
            have := hP j h0
            omega
  · have e : i ≠ k := fun q => hm (q ▸ self_mem _ _)
    rw [sm_off n (fun j _ => ?_)]
    · simp [hm, e]
    · rw [Bool.and_eq_false_iff]
      by_cases hj : 0 < j ∧ P j = k
      · refine .inr (decide_eq_false fun h => hm ?_)
        exact pth_trans hP i j k h ((mem_pos hP hj.1).2 (.inr (by rw [hj.2]; exact self_mem _ _)))
      · exact .inl (decide_eq_false hj)
theorem sm_nonneg {f : Nat → Int} {p : Nat → Bool} : ∀ n, (∀ i, i < n → 0 ≤ f i) → 0 ≤ sm f p n := by
  intro n
  induction n with
  | zero => intro _; exact Int.le_refl _
  | succ n ih =>
    intro h
    have := ih fun i hi => h i (by omega)
    have := h n (by omega)
    simp only [sm]
    split <;> omega
theorem sm_mono {f : Nat → Int} {p : Nat → Bool} {n : Nat} (h : ∀ i, i < n → 0 ≤ f i) : ∀ m, m ≤ n → sm f p m ≤ sm f p n := by
  induction n with
  | zero => intro m hm; obtain rfl : m = 0 := by omega
            exact Int.le_refl _
  | succ n ih =>
    intro m hm
    by_cases e : m = n + 1
    · subst e; exact Int.le_refl _
    · have := ih (fun i hi => h i (by omega)) m (by omega)
      have := h n (by omega)
      simp only [sm]
      split <;> omega
theorem sm_le {f g : Nat → Int} {p : Nat → Bool} : ∀ n, (∀ i, i < n → f i ≤ g i) → sm f p n ≤ sm g p n := by
  intro n
  induction n with
  | zero => intro _; exact Int.le_refl _
  | succ n ih =>
    intro h
    have := ih fun i hi => h i (by omega)
    have := h n (by omega)
    simp only [sm]
    split <;> omega
/-- the currents that lead on from a node by its children before j, with its own load -/
def kirL (ns : List Nd) (k j : Nat) : Int := (nd ns k).ll + sm (curL ns) (fun i => decide (0 < i ∧ par ns i = k)) j
def kirH (ns : List Nd) (k j : Nat) : Int := (nd ns k).lh + sm (curH ns) (fun i => decide (0 < i ∧ par ns i = k)) j
theorem kir_all {ns : List Nd} (h : AllN ns) {k : Nat} (hk : k < ns.length) : kirL ns k ns.length = curL ns k ∧ kirH ns k ns.length = curH ns k :=
  ⟨(child_sum h.tree (fun i => (nd ns i).ll) hk).symm, (child_sum h.tree (fun i => (nd ns i).lh) hk).symm⟩
theorem kir_own {ns : List Nd} (h : AllN ns) {k j : Nat} (hj : j ≤ k + 1) : kirL ns k j = (nd ns k).ll ∧ kirH ns k j = (nd ns k).lh := by
  have e : ∀ i, i < j → decide (0 < i ∧ par ns i = k) = false := fun i hi => decide_eq_false fun q => by
    have := h.tree i q.1
    omega
  unfold kirL kirH
  rw [sm_off j e, sm_off j e]
  omega
theorem kir_yes {ns : List Nd} {k j : Nat} (h0 : 0 < j) (h : par ns j = k) : kirL ns k (j + 1) = kirL ns k j + curL ns j ∧ kirH ns k (j + 1) = kirH ns k j + curH ns j := by
  unfold kirL kirH
  rw [sm_yes (decide_eq_true ⟨h0, h⟩), sm_yes (decide_eq_true ⟨h0, h⟩)]
  omega
theorem kir_no {ns : List Nd} {k j : Nat} (h : ¬ par ns j = k) : kirL ns k (j + 1) = kirL ns k j ∧ kirH ns k (j + 1) = kirH ns k j := by
  unfold kirL kirH
  rw [sm_no (decide_eq_false fun q => h q.2), sm_no (decide_eq_false fun q => h q.2)]
  omega
theorem kir_bd {sl sh : Int} {ns : List Nd} (hv : ValidC sl sh ns) {k j : Nat} (hk : k < ns.length) (hj : j ≤ ns.length) : 0 ≤ kirL ns k j ∧ kirL ns k j ≤ kirH ns k j ∧ kirH ns k j ≤ 3932160 := by
  have hn := (hv.all.node hk).2.2.1
  have hc : ∀ i, i < ns.length → 0 ≤ curL ns i ∧ 0 ≤ curH ns i ∧ curL ns i ≤ curH ns i := fun i hi => by
    obtain ⟨a, b, c, -⟩ := drop_bd hv hi
    exact ⟨a.1, b.1, c⟩
  have h1 := sm_nonneg (f := curL ns) (p := fun i => decide (0 < i ∧ par ns i = k)) j (fun i hi => (hc i (by omega)).1)
  have h2 := sm_le (p := fun i => decide (0 < i ∧ par ns i = k)) j (fun i hi => (hc i (by omega)).2.2)
  have h3 := sm_mono (f := curH ns) (p := fun i => decide (0 < i ∧ par ns i = k)) (n := ns.length) (fun i hi => (hc i hi).2.1) j hj
  have h4 := (kir_all hv.all hk).2
  have h5 := (drop_bd hv hk).2.1.2
  unfold kirL kirH at *
  omega
end Go.Proofs.Ytdohfpnnmppdkaa

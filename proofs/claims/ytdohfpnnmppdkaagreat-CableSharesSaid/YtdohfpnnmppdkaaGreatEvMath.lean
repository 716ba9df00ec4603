/-
  Cables: true currents and voltages (mathematics).
-/
import Derived.Test.YtdohfpnnmppdkaaGreatCbT
import Derived.Test.YtdohfpnnmppdkaaGreatCbK
namespace Go.Proofs.YtdohfpnnmppdkaaGreat
open Go.RowKit Go.Shelf
set_option linter.unusedSimpArgs false
/-- a number of a span by a part of 255 -/
def pickV (lo hi p : Int) : Int := lo + (hi - lo) * p / 255
theorem pickV_in {lo hi p : Int} (h : lo ≤ hi) (h0 : 0 ≤ p) (h1 : p ≤ 255) : lo ≤ pickV lo hi p ∧ pickV lo hi p ≤ hi := by
  unfold pickV
  have h2 : 0 ≤ (hi - lo) * p := Int.mul_nonneg (by omega) h0
  have h3 : (hi - lo) * p ≤ (hi - lo) * 255 := Int.mul_le_mul_of_nonneg_left h1 (by omega)
  omega
/-- the part that a list gives -/
def atV (zs : List Int) (i : Nat) : Int := if i < zs.length then ti zs i else 0
def Byt (zs : List Int) : Prop := ∀ i, i < zs.length → 0 ≤ ti zs i ∧ ti zs i ≤ 255
theorem atV_in {zs : List Int} (h : Byt zs) (i : Nat) : 0 ≤ atV zs i ∧ atV zs i ≤ 255 := by
  unfold atV
  split
  · exact h i (by assumption)
  · omega
/-- the true load of a node, the true current of its segment, the true resistance -/
def loT (ns : List Nd) (ls : List Int) (k : Nat) : Int := pickV (nd ns k).ll (nd ns k).lh (atV ls k)
def reT (ns : List Nd) (os : List Int) (k : Nat) : Int := pickV (nd ns k).ol (nd ns k).oh (atV os k)
def flT (ns : List Nd) (ls : List Int) (k : Nat) : Int := sm (loT ns ls) (fun i => decide (k ∈ pth (par ns) i)) ns.length
theorem loT_in {ns : List Nd} {ls : List Int} (hv : AllN ns) (hb : Byt ls) {k : Nat} (hk : k < ns.length) : (nd ns k).ll ≤ loT ns ls k ∧ loT ns ls k ≤ (nd ns k).lh ∧ 0 ≤ (nd ns k).ll ∧ (nd ns k).lh ≤ 65536 := by
  have h := (hv.node hk).2.2.1
  have q := pickV_in h.1 (atV_in hb k).1 (atV_in hb k).2
  exact ⟨q.1, q.2, h.2.1, h.2.2⟩
theorem reT_in {ns : List Nd} {os : List Int} (hv : AllN ns) (hb : Byt os) {k : Nat} (hk : k < ns.length) : (nd ns k).ol ≤ reT ns os k ∧ reT ns os k ≤ (nd ns k).oh ∧ 0 ≤ (nd ns k).ol ∧ (nd ns k).oh ≤ 16777216 := by
  have h := (hv.node hk).1
  have q := pickV_in h.1 (atV_in hb k).1 (atV_in hb k).2
  exact ⟨q.1, q.2, h.2.1, h.2.2⟩
theorem flT_in {ns : List Nd} {ls : List Int} (hv : AllN ns) (hb : Byt ls) (k : Nat) : curL ns k ≤ flT ns ls k ∧ flT ns ls k ≤ curH ns k :=
  ⟨sm_le _ fun _ hi => (loT_in hv hb hi).1, sm_le _ fun _ hi => (loT_in hv hb hi).2.1⟩
/-- what flows into a node by those of its children that are not before m -/
def chT (ns : List Nd) (ls : List Int) (m j : Nat) : Int := sm (flT ns ls) (fun i => decide (m ≤ i ∧ 0 < i ∧ par ns i = j)) ns.length
theorem sm_sub {f : Nat → Int} {p q : Nat → Bool} : ∀ n, (∀ i, i < n → 0 ≤ f i) → (∀ i, i < n → p i = true → q i = true) → sm f p n ≤ sm f q n := by
  intro n
  induction n with
  | zero => intro _ _; exact Int.le_refl _
  | succ n ih =>
    intro h g
    have h1 := ih (fun i hi => h i (by omega)) (fun i hi => g i (by omega))
    have h2 := h n (by omega)
    have h3 := g n (by omega)
    simp only [sm]
    split
    · rw [if_pos (h3 (by assumption))]; omega
    · split <;> omega
theorem flT_nonneg {ns : List Nd} {ls : List Int} (hv : AllN ns) (hb : Byt ls) (k : Nat) : 0 ≤ flT ns ls k :=
  sm_nonneg _ fun i hi => by have := loT_in hv hb hi; omega
theorem flT_own {ns : List Nd} {ls : List Int} (hv : AllN ns) {k m : Nat} (hk : k < ns.length) (hm : m ≤ k + 1) : flT ns ls k = chT ns ls m k + loT ns ls k := by
  have e := child_sum hv.tree (loT ns ls) hk
  have e2 : chT ns ls m k = sm (fun j => sm (loT ns ls) (fun i => decide (j ∈ pth (par ns) i)) ns.length) (fun j => decide (0 < j ∧ par ns j = k)) ns.length :=
    sm_ext _ fun i hi => ⟨rfl, by
      rw [decide_eq_decide]
      constructor
      · exact fun h => h.2
      · intro h
        have := hv.tree i h.1
        exact ⟨by omega, h⟩⟩
  show sm (loT ns ls) _ _ = _
  rw [e, e2]
  omega
theorem chT_in {ns : List Nd} {ls : List Int} (hv : AllN ns) (hb : Byt ls) {j : Nat} (hj : j < ns.length) (m : Nat) : 0 ≤ chT ns ls m j ∧ chT ns ls m j ≤ flT ns ls j := by
  refine ⟨sm_nonneg _ fun i _ => flT_nonneg hv hb i, ?_⟩
  have e := flT_own (ls := ls) hv hj (Nat.zero_le _)
  have h : chT ns ls m j ≤ chT ns ls 0 j := sm_sub _ (fun i _ => flT_nonneg hv hb i) (fun i _ h => by
    rw [decide_eq_true_iff] at h ⊢
    exact ⟨Nat.zero_le _, h.2⟩)
  have := loT_in hv hb hj
  omega
theorem chT_step {ns : List Nd} {ls : List Int} {k j : Nat} (hk : k < ns.length) : chT ns ls k j = chT ns ls (k + 1) j + (if 0 < k ∧ par ns k = j then flT ns ls k else 0) := by
  have h1 : chT ns ls k j = sm (fun i => (if decide (k + 1 ≤ i ∧ 0 < i ∧ par ns i = j) = true then flT ns ls i else 0) + (if decide (i = k ∧ 0 < k ∧ par ns k = j) = true then flT ns ls i else 0)) (fun _ => true) ns.length := by
    unfold chT
    rw [sm_if]
    refine sm_ext _ fun i _ => ⟨?_, rfl⟩
    simp only [decide_eq_true_iff]
    by_cases e : i = k
    · subst e
      rw [if_neg (show ¬ (i + 1 ≤ i ∧ 0 < i ∧ par ns i = j) from fun h => by omega)]
      simp
    · rw [if_neg (show ¬ (i = k ∧ 0 < k ∧ par ns k = j) from fun h => e h.1)]
      by_cases h : k ≤ i ∧ 0 < i ∧ par ns i = j
      · rw [if_pos h, if_pos ⟨by omega, h.2⟩]; omega
      · rw [if_neg h, if_neg (fun q => h ⟨by omega, q.2⟩)]; omega
  rw [h1, sm_add, ← sm_if, ← sm_if]
  congr 1
  by_cases h : 0 < k ∧ par ns k = j
  · rw [if_pos h, sm_one (k := k) _ (fun i _ hi => (of_decide_eq_true hi).1) (decide_eq_true ⟨rfl, h⟩), if_pos hk]
  · rw [if_neg h, sm_off _ (fun i _ => decide_eq_false fun q => h q.2)]
/-- the row of currents, when those from m on are done -/
def gF (ns : List Nd) (ls : List Int) (m j : Nat) : Int := if m ≤ j then flT ns ls j else chT ns ls m j
theorem gF_start {ns : List Nd} {ls : List Int} {j : Nat} (hj : j < ns.length) : gF ns ls ns.length j = 0 := by
  unfold gF chT
  rw [if_neg (by omega), sm_off _ fun i hi => decide_eq_false fun q => by omega]
theorem gF_last {ns : List Nd} {ls : List Int} (j : Nat) : gF ns ls 0 j = flT ns ls j := by unfold gF; rw [if_pos (Nat.zero_le _)]
theorem gF_own {ns : List Nd} {ls : List Int} (hv : AllN ns) {k : Nat} (hk : k < ns.length) : gF ns ls (k + 1) k + loT ns ls k = flT ns ls k := by
  unfold gF
  rw [if_neg (by omega), flT_own hv hk (Nat.le_refl _)]
theorem gF_bd {ns : List Nd} {ls : List Int} (hv : AllN ns) (hb : Byt ls) {j : Nat} (hj : j < ns.length) (m : Nat) : 0 ≤ gF ns ls m j ∧ gF ns ls m j ≤ flT ns ls j := by
  unfold gF
  split
  · exact ⟨flT_nonneg hv hb j, Int.le_refl _⟩
  · exact chT_in hv hb hj m
/-- behind the step of the node k -/
theorem gF_step {ns : List Nd} {ls : List Int} {k : Nat} (hk : k < ns.length) (h0 : 0 < k) (hP : par ns k < k) (j : Nat) :
    gF ns ls k j = if j = par ns k then gF ns ls (k + 1) (par ns k) + flT ns ls k else if j = k then flT ns ls k else gF ns ls (k + 1) j := by
  have hs := chT_step (ls := ls) (j := j) hk
  by_cases e : j = par ns k
  · rw [if_pos e]
    subst e
    unfold gF
    rw [if_neg (by omega), if_neg (by omega), hs, if_pos ⟨h0, rfl⟩]
  · rw [if_neg e]
    rw [if_neg (show ¬ (0 < k ∧ par ns k = j) from fun q => e q.2.symm)] at hs
    unfold gF
    by_cases e2 : j = k
    · rw [if_pos e2, if_pos (by omega), e2]
    · rw [if_neg e2]
      by_cases h : k ≤ j
      · rw [if_pos h, if_pos (by omega)]
      · rw [if_neg h, if_neg (by omega), hs]; omega
theorem gF_zero {ns : List Nd} {ls : List Int} (j : Nat) : gF ns ls 0 j = if j = 0 then flT ns ls 0 else gF ns ls 1 j := by
  unfold gF
  by_cases e : j = 0
  · subst e; simp
  · rw [if_pos (Nat.zero_le _), if_neg e, if_pos (by omega)]
/-- 1,000 times the true voltage -/
def voTF (s : Int) (ns : List Nd) (ls os : List Int) : Nat → Nat → Int
  | 0, _ => 0
  | f + 1, k => if k = 0 then 1000 * s else voTF s ns ls os f (par ns k) - flT ns ls k * reT ns os k
def voT (s : Int) (ns : List Nd) (ls os : List Int) (k : Nat) : Int := voTF s ns ls os (k + 1) k
theorem voTF_fuel {s : Int} {ns : List Nd} {ls os : List Int} (hP : Tree (par ns)) : ∀ (k f g : Nat), k < f → k < g → voTF s ns ls os f k = voTF s ns ls os g k := by
  intro k
  induction k using Nat.strongRecOn with
  | ind k ih =>
    intro f g hf hg
    obtain ⟨f, rfl⟩ : ∃ f', f = f' + 1 := ⟨f - 1, by omega⟩
    obtain ⟨g, rfl⟩ : ∃ g', g = g' + 1 := ⟨g - 1, by omega⟩
    simp only [voTF]
    by_cases h : k = 0
    · simp [h]
    · have := hP k (by omega)
      rw [if_neg h, if_neg h, ih (par ns k) this f g (by omega) (by omega)]
theorem voT_zero (s : Int) (ns : List Nd) (ls os : List Int) : voT s ns ls os 0 = 1000 * s := by simp [voT, voTF]
theorem voT_pos {s : Int} {ns : List Nd} {ls os : List Int} (hP : Tree (par ns)) {k : Nat} (hk : 0 < k) : voT s ns ls os k = voT s ns ls os (par ns k) - flT ns ls k * reT ns os k := by
  have h := hP k hk
  have e : voT s ns ls os (par ns k) = voTF s ns ls os k (par ns k) := voTF_fuel hP _ _ _ (by omega) h
  rw [e]
  unfold voT
  simp only [voTF]
  rw [if_neg (by omega)]
theorem fl_re {sl sh : Int} {ns : List Nd} {ls os : List Int} (hv : ValidC sl sh ns) (hb : Byt ls) (ho : Byt os) {k : Nat} (hk : k < ns.length) :
    curL ns k * (nd ns k).ol ≤ flT ns ls k * reT ns os k ∧ flT ns ls k * reT ns os k ≤ curH ns k * (nd ns k).oh ∧ 0 ≤ flT ns ls k * reT ns os k ∧ flT ns ls k * reT ns os k ≤ 65970697666560 := by
  have h1 := flT_in hv.all hb k
  have h2 := reT_in hv.all ho hk
  have h3 := drop_bd hv hk
  have a := Int.mul_le_mul h1.1 h2.1 h2.2.2.1 (flT_nonneg hv.all hb k)
  have b := Int.mul_le_mul h1.2 h2.2.1 (by omega) h3.2.1.1
  have c := Int.mul_nonneg (flT_nonneg hv.all hb k) (show 0 ≤ reT ns os k by omega)
  exact ⟨a, b, c, Int.le_trans b h3.2.2.2.2.2.1.2⟩
/-- the true voltages lie in their spans -/
theorem voT_in {sl sh s : Int} {ns : List Nd} {ls os : List Int} (hv : ValidC sl sh ns) (hb : Byt ls) (ho : Byt os) (hs : sl ≤ s ∧ s ≤ sh) : ∀ k, k < ns.length → 1000 * (vol sl sh ns k).1 ≤ voT s ns ls os k ∧ voT s ns ls os k ≤ 1000 * (vol sl sh ns k).2 := by
  intro k
  induction k using Nat.strongRecOn with
  | ind k ih =>
    intro hk
    by_cases h0 : k = 0
    · subst h0
      rw [vol_zero, voT_zero]
      omega
    · have hp := hv.all.tree k (by omega)
      have q := ih (par ns k) hp (by omega)
      have g := fl_re hv hb ho hk
      rw [vol_pos hv.all.tree (by omega), voT_pos hv.all.tree (by omega)]
      unfold dropL dropH
      dsimp only
      generalize flT ns ls k * reT ns os k = x at *
      generalize curL ns k * (nd ns k).ol = y at *
      generalize curH ns k * (nd ns k).oh = z at *
      omega
end Go.Proofs.YtdohfpnnmppdkaaGreat

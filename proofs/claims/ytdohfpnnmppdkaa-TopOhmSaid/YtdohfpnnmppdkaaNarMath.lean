/-
  Cables: narrower loads, resistances and supply (mathematics).
-/
import Derived.Test.YtdohfpnnmppdkaaCbT
import Derived.Test.YtdohfpnnmppdkaaCblVal
namespace Go.Proofs.Ytdohfpnnmppdkaa
/-- the same cable with narrower loads and resistances -/
structure Nar (ns ds : List Nd) : Prop where
  len : ds.length = ns.length
  eqs : ∀ k, k < ns.length → (nd ds k).par = (nd ns k).par ∧ (nd ds k).lim = (nd ns k).lim ∧ (nd ds k).lea = (nd ns k).lea ∧ (nd ds k).del = (nd ns k).del
  ll : ∀ k, k < ns.length → (nd ns k).ll ≤ (nd ds k).ll
  lo : ∀ k, k < ns.length → (nd ds k).ll ≤ (nd ds k).lh
  lh : ∀ k, k < ns.length → (nd ds k).lh ≤ (nd ns k).lh
  ol : ∀ k, k < ns.length → (nd ns k).ol ≤ (nd ds k).ol
  oo : ∀ k, k < ns.length → (nd ds k).ol ≤ (nd ds k).oh
  oh : ∀ k, k < ns.length → (nd ds k).oh ≤ (nd ns k).oh
theorem Nar.par {ns ds : List Nd} (h : Nar ns ds) : par ds = par ns := by
  funext k
  unfold Go.Proofs.Ytdohfpnnmppdkaa.par
  rw [h.len]
  split
  · rw [(h.eqs k (by assumption)).1]
  · rfl
theorem Nar.all {ns ds : List Nd} (h : Nar ns ds) (hv : AllN ns) : AllN ds := by
  intro k hk
  rw [h.len] at hk
  obtain ⟨e1, e2, e3, e4⟩ := h.eqs k hk
  have a1 := h.ll k hk
  have a2 := h.lo k hk
  have a3 := h.lh k hk
  have b1 := h.ol k hk
  have b2 := h.oo k hk
  have b3 := h.oh k hk
  have hj := of_decide_eq_true (hv k hk).1
  obtain ⟨n1, n2, n3, n4, n5⟩ := hv.node hk
  constructor
  · refine decide_eq_true ?_
    unfold JoinP at hj ⊢
    by_cases h0 : k = 0
    · rw [if_pos h0] at hj ⊢
      omega
    · rw [if_neg h0] at hj ⊢
      omega
  · refine decide_eq_true ?_
    unfold NodeP
    omega
theorem Nar.valid {ns ds : List Nd} (h : Nar ns ds) {sl sh tl th : Int} (hv : ValidC sl sh ns) (h1 : sl ≤ tl) (h2 : tl ≤ th) (h3 : th ≤ sh) : ValidC tl th ds :=
  ⟨by rw [h.len]; exact hv.pos, by rw [h.len]; exact hv.len, by have := hv.sup; omega, h.all hv.all⟩
theorem Nar.cur {ns ds : List Nd} (h : Nar ns ds) (k : Nat) : curL ns k ≤ curL ds k ∧ curH ds k ≤ curH ns k := by
  unfold curL curH
  rw [h.par, h.len]
  exact ⟨sm_le _ fun i hi => h.ll i hi, sm_le _ fun i hi => h.lh i hi⟩
theorem Nar.drop {ns ds : List Nd} (h : Nar ns ds) {sl sh tl th : Int} (hv : ValidC sl sh ns) (hd : ValidC tl th ds) {k : Nat} (hk : k < ns.length) : dropL ns k ≤ dropL ds k ∧ dropH ds k ≤ dropH ns k := by
  obtain ⟨c1, c2⟩ := h.cur k
  obtain ⟨a1, a2, a3, a4, a5, a6, a7, a8, a9, a10⟩ := drop_bd hv hk
  obtain ⟨d1, d2, d3, d4, d5, d6, d7, d8, d9, d10⟩ := drop_bd hd (k := k) (by rw [h.len]; exact hk)
  have m1 := Int.mul_le_mul c1 (h.ol k hk) a4.1 d1.1
  have m2 := Int.mul_le_mul c2 (h.oh k hk) (by omega) a2.1
  unfold dropL dropH
  generalize curL ns k * (nd ns k).ol = X at *
  generalize curL ds k * (nd ds k).ol = Y at *
  generalize curH ns k * (nd ns k).oh = Z at *
  generalize curH ds k * (nd ds k).oh = U at *
  constructor <;> omega
theorem Nar.vol {ns ds : List Nd} (h : Nar ns ds) {sl sh tl th : Int} (hv : ValidC sl sh ns) (hd : ValidC tl th ds) (h1 : sl ≤ tl) (h3 : th ≤ sh) : ∀ k, k < ns.length → (vol sl sh ns k).1 ≤ (vol tl th ds k).1 ∧ (vol tl th ds k).2 ≤ (vol sl sh ns k).2 := by
  intro k
  induction k using Nat.strongRecOn with
  | ind k ih =>
    intro hk
    by_cases h0 : k = 0
    · subst h0
      rw [vol_zero, vol_zero]
      exact ⟨h1, h3⟩
    · have hp := hv.all.tree k (by omega)
      have q := ih _ hp (by omega)
      obtain ⟨d1, d2⟩ := h.drop hv hd hk
      rw [vol_pos hv.all.tree (by omega), vol_pos hd.all.tree (by omega), h.par]
      simp only
      omega
/-- an answer: certain, possible, or neither -/
def ansV (c p : Bool) : Int := if c = true then 2 else if p = true then 1 else 0
def ansW (ns : List Nd) (k : Nat) : Int := ansV (decide (curH ns k ≤ (nd ns k).lim)) (decide (curL ns k ≤ (nd ns k).lim))
def ansF (sl sh : Int) (ns : List Nd) (k : Nat) : Int := ansV (decide ((nd ns k).lea ≤ (vol sl sh ns k).1)) (decide ((nd ns k).lea ≤ (vol sl sh ns k).2))
theorem ansV_keep {c p c' p' : Bool} (h1 : c = true → c' = true) (h2 : p' = true → p = true) (h3 : c' = true → p' = true) (h : ansV c p ≠ 1) : ansV c' p' = ansV c p := by
  cases c <;> cases p <;> cases c' <;> cases p' <;> simp [ansV] at * 
theorem Nar.ansW {ns ds : List Nd} (h : Nar ns ds) (hv : AllN ns) (hl : ns.length ≤ 60) {k : Nat} (hk : k < ns.length) (ho : ansW ns k ≠ 1) : ansW ds k = ansW ns k := by
  obtain ⟨c1, c2⟩ := h.cur k
  obtain ⟨e1, e2, e3, e4⟩ := h.eqs k hk
  have hc := (cur_part (h.all hv) (by rw [h.len]; exact hl) (fun i => decide (k ∈ pth (Go.Proofs.Ytdohfpnnmppdkaa.par ds) i)) ds.length (Nat.le_refl _)).2.2
  have hc' : curL ds k ≤ curH ds k := hc
  refine ansV_keep ?_ ?_ ?_ ho <;> (simp only [decide_eq_true_iff]; omega)
theorem Nar.ansF {ns ds : List Nd} (h : Nar ns ds) {sl sh tl th : Int} (hv : ValidC sl sh ns) (hd : ValidC tl th ds) (h1 : sl ≤ tl) (h3 : th ≤ sh) {k : Nat} (hk : k < ns.length) (ho : ansF sl sh ns k ≠ 1) : ansF tl th ds k = ansF sl sh ns k := by
  obtain ⟨c1, c2⟩ := h.vol hv hd h1 h3 k hk
  obtain ⟨e1, e2, e3, e4⟩ := h.eqs k hk
  have hc := (vol_in hd (k := k) (by rw [h.len]; exact hk)).2.1
  refine ansV_keep ?_ ?_ ?_ ho <;> (simp only [decide_eq_true_iff]; omega)
end Go.Proofs.Ytdohfpnnmppdkaa

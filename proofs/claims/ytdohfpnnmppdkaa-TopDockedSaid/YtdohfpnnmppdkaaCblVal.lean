/-
  Cables: what is valid; currents and voltages (mathematics).
-/
import Derived.Test.YtdohfpnnmppdkaaCblMath
namespace Go.Proofs.Ytdohfpnnmppdkaa
structure Nd where
  par : Int
  ol : Int
  oh : Int
  lim : Int
  ll : Int
  lh : Int
  lea : Int
  del : Int
  deriving Inhabited
def nd (ns : List Nd) (k : Nat) : Nd := ns[k]?.getD default
/-- the node k is valid -/
def JoinP (n : Nd) (k : Nat) : Prop := if k = 0 then n.par = -1 ∧ n.ol = 0 ∧ n.oh = 0 ∧ n.del = -1 else 0 ≤ n.par ∧ n.par ≤ (k : Int) - 1
instance (n : Nd) (k : Nat) : Decidable (JoinP n k) := by unfold JoinP; infer_instance
def joinB (n : Nd) (k : Nat) : Bool := decide (JoinP n k)
def NodeP (n : Nd) : Prop := (n.ol ≤ n.oh ∧ 0 ≤ n.ol ∧ n.oh ≤ 16777216) ∧ (0 ≤ n.lim ∧ n.lim ≤ 3932160) ∧ (n.ll ≤ n.lh ∧ 0 ≤ n.ll ∧ n.lh ≤ 65536) ∧ (0 ≤ n.lea ∧ n.lea ≤ 67108864) ∧ (-1 ≤ n.del ∧ n.del ≤ 1048576)
instance (n : Nd) : Decidable (NodeP n) := by unfold NodeP; infer_instance
def nodeB (n : Nd) : Bool := decide (NodeP n)
/-- all nodes are valid -/
def AllN (ns : List Nd) : Prop := ∀ k, k < ns.length → joinB (nd ns k) k = true ∧ nodeB (nd ns k) = true
open Classical in
/-- the error of a cable -/
noncomputable def cabE (sl sh : Int) (ns : List Nd) : Int :=
  if 60 < ns.length then 6 else if ns.length = 0 then 2 else if ¬ (sl ≤ sh ∧ 0 ≤ sl ∧ sh ≤ 67108864) then 2 else if AllN ns then 0 else 2
structure ValidC (sl sh : Int) (ns : List Nd) : Prop where
  pos : 0 < ns.length
  len : ns.length ≤ 60
  sup : sl ≤ sh ∧ 0 ≤ sl ∧ sh ≤ 67108864
  all : AllN ns
theorem cabE_cases (sl sh : Int) (ns : List Nd) : (cabE sl sh ns = 6 ∧ 60 < ns.length) ∨ (cabE sl sh ns = 2 ∧ ¬ ValidC sl sh ns ∧ ns.length ≤ 60) ∨ (cabE sl sh ns = 0 ∧ ValidC sl sh ns) := by
  unfold cabE
  split
  · exact .inl ⟨rfl, by assumption⟩
  · split
    · exact .inr (.inl ⟨rfl, fun h => by have := h.pos; omega, by omega⟩)
    · split
      · rename_i h
        exact .inr (.inl ⟨rfl, fun g => h g.sup, by omega⟩)
      · split
        · exact .inr (.inr ⟨rfl, by omega, by omega, by rename_i h _; exact Classical.not_not.1 h, by assumption⟩)
        · rename_i h
          exact .inr (.inl ⟨rfl, fun g => h g.all, by omega⟩)
theorem cabE_ok {sl sh : Int} {ns : List Nd} (h : cabE sl sh ns = 0) : ValidC sl sh ns := by
  rcases cabE_cases sl sh ns with ⟨e, _⟩ | ⟨e, _⟩ | ⟨_, hv⟩
  · omega
  · omega
  · exact hv
theorem ValidC.err {sl sh : Int} {ns : List Nd} (h : ValidC sl sh ns) : cabE sl sh ns = 0 := by
  rcases cabE_cases sl sh ns with ⟨e, g⟩ | ⟨e, g, _⟩ | ⟨e, _⟩
  · have := h.len; omega
  · exact absurd h g
  · exact e
/-- the parent of a node -/
def par (ns : List Nd) (k : Nat) : Nat := if k < ns.length then (nd ns k).par.toNat else 0
theorem AllN.join {ns : List Nd} (h : AllN ns) {k : Nat} (hk : k < ns.length) (h0 : 0 < k) : 0 ≤ (nd ns k).par ∧ (nd ns k).par ≤ (k : Int) - 1 := by
  have q := of_decide_eq_true (h k hk).1
  unfold JoinP at q
  rwa [if_neg (by omega)] at q
theorem AllN.shore {ns : List Nd} (h : AllN ns) (hk : 0 < ns.length) : (nd ns 0).par = -1 ∧ (nd ns 0).ol = 0 ∧ (nd ns 0).oh = 0 ∧ (nd ns 0).del = -1 := by
  have q := of_decide_eq_true (h 0 hk).1
  unfold JoinP at q
  rwa [if_pos rfl] at q
theorem AllN.node {ns : List Nd} (h : AllN ns) {k : Nat} (hk : k < ns.length) : NodeP (nd ns k) := of_decide_eq_true (h k hk).2
theorem AllN.tree {ns : List Nd} (h : AllN ns) : Tree (par ns) := by
  intro k h0
  unfold par
  split
  · have := h.join ‹_› h0
    omega
  · exact h0
theorem AllN.par_eq {ns : List Nd} (h : AllN ns) {k : Nat} (hk : k < ns.length) (h0 : 0 < k) : (nd ns k).par = (par ns k : Int) := by
  have := h.join hk h0
  unfold par
  rw [if_pos hk]
  omega
theorem AllN.par_lt {ns : List Nd} (h : AllN ns) {k : Nat} (hk : k < ns.length) (h0 : 0 < k) : par ns k < ns.length := by
  have := h.tree k h0; omega
theorem AllN.path_lt {ns : List Nd} (h : AllN ns) {k j : Nat} (hk : k < ns.length) (hj : j ∈ pth (par ns) k) : j < ns.length := by
  have := mem_le h.tree _ _ hj; omega
/-- the current in a segment -/
def curL (ns : List Nd) (k : Nat) : Int := sm (fun i => (nd ns i).ll) (fun i => decide (k ∈ pth (par ns) i)) ns.length
def curH (ns : List Nd) (k : Nat) : Int := sm (fun i => (nd ns i).lh) (fun i => decide (k ∈ pth (par ns) i)) ns.length
theorem cur_part {ns : List Nd} (h : AllN ns) (hl : ns.length ≤ 60) (p : Nat → Bool) (m : Nat) (hm : m ≤ ns.length) :
    (0 ≤ sm (fun i => (nd ns i).ll) p m ∧ sm (fun i => (nd ns i).ll) p m ≤ 3932160) ∧ (0 ≤ sm (fun i => (nd ns i).lh) p m ∧ sm (fun i => (nd ns i).lh) p m ≤ 3932160) ∧ sm (fun i => (nd ns i).ll) p m ≤ sm (fun i => (nd ns i).lh) p m := by
  have hb : ∀ i, i < m → (0 ≤ (nd ns i).ll ∧ (nd ns i).ll ≤ 65536) ∧ (0 ≤ (nd ns i).lh ∧ (nd ns i).lh ≤ 65536) ∧ (nd ns i).ll ≤ (nd ns i).lh := fun i hi => by
    have q := (h.node (k := i) (by omega)).2.2.1
    omega
  have h1 := sm_bd (f := fun i => (nd ns i).ll) (p := p) (M := 65536) (by decide) m fun i hi => (hb i hi).1
  have h2 := sm_bd (f := fun i => (nd ns i).lh) (p := p) (M := 65536) (by decide) m fun i hi => (hb i hi).2.1
  refine ⟨by omega, by omega, ?_⟩
  clear h1 h2 hm
  induction m with
  | zero => exact Int.le_refl _
  | succ m ih =>
    have h3 := ih fun i hi => hb i (by omega)
    have h4 := (hb m (by omega)).2.2
    simp only [sm]
    split <;> omega
/-- the drop of a segment -/
def dropL (ns : List Nd) (k : Nat) : Int := curL ns k * (nd ns k).ol / 1000
def dropH (ns : List Nd) (k : Nat) : Int := (curH ns k * (nd ns k).oh + 999) / 1000
def volF (sl sh : Int) (ns : List Nd) : Nat → Nat → Int × Int
  | 0, _ => (0, 0)
  | f + 1, k => if k = 0 then (sl, sh) else ((volF sl sh ns f (par ns k)).1 - dropH ns k, (volF sl sh ns f (par ns k)).2 - dropL ns k)
/-- the voltage at a node -/
def vol (sl sh : Int) (ns : List Nd) (k : Nat) : Int × Int := volF sl sh ns (k + 1) k
theorem volF_fuel {sl sh : Int} {ns : List Nd} (hP : Tree (par ns)) : ∀ (k f g : Nat), k < f → k < g → volF sl sh ns f k = volF sl sh ns g k := by
  intro k
  induction k using Nat.strongRecOn with
  | ind k ih =>
    intro f g hf hg
    obtain ⟨f, rfl⟩ : ∃ f', f = f' + 1 := ⟨f - 1, by omega⟩
    obtain ⟨g, rfl⟩ : ∃ g', g = g' + 1 := ⟨g - 1, by omega⟩
    simp only [volF]
    by_cases h : k = 0
    · simp [h]
    · have := hP k (by omega)
      rw [if_neg h, if_neg h, ih (par ns k) this f g (by omega) (by omega)]
theorem vol_zero (sl sh : Int) (ns : List Nd) : vol sl sh ns 0 = (sl, sh) := by simp [vol, volF]
theorem vol_pos {sl sh : Int} {ns : List Nd} (hP : Tree (par ns)) {k : Nat} (hk : 0 < k) : vol sl sh ns k = ((vol sl sh ns (par ns k)).1 - dropH ns k, (vol sl sh ns (par ns k)).2 - dropL ns k) := by
  have h := hP k hk
  have e : vol sl sh ns (par ns k) = volF sl sh ns k (par ns k) := volF_fuel hP _ _ _ (by omega) h
  rw [e]
  unfold vol
  simp only [volF]
  rw [if_neg (by omega)]
theorem drop_bd {sl sh : Int} {ns : List Nd} (h : ValidC sl sh ns) {k : Nat} (hk : k < ns.length) :
    (0 ≤ curL ns k ∧ curL ns k ≤ 3932160) ∧ (0 ≤ curH ns k ∧ curH ns k ≤ 3932160) ∧ curL ns k ≤ curH ns k ∧ (0 ≤ (nd ns k).ol ∧ (nd ns k).ol ≤ (nd ns k).oh ∧ (nd ns k).oh ≤ 16777216) ∧
    (0 ≤ curL ns k * (nd ns k).ol ∧ curL ns k * (nd ns k).ol ≤ 65970697666560) ∧ (0 ≤ curH ns k * (nd ns k).oh ∧ curH ns k * (nd ns k).oh ≤ 65970697666560) ∧ curL ns k * (nd ns k).ol ≤ curH ns k * (nd ns k).oh ∧
    (0 ≤ dropL ns k ∧ dropL ns k ≤ 65970697667) ∧ (0 ≤ dropH ns k ∧ dropH ns k ≤ 65970697667) ∧ dropL ns k ≤ dropH ns k := by
  obtain ⟨h1, h2, h3⟩ := cur_part h.all h.len (fun i => decide (k ∈ pth (par ns) i)) ns.length (Nat.le_refl _)
  have h4 := (h.all.node hk).1
  have a1 : 0 ≤ curL ns k ∧ curL ns k ≤ 3932160 := h1
  have a2 : 0 ≤ curH ns k ∧ curH ns k ≤ 3932160 := h2
  have a3 : curL ns k ≤ curH ns k := h3
  have m1 := Int.mul_nonneg a1.1 h4.2.1
  have m2 := Int.mul_le_mul a1.2 (show (nd ns k).ol ≤ 16777216 by omega) h4.2.1 (by decide)
  have m3 := Int.mul_nonneg a2.1 (show 0 ≤ (nd ns k).oh by omega)
  have m4 := Int.mul_le_mul a2.2 h4.2.2 (by omega) (by decide)
  have m5 := Int.mul_le_mul a3 h4.1 h4.2.1 a2.1
  unfold dropL dropH
  generalize curL ns k * (nd ns k).ol = X at *
  generalize curH ns k * (nd ns k).oh = Y at *
  refine ⟨a1, a2, a3, ⟨h4.2.1, h4.1, h4.2.2⟩, ⟨m1, by omega⟩, ⟨m3, by omega⟩, m5, ?_, ?_, ?_⟩ <;> omega
theorem vol_bd {sl sh : Int} {ns : List Nd} (h : ValidC sl sh ns) : ∀ k, k < ns.length → -65970697667 * (k : Int) ≤ (vol sl sh ns k).1 ∧ (vol sl sh ns k).1 ≤ (vol sl sh ns k).2 ∧ (vol sl sh ns k).2 ≤ 67108864 := by
  intro k
  induction k using Nat.strongRecOn with
  | ind k ih =>
    intro hk
    have hs := h.sup
    by_cases h0 : k = 0
    · subst h0; rw [vol_zero]; simp; omega
    · have hp := h.all.tree k (by omega)
      have q := ih _ hp (by omega)
      obtain ⟨_, _, _, _, _, _, _, d1, d2, d3⟩ := drop_bd h hk
      rw [vol_pos h.all.tree (by omega)]
      generalize dropL ns k = X at *
      generalize dropH ns k = Y at *
      simp only
      have : ((par ns k : Nat) : Int) ≤ (k : Int) - 1 := by omega
      omega
theorem vol_in {sl sh : Int} {ns : List Nd} (h : ValidC sl sh ns) {k : Nat} (hk : k < ns.length) : -4000000000000 ≤ (vol sl sh ns k).1 ∧ (vol sl sh ns k).1 ≤ (vol sl sh ns k).2 ∧ (vol sl sh ns k).2 ≤ 67108864 := by
  have q := vol_bd h k hk
  have := h.len
  omega
end Go.Proofs.Ytdohfpnnmppdkaa

/-
  Cables: which breaker opens, what is lost, what is coordinated (mathematics).
-/
import Derived.Test.YtdohfpnnmppdkaaCbP
namespace Go.Proofs.Ytdohfpnnmppdkaa
theorem brk_zero {ns : List Nd} (hv : AllN ns) (h : 0 < ns.length) : brk ns 0 = false := by
  unfold brk
  rw [(hv.shore h).2.2.2]; rfl
theorem cutF_in (ns : List Nd) (zs : List Int) : ∀ (l : List Nat) (o : Nat), l.foldl (cutS ns zs) o = o ∨ l.foldl (cutS ns zs) o ∈ l
  | [], o => .inl rfl
  | x :: l, o => by
    rw [List.foldl_cons]
    rcases cutF_in ns zs l (cutS ns zs o x) with h | h
    · rw [h]
      unfold cutS
      split
      · exact .inl rfl
      · split
        · exact .inr (by simp)
        · exact .inl rfl
    · exact .inr (by simp [h])
/-- the node whose subtree is lost is on the path of the fault -/
theorem cutN_on {ns : List Nd} (hv : AllN ns) (zs : List Int) (k : Nat) : cutN ns zs k ∈ pth (par ns) k := by
  rcases cutF_in ns zs ((pth (par ns) k).filter (brk ns)) 0 with h | h
  · have e : cutN ns zs k = 0 := h
    rw [e]; exact zero_mem hv.tree k
  · exact (List.mem_filter.1 h).1
theorem cutN_lt {ns : List Nd} (hv : AllN ns) (zs : List Int) {k : Nat} (hk : k < ns.length) : cutN ns zs k < ns.length := hv.path_lt hk (cutN_on hv zs k)
/-- the breakers of a path that are not stuck -/
def freeB (ns : List Nd) (zs : List Int) (j : Nat) : Bool := brk ns j && !decide ((j : Int) ∈ zs)
def fstN (ns : List Nd) (zs : List Int) (l : List Nat) : Nat := ((l.filter (freeB ns zs)).head?).getD 0
def stB (ns : List Nd) (o x : Nat) : Nat := if o = 0 ∨ (nd ns x).del < (nd ns o).del then x else o
theorem fold_free (ns : List Nd) (zs : List Int) : ∀ (l : List Nat) (o : Nat), (l.filter (brk ns)).foldl (cutS ns zs) o = (l.filter (freeB ns zs)).foldl (stB ns) o
  | [], _ => rfl
  | x :: l, o => by
    cases hb : brk ns x
    · rw [List.filter_cons_of_neg (by simp [hb]), List.filter_cons_of_neg (by simp [freeB, hb])]
      exact fold_free ns zs l o
    · rw [List.filter_cons_of_pos (by simp [hb]), List.foldl_cons]
      by_cases hz : (x : Int) ∈ zs
      · rw [List.filter_cons_of_neg (by simp [freeB, hz]), show cutS ns zs o x = o from if_pos hz]
        exact fold_free ns zs l o
      · rw [List.filter_cons_of_pos (by simp [freeB, hb, hz]), List.foldl_cons, show cutS ns zs o x = stB ns o x from if_neg hz]
        exact fold_free ns zs l _
/-- coordinated: along each path the breakers wait longer and longer -/
def Coo (ns : List Nd) (m : Int) : Prop := ∀ k, k < ns.length → brk ns k = true → ∀ j, j ∈ pth (par ns) (par ns k) → brk ns j = true → (nd ns k).del + m ≤ (nd ns j).del
theorem pth_up {P : Nat → Nat} (hP : Tree P) : ∀ k, (pth P k).Pairwise (fun a b => b ∈ pth P (P a)) := by
  intro k
  induction k using Nat.strongRecOn with
  | ind k ih =>
    by_cases h : k = 0
    · subst h; rw [pth_zero]; simp
    · rw [pth_pos hP (by omega), List.pairwise_cons]
      exact ⟨fun j hj => hj, ih (P k) (hP k (by omega))⟩
theorem fold_keep (ns : List Nd) : ∀ (l : List Nat) (o : Nat), o ≠ 0 → (∀ x, x ∈ l → (nd ns o).del ≤ (nd ns x).del) → l.foldl (stB ns) o = o
  | [], _, _, _ => rfl
  | x :: l, o, h0, h => by
    have hx := h x (by simp)
    rw [List.foldl_cons, show stB ns o x = o from if_neg (by omega)]
    exact fold_keep ns l o h0 (fun y hy => h y (by simp [hy]))
theorem free_head {ns : List Nd} (hv : AllN ns) (hn : 0 < ns.length) {zs : List Int} {k b : Nat} {r : List Nat} (h : (pth (par ns) k).filter (freeB ns zs) = b :: r) :
    b ∈ pth (par ns) k ∧ freeB ns zs b = true ∧ b ≠ 0 ∧ ∀ x, x ∈ r → x ∈ pth (par ns) (par ns b) ∧ freeB ns zs x = true := by
  have h1 : b ∈ (pth (par ns) k).filter (freeB ns zs) := by rw [h]; simp
  obtain ⟨m1, m2⟩ := List.mem_filter.1 h1
  have hp := (pth_up hv.tree k).filter (freeB ns zs)
  rw [h, List.pairwise_cons] at hp
  refine ⟨m1, m2, ?_, fun x hx => ⟨hp.1 x hx, ?_⟩⟩
  · intro e
    subst e
    rw [freeB, brk_zero hv hn] at m2
    simp at m2
  · have h2 : x ∈ (pth (par ns) k).filter (freeB ns zs) := by rw [h]; simp [hx]
    exact (List.mem_filter.1 h2).2
theorem freeB_brk {ns : List Nd} {zs : List Int} {j : Nat} (h : freeB ns zs j = true) : brk ns j = true := by
  unfold freeB at h
  simp only [Bool.and_eq_true] at h
  exact h.1
/-- in a coordinated cable the first breaker that is not stuck opens -/
theorem coo_cut {ns : List Nd} (hv : AllN ns) {m : Int} (hm : 0 ≤ m) (hc : Coo ns m) (zs : List Int) {k : Nat} (hk : k < ns.length) : cutN ns zs k = fstN ns zs (pth (par ns) k) := by
  unfold cutN cutF fstN
  rw [fold_free]
  cases hl : (pth (par ns) k).filter (freeB ns zs) with
  | nil => rfl
  | cons b r =>
    obtain ⟨h1, h2, h3, h4⟩ := free_head hv (by omega) hl
    rw [List.foldl_cons, show stB ns 0 b = b from if_pos (.inl rfl), List.head?_cons, Option.getD_some]
    refine fold_keep ns r b h3 fun x hx => ?_
    obtain ⟨h5, h6⟩ := h4 x hx
    have := hc b (hv.path_lt hk h1) (freeB_brk h2) x h5 (freeB_brk h6)
    omega
/-- the first of the other breakers of a path that waits for too short a time -/
def earN (ns : List Nd) (m : Int) (k : Nat) : Option Nat := if brk ns k = true then ((pth (par ns) (par ns k)).filter (fun j => brk ns j && decide ((nd ns j).del < (nd ns k).del + m))).head? else none
def cooL (ns : List Nd) (m : Int) : Nat → Option (Nat × Nat)
  | 0 => none
  | k + 1 => match cooL ns m k with
    | some p => some p
    | none => (earN ns m k).map (fun j => (k, j))
theorem cooL_step_none {ns : List Nd} {m : Int} {k : Nat} (h : cooL ns m k = none) (h2 : earN ns m k = none) : cooL ns m (k + 1) = none := by
  simp [cooL, h, h2]
theorem cooL_step_some {ns : List Nd} {m : Int} {k j : Nat} (h : cooL ns m k = none) (h2 : earN ns m k = some j) : cooL ns m (k + 1) = some (k, j) := by
  simp [cooL, h, h2]
theorem cooL_later {ns : List Nd} {m : Int} {k : Nat} {p : Nat × Nat} (h : cooL ns m k = some p) : ∀ n, k ≤ n → cooL ns m n = some p := by
  intro n hn
  induction n with
  | zero => obtain rfl : k = 0 := by omega
            exact h
  | succ n ih =>
    by_cases e : k = n + 1
    · subst e; exact h
    · simp [cooL, ih (by omega)]
theorem cooL_none {ns : List Nd} {m : Int} : ∀ n, cooL ns m n = none → ∀ k, k < n → earN ns m k = none := by
  intro n
  induction n with
  | zero => intro _ k hk; omega
  | succ n ih =>
    intro h k hk
    cases hn : cooL ns m n with
    | some p => simp [cooL, hn] at h
    | none =>
      by_cases e : k = n
      · subst e
        simpa [cooL, hn] using h
      · exact ih hn k (by omega)
theorem earN_none {ns : List Nd} {m : Int} {k : Nat} (h : earN ns m k = none) (hb : brk ns k = true) : ∀ j, j ∈ pth (par ns) (par ns k) → brk ns j = true → (nd ns k).del + m ≤ (nd ns j).del := by
  intro j hj hbj
  unfold earN at h
  rw [if_pos hb, List.head?_eq_none_iff, List.filter_eq_nil_iff] at h
  have q := h j hj
  simp [hbj] at q
  omega
theorem coo_of {ns : List Nd} {m : Int} (h : cooL ns m ns.length = none) : Coo ns m := fun k hk hb j hj hbj => earN_none (cooL_none _ h k hk) hb j hj hbj
/-- the result of Coordinated -/
def cooR (ns : List Nd) (m : Int) : Int × Int × Int := match cooL ns m ns.length with
  | some (k, j) => ((k : Int), (j : Int), 18)
  | none => (0, 0, 0)
theorem cooR_ok {ns : List Nd} {m : Int} (h : (cooR ns m).2.2 = 0) : Coo ns m := by
  refine coo_of ?_
  unfold cooR at h
  cases hc : cooL ns m ns.length with
  | none => rfl
  | some p => rw [hc] at h; simp at h
theorem cooR_cases (ns : List Nd) (m : Int) : (cooR ns m).2.2 = 0 ∨ (cooR ns m).2.2 = 18 := by
  unfold cooR
  split <;> simp
-- lost nodes
theorem gone_step (ns : List Nd) (zs fs : List Int) (k y : Nat) : goneF ns zs fs (k + 1) y = true ↔ goneF ns zs fs k y = true ∨ (goneF ns zs fs k (ti fs k).toNat = false ∧ y ∈ dfs (par ns) ns.length (cutN ns zs (ti fs k).toNat)) := by
  show goneS ns zs (goneF ns zs fs k) (ti fs k).toNat y = true ↔ _
  unfold goneS
  split
  · rename_i h
    rw [h]; simp
  · rename_i h
    simp only [Bool.or_eq_true, decide_eq_true_iff]
    constructor
    · rintro (h1 | h1)
      · exact .inl h1
      · exact .inr ⟨by simpa using h, h1⟩
    · rintro (h1 | ⟨_, h1⟩)
      · exact .inl h1
      · exact .inr h1
theorem gone_mono (ns : List Nd) (zs fs : List Int) (y : Nat) : ∀ m k, k ≤ m → goneF ns zs fs k y = true → goneF ns zs fs m y = true := by
  intro m
  induction m with
  | zero => intro k hk h; obtain rfl : k = 0 := by omega
            exact h
  | succ m ih =>
    intro k hk h
    by_cases e : k = m + 1
    · subst e; exact h
    · exact (gone_step ns zs fs m y).2 (.inl (ih k (by omega) h))
def OkF (ns : List Nd) (fs : List Int) : Prop := ∀ k, k < fs.length → 0 < ti fs k ∧ ti fs k < ns.length
theorem OkF.nat {ns : List Nd} {fs : List Int} (h : OkF ns fs) {k : Nat} (hk : k < fs.length) : 0 < (ti fs k).toNat ∧ (ti fs k).toNat < ns.length := by
  have := h k hk; omega
theorem gone_lt {ns : List Nd} (hv : AllN ns) {zs fs : List Int} (hf : OkF ns fs) {y : Nat} : ∀ m, m ≤ fs.length → goneF ns zs fs m y = true → y < ns.length := by
  intro m
  induction m with
  | zero => intro _ h; simp [goneF] at h
  | succ m ih =>
    intro hm h
    rcases (gone_step ns zs fs m y).1 h with h | ⟨_, h⟩
    · exact ih (by omega) h
    · exact ((mem_dfs_iff hv.tree (cutN_lt hv zs (hf.nat (by omega)).2)).1 h).1
/-- with each node its subtree is lost -/
theorem gone_down {ns : List Nd} (hv : AllN ns) {zs fs : List Int} (hf : OkF ns fs) {x y : Nat} (hx : x < ns.length) (hxy : y ∈ pth (par ns) x) : ∀ m, m ≤ fs.length → goneF ns zs fs m y = true → goneF ns zs fs m x = true := by
  intro m
  induction m with
  | zero => intro _ h; simp [goneF] at h
  | succ m ih =>
    intro hm h
    rcases (gone_step ns zs fs m y).1 h with h | ⟨h0, h⟩
    · exact (gone_step ns zs fs m x).2 (.inl (ih (by omega) h))
    · have hc := cutN_lt hv zs (hf.nat (show m < fs.length by omega)).2
      refine (gone_step ns zs fs m x).2 (.inr ⟨h0, (mem_dfs_iff hv.tree hc).2 ⟨hx, ?_⟩⟩)
      exact pth_trans hv.tree _ _ _ hxy ((mem_dfs_iff hv.tree hc).1 h).2
/-- a fault is lost itself -/
theorem gone_self {ns : List Nd} (hv : AllN ns) {zs fs : List Int} (hf : OkF ns fs) {k : Nat} (hk : k < fs.length) : goneF ns zs fs (k + 1) (ti fs k).toNat = true := by
  refine (gone_step ns zs fs k _).2 ?_
  cases h : goneF ns zs fs k (ti fs k).toNat
  · exact .inr ⟨rfl, (mem_dfs_iff hv.tree (cutN_lt hv zs (hf.nat hk).2)).2 ⟨(hf.nat hk).2, cutN_on hv zs _⟩⟩
  · exact .inl rfl
/-- in a coordinated cable just the subtrees of all breakers that open are lost -/
theorem gone_coo {ns : List Nd} (hv : AllN ns) {m : Int} (hm : 0 ≤ m) (hc : Coo ns m) {zs fs : List Int} (hf : OkF ns fs) {y : Nat} (hy : y < ns.length) : ∀ n, n ≤ fs.length → (goneF ns zs fs n y = true ↔ ∃ i, i < n ∧ cutN ns zs (ti fs i).toNat ∈ pth (par ns) y) := by
  intro n
  induction n generalizing y with
  | zero => intro _; simp [goneF]
  | succ n ih =>
    intro hn
    obtain ⟨f0, f1⟩ := hf.nat (show n < fs.length by omega)
    have hcl := cutN_lt hv zs f1
    rw [gone_step, ih hy (by omega), mem_dfs_iff hv.tree hcl]
    constructor
    · rintro (⟨i, hi, h⟩ | ⟨_, _, h⟩)
      · exact ⟨i, by omega, h⟩
      · exact ⟨n, by omega, h⟩
    · rintro ⟨i, hi, h⟩
      by_cases e : i = n
      · subst e
        cases hg : goneF ns zs fs i (ti fs i).toNat
        · exact .inr ⟨rfl, hy, h⟩
        · refine .inl ?_
          obtain ⟨j, hj, hjp⟩ := (ih f1 (by omega)).1 hg
          refine ⟨j, hj, ?_⟩
          obtain ⟨g0, g1⟩ := hf.nat (show j < fs.length by omega)
          by_cases hz : cutN ns zs (ti fs j).toNat = 0
          · rw [hz]; exact zero_mem hv.tree y
          · -- the breaker of the fault j is on the path of the fault i, and is not stuck
            have hfree : freeB ns zs (cutN ns zs (ti fs j).toNat) = true := by
              have q := coo_cut hv hm hc zs g1
              unfold fstN at q
              cases hl : (pth (par ns) (ti fs j).toNat).filter (freeB ns zs) with
              | nil => rw [hl] at q; exact absurd q hz
              | cons b r =>
                rw [hl] at q
                rw [show cutN ns zs (ti fs j).toNat = b from q]
                exact (free_head hv (by omega) hl).2.1
            have hmem : cutN ns zs (ti fs j).toNat ∈ (pth (par ns) (ti fs i).toNat).filter (freeB ns zs) := List.mem_filter.2 ⟨hjp, hfree⟩
            have q := coo_cut hv hm hc zs f1
            unfold fstN at q
            cases hl : (pth (par ns) (ti fs i).toNat).filter (freeB ns zs) with
            | nil => rw [hl] at hmem; simp at hmem
            | cons b r =>
              rw [hl] at q hmem
              have hq : cutN ns zs (ti fs i).toNat = b := q
              rw [hq] at h
              rcases List.mem_cons.1 hmem with e | e
              · rw [e]; exact h
              · obtain ⟨_, _, hb0, h4⟩ := free_head hv (by omega) hl
                refine pth_trans hv.tree _ _ _ h ?_
                exact (mem_pos hv.tree (by omega)).2 (.inr (h4 _ e).1)
      · exact .inl ⟨i, by omega, h⟩
theorem lost_rev {ns : List Nd} (hv : AllN ns) {m : Int} (hm : 0 ≤ m) (hc : Coo ns m) {zs fs gs : List Int} (hf : OkF ns fs) (hfg : ∀ z, z ∈ fs ↔ z ∈ gs) : lostL ns zs fs = lostL ns zs gs := by
  have hg : OkF ns gs := fun k hk => by
    obtain ⟨i, hi, e⟩ := mem_ti ((hfg _).2 (ti_mem hk))
    rw [← e]; exact hf i hi
  unfold lostL pick
  refine List.filter_congr fun y _ => ?_
  rw [Bool.eq_iff_iff]
  constructor
  · intro h
    have hy := gone_lt hv hf _ (Nat.le_refl _) h
    obtain ⟨i, hi, h2⟩ := (gone_coo hv hm hc hf hy _ (Nat.le_refl _)).1 h
    obtain ⟨j, hj, e⟩ := mem_ti ((hfg _).1 (ti_mem hi))
    exact (gone_coo hv hm hc hg hy _ (Nat.le_refl _)).2 ⟨j, hj, by rw [e]; exact h2⟩
  · intro h
    have hy := gone_lt hv hg _ (Nat.le_refl _) h
    obtain ⟨i, hi, h2⟩ := (gone_coo hv hm hc hg hy _ (Nat.le_refl _)).1 h
    obtain ⟨j, hj, e⟩ := mem_ti ((hfg _).2 (ti_mem hi))
    exact (gone_coo hv hm hc hf hy _ (Nat.le_refl _)).2 ⟨j, hj, by rw [e]; exact h2⟩
theorem lost_one {ns : List Nd} (hv : AllN ns) (hl : ns.length ≤ 60) (zs : List Int) {f : Nat} (hf : f < ns.length) : lostL ns zs [(f : Int)] = sub (par ns) ns.length (cutN ns zs f) := by
  refine asc_one (pick_asc _ _) (pick_asc _ _) fun y => ?_
  have hc := cutN_lt hv zs hf
  unfold lostL
  rw [mem_pick, show ([(f : Int)]).length = 0 + 1 from rfl, gone_step]
  rw [show sub (par ns) ns.length (cutN ns zs f) = pick ns.length (fun i => decide (cutN ns zs f ∈ pth (par ns) i)) from rfl, mem_pick, decide_eq_true_iff]
  rw [show (ti [(f : Int)] 0).toNat = f by simp [ti], mem_dfs_iff hv.tree hc]
  simp only [goneF]
  constructor
  · rintro ⟨_, h | ⟨_, h⟩⟩
    · simp at h
    · exact h
  · rintro ⟨h1, h2⟩
    exact ⟨by omega, .inr ⟨trivial, h1, h2⟩⟩
end Go.Proofs.Ytdohfpnnmppdkaa

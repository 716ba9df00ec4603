/-
  Cables: how currents are shared (mathematics).
-/
import Derived.Test.YtdohfpnnmppdkaaCblMath
namespace Go.Proofs.Ytdohfpnnmppdkaa
/-- the least of what is asked and of what a list of nodes has to spare -/
def mnL (sp : Nat → Int) : List Nat → Int → Int
  | [], r => r
  | j :: l, r => mnL sp l (min r (sp j))
theorem mnL_snoc (sp : Nat → Int) (l : List Nat) (j : Nat) (r : Int) : mnL sp (l ++ [j]) r = min (mnL sp l r) (sp j) := by
  induction l generalizing r with
  | nil => rfl
  | cons a l ih => exact ih _
theorem mnL_le (sp : Nat → Int) (l : List Nat) (r : Int) : mnL sp l r ≤ r := by
  induction l generalizing r with
  | nil => exact Int.le_refl _
  | cons a l ih => exact Int.le_trans (ih _) (Int.min_le_left _ _)
theorem mnL_mem (sp : Nat → Int) (l : List Nat) (r : Int) (j : Nat) (h : j ∈ l) : mnL sp l r ≤ sp j := by
  induction l generalizing r with
  | nil => cases h
  | cons a l ih =>
    rcases List.mem_cons.1 h with rfl | h
    · show mnL sp l (min r (sp j)) ≤ _
      exact Int.le_trans (mnL_le _ _ _) (Int.min_le_right _ _)
    · exact ih _ h
theorem mnL_nn (sp : Nat → Int) (l : List Nat) (r : Int) (hr : 0 ≤ r) (h : ∀ j, j ∈ l → 0 ≤ sp j) : 0 ≤ mnL sp l r := by
  induction l generalizing r with
  | nil => exact hr
  | cons a l ih =>
    have := h a (by simp)
    exact ih _ (by omega) fun j hj => h j (by simp [hj])
theorem mnL_full (sp : Nat → Int) (l : List Nat) (r : Int) : mnL sp l r = r ∨ ∃ j, j ∈ l ∧ mnL sp l r = sp j := by
  induction l generalizing r with
  | nil => exact .inl rfl
  | cons a l ih =>
    show mnL sp l (min r (sp a)) = r ∨ _
    rcases ih (min r (sp a)) with h | ⟨j, h1, h2⟩
    · by_cases hc : r ≤ sp a
      · exact .inl (by rw [h]; omega)
      · exact .inr ⟨a, by simp, by show mnL sp l (min r (sp a)) = _; rw [h]; omega⟩
    · exact .inr ⟨j, by simp [h1], h2⟩
theorem mnL_mono (sp sp' : Nat → Int) (l : List Nat) (r r' : Int) (hr : r ≤ r') (h : ∀ j, j ∈ l → sp j ≤ sp' j) : mnL sp l r ≤ mnL sp' l r' := by
  induction l generalizing r r' with
  | nil => exact hr
  | cons a l ih =>
    have := h a (by simp)
    exact ih _ _ (by omega) fun j hj => h j (by simp [hj])
/-- what is to spare, and what is granted, when a node has been taken -/
abbrev ShS := (Nat → Int) × (Nat → Int)
def shG (P : Nat → Nat) (rq : Nat → Int) (s : ShS) (k : Nat) : Int := mnL s.1 (pth P k) (rq k)
def shStep (P : Nat → Nat) (rq : Nat → Int) (s : ShS) (k : Nat) : ShS := (fun j => if j ∈ pth P k then s.1 j - shG P rq s k else s.1 j, fun j => if j = k then shG P rq s k else s.2 j)
def shF (P : Nat → Nat) (lim rq : Nat → Int) (od : List Nat) : ShS := od.foldl (shStep P rq) (lim, fun _ => 0)
theorem shF_snoc (P : Nat → Nat) (lim rq : Nat → Int) (od : List Nat) (k : Nat) : shF P lim rq (od ++ [k]) = shStep P rq (shF P lim rq od) k := by simp [shF]
theorem foldl_keep (P : Nat → Nat) (rq : Nat → Int) (l : List Nat) (s : ShS) (k : Nat) (h : k ∉ l) : (l.foldl (shStep P rq) s).2 k = s.2 k := by
  induction l generalizing s with
  | nil => rfl
  | cons a l ih =>
    simp only [List.mem_cons, not_or] at h
    rw [List.foldl_cons, ih _ h.2]
    show (if k = a then _ else _) = _
    rw [if_neg h.1]
/-- between the steps: nothing is granted beyond what is there -/
structure ShB (lim rq : Nat → Int) (s : ShS) : Prop where
  sp : ∀ j, 0 ≤ s.1 j ∧ s.1 j ≤ lim j
  gr : ∀ j, 0 ≤ s.2 j ∧ s.2 j ≤ rq j
theorem ShB.step {P : Nat → Nat} {lim rq : Nat → Int} {s : ShS} (h : ShB lim rq s) (hrq : ∀ k, 0 ≤ rq k) (k : Nat) : ShB lim rq (shStep P rq s k) ∧ 0 ≤ shG P rq s k ∧ shG P rq s k ≤ rq k := by
  have h0 : 0 ≤ shG P rq s k := mnL_nn _ _ _ (hrq k) fun j _ => (h.sp j).1
  have h1 : shG P rq s k ≤ rq k := mnL_le _ _ _
  refine ⟨⟨fun j => ?_, fun j => ?_⟩, h0, h1⟩
  · show 0 ≤ (if j ∈ pth P k then _ else _) ∧ (if j ∈ pth P k then _ else _) ≤ _
    have := h.sp j
    by_cases hj : j ∈ pth P k
    · have : shG P rq s k ≤ s.1 j := mnL_mem _ _ _ _ hj
      rw [if_pos hj]; omega
    · rw [if_neg hj]; exact this
  · show 0 ≤ (if j = k then _ else _) ∧ (if j = k then _ else _) ≤ _
    by_cases hj : j = k
    · subst hj; rw [if_pos rfl]; exact ⟨h0, h1⟩
    · rw [if_neg hj]; exact h.gr j
theorem ShB.fold {P : Nat → Nat} {lim rq : Nat → Int} (hrq : ∀ k, 0 ≤ rq k) (l : List Nat) {s : ShS} (h : ShB lim rq s) : ShB lim rq (l.foldl (shStep P rq) s) := by
  induction l generalizing s with
  | nil => exact h
  | cons a l ih => exact ih (h.step hrq a).1
theorem shF_bd {P : Nat → Nat} {lim rq : Nat → Int} (hl : ∀ k, 0 ≤ lim k) (hrq : ∀ k, 0 ≤ rq k) (od : List Nat) : ShB lim rq (shF P lim rq od) :=
  ShB.fold hrq od ⟨fun j => ⟨hl j, Int.le_refl _⟩, fun j => ⟨Int.le_refl _, hrq j⟩⟩
/-- the order in which nodes are taken: greater ranks first, then lesser numbers -/
def Ahead (rk : Nat → Int) (a b : Nat) : Prop := rk b < rk a ∨ (rk a = rk b ∧ a < b)
instance (rk : Nat → Int) (a b : Nat) : Decidable (Ahead rk a b) := by unfold Ahead; infer_instance
structure Turn (rk : Nat → Int) (n : Nat) (od : List Nat) : Prop where
  all : ∀ i, i ∈ od ↔ i < n
  asc : od.Pairwise (Ahead rk)
theorem Ahead.irrefl {rk : Nat → Int} {a : Nat} (h : Ahead rk a a) : False := by
  rcases h with h | h <;> omega
theorem Ahead.trans {rk : Nat → Int} {a b c : Nat} (h : Ahead rk a b) (h' : Ahead rk b c) : Ahead rk a c := by
  unfold Ahead at *; omega
theorem ahead_one {rk : Nat → Int} {l m : List Nat} (hl : l.Pairwise (Ahead rk)) (hm : m.Pairwise (Ahead rk)) (h : ∀ i, i ∈ l ↔ i ∈ m) : l = m := by
  induction l generalizing m with
  | nil =>
    cases m with
    | nil => rfl
    | cons b m => exact absurd ((h b).2 (by simp)) (by simp)
  | cons a l ih =>
    cases m with
    | nil => exact absurd ((h a).1 (by simp)) (by simp)
    | cons b m =>
      rw [List.pairwise_cons] at hl hm
      have e : a = b := by
        rcases List.mem_cons.1 ((h a).1 (by simp)) with e | ha
        · exact e
        · rcases List.mem_cons.1 ((h b).2 (by simp)) with e | hb
          · exact e.symm
          · exact ((hl.1 b hb).trans (hm.1 a ha)).irrefl.elim
      subst e
      congr 1
      refine ih hl.2 hm.2 fun i => ?_
      constructor
      · intro hi
        rcases List.mem_cons.1 ((h i).1 (by simp [hi])) with e | h2
        · subst e; exact (hl.1 i hi).irrefl.elim
        · exact h2
      · intro hi
        rcases List.mem_cons.1 ((h i).2 (by simp [hi])) with e | h2
        · subst e; exact (hm.1 i hi).irrefl.elim
        · exact h2
theorem Turn.one {rk : Nat → Int} {n : Nat} {l m : List Nat} (h : Turn rk n l) (h' : Turn rk n m) : l = m := ahead_one h.asc h'.asc fun i => (h.all i).trans (h'.all i).symm
theorem Turn.nodup {rk : Nat → Int} {n : Nat} {l : List Nat} (h : Turn rk n l) : l.Nodup := h.asc.imp fun hx e => by subst e; exact hx.irrefl
theorem range_nodup_len {l : List Nat} {n : Nat} (hn : l.Nodup) (h : ∀ i, i ∈ l ↔ i < n) : l.length = n := by
  have := (List.perm_ext_iff_of_nodup hn (List.nodup_range (n := n))).2 fun i => by rw [h, List.mem_range]
  simpa using this.length_eq
theorem Turn.len {rk : Nat → Int} {n : Nat} {l : List Nat} (h : Turn rk n l) : l.length = n := range_nodup_len h.nodup h.all
theorem Turn.ext {rk rk' : Nat → Int} {n : Nat} {l : List Nat} (h : Turn rk n l) (e : ∀ k, k < n → rk k = rk' k) : Turn rk' n l := by
  refine ⟨h.all, List.Pairwise.imp_of_mem (fun {a b} ha hb hx => ?_) h.asc⟩
  have h1 := e a ((h.all a).1 ha)
  have h2 := e b ((h.all b).1 hb)
  unfold Ahead at *; omega
/-- what nodes of a rank get does not depend on what lesser ones ask -/
theorem fold_later (P : Nat → Nat) (rk rq rq' : Nat → Int) (L : Int) (l : List Nat) (s s' : ShS) (hs : s = s') (ha : l.Pairwise (Ahead rk)) (hr : ∀ k, k ∈ l → L ≤ rk k → rq k = rq' k) (k : Nat) (hk : L ≤ rk k) :
    (l.foldl (shStep P rq) s).2 k = (l.foldl (shStep P rq') s').2 k := by
  subst hs
  induction l generalizing s with
  | nil => rfl
  | cons a l ih =>
    by_cases h : L ≤ rk a
    · have e : shStep P rq s a = shStep P rq' s a := by
        have e1 : shG P rq s a = shG P rq' s a := by unfold shG; rw [hr a (by simp) h]
        unfold shStep
        rw [e1]
      rw [List.foldl_cons, List.foldl_cons, e]
      exact ih _ (List.pairwise_cons.1 ha).2 fun j hj => hr j (by simp [hj])
    · have hn : k ∉ a :: l := by
        intro hm
        rcases List.mem_cons.1 hm with e | hm
        · subst e; exact h hk
        · have := (List.pairwise_cons.1 ha).1 k hm
          unfold Ahead at this; omega
      rw [foldl_keep _ _ _ _ _ hn, foldl_keep _ _ _ _ _ hn]
theorem share_later (P : Nat → Nat) (rk lim rq rq' : Nat → Int) (L : Int) (n : Nat) (l : List Nat) (h : Turn rk n l) (hr : ∀ k, k < n → L ≤ rk k → rq k = rq' k) (k : Nat) (hk : L ≤ rk k) :
    (shF P lim rq l).2 k = (shF P lim rq' l).2 k := fold_later P rk rq rq' L l _ _ rfl h.asc (fun k hk => hr k ((h.all k).1 hk)) k hk
/-- the node that is taken first gets no less with greater limits -/
theorem share_first (P : Nat → Nat) (rk lim lim' rq : Nat → Int) (n : Nat) (f : Nat) (l : List Nat) (h : Turn rk n (f :: l)) (hl : ∀ k, lim k ≤ lim' k) : (shF P lim rq (f :: l)).2 f ≤ (shF P lim' rq (f :: l)).2 f := by
  have hf : f ∉ l := (List.nodup_cons.1 h.nodup).1
  unfold shF
  rw [List.foldl_cons, List.foldl_cons, foldl_keep _ _ _ _ _ hf, foldl_keep _ _ _ _ _ hf]
  show (if f = f then _ else _) ≤ (if f = f then _ else _)
  rw [if_pos rfl, if_pos rfl]
  exact mnL_mono _ _ _ _ _ (Int.le_refl _) fun j _ => hl j
/-- a node that is put behind all that are not after it -/
def insO (rk : Nat → Int) (k : Nat) : List Nat → List Nat
  | [] => [k]
  | a :: l => if rk a < rk k then k :: a :: l else a :: insO rk k l
theorem insO_mem (rk : Nat → Int) (k i : Nat) (l : List Nat) : i ∈ insO rk k l ↔ i = k ∨ i ∈ l := by
  induction l with
  | nil => simp [insO]
  | cons a l ih =>
    unfold insO
    split
    · simp
    · simp only [List.mem_cons, ih]
      constructor
      · rintro (h | h | h) <;> simp [h]
      · rintro (h | h | h) <;> simp [h]
theorem insO_asc (rk : Nat → Int) (k : Nat) (l : List Nat) (h : l.Pairwise (Ahead rk)) (hl : ∀ i, i ∈ l → i < k) : (insO rk k l).Pairwise (Ahead rk) := by
  induction l with
  | nil => simp [insO]
  | cons a l ih =>
    unfold insO
    rw [List.pairwise_cons] at h
    split
    · rename_i hc
      refine List.pairwise_cons.2 ⟨fun b hb => ?_, List.pairwise_cons.2 h⟩
      rcases List.mem_cons.1 hb with e | hb
      · subst e; exact .inl hc
      · have := h.1 b hb
        unfold Ahead at *; omega
    · rename_i hc
      refine List.pairwise_cons.2 ⟨fun b hb => ?_, ih h.2 fun i hi => hl i (by simp [hi])⟩
      rcases (insO_mem rk k b l).1 hb with e | hb
      · subst e
        have := hl a (by simp)
        unfold Ahead; omega
      · exact h.1 b hb
def ordO (rk : Nat → Int) : Nat → List Nat
  | 0 => []
  | k + 1 => insO rk k (ordO rk k)
theorem ordO_turn (rk : Nat → Int) (n : Nat) : Turn rk n (ordO rk n) := by
  induction n with
  | zero => exact ⟨fun i => by simp [ordO], by simp [ordO]⟩
  | succ n ih =>
    refine ⟨fun i => ?_, insO_asc rk n _ ih.asc fun i hi => (ih.all i).1 hi⟩
    show i ∈ insO rk n (ordO rk n) ↔ _
    rw [insO_mem, ih.all]
    omega
/-- the place where it is put: a is how many are not after it -/
theorem insO_at (rk : Nat → Int) (k : Nat) (l : List Nat) (h : l.Pairwise (Ahead rk)) (a : Nat) (ha : a ≤ l.length) (h1 : ∀ i x, a ≤ i → l[i]? = some x → rk x < rk k) (h2 : ∀ x, 0 < a → l[a - 1]? = some x → ¬ rk x < rk k) :
    insO rk k l = l.take a ++ k :: l.drop a := by
  induction l generalizing a with
  | nil => simp [insO]
  | cons b l ih =>
    unfold insO
    by_cases hc : rk b < rk k
    · rw [if_pos hc]
      have : a = 0 := by
        rcases Nat.eq_zero_or_pos a with e | e
        · exact e
        · exfalso
          have hx := List.getElem?_eq_getElem (l := b :: l) (i := a - 1) (by omega)
          have := h2 _ e hx
          rcases Nat.eq_zero_or_pos (a - 1) with e1 | e1
          · have e2 : (b :: l)[a - 1]'(by omega) = b := by simp [e1]
            rw [e2] at this; exact this hc
          · have hm : (b :: l)[a - 1]'(by omega) ∈ l := by
              obtain ⟨t, ht⟩ : ∃ t, a - 1 = t + 1 := ⟨a - 2, by omega⟩
              simp only [ht, List.getElem_cons_succ]
              exact List.getElem_mem _
            have := (List.pairwise_cons.1 h).1 _ hm
            unfold Ahead at this; omega
      subst this
      rfl
    · rw [if_neg hc]
      rcases Nat.eq_zero_or_pos a with e | e
      · subst e; exact absurd (h1 0 b (Nat.le_refl _) rfl) hc
      · obtain ⟨t, rfl⟩ : ∃ t, a = t + 1 := ⟨a - 1, by omega⟩
        rw [List.take_succ_cons, List.drop_succ_cons, List.cons_append]
        congr 1
        refine ih (List.pairwise_cons.1 h).2 t (by simpa using ha) (fun i x hi hx => h1 (i + 1) x (by omega) (by simpa using hx)) fun x hx0 hx => ?_
        refine h2 x (by omega) ?_
        obtain ⟨u, rfl⟩ : ∃ u, t = u + 1 := ⟨t - 1, by omega⟩
        simpa using hx

/-- a list that was sorted so is the order -/
theorem turn_of_merge (rk : Nat → Int) (m : Nat) (d : List (Fin (m + 1))) (hd : d.map Fin.val = List.range (m + 1)) (lt : Fin (m + 1) → Fin (m + 1) → Bool) (hlt : ∀ x y, lt x y = decide (Ahead rk x.val y.val)) :
    Turn rk (m + 1) ((d.mergeSort fun x y => !lt y x).map Fin.val) := by
  have hp := List.mergeSort_perm d fun x y => !lt y x
  have hs := List.pairwise_mergeSort (le := fun x y => !lt y x) (fun a b c h1 h2 => by
    simp only [hlt, Bool.not_eq_true', decide_eq_false_iff_not] at *
    unfold Ahead at *; omega) (fun a b => by
    simp only [hlt, Bool.or_eq_true, Bool.not_eq_true', decide_eq_false_iff_not]
    unfold Ahead; omega) d
  have hnd : (d.mergeSort fun x y => !lt y x).Nodup := by
    refine hp.nodup_iff.2 ?_
    have h := List.nodup_range (n := m + 1)
    rw [← hd] at h
    exact (List.pairwise_map.1 h).imp fun h e => h (congrArg Fin.val e)
  refine ⟨fun i => ?_, ?_⟩
  · rw [(hp.map Fin.val).mem_iff, hd, List.mem_range]
  · rw [List.pairwise_map]
    refine (hs.and hnd).imp fun {a b} h => ?_
    have h1 := h.1
    have h2 : a.val ≠ b.val := fun e => h.2 (Fin.ext e)
    simp only [hlt, Bool.not_eq_true', decide_eq_false_iff_not] at h1
    unfold Ahead at *; omega
end Go.Proofs.Ytdohfpnnmppdkaa

/-
  Trees of a cable: paths, subtrees, the order of a visit (mathematics).
-/
import Derived.Lib.Hide
namespace Go.Proofs.Ytdohfpnnmppdkaa
/-- parents come before their nodes -/
def Tree (P : Nat → Nat) : Prop := ∀ k, 0 < k → P k < k
def pthF (P : Nat → Nat) : Nat → Nat → List Nat
  | 0, _ => []
  | f + 1, k => k :: (if k = 0 then [] else pthF P f (P k))
/-- the path of a node: from it to the shore end -/
def pth (P : Nat → Nat) (k : Nat) : List Nat := pthF P (k + 1) k
theorem pthF_fuel {P : Nat → Nat} (hP : Tree P) : ∀ (k f g : Nat), k < f → k < g → pthF P f k = pthF P g k := by
  intro k
  induction k using Nat.strongRecOn with
  | ind k ih =>
    intro f g hf hg
    obtain ⟨f, rfl⟩ : ∃ f', f = f' + 1 := ⟨f - 1, by omega⟩
    obtain ⟨g, rfl⟩ : ∃ g', g = g' + 1 := ⟨g - 1, by omega⟩
    simp only [pthF]
    by_cases h : k = 0
    · simp [h]
    · have := hP k (by omega)
      rw [if_neg h, if_neg h, ih (P k) this f g (by omega) (by omega)]
theorem pth_zero (P : Nat → Nat) : pth P 0 = [0] := by simp [pth, pthF]
theorem pth_pos {P : Nat → Nat} (hP : Tree P) {k : Nat} (hk : 0 < k) : pth P k = k :: pth P (P k) := by
  have h := hP k hk
  have e : pth P (P k) = pthF P k (P k) := pthF_fuel hP (P k) (P k + 1) k (by omega) h
  rw [e, pth, pthF, if_neg (by omega)]
theorem self_mem (P : Nat → Nat) (k : Nat) : k ∈ pth P k := by simp [pth, pthF]
theorem mem_pos {P : Nat → Nat} (hP : Tree P) {j k : Nat} (hk : 0 < k) : j ∈ pth P k ↔ j = k ∨ j ∈ pth P (P k) := by
  rw [pth_pos hP hk]; simp
theorem mem_zero {P : Nat → Nat} {j : Nat} : j ∈ pth P 0 ↔ j = 0 := by simp [pth_zero]
theorem mem_le {P : Nat → Nat} (hP : Tree P) : ∀ (k j : Nat), j ∈ pth P k → j ≤ k := by
  intro k
  induction k using Nat.strongRecOn with
  | ind k ih =>
    intro j hj
    by_cases h : k = 0
    · subst h; rw [mem_zero] at hj; omega
    · rcases (mem_pos hP (by omega)).1 hj with rfl | hj
      · exact Nat.le_refl _
      · have := ih (P k) (hP k (by omega)) j hj
        have := hP k (by omega)
        omega
theorem zero_mem {P : Nat → Nat} (hP : Tree P) : ∀ k, 0 ∈ pth P k := by
  intro k
  induction k using Nat.strongRecOn with
  | ind k ih =>
    by_cases h : k = 0
    · subst h; rw [mem_zero]
    · exact (mem_pos hP (by omega)).2 (.inr (ih (P k) (hP k (by omega))))
theorem pth_trans {P : Nat → Nat} (hP : Tree P) : ∀ (i j k : Nat), j ∈ pth P i → k ∈ pth P j → k ∈ pth P i := by
  intro i
  induction i using Nat.strongRecOn with
  | ind i ih =>
    intro j k hj hk
    by_cases h : i = 0
    · subst h; rw [mem_zero] at hj; subst hj; exact hk
    · rcases (mem_pos hP (by omega)).1 hj with rfl | hj
      · exact hk
      · exact (mem_pos hP (by omega)).2 (.inr (ih (P i) (hP i (by omega)) j k hj hk))
/-- of two nodes of a path the one nearer to shore is on the path of the other one -/
theorem pth_line {P : Nat → Nat} (hP : Tree P) : ∀ (i j k : Nat), j ∈ pth P i → k ∈ pth P i → j ≤ k → j ∈ pth P k := by
  intro i
  induction i using Nat.strongRecOn with
  | ind i ih =>
    intro j k hj hk hjk
    by_cases h : i = 0
    · subst h; rw [mem_zero] at hj hk; subst hj; subst hk; exact self_mem _ _
    · rcases (mem_pos hP (by omega)).1 hk with rfl | hk
      · exact hj
      · rcases (mem_pos hP (by omega)).1 hj with rfl | hj
        · have h1 := mem_le hP _ _ hk
          have h2 := hP j (by omega)
          omega
        · exact ih (P i) (hP i (by omega)) j k hj hk hjk
/-- above each other node of a subtree there is a child of its root -/
theorem child_on {P : Nat → Nat} (hP : Tree P) : ∀ (i k : Nat), k ∈ pth P i → k ≠ i → ∃ j, 0 < j ∧ P j = k ∧ j ∈ pth P i := by
  intro i
  induction i using Nat.strongRecOn with
  | ind i ih =>
    intro k hk hne
    by_cases h : i = 0
    · subst h; rw [mem_zero] at hk; exact absurd hk hne
    · rcases (mem_pos hP (by omega)).1 hk with rfl | hk
      · exact absurd rfl hne
      · by_cases e : k = P i
        · exact ⟨i, by omega, e.symm, self_mem _ _⟩
        · obtain ⟨j, h1, h2, h3⟩ := ih (P i) (hP i (by omega)) k hk e
          exact ⟨j, h1, h2, (mem_pos hP (by omega)).2 (.inr h3)⟩
theorem pth_desc {P : Nat → Nat} (hP : Tree P) : ∀ k, (pth P k).Pairwise (fun a b => b < a) := by
  intro k
  induction k using Nat.strongRecOn with
  | ind k ih =>
    by_cases h : k = 0
    · subst h; rw [pth_zero]; simp
    · rw [pth_pos hP (by omega), List.pairwise_cons]
      refine ⟨fun j hj => ?_, ih (P k) (hP k (by omega))⟩
      have := mem_le hP _ _ hj
      have := hP k (by omega)
      omega
theorem pth_len {P : Nat → Nat} (hP : Tree P) : ∀ k, (pth P k).length ≤ k + 1 := by
  intro k
  induction k using Nat.strongRecOn with
  | ind k ih =>
    by_cases h : k = 0
    · subst h; simp [pth_zero]
    · have h1 := ih (P k) (hP k (by omega))
      have h2 := hP k (by omega)
      rw [pth_pos hP (by omega)]
      simp; omega
/-- the children of a node -/
def kids (P : Nat → Nat) (n k : Nat) : List Nat := (List.range n).filter (fun j => decide (0 < j ∧ P j = k))
theorem mem_kids {P : Nat → Nat} {n k j : Nat} : j ∈ kids P n k ↔ j < n ∧ 0 < j ∧ P j = k := by simp [kids]
def dfsF (P : Nat → Nat) (n : Nat) : Nat → Nat → List Nat
  | 0, _ => []
  | f + 1, k => k :: (kids P n k).flatMap (dfsF P n f)
/-- a subtree in the order of a visit -/
def dfs (P : Nat → Nat) (n k : Nat) : List Nat := dfsF P n (n - k) k
theorem flatMap_same {α β : Type} (l : List α) (f g : α → List β) (h : ∀ x, x ∈ l → f x = g x) : l.flatMap f = l.flatMap g := by
  induction l with
  | nil => rfl
  | cons a l ih => simp [List.flatMap_cons, h a (by simp), ih (fun x hx => h x (by simp [hx]))]
theorem dfsF_fuel {P : Nat → Nat} (hP : Tree P) (n : Nat) : ∀ (m k f g : Nat), n - k ≤ m → k < n → n - k ≤ f → n - k ≤ g → dfsF P n f k = dfsF P n g k := by
  intro m
  induction m with
  | zero => intro k f g h h2; omega
  | succ m ih =>
    intro k f g hm hk hf hg
    obtain ⟨f, rfl⟩ : ∃ f', f = f' + 1 := ⟨f - 1, by omega⟩
    obtain ⟨g, rfl⟩ : ∃ g', g = g' + 1 := ⟨g - 1, by omega⟩
    simp only [dfsF]
    congr 1
    refine flatMap_same _ _ _ fun j hj => ?_
    obtain ⟨h1, h2, h3⟩ := mem_kids.1 hj
    have := hP j h2
    exact ih j f g (by omega) h1 (by omega) (by omega)
theorem dfs_eq {P : Nat → Nat} (hP : Tree P) {n k : Nat} (hk : k < n) : dfs P n k = k :: (kids P n k).flatMap (dfs P n) := by
  unfold dfs
  obtain ⟨m, hm⟩ : ∃ m, n - k = m + 1 := ⟨n - k - 1, by omega⟩
  rw [hm]
  simp only [dfsF]
  congr 1
  refine flatMap_same _ _ _ fun j hj => ?_
  obtain ⟨h1, h2, h3⟩ := mem_kids.1 hj
  have := hP j h2
  exact dfsF_fuel hP n (n - j) j m (n - j) (by omega) h1 (by omega) (by omega)
theorem mem_dfs {P : Nat → Nat} (hP : Tree P) (n : Nat) : ∀ (m k i : Nat), n - k ≤ m → k < n → (i ∈ dfs P n k ↔ i < n ∧ k ∈ pth P i) := by
  intro m
  induction m with
  | zero => intro k i h h2; omega
  | succ m ih =>
    intro k i hm hk
    rw [dfs_eq hP hk]
    simp only [List.mem_cons, List.mem_flatMap]
    constructor
    · rintro (rfl | ⟨j, hj, hi⟩)
      · exact ⟨hk, self_mem _ _⟩
      · obtain ⟨h1, h2, h3⟩ := mem_kids.1 hj
        have h4 := hP j h2
        obtain ⟨h5, h6⟩ := (ih j i (by omega) h1).1 hi
        refine ⟨h5, pth_trans hP _ _ _ h6 ?_⟩
        exact (mem_pos hP h2).2 (.inr (by rw [h3]; exact self_mem _ _))
    · rintro ⟨hi, hki⟩
      by_cases e : k = i
      · exact .inl e.symm
      · obtain ⟨j, h2, h3, h4⟩ := child_on hP i k hki e
        have h5 := mem_le hP _ _ h4
        have h6 := hP j h2
        exact .inr ⟨j, mem_kids.2 ⟨by omega, h2, h3⟩, (ih j i (by omega) (by omega)).2 ⟨hi, h4⟩⟩
theorem mem_dfs_iff {P : Nat → Nat} (hP : Tree P) {n k i : Nat} (hk : k < n) : i ∈ dfs P n k ↔ i < n ∧ k ∈ pth P i := mem_dfs hP n _ k i (Nat.le_refl _) hk
theorem nodup_flatMap {α β : Type} (l : List α) (f : α → List β) (h1 : l.Nodup) (h2 : ∀ a, a ∈ l → (f a).Nodup) (h3 : ∀ a b x, a ∈ l → b ∈ l → x ∈ f a → x ∈ f b → a = b) : (l.flatMap f).Nodup := by
  induction l with
  | nil => simp
  | cons a l ih =>
    rw [List.flatMap_cons, List.nodup_append]
    rw [List.nodup_cons] at h1
    refine ⟨h2 a (by simp), ih h1.2 (fun b hb => h2 b (by simp [hb])) (fun b c x hb hc => h3 b c x (by simp [hb]) (by simp [hc])), ?_⟩
    intro x hx y hy e
    subst e
    obtain ⟨b, hb, hxb⟩ := List.mem_flatMap.1 hy
    have := h3 a b x (by simp) (by simp [hb]) hx hxb
    subst this
    exact h1.1 hb
theorem nodup_dfs {P : Nat → Nat} (hP : Tree P) (n : Nat) : ∀ (m k : Nat), n - k ≤ m → k < n → (dfs P n k).Nodup := by
  intro m
  induction m with
  | zero => intro k h h2; omega
  | succ m ih =>
    intro k hm hk
    rw [dfs_eq hP hk, List.nodup_cons]
    refine ⟨?_, nodup_flatMap _ _ ?_ ?_ ?_⟩
    · intro h
      obtain ⟨j, hj, hi⟩ := List.mem_flatMap.1 h
      obtain ⟨h1, h2, h3⟩ := mem_kids.1 hj
      have h4 := hP j h2
      have h5 := mem_le hP _ _ ((mem_dfs_iff hP h1).1 hi).2
      omega
    · exact List.Pairwise.filter _ List.nodup_range
    · intro j hj
      obtain ⟨h1, h2, h3⟩ := mem_kids.1 hj
      have h4 := hP j h2
      exact ih j (by omega) h1
    · intro a b x ha hb hxa hxb
      obtain ⟨a1, a2, a3⟩ := mem_kids.1 ha
      obtain ⟨b1, b2, b3⟩ := mem_kids.1 hb
      have a4 := ((mem_dfs_iff hP a1).1 hxa).2
      have b4 := ((mem_dfs_iff hP b1).1 hxb).2
      rcases Nat.lt_trichotomy a b with h | h | h
      · have q := pth_line hP x a b a4 b4 (by omega)
        rcases (mem_pos hP b2).1 q with e | q
        · exact e
        · rw [b3, ← a3] at q
          have := mem_le hP _ _ q
          have := hP a a2
          omega
      · exact h
      · have q := pth_line hP x b a b4 a4 (by omega)
        rcases (mem_pos hP a2).1 q with e | q
        · exact e.symm
        · rw [a3, ← b3] at q
          have := mem_le hP _ _ q
          have := hP b b2
          omega
/-- the numbers below n with a property, in their order -/
def pick (n : Nat) (p : Nat → Bool) : List Nat := (List.range n).filter p
theorem mem_pick {n : Nat} {p : Nat → Bool} {i : Nat} : i ∈ pick n p ↔ i < n ∧ p i = true := by simp [pick]
theorem pick_asc (n : Nat) (p : Nat → Bool) : (pick n p).Pairwise (· < ·) := List.Pairwise.filter _ List.pairwise_lt_range
/-- the subtree of a node -/
def sub (P : Nat → Nat) (n k : Nat) : List Nat := pick n (fun i => decide (k ∈ pth P i))
/-- two ascending lists with the same elements are one -/
theorem asc_one {l m : List Nat} (hl : l.Pairwise (· < ·)) (hm : m.Pairwise (· < ·)) (h : ∀ i, i ∈ l ↔ i ∈ m) : l = m := by
  induction l generalizing m with
  | nil =>
    cases m with
    | nil => rfl
    | cons b m => exact absurd ((h b).2 (by simp)) (by simp)
  | cons a l ih =>
    cases m with
    | nil => exact absurd ((h a).1 (by simp)) (by simp)
    | cons b m =>
      rw [List.pairwise_cons] at hl hm
      have e : a = b := by
        rcases List.mem_cons.1 ((h a).1 (by simp)) with e | ha
        · exact e
        · rcases List.mem_cons.1 ((h b).2 (by simp)) with e | hb
          · exact e.symm
          · have := hl.1 b hb
            have := hm.1 a ha
            omega
      subst e
      congr 1
      refine ih hl.2 hm.2 fun i => ?_
      constructor
      · intro hi
        rcases List.mem_cons.1 ((h i).1 (by simp [hi])) with e | h2
        · subst e; exact absurd (hl.1 i hi) (Nat.lt_irrefl _)
        · exact h2
      · intro hi
        rcases List.mem_cons.1 ((h i).2 (by simp [hi])) with e | h2
        · subst e; exact absurd (hm.1 i hi) (Nat.lt_irrefl _)
        · exact h2
def zs (l : List Nat) : List Int := l.map fun (k : Nat) => (k : Int)
/-- what a sort makes of numbers without repetition -/
theorem sort_pick {ss : List Int} {l : List Nat} {n : Nat} {p : Nat → Bool} (hp : ss.Perm (zs l)) (hn : l.Nodup) (hm : ∀ i, i ∈ l ↔ i < n ∧ p i = true) :
    ss.mergeSort (fun x y => decide (x ≤ y)) = zs (pick n p) := by
  have h1 : (ss.mergeSort (fun x y => decide (x ≤ y))).Pairwise (fun x y => x ≤ y) := by
    have := List.pairwise_mergeSort (le := fun x y : Int => decide (x ≤ y)) (by intro a b c; simp; omega) (by intro a b; simp; omega) ss
    simpa using this
  have h2 : (ss.mergeSort (fun x y => decide (x ≤ y))).Perm (zs l) := (List.mergeSort_perm _ _).trans hp
  have h3 : (zs l).Nodup := List.Pairwise.map _ (by intro a b h; omega) hn
  have h4 := h2.nodup_iff.2 h3
  have h6 : ∀ z, z ∈ ss.mergeSort (fun x y => decide (x ≤ y)) → ∃ k : Nat, z = k := by
    intro z hz
    have := h2.mem_iff.1 hz
    simp [zs] at this
    obtain ⟨k, _, rfl⟩ := this
    exact ⟨k, rfl⟩
  generalize hL : ss.mergeSort (fun x y => decide (x ≤ y)) = L at *
  have h7 : L = zs (L.map Int.toNat) := by
    unfold zs
    rw [List.map_map]
    conv => lhs; rw [← List.map_id L]
    refine List.map_congr_left fun z hz => ?_
    obtain ⟨k, rfl⟩ := h6 z hz
    simp
  rw [h7]
  congr 1
  refine asc_one ?_ (pick_asc _ _) fun i => ?_
  · rw [List.pairwise_map]
    have h5 : L.Pairwise (fun x y => x < y) := by
      refine List.Pairwise.imp₂ (R := fun x y => x ≤ y) (S := fun x y => x ≠ y) ?_ h1 h4
      intro a b h h'; omega
    refine h5.imp_of_mem ?_
    intro a b ha hb hab
    obtain ⟨x, rfl⟩ := h6 a ha
    obtain ⟨y, rfl⟩ := h6 b hb
    simp; omega
  · rw [mem_pick, ← hm]
    have e : i ∈ L.map Int.toNat ↔ (i : Int) ∈ L := by
      simp only [List.mem_map]
      constructor
      · rintro ⟨z, hz, rfl⟩
        obtain ⟨k, rfl⟩ := h6 z hz
        simpa using hz
      · intro h
        exact ⟨_, h, by simp⟩
    rw [e, h2.mem_iff]
    unfold zs
    simp only [List.mem_map]
    constructor
    · rintro ⟨k, hk, e⟩
      have : k = i := by omega
      subst this; exact hk
    · intro h; exact ⟨i, h, rfl⟩
/-- a sum over the numbers with a property -/
def sm (f : Nat → Int) (p : Nat → Bool) : Nat → Int
  | 0 => 0
  | m + 1 => sm f p m + if p m = true then f m else 0
theorem sm_bd {f : Nat → Int} {p : Nat → Bool} {M : Int} (hM : 0 ≤ M) : ∀ n, (∀ i, i < n → 0 ≤ f i ∧ f i ≤ M) → 0 ≤ sm f p n ∧ sm f p n ≤ n * M := by
  intro n
  induction n with
  | zero => intro _; simp [sm]
  | succ n ih =>
    intro h
    have h1 := ih fun i hi => h i (by omega)
    have h2 := h n (by omega)
    have e : ((n + 1 : Nat) : Int) * M = n * M + M := by rw [Int.natCast_add, Int.add_mul]; simp
    rw [e]
    simp only [sm]
    split <;> omega
end Go.Proofs.Ytdohfpnnmppdkaa

/-
  Buffers: the mathematics: records, their order, what is put, compressed and dropped.
-/
import Derived.Test.YtbbaehmfadpgeaaProg
import Derived.WalkKit
import Derived.Shelf.Abstract
namespace Go.Proofs.Ytbbaehmfadpgeaa
open Go.RowKit Go.Shelf
set_option linter.unusedSimpArgs false
/-- a record -/
structure Rc where
  id : Int
  cls : Int
  made : Int
  size : Int
  packed : Int
  deriving DecidableEq
/-- a record in a buffer -/
structure Hd where
  r : Rc
  small : Bool
  sent : Int
  deriving DecidableEq
def OkR (r : Rc) : Prop := (0 ≤ r.id ∧ r.id ≤ 1073741824) ∧ (0 ≤ r.cls ∧ r.cls ≤ 9) ∧ (0 ≤ r.made ∧ r.made ≤ 1073741824) ∧ (1 ≤ r.size ∧ r.size ≤ 16777216) ∧ 1 ≤ r.packed ∧ r.packed ≤ r.size
instance (r : Rc) : Decidable (OkR r) := by unfold OkR; infer_instance
def chkR (r : Rc) : Int := if OkR r then 0 else 2
/-- a record is less important than another one -/
def lsR (a b : Rc) : Bool := if a.cls = b.cls then (if a.made = b.made then decide (b.id < a.id) else decide (a.made < b.made)) else decide (a.cls < b.cls)
theorem lsR_irr (a : Rc) : lsR a a = false := by simp [lsR]
theorem lsR_total {a b : Rc} (h : a.id ≠ b.id) : lsR a b = !lsR b a := by
  unfold lsR
  by_cases h1 : a.cls = b.cls
  · rw [if_pos h1, if_pos h1.symm]
    by_cases h2 : a.made = b.made
    · rw [if_pos h2, if_pos h2.symm, Bool.eq_iff_iff]
      simp; omega
    · rw [if_neg h2, if_neg (fun e => h2 e.symm), Bool.eq_iff_iff]
      simp; omega
  · rw [if_neg h1, if_neg (fun e => h1 e.symm), Bool.eq_iff_iff]
    simp; omega
theorem lsR_iff {a b : Rc} : lsR a b = true ↔ a.cls < b.cls ∨ (a.cls = b.cls ∧ (a.made < b.made ∨ (a.made = b.made ∧ b.id < a.id))) := by
  unfold lsR
  by_cases h1 : a.cls = b.cls
  · rw [if_pos h1]
    by_cases h2 : a.made = b.made
    · rw [if_pos h2]; simp; omega
    · rw [if_neg h2]; simp; omega
  · rw [if_neg h1]; simp; omega
theorem lsR_trans {a b c : Rc} (h1 : lsR a b = true) (h2 : lsR b c = true) : lsR a c = true := by
  rw [lsR_iff] at *
  omega
/-- the bytes of a record in a buffer -/
def byH (h : Hd) : Int := if h.small then h.r.packed else h.r.size
def usL (L : List Hd) : Int := (L.map byH).sum
/-- the most important first -/
def Ord (L : List Hd) : Prop := L.Pairwise fun a b => lsR b.r a.r = true
def newH (r : Rc) : Hd := ⟨r, false, -1⟩
def insL (r : Rc) : List Hd → List Hd
  | [] => [newH r]
  | h :: t => if lsR h.r r then newH r :: h :: t else h :: insL r t
def cmpL : List Hd → Option (List Hd)
  | [] => none
  | h :: t => match cmpL t with
    | some t' => some (h :: t')
    | none => if h.small = false ∧ h.r.packed < h.r.size then some ({ h with small := true } :: t) else none
/-- until it fits -/
def fitL (cap : Int) : Nat → List Hd → List Int → List Hd × List Int
  | 0, L, d => (L, d)
  | n + 1, L, d =>
    if L.length ≤ 256 ∧ usL L ≤ cap then (L, d)
    else match (if 256 < L.length then none else cmpL L) with
      | some L' => fitL cap n L' d
      | none => fitL cap n L.dropLast (d ++ [((L.map fun h => h.r.id).getLast?).getD 0])
def mu (L : List Hd) : Nat := L.length + (L.filter fun h => !h.small).length
theorem cmpL_mu {L L' : List Hd} (h : cmpL L = some L') : mu L = mu L' + 1 := by
  induction L generalizing L' with
  | nil => simp [cmpL] at h
  | cons x t ih =>
    unfold cmpL at h
    cases ht : cmpL t with
    | some t' =>
      rw [ht] at h
      simp only [Option.some.injEq] at h
      subst h
      have := ih ht
      unfold mu at *
      cases hs : x.small <;> simp [hs] <;> omega
    | none =>
      rw [ht] at h
      simp only at h
      split at h
      · next hx =>
        simp only [Option.some.injEq] at h
        subst h
        unfold mu
        simp [hx.1]
        omega
      · cases h
theorem cmpL_ids {L L' : List Hd} (h : cmpL L = some L') : L'.map (fun h => h.r) = L.map (fun h => h.r) := by
  induction L generalizing L' with
  | nil => simp [cmpL] at h
  | cons x t ih =>
    unfold cmpL at h
    cases ht : cmpL t with
    | some t' =>
      rw [ht] at h
      simp only [Option.some.injEq] at h
      subst h
      simp [ih ht]
    | none =>
      rw [ht] at h
      simp only at h
      split at h
      · simp only [Option.some.injEq] at h
        subst h
        rfl
      · cases h
theorem drop_mu {L : List Hd} (h : L ≠ []) : mu L.dropLast < mu L := by
  unfold mu
  have h1 : L.dropLast.length + 1 = L.length := by
    have := List.length_pos_iff.2 h
    simp; omega
  have h2 : (L.dropLast.filter fun h => !h.small).length ≤ (L.filter fun h => !h.small).length := by
    have e : L.dropLast.Sublist L := List.dropLast_sublist L
    exact (e.filter _).length_le
  omega

/-- what is dropped in the end lies in front -/
theorem fitL_stop {cap : Int} {L : List Hd} {d : List Int} (h : L.length ≤ 256 ∧ usL L ≤ cap) (n : Nat) : fitL cap n L d = (L, d) := by
  cases n with
  | zero => rfl
  | succ n => unfold fitL; rw [if_pos h]
theorem fitL_cmp {cap : Int} {L L' : List Hd} {d : List Int} (h : ¬(L.length ≤ 256 ∧ usL L ≤ cap)) (hl : L.length ≤ 256) (hc : cmpL L = some L') (n : Nat) : fitL cap (n + 1) L d = fitL cap n L' d := by
  rw [fitL, if_neg h, if_neg (by omega), hc]
theorem fitL_drop {cap : Int} {L : List Hd} {d : List Int} (h : ¬(L.length ≤ 256 ∧ usL L ≤ cap)) (hc : 256 < L.length ∨ cmpL L = none) (n : Nat) : fitL cap (n + 1) L d = fitL cap n L.dropLast (d ++ [((L.map fun h => h.r.id).getLast?).getD 0]) := by
  rw [fitL, if_neg h]
  by_cases hl : 256 < L.length
  · rw [if_pos hl]
  · rw [if_neg hl, hc.resolve_left hl]
/-- more fuel than what can happen changes nothing -/
theorem fitL_fuel {cap : Int} (hcap : 0 ≤ cap) : ∀ (n m : Nat) (L : List Hd) (d : List Int), mu L ≤ n → mu L ≤ m → fitL cap n L d = fitL cap m L d := by
  intro n
  induction n with
  | zero =>
    intro m L d h1 _
    have e : L = [] := by
      unfold mu at h1
      exact List.length_eq_zero_iff.1 (by omega)
    subst e
    rw [fitL_stop (by simpa [usL] using hcap), fitL_stop (by simpa [usL] using hcap)]
  | succ n ih =>
    intro m L d h1 h2
    by_cases h : L.length ≤ 256 ∧ usL L ≤ cap
    · rw [fitL_stop h, fitL_stop h]
    · have hne : L ≠ [] := by
        intro e
        subst e
        exact h (by simpa [usL] using hcap)
      have hpos : 0 < mu L := by
        unfold mu
        have := List.length_pos_iff.2 hne
        omega
      obtain ⟨m, rfl⟩ : ∃ k, m = k + 1 := ⟨m - 1, by omega⟩
      cases hc : cmpL L with
      | none =>
        rw [fitL_drop h (.inr hc), fitL_drop h (.inr hc)]
        have := drop_mu hne
        exact ih _ _ _ (by omega) (by omega)
      | some L' =>
        by_cases hl : 256 < L.length
        · rw [fitL_drop h (.inl hl), fitL_drop h (.inl hl)]
          have := drop_mu hne
          exact ih _ _ _ (by omega) (by omega)
        · rw [fitL_cmp h (by omega) hc, fitL_cmp h (by omega) hc]
          have := cmpL_mu hc
          exact ih _ _ _ (by omega) (by omega)
/-- where a new record goes -/
def posR (r : Rc) (L : List Hd) : Nat := (L.takeWhile fun h => !lsR h.r r).length
theorem insL_pos (r : Rc) (L : List Hd) : insL r L = L.take (posR r L) ++ newH r :: L.drop (posR r L) := by
  induction L with
  | nil => rfl
  | cons h t ih =>
    unfold insL posR
    cases hb : lsR h.r r
    · simp only [hb, Bool.not_false, List.takeWhile_cons_of_pos]
      simpa [posR] using ih
    · simp [hb]
theorem posR_le (r : Rc) (L : List Hd) : posR r L ≤ L.length := by
  unfold posR
  induction L with
  | nil => simp
  | cons h t ih => rw [List.takeWhile_cons]; split <;> simp; omega
theorem ord_holds {L : List Hd} (h : Ord L) (r : Rc) {i : Nat} (hi : i < L.length) : lsR (L[i].r) r = decide (posR r L ≤ i) := by
  induction L generalizing i with
  | nil => simp at hi
  | cons x t ih =>
    have hx := List.pairwise_cons.1 h
    unfold posR
    cases hb : lsR x.r r
    · rw [List.takeWhile_cons_of_pos (by simp [hb])]
      cases i with
      | zero => simp [hb]
      | succ i =>
        have := ih hx.2 (i := i) (by simpa using hi)
        rw [List.getElem_cons_succ, this]
        unfold posR
        simp
    · rw [List.takeWhile_cons_of_neg (by simp [hb])]
      cases i with
      | zero => simp [hb]
      | succ i =>
        rw [List.getElem_cons_succ]
        simp only [List.length_nil, Nat.zero_le, decide_true]
        exact lsR_trans (hx.1 _ (List.getElem_mem _)) hb
theorem insL_ord {r : Rc} {L : List Hd} (h : Ord L) (hid : ∀ x ∈ L, x.r.id ≠ r.id) : Ord (insL r L) := by
  induction L with
  | nil => exact List.pairwise_singleton _ _
  | cons x t ih =>
    have hx := List.pairwise_cons.1 h
    unfold insL
    cases hb : lsR x.r r
    · rw [if_neg (by simp)]
      refine List.pairwise_cons.2 ⟨fun y hy => ?_, ih hx.2 fun z hz => hid z (List.mem_cons_of_mem _ hz)⟩
      rw [insL_pos] at hy
      rcases List.mem_append.1 hy with h1 | h1
      · exact hx.1 _ (List.mem_of_mem_take h1)
      · rcases List.mem_cons.1 h1 with h1 | h1
        · subst h1
          have := lsR_total (a := x.r) (b := r) (hid x (List.mem_cons_self ..))
          rw [hb] at this
          change lsR r x.r = true
          cases hc : lsR r x.r
          · rw [hc] at this; simp at this
          · rfl
        · exact hx.1 _ (List.mem_of_mem_drop h1)
    · rw [if_pos rfl]
      refine List.pairwise_cons.2 ⟨fun y hy => ?_, h⟩
      rcases List.mem_cons.1 hy with h1 | h1
      · subst h1; exact hb
      · exact lsR_trans (hx.1 _ h1) hb
/-- the record of an ID in a list -/
def atL (L : List Hd) (z : Int) : Option Hd := L.find? fun h => h.r.id == z
/-- the IDs of a list, each of them once -/
def idsL (L : List Hd) : List Int := L.map fun h => h.r.id
theorem atL_isSome {L : List Hd} {z : Int} : (atL L z).isSome = true ↔ z ∈ idsL L := by
  unfold atL idsL
  simp [List.find?_isSome, List.mem_map]
theorem atL_none {L : List Hd} {z : Int} (h : z ∉ idsL L) : atL L z = none := by
  cases e : atL L z with
  | none => rfl
  | some x => exact absurd (atL_isSome.1 (by rw [e]; rfl)) h
theorem atL_mem {L : List Hd} (hn : (idsL L).Nodup) {x : Hd} (hx : x ∈ L) : atL L x.r.id = some x := by
  induction L with
  | nil => cases hx
  | cons h t ih =>
    have h1 := List.nodup_cons.1 hn
    unfold atL
    rcases List.mem_cons.1 hx with rfl | hx
    · simp
    · have hne : h.r.id ≠ x.r.id := fun e => h1.1 (List.mem_map.2 ⟨x, hx, e.symm⟩)
      rw [List.find?_cons_of_neg (by simpa using hne)]
      exact ih h1.2 hx
theorem atL_get {L : List Hd} (hn : (idsL L).Nodup) {i : Nat} (hi : i < L.length) : atL L (L[i].r.id) = some L[i] := atL_mem hn (List.getElem_mem hi)
theorem atL_append (A B : List Hd) (z : Int) : atL (A ++ B) z = (atL A z).or (atL B z) := by
  unfold atL
  rw [List.find?_append]
theorem atL_cons (x : Hd) (B : List Hd) (z : Int) : atL (x :: B) z = if z = x.r.id then some x else atL B z := by
  unfold atL
  by_cases h : z = x.r.id
  · rw [if_pos h, List.find?_cons_of_pos (by simpa using h.symm)]
  · rw [if_neg h, List.find?_cons_of_neg (by simpa using fun e => h e.symm)]
theorem atL_ins {r : Rc} {L : List Hd} (h : r.id ∉ idsL L) : atL (insL r L) = fun z => if z = r.id then some (newH r) else atL L z := by
  funext z
  rw [insL_pos, atL_append, atL_cons]
  by_cases hz : z = r.id
  · subst hz
    have e : atL (L.take (posR r L)) r.id = none := atL_none fun e => h (by
      unfold idsL at *
      obtain ⟨x, hx, hx2⟩ := List.mem_map.1 e
      exact List.mem_map.2 ⟨x, List.mem_of_mem_take hx, hx2⟩)
    rw [e, if_pos rfl]
    simp [newH]
  · rw [if_neg hz]
    have e : (newH r).r.id = r.id := rfl
    rw [e, if_neg hz, ← atL_append, List.take_append_drop]
theorem insL_length (r : Rc) (L : List Hd) : (insL r L).length = L.length + 1 := by
  induction L with
  | nil => rfl
  | cons h t ih => unfold insL; split <;> simp [ih]
theorem idsL_ins (r : Rc) (L : List Hd) : idsL (insL r L) = (idsL L).take (posR r L) ++ r.id :: (idsL L).drop (posR r L) := by
  rw [insL_pos]
  unfold idsL
  simp [List.map_take, List.map_drop, newH]
theorem insL_nodup {r : Rc} {L : List Hd} (h : r.id ∉ idsL L) (hn : (idsL L).Nodup) : (idsL (insL r L)).Nodup := by
  rw [idsL_ins]
  have p : ((idsL L).take (posR r L) ++ r.id :: (idsL L).drop (posR r L)).Perm (r.id :: idsL L) := by
    refine List.perm_middle.trans ?_
    rw [List.take_append_drop]
  exact p.nodup_iff.2 (List.nodup_cons.2 ⟨h, hn⟩)
theorem idsL_drop (L : List Hd) : idsL L.dropLast = (idsL L).dropLast := by
  unfold idsL
  rw [List.map_dropLast]
theorem atL_drop {L : List Hd} {x : Hd} (hn : (idsL (L ++ [x])).Nodup) : atL L = fun z => if z = x.r.id then none else atL (L ++ [x]) z := by
  funext z
  rw [atL_append, atL_cons]
  have hx : x.r.id ∉ idsL L := by
    unfold idsL at *
    rw [List.map_append, List.nodup_append] at hn
    intro e
    exact hn.2.2 _ e _ (by simp) rfl
  by_cases hz : z = x.r.id
  · subst hz
    rw [if_pos rfl, atL_none hx]
  · rw [if_neg hz, if_neg hz]
    cases atL L z <;> rfl
/-- the last record that can be compressed -/
theorem cmpL_none {L : List Hd} : cmpL L = none ↔ ∀ x ∈ L, ¬(x.small = false ∧ x.r.packed < x.r.size) := by
  induction L with
  | nil => simp [cmpL]
  | cons x t ih =>
    unfold cmpL
    cases ht : cmpL t with
    | some t' =>
      simp only [reduceCtorEq, false_iff]
      intro h
      have := ih.2 fun y hy => h y (List.mem_cons_of_mem _ hy)
      rw [ht] at this
      cases this
    | none =>
      have h2 := ih.1 ht
      simp only
      split
      · next hx =>
        simp only [reduceCtorEq, false_iff]
        exact fun h => h x (List.mem_cons_self ..) hx
      · next hx =>
        simp only [true_iff]
        intro y hy
        rcases List.mem_cons.1 hy with rfl | hy
        · exact hx
        · exact h2 y hy
theorem cmpL_at (A B : List Hd) (x : Hd) (hB : ∀ y ∈ B, ¬(y.small = false ∧ y.r.packed < y.r.size)) (hx : x.small = false ∧ x.r.packed < x.r.size) : cmpL (A ++ x :: B) = some (A ++ { x with small := true } :: B) := by
  induction A with
  | nil =>
    rw [List.nil_append, List.nil_append]
    unfold cmpL
    rw [cmpL_none.2 hB]
    simp [hx]
  | cons a t ih =>
    rw [List.cons_append, cmpL, ih]
    rfl
theorem atL_small {A B : List Hd} {x : Hd} (hn : (idsL (A ++ x :: B)).Nodup) : atL (A ++ { x with small := true } :: B) = fun z => if z = x.r.id then some { x with small := true } else atL (A ++ x :: B) z := by
  funext z
  rw [atL_append, atL_append, atL_cons, atL_cons]
  have hx : x.r.id ∉ idsL A := by
    unfold idsL at *
    rw [List.map_append, List.nodup_append] at hn
    intro e
    exact hn.2.2 _ e _ (by simp) rfl
  by_cases hz : z = x.r.id
  · subst hz
    rw [if_pos rfl, if_pos rfl, atL_none hx]
    rfl
  · rw [if_neg hz, if_neg hz, if_neg hz]
theorem usL_bd {L : List Hd} (h : ∀ x ∈ L, OkR x.r) : 0 ≤ usL L ∧ usL L ≤ 16777216 * L.length := by
  induction L with
  | nil => simp [usL]
  | cons x t ih =>
    have h1 := ih fun y hy => h y (List.mem_cons_of_mem _ hy)
    have h2 := h x (List.mem_cons_self ..)
    have h3 : 0 ≤ byH x ∧ byH x ≤ 16777216 := by
      unfold OkR at h2
      unfold byH
      split <;> omega
    unfold usL at *
    simp only [List.map_cons, List.sum_cons, List.length_cons]
    omega
theorem usL_snoc (A : List Hd) (x : Hd) : usL (A ++ [x]) = usL A + byH x := by simp [usL]
theorem insL_ok {r : Rc} {L : List Hd} (hr : OkR r) (h : ∀ x ∈ L, OkR x.r) : ∀ x ∈ insL r L, OkR x.r := by
  intro x hx
  rw [insL_pos] at hx
  rcases List.mem_append.1 hx with h1 | h1
  · exact h x (List.mem_of_mem_take h1)
  · rcases List.mem_cons.1 h1 with rfl | h1
    · exact hr
    · exact h x (List.mem_of_mem_drop h1)

end Go.Proofs.Ytbbaehmfadpgeaa

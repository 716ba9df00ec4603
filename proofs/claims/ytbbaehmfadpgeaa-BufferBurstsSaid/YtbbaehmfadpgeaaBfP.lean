/-
  Buffers: what is compressed, what is dropped: the mathematics.
-/
import Derived.Test.YtbbaehmfadpgeaaBfO
import Derived.Test.YtbbaehmfadpgeaaBfM
import Derived.Test.YtbbaehmfadpgeaaBfD
import Derived.Test.YtbbaehmfadpgeaaBfH
namespace Go.Proofs.Ytbbaehmfadpgeaa
open Go.RowKit Go.Shelf
set_option linter.unusedSimpArgs false
/-- what can't be compressed -/
def Full (x : Hd) : Prop := ¬(x.small = false ∧ x.r.packed < x.r.size)
theorem cmpL_len {L L' : List Hd} (h : cmpL L = some L') : L'.length = L.length := by
  have := congrArg List.length (cmpL_ids h)
  simpa using this
theorem cmpL_small {L L' : List Hd} (h : cmpL L = some L') : ∀ i (hi : i < L.length) (hi' : i < L'.length), (L[i]).small = true → (L'[i]).small = true := by
  induction L generalizing L' with
  | nil => simp [cmpL] at h
  | cons x t ih =>
    unfold cmpL at h
    cases ht : cmpL t with
    | some t' =>
      rw [ht] at h
      simp only [Option.some.injEq] at h
      subst h
      intro i hi hi' hs
      cases i with
      | zero => simpa using hs
      | succ i => exact ih ht i (by simpa using hi) (by simpa using hi') (by simpa using hs)
    | none =>
      rw [ht] at h
      simp only at h
      split at h
      · simp only [Option.some.injEq] at h
        subst h
        intro i hi hi' hs
        cases i with
        | zero => rfl
        | succ i => simpa using hs
      · cases h
/-- what remains, what is dropped -/
structure FitP (cap : Int) (L L' : List Hd) (D : List Int) : Prop where
  len : L'.length + D.length = L.length
  recs : L'.map (fun h => h.r) = (L.map fun h => h.r).take L'.length
  ids : D = ((idsL L).drop L'.length).reverse
  small : ∀ i (hi : i < L.length) (hi' : i < L'.length), (L[i]).small = true → (L'[i]).small = true
  full : L.length ≤ 256 → D ≠ [] → ∀ x ∈ L', Full x
  few : L'.length ≤ 256
  fits : usL L' ≤ cap
theorem fitP_full {cap : Int} {L L' : List Hd} {D : List Int} (h : FitP cap L L' D) (hf : ∀ x ∈ L, Full x) : ∀ x ∈ L', Full x := by
  intro x hx
  obtain ⟨i, hi, rfl⟩ := List.mem_iff_getElem.1 hx
  have hl := h.len
  have hi' : i < L.length := by omega
  have h1 := hf _ (List.getElem_mem hi')
  have e : (L'.map fun h => h.r)[i]? = ((L.map fun h => h.r).take L'.length)[i]? := by rw [h.recs]
  rw [List.getElem?_take, if_pos hi, List.getElem?_map, List.getElem?_map, List.getElem?_eq_getElem hi, List.getElem?_eq_getElem hi'] at e
  simp only [Option.map_some, Option.some.injEq] at e
  have h2 := h.small i hi' hi
  unfold Full at *
  rw [e]
  rintro ⟨a, b⟩
  refine h1 ⟨?_, b⟩
  cases hs : L[i].small
  · rfl
  · rw [h2 hs] at a; cases a
theorem fitL_fit {cap : Int} (hcap : 0 ≤ cap) : ∀ (n : Nat) (L : List Hd) (d : List Int), mu L ≤ n → ∃ L' D, fitL cap n L d = (L', d ++ D) ∧ FitP cap L L' D := by
  intro n
  induction n with
  | zero =>
    intro L d h
    have e : L = [] := by
      unfold mu at h
      exact List.length_eq_zero_iff.1 (by omega)
    subst e
    exact ⟨[], [], by simp [fitL], ⟨rfl, rfl, rfl, fun i hi => by simp at hi, fun _ h => absurd rfl h, by simp, by simpa [usL] using hcap⟩⟩
  | succ n ih =>
    intro L d h
    by_cases hf : L.length ≤ 256 ∧ usL L ≤ cap
    · exact ⟨L, [], by rw [fitL_stop hf]; simp, ⟨rfl, by rw [List.take_of_length_le (by simp)], by simp [idsL], fun i hi hi' hs => hs, fun _ h => absurd rfl h, hf.1, hf.2⟩⟩
    · have hne : L ≠ [] := by
        intro e
        subst e
        exact hf (by simpa [usL] using hcap)
      by_cases hc : 256 < L.length ∨ cmpL L = none
      · have hm := drop_mu hne
        obtain ⟨L', D, he, hp⟩ := ih L.dropLast (d ++ [((L.map fun h => h.r.id).getLast?).getD 0]) (by omega)
        obtain ⟨A, x, rfl⟩ : ∃ A x, L = A ++ [x] := ⟨L.dropLast, L.getLast hne, (List.dropLast_concat_getLast hne).symm⟩
        rw [List.dropLast_concat] at hp
        have hlen := hp.len
        refine ⟨L', x.r.id :: D, ?_, ?_, ?_, ?_, ?_, ?_, hp.few, hp.fits⟩
        · rw [fitL_drop hf hc, he]
          simp
        · simp; omega
        · rw [hp.recs, List.map_append, List.take_append_of_le_length (by simp; omega)]
        · have e : idsL (A ++ [x]) = idsL A ++ [x.r.id] := by simp [idsL]
          rw [e, List.drop_append_of_le_length (by simp [idsL]; omega), List.reverse_append, ← hp.ids]
          rfl
        · intro i hi hi' hs
          have hia : i < A.length := by omega
          refine hp.small i hia hi' ?_
          rw [List.getElem_append_left hia] at hs
          exact hs
        · intro hl _
          rcases hc with hc | hc
          · omega
          · refine fitP_full hp fun y hy => ?_
            exact cmpL_none.1 hc y (by simp [hy])
      · obtain ⟨hc1, hc2⟩ := not_or.1 hc
        obtain ⟨L2, hL2⟩ := Option.ne_none_iff_exists'.1 hc2
        have hm := cmpL_mu hL2
        obtain ⟨L', D, he, hp⟩ := ih L2 d (by omega)
        have hl2 := cmpL_len hL2
        have hids := cmpL_ids hL2
        refine ⟨L', D, ?_, ?_, ?_, ?_, ?_, ?_, hp.few, hp.fits⟩
        · rw [fitL_cmp hf (by omega) hL2, he]
        · have := hp.len; omega
        · rw [hp.recs, hids]
        · have e : idsL L2 = idsL L := by
            unfold idsL
            have := congrArg (List.map fun r : Rc => r.id) hids
            simpa [List.map_map, Function.comp_def] using this
          rw [hp.ids, e]
        · intro i hi hi' hs
          exact hp.small i (by omega) hi' (cmpL_small hL2 i hi (by omega) hs)
        · intro hl hD
          exact hp.full (by omega) hD

theorem zv_get {L : List Hd} {k : Nat} (hk : k < L.length) : (zv (idsL L))[k]? = some (.int .i64 (L[k].r.id)) := by
  unfold zv idsL
  simp [hk]
/-- one record compressed -/
def smL (L : List Hd) (i : Nat) : List Hd := L.modify i fun h => { h with small := true }
theorem smL_split {L : List Hd} {i : Nat} (hi : i < L.length) : smL L i = L.take i ++ { L[i] with small := true } :: L.drop (i + 1) ∧ L = L.take i ++ L[i] :: L.drop (i + 1) := by
  refine ⟨?_, ?_⟩
  · unfold smL
    rw [List.modify_eq_take_cons_drop hi]
  · rw [List.getElem_cons_drop, List.take_append_drop]
theorem bck_pre {n : Nat} {pre : List (Fin n)} {x : Fin n} (h : pre ++ [x] <+: bckL n) (k : Fin n) (hk : x.1 < k.1) : k ∈ pre := by
  have hl := h.length_le
  rw [bckL_length, List.length_append] at hl
  simp only [List.length_singleton] at hl
  have e := List.prefix_iff_eq_take.1 h
  rw [List.length_append, List.length_singleton, bck_take (by omega)] at e
  obtain ⟨e1, e2⟩ := List.append_inj' e rfl
  have e3 : x.1 = n - 1 - pre.length := by
    have := congrArg (fun l => l.map (·.1)) e2
    simpa using this
  rw [e1]
  rw [List.mem_iff_getElem]
  refine ⟨n - 1 - k.1, by rw [List.length_take, bckL_length]; omega, ?_⟩
  rw [List.getElem_take]
  unfold bckL
  rw [List.getElem_reverse]
  ext
  simp
  omega
theorem cmp_stop {L : List Hd} {pre : List (Fin L.length)} {x : Fin L.length} (h : pre ++ [x] <+: bckL L.length) (hp : ∀ k ∈ pre, Full (L[k.1])) (hx : ¬Full (L[x.1])) : cmpL L = some (smL L x.1) := by
  obtain ⟨e1, e2⟩ := smL_split x.2
  rw [e1]
  conv => lhs; rw [e2]
  refine cmpL_at _ _ _ (fun y hy => ?_) (Decidable.not_not.1 hx)
  obtain ⟨j, hj, rfl⟩ := List.mem_iff_getElem.1 hy
  rw [List.length_drop] at hj
  rw [List.getElem_drop]
  exact hp ⟨x.1 + 1 + j, by omega⟩ (bck_pre h _ (by show x.1 < x.1 + 1 + j; omega))
theorem cmp_done {L : List Hd} (hp : ∀ k ∈ bckL L.length, Full (L[k.1])) : cmpL L = none := by
  rw [cmpL_none]
  intro x hx
  obtain ⟨j, hj, rfl⟩ := List.mem_iff_getElem.1 hx
  exact hp ⟨j, hj⟩ (by unfold bckL; simp)
theorem smL_ids (L : List Hd) (i : Nat) : (smL L i).map (fun h => h.r) = L.map fun h => h.r := by
  unfold smL
  apply List.ext_getElem
  · simp
  · intro j h1 h2
    simp [List.getElem_modify]
    split <;> rfl
theorem smL_idsL (L : List Hd) (i : Nat) : idsL (smL L i) = idsL L := by
  have := congrArg (List.map fun r : Rc => r.id) (smL_ids L i)
  simpa [idsL, List.map_map, Function.comp_def] using this
theorem smL_length (L : List Hd) (i : Nat) : (smL L i).length = L.length := by simp [smL]
theorem smL_ok {L : List Hd} {i : Nat} (h : ∀ x ∈ L, OkR x.r) : ∀ x ∈ smL L i, OkR x.r := by
  intro x hx
  have h1 : x.r ∈ (smL L i).map (fun h => h.r) := List.mem_map.2 ⟨x, hx, rfl⟩
  rw [smL_ids] at h1
  obtain ⟨y, hy, e⟩ := List.mem_map.1 h1
  rw [← e]
  exact h y hy
theorem ord_map {L : List Hd} : Ord L ↔ (L.map fun h => h.r).Pairwise fun a b => lsR b a = true := by
  unfold Ord
  rw [List.pairwise_map]
theorem smL_ord {L : List Hd} {i : Nat} (h : Ord L) : Ord (smL L i) := by
  rw [ord_map, smL_ids, ← ord_map]
  exact h
theorem smL_at {L : List Hd} {i : Nat} (hi : i < L.length) (hn : (idsL L).Nodup) : atL (smL L i) = fun z => if z = L[i].r.id then some { L[i] with small := true } else atL L z := by
  obtain ⟨e1, e2⟩ := smL_split hi
  rw [e1]
  have h2 := hn
  rw [e2] at h2
  rw [atL_small h2, ← e2]
theorem FrS.grown {w W W' : World} {S : Nat → Prop} {row : Option Nat} {B : Nat} (h : FrS w W S S) (hB : w.heap.size ≤ B) (hg : W.grownBy W' row) (hr : ∀ r, row = some r → B ≤ r ∧ ∃ o : Obj, W.heap[r]? = some o ∧ o.isCells = false) : FrS w W' S S :=
  ⟨hg.os.trans h.os, hg.tape.trans h.tape, hg.output.trans h.output, Nat.le_trans h.size hg.size, fun k hk hS => (heap_kept hg hr (by omega) (by have := h.size; omega)).trans (h.block k hk hS), fun k hk => .inl hk⟩

end Go.Proofs.Ytbbaehmfadpgeaa

/-
  Buffers: what BufferKeeps says of Put: the mathematics.
-/
import Derived.Test.YtbbaehmfadpgeaaBfX
namespace Go.Proofs.Ytbbaehmfadpgeaa
open Go.RowKit Go.Shelf
set_option linter.unusedSimpArgs false
/-- the table of a law with one record more -/
def putF (f : Int → Option Rc) (r : Rc) : Int → Option Rc := fun z => if z = r.id then some r else f z
theorem fit_get {cap : Int} {I L' : List Hd} {D : List Int} (h : FitP cap I L' D) {i : Nat} (hi : i < L'.length) : ∃ hi2 : i < I.length, (I[i]).r = (L'[i]).r := by
  have hl := h.len
  have hi2 : i < I.length := by omega
  refine ⟨hi2, ?_⟩
  have e : (L'.map fun h => h.r)[i]? = ((I.map fun h => h.r).take L'.length)[i]? := by rw [h.recs]
  rw [List.getElem?_take, if_pos hi, List.getElem?_map, List.getElem?_map, List.getElem?_eq_getElem hi, List.getElem?_eq_getElem hi2] at e
  simpa using e.symm
theorem ins_mem {r : Rc} {L : List Hd} {x : Hd} (h : x ∈ insL r L) : x = newH r ∨ x ∈ L := by
  rw [insL_pos] at h
  rcases List.mem_append.1 h with h1 | h1
  · exact .inr (List.mem_of_mem_take h1)
  · rcases List.mem_cons.1 h1 with h1 | h1
    · exact .inl h1
    · exact .inr (List.mem_of_mem_drop h1)
theorem ins_f {r : Rc} {L : List Hd} {f : Int → Option Rc} (hid : r.id ∉ idsL L) (hf : ∀ x ∈ L, f x.r.id = some x.r) {x : Hd} (h : x ∈ insL r L) : putF f r x.r.id = some x.r := by
  unfold putF
  rcases ins_mem h with rfl | h
  · simp [newH]
  · have hne : x.r.id ≠ r.id := fun e => hid (e ▸ List.mem_map.2 ⟨x, h, rfl⟩)
    rw [if_neg hne]
    exact hf x h
theorem kp_src {cap : Int} {I L' : List Hd} {D : List Int} (h : FitP cap I L' D) {x : Hd} (hx : x ∈ L') : ∃ (i : Nat) (e : Hd), e ∈ I ∧ e.r = x.r ∧ (e.small = true → x.small = true) ∧ I[i]? = some e ∧ i < L'.length := by
  obtain ⟨i, hi, rfl⟩ := List.mem_iff_getElem.1 hx
  obtain ⟨hi2, e⟩ := fit_get h hi
  exact ⟨i, I[i], List.getElem_mem hi2, e, fun hs => h.small i hi2 hi hs, List.getElem?_eq_getElem hi2, hi⟩
theorem kp_f {cap : Int} {r : Rc} {L L' : List Hd} {D : List Int} {f : Int → Option Rc} (hid : r.id ∉ idsL L) (hf : ∀ x ∈ L, f x.r.id = some x.r) (h : FitP cap (insL r L) L' D) : ∀ x ∈ L', putF f r x.r.id = some x.r := by
  intro x hx
  obtain ⟨i, e, he, e1, _⟩ := kp_src h hx
  rw [← e1]
  exact ins_f hid hf he
theorem kp_new {cap : Int} {r : Rc} {L L' : List Hd} {D : List Int} (h : FitP cap (insL r L) L' D) : ∀ x ∈ L', (∀ y ∈ L, y.r.id ≠ x.r.id) → x.r = r := by
  intro x hx hn
  obtain ⟨i, e, he, e1, _⟩ := kp_src h hx
  rcases ins_mem he with rfl | he
  · exact e1.symm
  · exact absurd (by rw [e1]) (hn e he)
theorem kp_small {cap : Int} {r : Rc} {L L' : List Hd} {D : List Int} (hid : r.id ∉ idsL L) (hn : (idsL L).Nodup) (h : FitP cap (insL r L) L' D) : ∀ x ∈ L', ∀ y ∈ L, y.r.id = x.r.id → y.small = true → x.small = true := by
  intro x hx y hy he hs
  obtain ⟨i, e, he2, e1, e2, _⟩ := kp_src h hx
  rcases ins_mem he2 with rfl | he2
  · exfalso
    refine hid ?_
    have : r.id = y.r.id := by rw [he, ← e1]; rfl
    rw [this]
    exact List.mem_map.2 ⟨y, hy, rfl⟩
  · have a1 := atL_mem hn hy
    have a2 := atL_mem hn he2
    rw [e1, ← he, a1] at a2
    have : y = e := by simpa using a2
    exact e2 (this ▸ hs)
theorem kp_drop {cap : Int} {r : Rc} {L L' : List Hd} {D : List Int} {f : Int → Option Rc} (hid : r.id ∉ idsL L) (hf : ∀ x ∈ L, f x.r.id = some x.r) (hok : ∀ x ∈ insL r L, OkR x.r) (hord : Ord (insL r L)) (h : FitP cap (insL r L) L' D) : ∀ d ∈ D, ∃ e, OkR e ∧ e.id = d ∧ putF f r d = some e ∧ ∀ x ∈ L', lsR e x.r = true := by
  intro d hd
  rw [h.ids, List.mem_reverse] at hd
  obtain ⟨j, hj, e⟩ := List.mem_iff_getElem.1 hd
  rw [List.length_drop] at hj
  have hlen : (idsL (insL r L)).length = (insL r L).length := by simp [idsL]
  rw [List.getElem_drop] at e
  have hj2 : L'.length + j < (insL r L).length := by omega
  have ed : ((insL r L)[L'.length + j]).r.id = d := by
    rw [← e]
    simp [idsL]
  refine ⟨((insL r L)[L'.length + j]).r, hok _ (List.getElem_mem _), ed, by rw [← ed]; exact ins_f hid hf (List.getElem_mem _), fun x hx => ?_⟩
  obtain ⟨i, y, hy, e1, _, hyi, hi⟩ := kp_src h hx
  have hi2 : i < (insL r L).length := by omega
  rw [List.getElem?_eq_getElem hi2] at hyi
  have hyi : (insL r L)[i] = y := by simpa using hyi
  rw [← e1, ← hyi]
  exact List.pairwise_iff_getElem.1 hord i (L'.length + j) hi2 hj2 (by omega)
theorem ord_next {L : List Hd} (h : Ord L) {i : Nat} (hi : i + 1 < L.length) : lsR (L[i + 1]).r (L[i]).r = true := List.pairwise_iff_getElem.1 h i (i + 1) (by omega) hi (by omega)
theorem usL_take {L : List Hd} {k : Nat} (hk : k < L.length) : usL (L.take (k + 1)) = usL (L.take k) + byH L[k] := by
  rw [List.take_succ_eq_append_getElem hk, usL_snoc]
theorem usL_bd2 {L : List Hd} (hok : ∀ x ∈ L, OkR x.r) (k : Nat) : 0 ≤ usL (L.take k) ∧ usL (L.take k) ≤ 16777216 * L.length := by
  have h1 := usL_bd (L := L.take k) (fun x hx => hok x (List.mem_of_mem_take hx))
  rw [List.length_take] at h1
  omega
/-- Put in one contract -/
theorem putP_ok {cap : Int} {L : List Hd} {r : Rc} (hcap : 0 ≤ cap) : ∃ L' D, fitL cap (mu (insL r L)) (insL r L) [] = (L', D) ∧ FitP cap (insL r L) L' D := by
  obtain ⟨L', D, e, h⟩ := fitL_fit hcap (mu (insL r L)) (insL r L) [] (Nat.le_refl _)
  exact ⟨L', D, by simpa using e, h⟩

end Go.Proofs.Ytbbaehmfadpgeaa

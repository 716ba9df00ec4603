/-
  bound.Outside: the mathematics.
-/
import Derived.Test.YtamelpfhbnkggaaSetNorm
import Derived.Lib.Hide
namespace Go.Proofs.Ytamelpfhbnkggaa
open Go.RowKit Go.Shelf
theorem gt_take (zs : List (Int × Int)) (k : Nat) (h : k < zs.length) : zs.take (k + 1) = zs.take k ++ [gt zs k] := by
  rw [List.take_add_one, gt_get h, List.getElem?_eq_getElem h]; rfl
theorem inL_take {zs : List (Int × Int)} {x : Int} {k : Nat} (hk : k ≤ zs.length) (h : InL x (zs.take k)) : ∃ j, j < k ∧ (gt zs j).1 ≤ x ∧ x ≤ (gt zs j).2 := by
  obtain ⟨p, hp, h1⟩ := h
  obtain ⟨j, hj, rfl⟩ := List.getElem_of_mem hp
  rw [List.length_take] at hj
  rw [List.getElem_take] at h1
  exact ⟨j, by omega, by rw [gt_get (by omega)]; exact h1⟩
theorem adj_lt {zs : List (Int × Int)} (h : Nrm zs) {i j : Nat} (hij : i < j) (hj : j < zs.length) : (gt zs i).2 + 1 < (gt zs j).1 := by
  rw [gt_get (by omega), gt_get hj]
  exact (List.pairwise_iff_getElem.1 h.2) i j (by omega) hj hij
structure OutP (zs : List (Int × Int)) (lo hi : Int) (k : Nat) (l : List (Int × Int)) (fr : Int) : Prop where
  len : l.length ≤ k
  low : lo ≤ fr
  upp : fr ≤ 1073741825
  form : fr = lo ∨ ∃ j, j < k ∧ fr = (gt zs j).2 + 1
  past : ∀ j, j < k → (gt zs j).2 < fr
  each : ∀ y ∈ l, Ok y ∧ y.2 + 1 < fr
  pair : l.Pairwise fun p q => p.2 + 1 < q.1
  mem : ∀ x, InL x l ↔ lo ≤ x ∧ x ≤ hi ∧ x < fr ∧ ¬ InL x (zs.take k)
theorem out_start (zs : List (Int × Int)) {lo hi : Int} (h : vB lo hi = true) : OutP zs lo hi 0 [] lo := by
  obtain ⟨h1, h2, h3⟩ := (vB_iff _ _).1 h
  refine ⟨by simp, Int.le_refl _, by omega, .inl rfl, fun j hj => absurd hj (Nat.not_lt_zero j), fun y hy => (by cases hy), List.Pairwise.nil, fun x => ?_⟩
  constructor
  · intro h; exact absurd h (inL_nil x)
  · rintro ⟨a, _, b, _⟩; omega
theorem out_past {zs : List (Int × Int)} {lo hi : Int} {k : Nat} {l : List (Int × Int)} {fr : Int} (h : OutP zs lo hi k l fr) :
    ∀ j, j < k + 1 → (gt zs j).2 < max fr ((gt zs k).2 + 1) := by
  intro j hj
  rcases Nat.lt_or_ge j k with h1 | h1
  · have := h.past j h1; omega
  · obtain rfl : j = k := by omega
    omega
theorem out_form {zs : List (Int × Int)} {lo hi : Int} {k : Nat} {l : List (Int × Int)} {fr : Int} (h : OutP zs lo hi k l fr) :
    max fr ((gt zs k).2 + 1) = lo ∨ ∃ j, j < k + 1 ∧ max fr ((gt zs k).2 + 1) = (gt zs j).2 + 1 := by
  by_cases hm : fr ≤ (gt zs k).2 + 1
  · exact .inr ⟨k, by omega, by omega⟩
  · rw [show max fr ((gt zs k).2 + 1) = fr by omega]
    rcases h.form with h1 | ⟨j, h1, h2⟩
    · exact .inl h1
    · exact .inr ⟨j, by omega, h2⟩
theorem out_yes {zs : List (Int × Int)} {lo hi : Int} {k : Nat} {l : List (Int × Int)} {fr : Int} (hn : Nrm zs) (hk : k < zs.length) (hv : vB lo hi = true) (h : OutP zs lo hi k l fr)
    (ht : fr ≤ min ((gt zs k).1 - 1) hi) : OutP zs lo hi (k + 1) (l ++ [(fr, min ((gt zs k).1 - 1) hi)]) (max fr ((gt zs k).2 + 1)) := by
  obtain ⟨h1, h2, h3⟩ := (vB_iff _ _).1 hv
  obtain ⟨⟨o1, o2, o3⟩, -⟩ := adj_of_nrm hn k hk
  have hp := out_past h
  have hf := Lib.hid (out_form h)
  obtain ⟨a1, a2, a3, a4, a5, a6, a7, a8⟩ := h
  have A4 := Lib.hid a4
  clear a4
  refine ⟨by rw [List.length_append]; simp; omega, by omega, by omega, hf.out, hp, ?_, ?_, ?_⟩
  · intro y hy
    rcases List.mem_append.1 hy with hy | hy
    · have := a6 y hy; exact ⟨this.1, by omega⟩
    · simp at hy; subst hy; exact ⟨⟨by show -1073741824 ≤ fr; omega, by show min _ _ ≤ _; omega, by show fr ≤ min _ _; omega⟩, by show min _ _ + 1 < _; omega⟩
  · rw [List.pairwise_append]
    refine ⟨a7, by simp, fun p hp q hq => ?_⟩
    simp at hq; subst hq
    exact (a6 p hp).2
  · intro x
    rw [inL_append, inL_one, a8, gt_take zs k hk, inL_append, inL_one]
    constructor
    · rintro (⟨b1, b2, b3, b4⟩ | ⟨b1, b2⟩)
      · exact ⟨b1, b2, by omega, fun h => by rcases h with h | h; exact b4 h; omega⟩
      · refine ⟨by omega, by omega, by omega, fun h => ?_⟩
        rcases h with h | h
        · obtain ⟨j, c1, c2, c3⟩ := inL_take (by omega) h
          have := a5 j c1; omega
        · omega
    · rintro ⟨b1, b2, b3, b4⟩
      by_cases hx : x < fr
      · exact .inl ⟨b1, b2, hx, fun h => b4 (.inl h)⟩
      · refine .inr ⟨by omega, ?_⟩
        have : ¬ ((gt zs k).1 ≤ x ∧ x ≤ (gt zs k).2) := fun h => b4 (.inr h)
        omega
theorem out_no {zs : List (Int × Int)} {lo hi : Int} {k : Nat} {l : List (Int × Int)} {fr : Int} (hn : Nrm zs) (hk : k < zs.length) (h : OutP zs lo hi k l fr)
    (ht : ¬ fr ≤ min ((gt zs k).1 - 1) hi) : OutP zs lo hi (k + 1) l (max fr ((gt zs k).2 + 1)) := by
  obtain ⟨⟨o1, o2, o3⟩, -⟩ := adj_of_nrm hn k hk
  have hp := out_past h
  have hf := Lib.hid (out_form h)
  obtain ⟨a1, a2, a3, a4, a5, a6, a7, a8⟩ := h
  have A4 := Lib.hid a4
  clear a4
  refine ⟨by omega, by omega, by omega, hf.out, hp, fun y hy => ?_, a7, ?_⟩
  · have := a6 y hy; exact ⟨this.1, by omega⟩
  · intro x
    rw [a8, gt_take zs k hk, inL_append, inL_one]
    constructor
    · rintro ⟨b1, b2, b3, b4⟩
      refine ⟨b1, b2, by omega, fun h => ?_⟩
      rcases h with h | h
      · exact b4 h
      · rcases A4.out with rfl | ⟨j, c1, rfl⟩
        · omega
        · have := adj_lt hn c1 hk
          omega
    · rintro ⟨b1, b2, b3, b4⟩
      refine ⟨b1, b2, ?_, fun h => b4 (.inl h)⟩
      have : ¬ ((gt zs k).1 ≤ x ∧ x ≤ (gt zs k).2) := fun h => b4 (.inr h)
      omega
/-- what Outside gathers -/
theorem out_end_yes {zs : List (Int × Int)} {lo hi : Int} {l : List (Int × Int)} {fr : Int} (hv : vB lo hi = true) (h : OutP zs lo hi zs.length l fr) (ht : fr ≤ hi) :
    nset (fun x => lo ≤ x ∧ x ≤ hi ∧ ¬ InL x zs) = l ++ [(fr, hi)] := by
  obtain ⟨h1, h2, h3⟩ := (vB_iff _ _).1 hv
  obtain ⟨a1, a2, a3, -, a5, a6, a7, a8⟩ := h
  rw [List.take_length] at a8
  refine nset_eq ⟨fun p hp => ?_, ?_⟩ fun x => ?_
  · rcases List.mem_append.1 hp with hp | hp
    · exact (a6 p hp).1
    · simp at hp; subst hp; exact ⟨by show -1073741824 ≤ fr; omega, h3, ht⟩
  · rw [List.pairwise_append]
    refine ⟨a7, by simp, fun p hp q hq => ?_⟩
    simp at hq; subst hq
    exact (a6 p hp).2
  · rw [inL_append, inL_one, a8]
    constructor
    · rintro (⟨b1, b2, b3, b4⟩ | ⟨b1, b2⟩)
      · exact ⟨b1, b2, b4⟩
      · refine ⟨by omega, by omega, fun h => ?_⟩
        obtain ⟨j, c1, c2, c3⟩ := inL_take (Nat.le_refl _) (by rw [List.take_length]; exact h)
        have := a5 j c1; omega
    · rintro ⟨b1, b2, b3⟩
      by_cases hx : x < fr
      · exact .inl ⟨b1, b2, hx, b3⟩
      · exact .inr ⟨by omega, b2⟩
theorem out_end_no {zs : List (Int × Int)} {lo hi : Int} {l : List (Int × Int)} {fr : Int} (h : OutP zs lo hi zs.length l fr) (ht : ¬ fr ≤ hi) :
    nset (fun x => lo ≤ x ∧ x ≤ hi ∧ ¬ InL x zs) = l := by
  obtain ⟨a1, a2, a3, -, a5, a6, a7, a8⟩ := h
  rw [List.take_length] at a8
  refine nset_eq ⟨fun p hp => (a6 p hp).1, a7⟩ fun x => ?_
  rw [a8]
  constructor
  · rintro ⟨b1, b2, b3, b4⟩; exact ⟨b1, b2, b4⟩
  · rintro ⟨b1, b2, b3⟩; exact ⟨b1, b2, by omega, b3⟩
end Go.Proofs.Ytamelpfhbnkggaa

/-
  bound.Cut: the mathematics; checkSets.
-/
import Derived.Test.YtamelpfhbnkggaaOutMath
namespace Go.Proofs.Ytamelpfhbnkggaa
open Go.RowKit Go.Shelf
noncomputable def bothE (s t : List (Int × Int)) : Int := if setE s = 0 then setE t else setE s
set_option maxHeartbeats 1000000 in
theorem checkSets_any (sv tv : Value) (s t : List (Int × Int)) (w : World) (hS : Spans w.heap.size w sv s) (hT : Spans w.heap.size w tv t) :
    Calls Try.prog 103 #[sv, tv] w fun e w' => e = .returned (.int .i64 (bothE s t)) ∧ Below w.heap.size w w' := by
  have c1 := checkSet_any sv s w hS
  have c2 := fun w' (hb : Below w.heap.size w w') => checkSet_any tv t w' (hT.at hb)
  by_cases h : setE s = 0
  · rw [show bothE s t = setE t from if_pos h]
    rw [h] at c1
    generalize setE t = r at c2 ⊢
    clear h hS hT
    go_enter Try.func103, Try.ntmps103
    go_wp2_with fail
    refine c1.mono ?_
    rintro e w1 ⟨rfl, hb⟩
    go_wp2_with fail
    refine (c2 _ hb).mono ?_
    rintro e w2 ⟨rfl, hb2⟩
    go_wp2_with fail
    go_ret
    exact ⟨rfl, hb.trans (hb2.mono hb.size)⟩
  · rw [show bothE s t = setE s from if_neg h]
    generalize setE s = r at c1 h ⊢
    clear hS hT c2
    go_enter Try.func103, Try.ntmps103
    go_wp2_with fail
    refine c1.mono ?_
    rintro e w1 ⟨rfl, hb⟩
    go_wp2_with fail
    go_ret
    exact ⟨rfl, hb⟩
theorem bothE_zero {s t : List (Int × Int)} (h : bothE s t = 0) : setE s = 0 ∧ setE t = 0 := by
  unfold bothE at h
  split at h
  · exact ⟨by assumption, h⟩
  · exact absurd h (by assumption)
/-- x lies in span number p -/
def At (s : List (Int × Int)) (p : Nat) (x : Int) : Prop := p < s.length ∧ (gt s p).1 ≤ x ∧ x ≤ (gt s p).2
theorem inL_at (s : List (Int × Int)) (x : Int) : InL x s ↔ ∃ p, At s p x := by
  constructor
  · rintro ⟨y, hy, h⟩
    obtain ⟨j, hj, rfl⟩ := List.getElem_of_mem hy
    exact ⟨j, hj, by rw [gt_get hj]; exact h⟩
  · rintro ⟨p, hp, h⟩
    exact ⟨gt s p, by rw [gt_get hp]; exact List.getElem_mem hp, h⟩
structure CutP (s t : List (Int × Int)) (i j : Nat) (l : List (Int × Int)) : Prop where
  len : l.length ≤ i + j
  each : ∀ y ∈ l, Ok y ∧ ((0 < i ∧ y.2 ≤ (gt s (i - 1)).2) ∨ (0 < j ∧ y.2 ≤ (gt t (j - 1)).2))
  pair : l.Pairwise fun p q => p.2 + 1 < q.1
  mem : ∀ x, InL x l ↔ ∃ p q, At s p x ∧ At t q x ∧ (p < i ∨ q < j)
theorem cut_start (s t : List (Int × Int)) : CutP s t 0 0 [] :=
  ⟨by simp, fun y hy => (by cases hy), List.Pairwise.nil, fun x => ⟨fun h => absurd h (inL_nil x), fun ⟨p, q, _, _, h⟩ => by omega⟩⟩
/-- the common part of two spans, if there is one -/
def part2 (a b : Int × Int) : List (Int × Int) := if max a.1 b.1 ≤ min a.2 b.2 then [(max a.1 b.1, min a.2 b.2)] else []
theorem inL_part (a b : Int × Int) (x : Int) : InL x (part2 a b) ↔ a.1 ≤ x ∧ x ≤ a.2 ∧ b.1 ≤ x ∧ x ≤ b.2 := by
  unfold part2
  split
  · rw [inL_one]
    show max a.1 b.1 ≤ x ∧ x ≤ min a.2 b.2 ↔ _
    omega
  · constructor
    · intro h; exact absurd h (inL_nil x)
    · rintro ⟨h1, h2, h3, h4⟩; omega
theorem part_mem {a b y : Int × Int} (h : y ∈ part2 a b) : y.1 = max a.1 b.1 ∧ y.2 = min a.2 b.2 ∧ y.1 ≤ y.2 := by
  unfold part2 at h
  split at h
  · simp at h; subst h; exact ⟨rfl, rfl, by assumption⟩
  · cases h
theorem part_len (a b : Int × Int) : (part2 a b).length ≤ 1 := by unfold part2; split <;> simp
theorem part_pair (a b : Int × Int) : (part2 a b).Pairwise fun p q => p.2 + 1 < q.1 := by unfold part2; split <;> simp
theorem cut_pair {s t : List (Int × Int)} {i j : Nat} {l : List (Int × Int)} (hs : Nrm s) (ht : Nrm t) (hi : i < s.length) (hj : j < t.length) (h : CutP s t i j l) :
    (l ++ part2 (gt s i) (gt t j)).Pairwise fun p q => p.2 + 1 < q.1 := by
  rw [List.pairwise_append]
  refine ⟨h.pair, part_pair _ _, fun p hp q hq => ?_⟩
  obtain ⟨e1, e2, e3⟩ := part_mem hq
  rcases (h.each p hp).2 with ⟨k1, k2⟩ | ⟨k1, k2⟩
  · have := adj_lt hs (i := i - 1) (j := i) (by omega) hi; omega
  · have := adj_lt ht (i := j - 1) (j := j) (by omega) hj; omega
theorem cut_left {s t : List (Int × Int)} {i j : Nat} {l : List (Int × Int)} (hs : Nrm s) (ht : Nrm t) (hi : i < s.length) (hj : j < t.length) (h : CutP s t i j l)
    (hlt : (gt s i).2 < (gt t j).2) : CutP s t (i + 1) j (l ++ part2 (gt s i) (gt t j)) := by
  have hp := cut_pair hs ht hi hj h
  obtain ⟨⟨a1, a2, a3⟩, -⟩ := adj_of_nrm hs i hi
  obtain ⟨⟨b1, b2, b3⟩, -⟩ := adj_of_nrm ht j hj
  obtain ⟨h1, h2, h3, h4⟩ := h
  have hl := part_len (gt s i) (gt t j)
  refine ⟨by rw [List.length_append]; omega, fun y hy => ?_, hp, fun x => ?_⟩
  · rcases List.mem_append.1 hy with hy | hy
    · refine ⟨(h2 y hy).1, ?_⟩
      rcases (h2 y hy).2 with ⟨k1, k2⟩ | k
      · refine .inl ⟨by omega, ?_⟩
        have := adj_lt hs (i := i - 1) (j := i) (by omega) hi
        simp only [Nat.add_sub_cancel]; omega
      · exact .inr k
    · obtain ⟨e1, e2, e3⟩ := part_mem hy
      exact ⟨⟨by omega, by omega, e3⟩, .inl ⟨by omega, by simp only [Nat.add_sub_cancel]; omega⟩⟩
  · rw [inL_append, inL_part, h4]
    constructor
    · rintro (⟨p, q, k1, k2, k3⟩ | ⟨k1, k2, k3, k4⟩)
      · exact ⟨p, q, k1, k2, by omega⟩
      · exact ⟨i, j, ⟨hi, k1, k2⟩, ⟨hj, k3, k4⟩, by omega⟩
    · rintro ⟨p, q, k1, k2, k3⟩
      by_cases hpq : p < i ∨ q < j
      · exact .inl ⟨p, q, k1, k2, hpq⟩
      · obtain rfl : p = i := by omega
        obtain ⟨-, m1, m2⟩ := k1
        obtain ⟨m3, m4, m5⟩ := k2
        by_cases hq : q = j
        · subst hq; exact .inr ⟨m1, m2, m4, m5⟩
        · have := adj_lt ht (i := j) (j := q) (by omega) m3; omega
theorem cut_right {s t : List (Int × Int)} {i j : Nat} {l : List (Int × Int)} (hs : Nrm s) (ht : Nrm t) (hi : i < s.length) (hj : j < t.length) (h : CutP s t i j l)
    (hge : (gt t j).2 ≤ (gt s i).2) : CutP s t i (j + 1) (l ++ part2 (gt s i) (gt t j)) := by
  have hp := cut_pair hs ht hi hj h
  obtain ⟨⟨a1, a2, a3⟩, -⟩ := adj_of_nrm hs i hi
  obtain ⟨⟨b1, b2, b3⟩, -⟩ := adj_of_nrm ht j hj
  obtain ⟨h1, h2, h3, h4⟩ := h
  have hl := part_len (gt s i) (gt t j)
  refine ⟨by rw [List.length_append]; omega, fun y hy => ?_, hp, fun x => ?_⟩
  · rcases List.mem_append.1 hy with hy | hy
    · refine ⟨(h2 y hy).1, ?_⟩
      rcases (h2 y hy).2 with k | ⟨k1, k2⟩
      · exact .inl k
      · refine .inr ⟨by omega, ?_⟩
        have := adj_lt ht (i := j - 1) (j := j) (by omega) hj
        simp only [Nat.add_sub_cancel]; omega
    · obtain ⟨e1, e2, e3⟩ := part_mem hy
      exact ⟨⟨by omega, by omega, e3⟩, .inr ⟨by omega, by simp only [Nat.add_sub_cancel]; omega⟩⟩
  · rw [inL_append, inL_part, h4]
    constructor
    · rintro (⟨p, q, k1, k2, k3⟩ | ⟨k1, k2, k3, k4⟩)
      · exact ⟨p, q, k1, k2, by omega⟩
      · exact ⟨i, j, ⟨hi, k1, k2⟩, ⟨hj, k3, k4⟩, by omega⟩
    · rintro ⟨p, q, k1, k2, k3⟩
      by_cases hpq : p < i ∨ q < j
      · exact .inl ⟨p, q, k1, k2, hpq⟩
      · obtain rfl : q = j := by omega
        obtain ⟨m3, m4, m5⟩ := k1
        obtain ⟨-, m1, m2⟩ := k2
        by_cases hq : p = i
        · subst hq; exact .inr ⟨m4, m5, m1, m2⟩
        · have := adj_lt hs (i := i) (j := p) (by omega) m3; omega
theorem cut_end {s t : List (Int × Int)} {i j : Nat} {l : List (Int × Int)} (h : CutP s t i j l) (he : s.length ≤ i ∨ t.length ≤ j) :
    nset (fun x => InL x s ∧ InL x t) = l := by
  refine nset_eq ⟨fun p hp => (h.each p hp).1, h.pair⟩ fun x => ?_
  rw [h.mem, inL_at, inL_at]
  constructor
  · rintro ⟨p, q, k1, k2, _⟩; exact ⟨⟨p, k1⟩, ⟨q, k2⟩⟩
  · rintro ⟨⟨p, k1⟩, ⟨q, k2⟩⟩
    have h1 := k1.1
    have h2 := k2.1
    exact ⟨p, q, k1, k2, by omega⟩
end Go.Proofs.Ytamelpfhbnkggaa

/-
  Sets of whole numbers: how many numbers they have; two ascending lists made one; one more span put into a normal list.
-/
import Derived.Test.YtamelpfhbnkggaaOutMath
import Derived.Test.YtamelpfhbnkggaaSetCount
namespace Go.Proofs.Ytamelpfhbnkggaa
structure MerP (s t ys : List (Int × Int)) (i j : Nat) : Prop where
  perm : ys.Perm (s.take i ++ t.take j)
  asc : Asc ys
  low : ∀ p ∈ ys, (i < s.length → p.1 ≤ (gt s i).1) ∧ (j < t.length → p.1 ≤ (gt t j).1)
theorem mer_start (s t : List (Int × Int)) : MerP s t [] 0 0 := ⟨by simp, List.Pairwise.nil, fun p hp => by cases hp⟩
theorem gt_asc {s : List (Int × Int)} (h : Asc s) {i : Nat} (hi : i + 1 < s.length) : (gt s i).1 ≤ (gt s (i + 1)).1 := by
  rw [gt_get (by omega), gt_get hi]
  exact (List.pairwise_iff_getElem.1 h) i (i + 1) (by omega) hi (by omega)
theorem mer_left {s t ys : List (Int × Int)} {i j : Nat} (hs : Asc s) (hi : i < s.length) (h : MerP s t ys i j) (hle : j < t.length → (gt s i).1 ≤ (gt t j).1) : MerP s t (ys ++ [gt s i]) (i + 1) j := by
  obtain ⟨h1, h2, h3⟩ := h
  refine ⟨?_, ?_, fun p hp => ?_⟩
  · rw [gt_take s i hi, List.append_assoc]
    refine (h1.append_right _).trans ?_
    rw [List.append_assoc]
    exact List.Perm.append_left _ List.perm_append_comm
  · refine List.pairwise_append.2 ⟨h2, by simp, fun p hp q hq => ?_⟩
    simp at hq; subst hq
    exact (h3 p hp).1 hi
  · rcases List.mem_append.1 hp with hp | hp
    · have := h3 p hp
      exact ⟨fun k => by have := gt_asc hs k; have := (h3 p hp).1 hi; omega, (h3 p hp).2⟩
    · simp at hp; subst hp
      exact ⟨fun k => gt_asc hs k, hle⟩
theorem mer_right {s t ys : List (Int × Int)} {i j : Nat} (ht : Asc t) (hj : j < t.length) (h : MerP s t ys i j) (hle : i < s.length → (gt t j).1 ≤ (gt s i).1) : MerP s t (ys ++ [gt t j]) i (j + 1) := by
  obtain ⟨h1, h2, h3⟩ := h
  refine ⟨?_, ?_, fun p hp => ?_⟩
  · rw [gt_take t j hj, ← List.append_assoc]
    exact h1.append_right _
  · refine List.pairwise_append.2 ⟨h2, by simp, fun p hp q hq => ?_⟩
    simp at hq; subst hq
    exact (h3 p hp).2 hj
  · rcases List.mem_append.1 hp with hp | hp
    · exact ⟨(h3 p hp).1, fun k => by have := gt_asc ht k; have := (h3 p hp).2 hj; omega⟩
    · simp at hp; subst hp
      exact ⟨hle, fun k => gt_asc ht k⟩
theorem mer_end {s t ys : List (Int × Int)} (h : MerP s t ys s.length t.length) : ys.Perm (s ++ t) ∧ Asc ys := by
  obtain ⟨h1, h2, -⟩ := h
  rw [List.take_length, List.take_length] at h1
  exact ⟨h1, h2⟩
theorem mer_len {s t ys : List (Int × Int)} {i j : Nat} (hi : i ≤ s.length) (hj : j ≤ t.length) (h : MerP s t ys i j) : ys.length = i + j := by
  rw [h.perm.length_eq, List.length_append, List.length_take, List.length_take]; omega
theorem nrm_asc {s : List (Int × Int)} (h : Nrm s) : Asc s := by
  refine List.Pairwise.imp_of_mem (fun {p q} hp _ k => ?_) h.2
  have := (h.1 p hp).2.2
  omega
/-- what put has of the first k spans: those before, the span itself as it has grown, those after -/
structure PutP (s : List (Int × Int)) (x : Int × Int) (k : Nat) (b : List (Int × Int)) (y : Int × Int) (a : List (Int × Int)) : Prop where
  nrm : Nrm (b ++ y :: a)
  mem : ∀ n, InL n (b ++ y :: a) ↔ InL n (s.take k) ∨ (x.1 ≤ n ∧ n ≤ x.2)
  bof : ∀ z ∈ b, z ∈ s.take k
  aof : ∀ z ∈ a, z ∈ s.take k
  blen : b.length ≤ k
  alen : a.length ≤ k
theorem put_start (s : List (Int × Int)) {x : Int × Int} (hx : Ok x) : PutP s x 0 [] x [] := by
  refine ⟨⟨fun p hp => ?_, by simp⟩, fun n => ?_, fun z hz => (by cases hz), fun z hz => (by cases hz), by simp, by simp⟩
  · simp at hp; subst hp; exact hx
  · rw [List.nil_append, inL_one, List.take_zero]
    exact ⟨.inr, fun h => h.resolve_left (inL_nil n)⟩
theorem take_above {s : List (Int × Int)} (h : Nrm s) {k : Nat} (hk : k < s.length) {z : Int × Int} (hz : z ∈ s.take k) : z.2 + 1 < (gt s k).1 := by
  obtain ⟨j, hj, rfl⟩ := List.getElem_of_mem hz
  rw [List.length_take] at hj
  rw [List.getElem_take, gt_get hk]
  exact (List.pairwise_iff_getElem.1 h.2) j k (by omega) hk (by omega)
theorem put_mem {s : List (Int × Int)} {k : Nat} (hk : k < s.length) (n : Int) : InL n (s.take (k + 1)) ↔ InL n (s.take k) ∨ ((gt s k).1 ≤ n ∧ n ≤ (gt s k).2) := by
  rw [gt_take s k hk, inL_append, inL_one]
theorem put_parts {b a : List (Int × Int)} {y : Int × Int} : Nrm (b ++ y :: a) ↔ (∀ z ∈ b, Ok z) ∧ Ok y ∧ (∀ z ∈ a, Ok z) ∧ (b.Pairwise fun p q => p.2 + 1 < q.1) ∧ (a.Pairwise fun p q => p.2 + 1 < q.1) ∧ (∀ z ∈ b, z.2 + 1 < y.1) ∧ (∀ z ∈ a, y.2 + 1 < z.1) ∧ (∀ p ∈ b, ∀ q ∈ a, p.2 + 1 < q.1) := by
  unfold Nrm
  rw [List.pairwise_append, List.pairwise_cons]
  constructor
  · rintro ⟨h1, h2, ⟨h3, h4⟩, h5⟩
    exact ⟨fun z hz => h1 z (by simp [hz]), h1 y (by simp), fun z hz => h1 z (by simp [hz]), h2, h4, fun z hz => h5 z hz y (by simp), h3, fun p hp q hq => h5 p hp q (by simp [hq])⟩
  · rintro ⟨h1, h2, h3, h4, h5, h6, h7, h8⟩
    refine ⟨fun p hp => ?_, h4, ⟨h7, h5⟩, fun p hp q hq => ?_⟩
    · rcases List.mem_append.1 hp with hp | hp
      · exact h1 p hp
      · rcases List.mem_cons.1 hp with rfl | hp
        · exact h2
        · exact h3 p hp
    · rcases List.mem_cons.1 hq with rfl | hq
      · exact h6 p hp
      · exact h8 p hp q hq
theorem put_before {s : List (Int × Int)} {x y : Int × Int} {k : Nat} {b a : List (Int × Int)} (hs : Nrm s) (hk : k < s.length) (h : PutP s x k b y a) (hc : (gt s k).2 + 1 < y.1) :
    PutP s x (k + 1) (b ++ [gt s k]) y a := by
  obtain ⟨h1, h2, h3, h4, h5, h6⟩ := h
  have ok := hs.1 (gt s k) (by rw [gt_get hk]; exact List.getElem_mem hk)
  obtain ⟨g1, g2, g3, g4, g5, g6, g7, g8⟩ := put_parts.1 h1
  refine ⟨put_parts.2 ⟨fun z hz => ?_, g2, g3, ?_, g5, fun z hz => ?_, g7, fun p hp q hq => ?_⟩, fun n => ?_, fun z hz => ?_, fun z hz => ?_, by simp; omega, by omega⟩
  · rcases List.mem_append.1 hz with hz | hz
    · exact g1 z hz
    · simp at hz; subst hz; exact ok
  · refine List.pairwise_append.2 ⟨g4, by simp, fun p hp q hq => ?_⟩
    simp at hq; subst hq
    exact take_above hs hk (h3 p hp)
  · rcases List.mem_append.1 hz with hz | hz
    · exact g6 z hz
    · simp at hz; subst hz; exact hc
  · rcases List.mem_append.1 hp with hp | hp
    · exact g8 p hp q hq
    · simp at hp; subst hp
      have := g7 q hq
      have := g2.2.2
      omega
  · have e := h2 n
    rw [inL_append, inL_cons] at e
    rw [inL_append, inL_append, inL_one, inL_cons, put_mem hk]
    constructor
    · rintro ((k1 | k1) | (k1 | k1))
      · rcases e.1 (.inl k1) with l | l
        · exact .inl (.inl l)
        · exact .inr l
      · exact .inl (.inr k1)
      · rcases e.1 (.inr (.inl k1)) with l | l
        · exact .inl (.inl l)
        · exact .inr l
      · rcases e.1 (.inr (.inr k1)) with l | l
        · exact .inl (.inl l)
        · exact .inr l
    · rintro ((k1 | k1) | k1)
      · rcases e.2 (.inl k1) with l | l
        · exact .inl (.inl l)
        · exact .inr l
      · exact .inl (.inr k1)
      · rcases e.2 (.inr k1) with l | l
        · exact .inl (.inl l)
        · exact .inr l
  · rw [gt_take s k hk]
    rcases List.mem_append.1 hz with hz | hz
    · exact List.mem_append.2 (.inl (h3 z hz))
    · exact List.mem_append.2 (.inr hz)
  · rw [gt_take s k hk]
    exact List.mem_append.2 (.inl (h4 z hz))
theorem put_after {s : List (Int × Int)} {x y : Int × Int} {k : Nat} {b a : List (Int × Int)} (hs : Nrm s) (hk : k < s.length) (h : PutP s x k b y a) (hc : y.2 + 1 < (gt s k).1) :
    PutP s x (k + 1) b y (a ++ [gt s k]) := by
  obtain ⟨h1, h2, h3, h4, h5, h6⟩ := h
  have ok := hs.1 (gt s k) (by rw [gt_get hk]; exact List.getElem_mem hk)
  obtain ⟨g1, g2, g3, g4, g5, g6, g7, g8⟩ := put_parts.1 h1
  refine ⟨put_parts.2 ⟨g1, g2, fun z hz => ?_, g4, ?_, g6, fun z hz => ?_, fun p hp q hq => ?_⟩, fun n => ?_, fun z hz => ?_, fun z hz => ?_, by omega, by simp; omega⟩
  · rcases List.mem_append.1 hz with hz | hz
    · exact g3 z hz
    · simp at hz; subst hz; exact ok
  · refine List.pairwise_append.2 ⟨g5, by simp, fun p hp q hq => ?_⟩
    simp at hq; subst hq
    exact take_above hs hk (h4 p hp)
  · rcases List.mem_append.1 hz with hz | hz
    · exact g7 z hz
    · simp at hz; subst hz; exact hc
  · rcases List.mem_append.1 hq with hq | hq
    · exact g8 p hp q hq
    · simp at hq; subst hq
      exact take_above hs hk (h3 p hp)
  · have e := h2 n
    rw [inL_append, inL_cons] at e
    rw [inL_append, inL_cons, inL_append, inL_one, put_mem hk]
    constructor
    · rintro (k1 | k1 | k1 | k1)
      · rcases e.1 (.inl k1) with l | l
        · exact .inl (.inl l)
        · exact .inr l
      · rcases e.1 (.inr (.inl k1)) with l | l
        · exact .inl (.inl l)
        · exact .inr l
      · rcases e.1 (.inr (.inr k1)) with l | l
        · exact .inl (.inl l)
        · exact .inr l
      · exact .inl (.inr k1)
    · rintro ((k1 | k1) | k1)
      · rcases e.2 (.inl k1) with l | l | l
        · exact .inl l
        · exact .inr (.inl l)
        · exact .inr (.inr (.inl l))
      · exact .inr (.inr (.inr k1))
      · rcases e.2 (.inr k1) with l | l | l
        · exact .inl l
        · exact .inr (.inl l)
        · exact .inr (.inr (.inl l))
  · rw [gt_take s k hk]
    exact List.mem_append.2 (.inl (h3 z hz))
  · rw [gt_take s k hk]
    rcases List.mem_append.1 hz with hz | hz
    · exact List.mem_append.2 (.inl (h4 z hz))
    · exact List.mem_append.2 (.inr hz)
theorem put_touch {s : List (Int × Int)} {x y : Int × Int} {k : Nat} {b a : List (Int × Int)} (hs : Nrm s) (hk : k < s.length) (h : PutP s x k b y a) (c1 : ¬ (gt s k).2 + 1 < y.1) (c2 : ¬ y.2 + 1 < (gt s k).1) :
    PutP s x (k + 1) b (min y.1 (gt s k).1, max y.2 (gt s k).2) a := by
  obtain ⟨h1, h2, h3, h4, h5, h6⟩ := h
  have ok := hs.1 (gt s k) (by rw [gt_get hk]; exact List.getElem_mem hk)
  obtain ⟨g1, g2, g3, g4, g5, g6, g7, g8⟩ := put_parts.1 h1
  obtain ⟨o1, o2, o3⟩ := ok
  obtain ⟨p1, p2, p3⟩ := g2
  have ha : a = [] := by
    cases a with
    | nil => rfl
    | cons q r =>
      have l1 := g7 q (by simp)
      have l2 := take_above hs hk (h4 q (by simp))
      have l3 := (g3 q (by simp)).2.2
      omega
  subst ha
  refine ⟨put_parts.2 ⟨g1, ⟨by show _ ≤ min y.1 (gt s k).1; omega, by show max y.2 (gt s k).2 ≤ _; omega, by show min y.1 (gt s k).1 ≤ max y.2 (gt s k).2; omega⟩, fun z hz => (by cases hz), g4, List.Pairwise.nil, fun z hz => ?_, fun z hz => (by cases hz), fun p hp q hq => (by cases hq)⟩, fun n => ?_, fun z hz => ?_, fun z hz => (by cases hz), by omega, by simp⟩
  · have l1 := g6 z hz
    have l2 := take_above hs hk (h3 z hz)
    show z.2 + 1 < min y.1 (gt s k).1
    omega
  · have e := h2 n
    rw [inL_append, inL_one] at e
    rw [inL_append, inL_one, put_mem hk]
    show InL n b ∨ (min y.1 (gt s k).1 ≤ n ∧ n ≤ max y.2 (gt s k).2) ↔ _
    constructor
    · rintro (k1 | k1)
      · rcases e.1 (.inl k1) with l | l
        · exact .inl (.inl l)
        · exact .inr l
      · by_cases hn : y.1 ≤ n ∧ n ≤ y.2
        · rcases e.1 (.inr hn) with l | l
          · exact .inl (.inl l)
          · exact .inr l
        · exact .inl (.inr (by omega))
    · rintro ((k1 | k1) | k1)
      · rcases e.2 (.inl k1) with l | l
        · exact .inl l
        · exact .inr (by omega)
      · exact .inr (by omega)
      · rcases e.2 (.inr k1) with l | l
        · exact .inl l
        · exact .inr (by omega)
  · rw [gt_take s k hk]
    exact List.mem_append.2 (.inl (h3 z hz))
/-- what put returns -/
theorem put_end {s : List (Int × Int)} {x y : Int × Int} {b a : List (Int × Int)} (h : PutP s x s.length b y a) : Nrm (b ++ y :: a) ∧ ∀ n, InL n (b ++ y :: a) ↔ InL n s ∨ (x.1 ≤ n ∧ n ≤ x.2) := by
  obtain ⟨h1, h2, -⟩ := h
  rw [List.take_length] at h2
  exact ⟨h1, h2⟩
/-- how many of the first n numbers from the least one on are in P -/
noncomputable def cardTo (P : Int → Prop) : Nat → Int
  | 0 => 0
  | n + 1 => cardTo P n + (open Classical in if P ((n : Int) - 1073741824) then 1 else 0)
theorem card_or_and (P Q : Int → Prop) : ∀ n, cardTo (fun x => P x ∨ Q x) n + cardTo (fun x => P x ∧ Q x) n = cardTo P n + cardTo Q n
  | 0 => rfl
  | n + 1 => by
    have ih := card_or_and P Q n
    simp only [cardTo]
    by_cases h1 : P ((n : Int) - 1073741824) <;> by_cases h2 : Q ((n : Int) - 1073741824) <;> simp only [h1, h2, or_self, and_self, or_true, and_true, and_false, or_false, if_true, if_false] <;> omega
theorem card_congr {P Q : Int → Prop} (h : ∀ x, P x ↔ Q x) (n : Nat) : cardTo P n = cardTo Q n := by
  rw [show P = Q from funext fun x => propext (h x)]
theorem card_none {P : Int → Prop} (h : ∀ x, ¬ P x) : ∀ n, cardTo P n = 0
  | 0 => rfl
  | n + 1 => by simp only [cardTo, card_none h n, h, if_false]; rfl
theorem card_iv (a b : Int) (h1 : -1073741824 ≤ a) : ∀ n : Nat, cardTo (fun x => a ≤ x ∧ x ≤ b) n = max 0 (min b ((n : Int) - 1073741825) - a + 1)
  | 0 => by simp only [cardTo]; omega
  | n + 1 => by
    have ih := card_iv a b h1 n
    simp only [cardTo]
    by_cases h : a ≤ (n : Int) - 1073741824 ∧ (n : Int) - 1073741824 ≤ b
    · simp only [h, and_self, if_true]; omega
    · simp only [h, if_false]; omega
def cntL : List (Int × Int) → Int
  | [] => 0
  | p :: zs => (p.2 - p.1 + 1) + cntL zs
theorem cntL_snoc (zs : List (Int × Int)) (p : Int × Int) : cntL (zs ++ [p]) = cntL zs + (p.2 - p.1 + 1) := by
  induction zs with
  | nil => simp [cntL]
  | cons q zs ih => simp only [List.cons_append, cntL, ih]; omega
theorem cnt_take (zs : List (Int × Int)) : ∀ k, k ≤ zs.length → cntTo zs k = cntL (zs.take k)
  | 0, _ => by simp [cntTo, cntL]
  | k + 1, h => by
    rw [gt_take zs k (by omega), cntL_snoc, ← cnt_take zs k (by omega)]; rfl
theorem cntL_card : ∀ zs : List (Int × Int), Nrm zs → cntL zs = cardTo (fun x => InL x zs) 2147483649
  | [], _ => by rw [card_none (fun x => inL_nil x)]; rfl
  | p :: zs, h => by
    have ih := cntL_card zs h.tail
    have e := card_or_and (fun x => p.1 ≤ x ∧ x ≤ p.2) (fun x => InL x zs) 2147483649
    rw [card_none (P := fun x => (p.1 ≤ x ∧ x ≤ p.2) ∧ InL x zs) (fun x ⟨h1, h2⟩ => by have := h.above h2; omega), ← ih] at e
    rw [card_congr (fun x => inL_cons x p zs)]
    obtain ⟨o1, o2, o3⟩ := h.1 p (by simp)
    have c := card_iv p.1 p.2 o1 2147483649
    simp only [cntL]
    omega
theorem cnt_card {zs : List (Int × Int)} (h : Nrm zs) : cnt zs = cardTo (fun x => InL x zs) 2147483649 := by
  rw [← cntL_card zs h]; unfold cnt; rw [cnt_take zs _ (Nat.le_refl _), List.take_length]
/-- both sets together have as many numbers as their union and their common part -/
theorem count_both {s t u c : List (Int × Int)} (hs : Nrm s) (ht : Nrm t) (hu : Nrm u) (hc : Nrm c) (eu : ∀ x, InL x u ↔ InL x s ∨ InL x t) (ec : ∀ x, InL x c ↔ InL x s ∧ InL x t) :
    cnt u + cnt c = cnt s + cnt t := by
  rw [cnt_card hs, cnt_card ht, cnt_card hu, cnt_card hc, card_congr eu, card_congr ec]
  exact card_or_and _ _ _
/-- the spans between those of a list -/
def gaps : List (Int × Int) → List (Int × Int)
  | [] => []
  | [_] => []
  | p :: q :: r => (p.2 + 1, q.1 - 1) :: gaps (q :: r)
def hiL : List (Int × Int) → Int
  | [] => 0
  | [p] => p.2
  | _ :: q :: r => hiL (q :: r)
theorem gaps_len : ∀ s : List (Int × Int), (gaps s).length = s.length - 1
  | [] => rfl
  | [_] => rfl
  | p :: q :: r => by simp only [gaps, List.length_cons, gaps_len (q :: r)]; omega
theorem hiL_gt : ∀ s : List (Int × Int), s ≠ [] → hiL s = (gt s (s.length - 1)).2
  | [], h => absurd rfl h
  | [_], _ => rfl
  | p :: q :: r, _ => by
    rw [hiL, hiL_gt (q :: r) (by simp)]
    simp [gt]
theorem hiL_ge : ∀ (p : Int × Int) (s : List (Int × Int)), Nrm (p :: s) → p.2 ≤ hiL (p :: s) ∧ hiL (p :: s) ≤ 1073741824
  | p, [], h => ⟨Int.le_refl _, (h.1 p (by simp)).2.1⟩
  | p, q :: r, h => by
    have := hiL_ge q r h.tail
    have h1 := (List.pairwise_cons.1 h.2).1 q (by simp)
    have h2 := h.1 q (by simp)
    obtain ⟨a, b, c⟩ := h2
    simp only [hiL]
    exact ⟨by omega, this.2⟩
theorem hiL_mem : ∀ (p : Int × Int) (s : List (Int × Int)), Nrm (p :: s) → ∀ y ∈ s, y.2 ≤ hiL (p :: s)
  | _, [], _, _, hy => by cases hy
  | p, q :: r, h, y, hy => by
    rw [hiL]
    rcases List.mem_cons.1 hy with rfl | hy
    · exact (hiL_ge _ _ h.tail).1
    · exact hiL_mem q r h.tail y hy
theorem gaps_spec : ∀ (p : Int × Int) (s : List (Int × Int)), Nrm (p :: s) → Nrm (gaps (p :: s)) ∧ ∀ x, InL x (gaps (p :: s)) ↔ (p.1 ≤ x ∧ x ≤ hiL (p :: s)) ∧ ¬ InL x (p :: s)
  | p, [], h => by
    refine ⟨⟨fun q hq => (by cases hq), List.Pairwise.nil⟩, fun x => ⟨fun hx => absurd hx (inL_nil x), ?_⟩⟩
    rintro ⟨h1, h2⟩
    rw [inL_cons] at h2
    exact absurd (.inl h1) h2
  | p, q :: r, h => by
    obtain ⟨ih1, ih2⟩ := gaps_spec q r h.tail
    have h1 := (List.pairwise_cons.1 h.2).1 q (by simp)
    obtain ⟨a1, a2, a3⟩ := h.1 q (by simp)
    obtain ⟨b1, b2, b3⟩ := h.1 p (by simp)
    have hh := hiL_ge q r h.tail
    refine ⟨⟨fun y hy => ?_, ?_⟩, fun x => ?_⟩
    · rcases List.mem_cons.1 hy with rfl | hy
      · exact ⟨by show _ ≤ p.2 + 1; omega, by show q.1 - 1 ≤ _; omega, by show p.2 + 1 ≤ q.1 - 1; omega⟩
      · exact ih1.1 y hy
    · refine List.pairwise_cons.2 ⟨fun y hy => ?_, ih1.2⟩
      obtain ⟨c1, c2, c3⟩ := ih1.1 y hy
      have := (ih2 y.1).1 ⟨y, hy, Int.le_refl _, c3⟩
      obtain ⟨⟨d1, d2⟩, d3⟩ := this
      rw [inL_cons] at d3
      have : ¬ (q.1 ≤ y.1 ∧ y.1 ≤ q.2) := fun k => d3 (.inl k)
      show q.1 - 1 + 1 < y.1
      omega
    · rw [gaps, inL_cons, ih2, inL_cons x p]
      simp only [hiL]
      constructor
      · rintro (⟨k1, k2⟩ | ⟨⟨k1, k2⟩, k3⟩)
        · refine ⟨⟨by omega, by omega⟩, fun k => ?_⟩
          rcases k with k | k
          · omega
          · rcases (inL_cons x q r).1 k with k | k
            · omega
            · have := h.tail.above k; omega
        · exact ⟨⟨by omega, k2⟩, fun k => by rcases k with k | k; omega; exact k3 k⟩
      · rintro ⟨⟨k1, k2⟩, k3⟩
        by_cases hx : x < q.1
        · refine .inl ⟨?_, by omega⟩
          have : ¬ (p.1 ≤ x ∧ x ≤ p.2) := fun k => k3 (.inl k)
          omega
        · exact .inr ⟨⟨by omega, k2⟩, fun k => k3 (.inr k)⟩
/-- a set and what is outside of it within its hull fill the hull -/
theorem count_gaps (p : Int × Int) (s : List (Int × Int)) (h : Nrm (p :: s)) : cnt (p :: s) + cnt (gaps (p :: s)) = hiL (p :: s) - p.1 + 1 := by
  obtain ⟨g1, g2⟩ := gaps_spec p s h
  obtain ⟨b1, b2, b3⟩ := h.1 p (by simp)
  have hh := hiL_ge p s h
  have e := card_or_and (fun x => InL x (p :: s)) (fun x => InL x (gaps (p :: s))) 2147483649
  rw [card_none (P := fun x => InL x (p :: s) ∧ InL x (gaps (p :: s))) (fun x ⟨k1, k2⟩ => ((g2 x).1 k2).2 k1), ← cnt_card h, ← cnt_card g1] at e
  have c := card_iv p.1 (hiL (p :: s)) b1 2147483649
  have : ∀ x, (InL x (p :: s) ∨ InL x (gaps (p :: s))) ↔ (p.1 ≤ x ∧ x ≤ hiL (p :: s)) := by
    intro x
    rw [g2]
    constructor
    · rintro (k | k)
      · rcases (inL_cons x p s).1 k with k | k
        · omega
        · refine ⟨by have := h.above k; omega, ?_⟩
          obtain ⟨y, hy, l1, l2⟩ := k
          have := hiL_mem p s h y hy
          omega
      · exact k.1
    · intro k
      by_cases hx : InL x (p :: s)
      · exact .inl hx
      · exact .inr ⟨k, hx⟩
  rw [card_congr this] at e
  omega
end Go.Proofs.Ytamelpfhbnkggaa

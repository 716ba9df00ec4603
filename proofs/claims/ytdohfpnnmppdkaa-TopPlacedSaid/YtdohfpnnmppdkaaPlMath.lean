/-
  TopPlaced's mathematics: sets of one span, cut one after another, are the common part of all distances.
-/
import Derived.Test.YtdohfpnnmppdkaaLcC
import Derived.Test.YtdohfpnnmppdkaaBdA
import Derived.Test.YtdohfpnnmppdkaaOpenWir
namespace Go.Proofs.Ytdohfpnnmppdkaa
noncomputable section
/-- the set of a span that may be empty -/
def comS (a : Int × Int) : List (Int × Int) := if a.2 < a.1 then [] else [a]
theorem inL_com (a : Int × Int) (x : Int) : Bd.InL x (comS a) ↔ a.1 ≤ x ∧ x ≤ a.2 := by
  unfold comS
  split
  · exact ⟨fun h => absurd h (Bd.inL_nil x), fun h => by omega⟩
  · exact Bd.inL_one x a
theorem nrm_com {a : Int × Int} (h1 : -1073741824 ≤ a.1) (h2 : a.2 ≤ 1073741824) : Bd.Nrm (comS a) := by
  unfold comS
  split
  · exact ⟨fun p hp => (by cases hp), List.Pairwise.nil⟩
  · refine ⟨fun p hp => ?_, List.pairwise_singleton _ _⟩
    obtain rfl := List.mem_singleton.1 hp
    exact ⟨h1, h2, by omega⟩
theorem com_len (a : Int × Int) : (comS a).length ≤ 1 := by
  unfold comS; split <;> simp
theorem setE_com {a : Int × Int} (h1 : -1073741824 ≤ a.1) (h2 : a.2 ≤ 1073741824) : Bd.setE (comS a) = 0 :=
  Bd.setE_ok (by have := com_len a; omega) (nrm_com h1 h2)
/-- cutting two sets of one span each -/
theorem cut_com {a b : Int × Int} (a1 : -1073741824 ≤ a.1) (a2 : a.2 ≤ 1073741824) (b1 : -1073741824 ≤ b.1) (b2 : b.2 ≤ 1073741824) :
    Bd.cutE (comS a) (comS b) = 0 ∧ Bd.cutV (comS a) (comS b) = comS (max a.1 b.1, min a.2 b.2) := by
  have hb : Bd.bothE (comS a) (comS b) = 0 := by
    unfold Bd.bothE
    rw [if_pos (setE_com a1 a2), setE_com b1 b2]
  have hl : Bd.cutL (comS a) (comS b) = comS (max a.1 b.1, min a.2 b.2) := by
    unfold Bd.cutL
    refine Bd.nset_eq (nrm_com (by show _ ≤ max _ _; omega) (by show min _ _ ≤ _; omega)) fun x => ?_
    rw [inL_com, inL_com, inL_com]
    show max _ _ ≤ x ∧ x ≤ min _ _ ↔ _
    omega
  have hn := com_len (max a.1 b.1, min a.2 b.2)
  refine ⟨?_, ?_⟩
  · unfold Bd.cutE
    rw [if_pos hb, hl]
    unfold Bd.fewE
    rw [if_neg (by omega)]
  · unfold Bd.cutV
    rw [if_pos hb, hl]
    unfold Bd.fewL
    rw [if_neg (by omega)]
theorem has_com {a : Int × Int} (a1 : -1073741824 ≤ a.1) (a2 : a.2 ≤ 1073741824) (x : Int) : Bd.setE (comS a) = 0 ∧ Bd.hasV (comS a) x = decide (a.1 ≤ x ∧ x ≤ a.2) := by
  refine ⟨setE_com a1 a2, ?_⟩
  unfold Bd.hasV
  rw [if_pos (setE_com a1 a2)]
  cases h : Bd.hasB (comS a) x
  · have q : ¬ Bd.InL x (comS a) := fun k => by rw [(Bd.hasB_iff _ _).2 k] at h; cases h
    rw [inL_com] at q
    exact (decide_eq_false q).symm
  · have q := (Bd.hasB_iff _ _).1 h
    rw [inL_com] at q
    exact (decide_eq_true q).symm
/-- the measurement that an echo stands for -/
def echM (y : Ec) : Ms := ⟨1 + y.kd % 3, min y.v0 y.v1, max y.v0 y.v1, 1 + min y.b0 y.b1 + (if y.kd % 3 = 2 then 70000 else 0), 1 + max y.b0 y.b1 + (if y.kd % 3 = 2 then 70000 else 0)⟩
def echL (l : List Ec) (n : Nat) : List Ms := (List.range n).map fun k => echM (ec l k)
theorem echL_len (l : List Ec) (n : Nat) : (echL l n).length = n := by unfold echL; simp
theorem echL_succ (l : List Ec) (n : Nat) : echL l (n + 1) = echL l n ++ [echM (ec l n)] := by unfold echL; rw [List.range_succ, List.map_append]; rfl
/-- the bounds of the common part of the first ones -/
theorem comA_bd {l : List Ms} (he : errL l = 0) (h0 : 0 < l.length) : ∀ i, i ≤ l.length → -1073741824 ≤ (comA l i).1 ∧ (comA l i).2 ≤ 1073741824 := by
  intro i
  induction i with
  | zero =>
    intro _
    have q := (vB_iff _ _).1 (msF_valid he h0)
    rw [comA_zero]
    omega
  | succ i ih =>
    intro h
    have q := ih (by omega)
    rw [comA_succ (by omega)]
    show _ ≤ max _ _ ∧ min _ _ ≤ _
    omega
/-- the first one twice is the first one -/
theorem comA_one {l : List Ms} (h0 : 0 < l.length) : comA l 1 = comA l 0 := by
  rw [comA_succ (show 0 < l.length from h0), comA_zero]
  exact Prod.ext (Int.max_self _) (Int.min_self _)
/-- what lies in all of the first distances -/
def inAll (l : List Ms) (x : Int) (i : Nat) : Bool := (List.range i).all fun k => decide ((msF l k).1 ≤ x) && decide (x ≤ (msF l k).2)
theorem inAll_succ (l : List Ms) (x : Int) (i : Nat) : inAll l x (i + 1) = (inAll l x i && (decide ((msF l i).1 ≤ x) && decide (x ≤ (msF l i).2))) := by
  unfold inAll; rw [List.range_succ, List.all_append]; simp
theorem inAll_com {l : List Ms} (h0 : 0 < l.length) (x : Int) : inAll l x l.length = decide ((comL l).1 ≤ x ∧ x ≤ (comL l).2) := by
  have key : inAll l x l.length = true ↔ (comL l).1 ≤ x ∧ x ≤ (comL l).2 := by
    obtain ⟨q1, q2⟩ := comL_iff h0 x
    rw [q1, q2]
    unfold inAll
    rw [List.all_eq_true]
    simp only [List.mem_range, Bool.and_eq_true, decide_eq_true_eq]
    constructor
    · intro h
      refine ⟨fun m hm => ?_, fun m hm => ?_⟩
      all_goals
        obtain ⟨k, hk, e⟩ := List.mem_iff_getElem.1 hm
        have q := h k hk
        have e2 : ms l k = m := by unfold ms; simp [hk, e]
        unfold msF at q
        rw [e2] at q
        first | exact q.1 | exact q.2
    · rintro ⟨h1, h2⟩ k hk
      have hm : ms l k ∈ l := by unfold ms; simp [hk]
      exact ⟨h1 _ hm, h2 _ hm⟩
  cases h : inAll l x l.length
  · exact (decide_eq_false fun k => by rw [key.2 k] at h; cases h).symm
  · exact (decide_eq_true (key.1 h)).symm
end
end Go.Proofs.Ytdohfpnnmppdkaa

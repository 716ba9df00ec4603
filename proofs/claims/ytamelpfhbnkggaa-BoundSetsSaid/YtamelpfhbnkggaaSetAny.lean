/-
  Each set of numbers within the limits has its normal list; what the sets' functions return, as sets.
-/
import Derived.Test.YtamelpfhbnkggaaUnite
import Derived.Test.YtamelpfhbnkggaaSetCut
namespace Go.Proofs.Ytamelpfhbnkggaa
open Go.RowKit Go.Shelf
theorem nset_any {P : Int → Prop} (hb : ∀ x, P x → -1073741824 ≤ x ∧ x ≤ 1073741824) : Nrm (nset P) ∧ ∀ x, InL x (nset P) ↔ P x := by
  classical
  obtain ⟨N, hN⟩ : ∃ N : Nat, N = 2147483649 := ⟨_, rfl⟩
  have key : ∃ ys : List (Int × Int), (∀ y ∈ ys, Ok y) ∧ Asc ys ∧ ∀ x, InL x ys ↔ P x := by
    refine ⟨((List.range N).filter fun i : Nat => decide (P ((i : Int) - 1073741824))).map fun i : Nat => ((i : Int) - 1073741824, (i : Int) - 1073741824), fun y hy => ?_, ?_, fun x => ?_⟩
    · simp only [List.mem_map, List.mem_filter, List.mem_range, decide_eq_true_eq] at hy
      obtain ⟨i, ⟨h1, h2⟩, rfl⟩ := hy
      have := hb _ h2
      exact ⟨this.1, this.2, Int.le_refl _⟩
    · unfold Asc
      rw [List.pairwise_map]
      exact (List.pairwise_lt_range.filter _).imp (fun h => by show (_ : Int) ≤ _; omega)
    · constructor
      · rintro ⟨y, hy, h1, h2⟩
        simp only [List.mem_map, List.mem_filter, List.mem_range, decide_eq_true_eq] at hy
        obtain ⟨i, ⟨_, h4⟩, rfl⟩ := hy
        simp only at h1 h2
        obtain rfl : (i : Int) - 1073741824 = x := by omega
        exact h4
      · intro h
        have := hb x h
        refine ⟨(x, x), ?_, Int.le_refl _, Int.le_refl _⟩
        simp only [List.mem_map, List.mem_filter, List.mem_range, decide_eq_true_eq]
        refine ⟨(x + 1073741824).toNat, ⟨by omega, ?_⟩, ?_⟩
        · rw [show (((x + 1073741824).toNat : Nat) : Int) - 1073741824 = x by omega]; exact h
        · rw [show (((x + 1073741824).toNat : Nat) : Int) - 1073741824 = x by omega]
  obtain ⟨ys, h1, h2, h3⟩ := key
  obtain ⟨g1, g2, -⟩ := mrg_spec ys h1 h2
  exact nset_spec g1 fun x => by rw [g2, h3]
theorem inL_bd {zs : List (Int × Int)} (h : Nrm zs) {x : Int} (hx : InL x zs) : -1073741824 ≤ x ∧ x ≤ 1073741824 := by
  obtain ⟨p, hp, h1, h2⟩ := hx
  obtain ⟨a, b, c⟩ := h.1 p hp
  omega
theorem uni_spec {s t : List (Int × Int)} (hs : Nrm s) (ht : Nrm t) : Nrm (uniL s t) ∧ ∀ x, InL x (uniL s t) ↔ InL x s ∨ InL x t :=
  nset_any fun x h => by rcases h with h | h; exact inL_bd hs h; exact inL_bd ht h
theorem cut_spec {s t : List (Int × Int)} (hs : Nrm s) : Nrm (cutL s t) ∧ ∀ x, InL x (cutL s t) ↔ InL x s ∧ InL x t :=
  nset_any fun _ h => inL_bd hs h.1
theorem out_spec {s : List (Int × Int)} {lo hi : Int} (hv : vB lo hi = true) : Nrm (outL s lo hi) ∧ ∀ x, InL x (outL s lo hi) ↔ lo ≤ x ∧ x ≤ hi ∧ ¬ InL x s := by
  obtain ⟨h1, h2, h3⟩ := (vB_iff _ _).1 hv
  exact nset_any fun x h => by omega
set_option linter.unusedSimpArgs false in
theorem few_no {cs : List (Int × Int)} (h : ¬ 256 < cs.length) : fewE cs = 0 ∧ fewL cs = cs := ⟨if_neg h, if_neg h⟩
theorem few_yes {cs : List (Int × Int)} (h : 256 < cs.length) : fewE cs = 6 := if_pos h
theorem countV_ok {zs : List (Int × Int)} (h : setE zs = 0) : countV zs = cnt zs := if_pos h
theorem bothE_ok {s t : List (Int × Int)} (h1 : setE s = 0) (h2 : setE t = 0) : bothE s t = 0 := by unfold bothE; rw [if_pos h1, h2]
end Go.Proofs.Ytamelpfhbnkggaa

/-
  The mathematics of TopBefore: the common part, met one after another.
-/
import Derived.Test.YtcchmjbedppfnaaTbA
import Derived.Test.YtcchmjbedppfnaaOrdRow
namespace Go.Proofs.Ytcchmjbedppfnaa
open Go.RowKit Go.Shelf
theorem less_bef {a b c d : Int} (h1 : vB a b = true) (h2 : vB c d = true) : lessS a b c d = ⟨befS (a, b) (c, d), 0⟩ := by
  unfold lessS befS
  rw [if_pos ⟨h1, h2⟩]
  dsimp only
  split
  · rfl
  · split <;> rfl
/-- the common part of the first spans -/
def acS (zs : List (Int × Int)) (j : Nat) : Int × Int := meets (sp zs 0) (zs.take j)
theorem acS_one {zs : List (Int × Int)} (h : 0 < zs.length) : acS zs 1 = sp zs 0 := by
  unfold acS
  rw [sp_take h]
  show meets (sp zs 0) ([] ++ [sp zs 0]) = _
  rw [meets_snoc]
  unfold meets meetS
  simp only [List.foldl_nil]
  exact Prod.ext (by dsimp only; omega) (by dsimp only; omega)
theorem acS_step {zs : List (Int × Int)} {j : Nat} (h : j < zs.length) : acS zs (j + 1) = meetS (acS zs j) (sp zs j) := by
  unfold acS
  rw [sp_take h, meets_snoc]
theorem acS_all (zs : List (Int × Int)) : acS zs zs.length = meets (sp zs 0) zs := by
  unfold acS
  rw [List.take_length]
theorem acS_in (zs : List (Int × Int)) (j : Nat) : (sp zs 0).1 ≤ (acS zs j).1 ∧ (acS zs j).2 ≤ (sp zs 0).2 :=
  meets_sub _ _ _ (.inr ⟨Int.le_refl _, Int.le_refl _⟩)
theorem acS_tot (zs : List (Int × Int)) (j : Nat) : (acS zs j).1 ≤ (meets (sp zs 0) zs).1 ∧ (meets (sp zs 0) zs).2 ≤ (acS zs j).2 := by
  have e : meets (sp zs 0) zs = meets (acS zs j) (zs.drop j) := by
    unfold acS meets
    rw [← List.foldl_append, List.take_append_drop]
  rw [e]
  exact meets_sub _ _ _ (.inr ⟨Int.le_refl _, Int.le_refl _⟩)
/-- all spans are valid -/
def AllV (zs : List (Int × Int)) : Prop := ∀ k, k < zs.length → vB (sp zs k).1 (sp zs k).2 = true
theorem ev_valid {zs : List (Int × Int)} (hn : zs.length ≤ 128) (h : AllV zs) : evE zs = 0 :=
  evE_ok (by omega) fun k hk => ((vB_iff _ _).1 (h k hk)).1
theorem com_empty {zs : List (Int × Int)} (he : evE zs = 0) {j : Nat} (h : (acS zs j).2 < (acS zs j).1) : comR zs = ⟨0, 0, 5⟩ := by
  have q := acS_tot zs j
  unfold comR
  rw [if_pos he]
  by_cases h0 : zs.length = 0
  · rw [if_pos h0]
  · rw [if_neg h0, if_neg (by omega)]
theorem com_full {zs : List (Int × Int)} (he : evE zs = 0) (h0 : 0 < zs.length) (h : (acS zs zs.length).1 ≤ (acS zs zs.length).2) : comR zs = ⟨(acS zs zs.length).1, (acS zs zs.length).2, 0⟩ := by
  rw [acS_all] at *
  unfold comR
  rw [if_pos he, if_neg (by omega), if_pos h]
theorem com_none {zs : List (Int × Int)} (h0 : zs.length = 0) (he : evE zs = 0) : comR zs = ⟨0, 0, 5⟩ := by
  unfold comR
  rw [if_pos he, if_pos h0]
theorem acS_val {zs : List (Int × Int)} (hv : AllV zs) (h0 : 0 < zs.length) {j : Nat} (h : (acS zs j).1 ≤ (acS zs j).2) : vB (acS zs j).1 (acS zs j).2 = true := by
  have q := acS_in zs j
  have v := (vB_iff _ _).1 (hv 0 h0)
  exact (vB_iff _ _).2 ⟨h, by omega, by omega⟩
/-- what is met in a round -/
theorem acS_meet {zs : List (Int × Int)} (hv : AllV zs) {j : Nat} (hj : j < zs.length) (h : (acS zs j).1 ≤ (acS zs j).2) :
    bmeetS (acS zs j).1 (acS zs j).2 (sp zs j).1 (sp zs j).2 = if (acS zs (j + 1)).2 < (acS zs (j + 1)).1 then ⟨0, 0, 5⟩ else ⟨(acS zs (j + 1)).1, (acS zs (j + 1)).2, 0⟩ := by
  unfold bmeetS
  rw [if_pos ⟨acS_val hv (by omega) h, hv j hj⟩, acS_step hj]
  rfl
end Go.Proofs.Ytcchmjbedppfnaa

/-
  Cables: segments (mathematics).
-/
import Derived.Test.YtdohfpnnmppdkaaCcA
namespace Go.Proofs.Ytdohfpnnmppdkaa
open Go.RowKit Go.Shelf
set_option linter.unusedSimpArgs false
open Go.RowKit Go.Shelf
set_option linter.unusedSimpArgs false
attribute [local go_sem] Oper.semAt_some
/-- the lengths are lengths -/
def lenB (ls : List Int) : Bool := decide (ti ls 0 = 0 ∧ ∀ k, k < ls.length → 0 ≤ ti ls k ∧ ti ls k ≤ 1048576)
/-- the j-th node of the way from the shore -/
def sgK (p : List Nat) (j : Nat) : Nat := tn p (p.length - 2 - j)
def sgB (ls : List Int) (p : List Nat) : Nat → Int
  | 0 => 0
  | j + 1 => sgB ls p j + ti ls (sgK p j)
def sgL (ls : List Int) (p : List Nat) (a b : Int) : Nat → List Nat
  | 0 => []
  | j + 1 => if a ≤ sgB ls p (j + 1) ∧ sgB ls p j ≤ b then sgL ls p a b j ++ [sgK p j] else sgL ls p a b j
theorem sgL_in {ls : List Int} {p : List Nat} {a b : Int} {j : Nat} (h : a ≤ sgB ls p (j + 1) ∧ sgB ls p j ≤ b) : sgL ls p a b (j + 1) = sgL ls p a b j ++ [sgK p j] := if_pos h
theorem sgL_out {ls : List Int} {p : List Nat} {a b : Int} {j : Nat} (h : ¬ (a ≤ sgB ls p (j + 1) ∧ sgB ls p j ≤ b)) : sgL ls p a b (j + 1) = sgL ls p a b j := if_neg h
theorem sgL_len (ls : List Int) (p : List Nat) (a b : Int) : ∀ j, (sgL ls p a b j).length ≤ j := by
  intro j
  induction j with
  | zero => exact Nat.le_refl _
  | succ j ih =>
    unfold sgL
    split
    · simp; omega
    · omega
theorem sgB_bd {ls : List Int} {p : List Nat} (h : lenB ls = true) (hp : ∀ i, i < p.length → tn p i < ls.length) : ∀ j, j + 1 ≤ p.length → 0 ≤ sgB ls p j ∧ sgB ls p j ≤ j * 1048576 := by
  intro j
  induction j with
  | zero => intro _; exact ⟨Int.le_refl _, by simp [sgB]⟩
  | succ j ih =>
    intro hj
    have q := ih (by omega)
    have r := (of_decide_eq_true h).2 (sgK p j) (hp _ (by omega))
    unfold sgB
    omega
theorem sgL_two {ls : List Int} {p : List Nat} {a b : Int} {j : Nat} (hv : vB a b = true) (h1 : vB (sgB ls p j) (sgB ls p (j + 1)) = true) : min (sgB ls p (j + 1)) b < max (sgB ls p j) a ↔ ¬ (a ≤ sgB ls p (j + 1) ∧ sgB ls p j ≤ b) := by
  rw [vB_iff] at hv h1
  omega
theorem sg_valid {ls : List Int} {p : List Nat} (h : lenB ls = true) (hp : ∀ i, i < p.length → tn p i < ls.length) (hl : p.length ≤ 60) {j : Nat} (hj : j + 2 ≤ p.length) : vB (sgB ls p j) (sgB ls p (j + 1)) = true ∧ 0 ≤ ti ls (sgK p j) ∧ ti ls (sgK p j) ≤ 1048576 := by
  have q := sgB_bd h hp j (by omega)
  have r := (of_decide_eq_true h).2 (sgK p j) (hp _ (by omega))
  have e : sgB ls p (j + 1) = sgB ls p j + ti ls (sgK p j) := rfl
  rw [vB_iff, e]
  omega
/-- reversed from both ends -/
def rvF (L : List Nat) (i : Nat) : List Nat := (List.range L.length).map fun t => if t < i ∨ L.length - i ≤ t then tn L (L.length - 1 - t) else tn L t
theorem rvF_len (L : List Nat) (i : Nat) : (rvF L i).length = L.length := by simp [rvF]
theorem rvF_get (L : List Nat) (i : Nat) {t : Nat} (ht : t < L.length) : (rvF L i)[t]? = some (if t < i ∨ L.length - i ≤ t then tn L (L.length - 1 - t) else tn L t) := by
  unfold rvF
  rw [List.getElem?_map, List.getElem?_range ht]
  rfl
theorem rvF_zero (L : List Nat) : rvF L 0 = L := by
  refine List.ext_getElem? fun t => ?_
  by_cases ht : t < L.length
  · rw [rvF_get L 0 ht, if_neg (by omega)]
    simp [tn, ht]
  · rw [List.getElem?_eq_none (by rw [rvF_len]; omega), List.getElem?_eq_none (by omega)]
theorem rvF_done {L : List Nat} {i : Nat} (h : L.length ≤ 2 * i + 1) (hi : 2 * i ≤ L.length) : rvF L i = L.reverse := by
  refine List.ext_getElem? fun t => ?_
  by_cases ht : t < L.length
  · rw [rvF_get L i ht, List.getElem?_reverse ht]
    by_cases hc : t < i ∨ L.length - i ≤ t
    · rw [if_pos hc]
      simp [tn, show L.length - 1 - t < L.length by omega]
    · rw [if_neg hc]
      have e : L.length - 1 - t = t := by omega
      rw [e]
      simp [tn, ht]
  · rw [List.getElem?_eq_none (by rw [rvF_len]; omega), List.getElem?_eq_none (by simp; omega)]
theorem rvF_step {L : List Nat} {i : Nat} (h : 2 * i + 1 < L.length) : ((rvF L i).set i (tn L (L.length - 1 - i))).set (L.length - 1 - i) (tn L i) = rvF L (i + 1) := by
  refine List.ext_getElem? fun t => ?_
  by_cases ht : t < L.length
  · rw [rvF_get L (i + 1) ht, List.getElem?_set]
    by_cases e1 : L.length - 1 - i = t
    · rw [if_pos e1, if_pos (by simp [rvF_len]; omega), if_pos (by omega)]
      congr 2; omega
    · rw [if_neg e1, List.getElem?_set]
      by_cases e2 : i = t
      · subst e2
        rw [if_pos rfl, if_pos (by rw [rvF_len]; omega), if_pos (by omega)]
      · rw [if_neg e2, rvF_get L i ht]
        by_cases hc : t < i ∨ L.length - i ≤ t
        · rw [if_pos hc, if_pos (by omega)]
        · rw [if_neg hc, if_neg (by omega)]
  · rw [List.getElem?_eq_none (by simp [rvF_len]; omega), List.getElem?_eq_none (by rw [rvF_len]; omega)]
theorem flatN_set (L : List Nat) (i x : Nat) : flatN (L.set i x) = (flatN L).set i (.int .i64 (x : Int)) := by simp [flatN, List.map_set]
theorem flatN_rv {L : List Nat} {i : Nat} (h : 2 * i + 1 < L.length) : ((flatN (rvF L i)).set i (.int .i64 (tn L (L.length - 1 - i) : Int))).set (L.length - 1 - i) (.int .i64 (tn L i : Int)) = flatN (rvF L (i + 1)) := by
  rw [← rvF_step h, flatN_set, flatN_set]
theorem flatN_at {L : List Nat} {i : Nat} (h : 2 * i + 1 < L.length) : (flatN (rvF L i))[i]? = some (.int .i64 (tn L i : Int)) ∧ (flatN (rvF L i))[L.length - 1 - i]? = some (.int .i64 (tn L (L.length - 1 - i) : Int)) := by
  unfold flatN
  rw [List.getElem?_map, List.getElem?_map, rvF_get L i (by omega), rvF_get L i (by omega), if_neg (by omega), if_neg (by omega)]
  exact ⟨rfl, rfl⟩
end Go.Proofs.Ytdohfpnnmppdkaa

/-
  Codes: what Spacing and Answers say together.
-/
import Derived.Test.YthogahdnidjelaaRefAnswers
namespace Go.Proofs.Ythogahdnidjelaa
open Go.RowKit Go.Shelf
set_option linter.unusedSimpArgs false
theorem rowS_get (zs : List Int) (i m : Nat) : ∀ k j, j < k → rowS zs i m k ≤ apart (cd zs i) (cd zs j) 16
  | 0, j, h => by omega
  | k + 1, j, h => by
    simp only [rowS]
    rcases Nat.lt_or_ge j k with g | g
    · have := rowS_get zs i m k j g; omega
    · obtain rfl : j = k := by omega
      omega
theorem spc_get (zs : List Int) : ∀ n i j, j < i → i < n → spc zs n ≤ apart (cd zs i) (cd zs j) 16
  | 0, i, j, h, g => by omega
  | n + 1, i, j, h, g => by
    simp only [spc]
    rcases Nat.lt_or_ge i n with q | q
    · have := spc_get zs n i j h q
      have := rowS_le zs n (spc zs n) n
      omega
    · obtain rfl : i = n := by omega
      exact rowS_get zs i _ i j h
theorem ansTo_mono (zs : List Int) (h g g' : Nat) (hg : g ≤ g') : ∀ k, (ansTo zs h g k).length ≤ (ansTo zs h g' k).length
  | 0 => Nat.le_refl _
  | k + 1 => by
    have ih := ansTo_mono zs h g g' hg k
    simp only [ansTo]
    by_cases a : apart (cd zs k) h 16 ≤ g
    · rw [if_pos a, if_pos (Nat.le_trans a hg)]; simpa using ih
    · rw [if_neg a]
      split
      · simp; omega
      · exact ih
theorem ansTo_mem (zs : List Int) (h g : Nat) : ∀ k j, j < k → apart (cd zs j) h 16 ≤ g → (j : Int) ∈ ansTo zs h g k
  | 0, j, hj, _ => by omega
  | k + 1, j, hj, ha => by
    simp only [ansTo]
    rcases Nat.lt_or_ge j k with q | q
    · have := ansTo_mem zs h g k j q ha
      split
      · exact List.mem_append_left _ this
      · exact this
    · obtain rfl : j = k := by omega
      rw [if_pos ha]
      simp
/-- among codes that are far apart at most one answers -/
theorem ansTo_one (zs : List Int) (h g : Nat) {D n : Nat} (hD : ∀ i j, j < i → i < n → D ≤ apart (cd zs i) (cd zs j) 16) (hg : 2 * g + 1 ≤ D) : ∀ k, k ≤ n → (ansTo zs h g k = [] ∨ ∃ j, j < k ∧ apart (cd zs j) h 16 ≤ g ∧ ansTo zs h g k = [(j : Int)])
  | 0, _ => .inl rfl
  | k + 1, hk => by
    simp only [ansTo]
    rcases ansTo_one zs h g hD hg k (by omega) with e | ⟨j, hj, hja, e⟩
    · split
      · rename_i a; right; exact ⟨k, by omega, a, by rw [e]; rfl⟩
      · exact .inl e
    · split
      · rename_i a
        exact (apart_unique (hD k j hj (by omega)) hg a hja).elim
      · right; exact ⟨j, by omega, hja, e⟩
theorem ansTo_short (zs : List Int) (h g : Nat) {D n : Nat} (hD : ∀ i j, j < i → i < n → D ≤ apart (cd zs i) (cd zs j) 16) (hg : 2 * g + 1 ≤ D) : (ansTo zs h g n).length ≤ 1 := by
  rcases ansTo_one zs h g hD hg n (Nat.le_refl _) with e | ⟨j, _, _, e⟩ <;> rw [e] <;> simp
theorem ansTo_just (zs : List Int) (h g : Nat) {D n i : Nat} (hD : ∀ i j, j < i → i < n → D ≤ apart (cd zs i) (cd zs j) 16) (hg : 2 * g + 1 ≤ D) (hi : i < n) (ha : apart (cd zs i) h 16 ≤ g) : (ansTo zs h g n).length = 1 := by
  have m := ansTo_mem zs h g n i hi ha
  have l := ansTo_short zs h g hD hg
  have : (ansTo zs h g n).length ≠ 0 := fun e => by rw [List.length_eq_zero_iff.1 e] at m; cases m
  omega
/-- i is one of the first k numbers -/
def hasTo (xs : List Int) (i : Int) : Nat → Bool
  | 0 => false
  | k + 1 => hasTo xs i k || decide (xs[k]?.getD 0 = i)
theorem hasTo_true (xs : List Int) (i : Int) : ∀ k j, j < k → xs[j]?.getD 0 = i → hasTo xs i k = true
  | 0, j, h, _ => by omega
  | k + 1, j, h, e => by
    simp only [hasTo]
    rcases Nat.lt_or_ge j k with q | q
    · rw [hasTo_true xs i k j q e]; rfl
    · obtain rfl : j = k := by omega
      rw [decide_eq_true e]; simp
theorem hasTo_mem {xs : List Int} {i : Int} (h : i ∈ xs) : hasTo xs i xs.length = true := by
  obtain ⟨j, hj, e⟩ := List.getElem_of_mem h
  exact hasTo_true xs i xs.length j hj (by rw [List.getElem?_eq_getElem hj]; simpa using e)
end Go.Proofs.Ythogahdnidjelaa

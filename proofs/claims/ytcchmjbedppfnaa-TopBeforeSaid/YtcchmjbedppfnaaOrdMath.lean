/-
  Clock: the mathematics of ClockOrder: how many times are less, and the ranks.
-/
import Derived.Test.YtcchmjbedppfnaaEvF
import Derived.Test.YtcchmjbedppfnaaEvB
import Derived.Test.YtcchmjbedppfnaaMoreRow
namespace Go.Proofs.Ytcchmjbedppfnaa
open Go.RowKit Go.Shelf
def tt (ts : List Int) (k : Nat) : Int := ts[k]?.getD 0
/-- how many of the first k times are less than a time; how many are equal -/
def cL (ts : List Int) (a : Int) : Nat → Nat
  | 0 => 0
  | k + 1 => cL ts a k + (if tt ts k < a then 1 else 0)
def cE (ts : List Int) (a : Int) : Nat → Nat
  | 0 => 0
  | k + 1 => cE ts a k + (if tt ts k < a then 0 else if tt ts k = a then 1 else 0)
theorem cL_le (ts : List Int) (a : Int) : ∀ k, cL ts a k ≤ k
  | 0 => Nat.le_refl _
  | k + 1 => by have := cL_le ts a k; unfold cL; split <;> omega
theorem cE_le (ts : List Int) (a : Int) : ∀ k, cE ts a k ≤ k
  | 0 => Nat.le_refl _
  | k + 1 => by have := cE_le ts a k; unfold cE; split <;> (try split) <;> omega
/-- times that lie in their spans -/
def InS (zs : List (Int × Int)) (ts : List Int) : Prop := ts.length = zs.length ∧ ∀ k, k < zs.length → (sp zs k).1 ≤ tt ts k ∧ tt ts k ≤ (sp zs k).2
theorem bef_yes {zs : List (Int × Int)} {ts : List Int} (h : InS zs ts) {k i : Nat} (hk : k < zs.length) (hi : i < zs.length) (hb : befS (sp zs k) (sp zs i) = 2) : tt ts k < tt ts i := by
  have h1 := h.2 k hk
  have h2 := h.2 i hi
  unfold befS at hb
  split at hb
  · omega
  · split at hb <;> omega
theorem bef_no {zs : List (Int × Int)} {ts : List Int} (h : InS zs ts) {k i : Nat} (hk : k < zs.length) (hi : i < zs.length) (hb : befS (sp zs k) (sp zs i) = 0) : ¬ tt ts k < tt ts i := by
  have h1 := h.2 k hk
  have h2 := h.2 i hi
  unfold befS at hb
  split at hb
  · omega
  · split at hb <;> omega
theorem bef_bd (a b : Int × Int) : befS a b = 0 ∨ befS a b = 1 ∨ befS a b = 2 := by
  unfold befS
  split
  · exact .inr (.inr rfl)
  · split
    · exact .inl rfl
    · exact .inr (.inl rfl)
theorem rk_lo {zs : List (Int × Int)} {ts : List Int} (h : InS zs ts) {i : Nat} (hi : i < zs.length) : ∀ k, k ≤ zs.length → rkA zs (sp zs i) k ≤ cL ts (tt ts i) k
  | 0, _ => Nat.le_refl _
  | k + 1, hk => by
    have ih := rk_lo h hi k (by omega)
    have q := bef_yes h (k := k) (by omega) hi
    unfold rkA cL
    by_cases hb : befS (sp zs k) (sp zs i) = 2
    · rw [if_pos hb, if_pos (q hb)]; omega
    · rw [if_neg hb]; omega
theorem rk_hi {zs : List (Int × Int)} {ts : List Int} (h : InS zs ts) {i : Nat} (hi : i < zs.length) : ∀ k, k ≤ zs.length → cL ts (tt ts i) k + rkB zs (sp zs i) k + (if i < k then 1 else 0) ≤ k
  | 0, _ => by simp [cL, rkB]
  | k + 1, hk => by
    have ih := rk_hi h hi k (by omega)
    have q := bef_yes h (k := i) (i := k) hi (by omega)
    unfold rkB cL
    by_cases hb : befS (sp zs i) (sp zs k) = 2
    · have q1 := q hb
      rw [if_pos hb, if_neg (by omega)]
      by_cases hik : i < k
      · rw [if_pos hik] at ih; rw [if_pos (show i < k + 1 by omega)]; omega
      · have : i ≠ k := by intro e; subst e; omega
        rw [if_neg hik] at ih; rw [if_neg (show ¬ i < k + 1 by omega)]; omega
    · rw [if_neg hb]
      by_cases hik : i < k
      · rw [if_pos hik] at ih; rw [if_pos (show i < k + 1 by omega)]; split <;> omega
      · rw [if_neg hik] at ih
        by_cases hek : i = k
        · subst hek
          rw [if_neg (show ¬ tt ts i < tt ts i by omega), if_pos (show i < i + 1 by omega)]; omega
        · rw [if_neg (show ¬ i < k + 1 by omega)]; split <;> omega
theorem rk_ok {zs : List (Int × Int)} {ts : List Int} (h : InS zs ts) {i : Nat} (hi : i < zs.length) : (rkS zs (sp zs i)).1 ≤ (cL ts (tt ts i) zs.length : Int) ∧ (cL ts (tt ts i) zs.length : Int) ≤ (rkS zs (sp zs i)).2 := by
  have h1 := rk_lo h hi zs.length (Nat.le_refl _)
  have h2 := rk_hi h hi zs.length (Nat.le_refl _)
  rw [if_pos hi] at h2
  unfold rkS
  dsimp only
  omega
end Go.Proofs.Ytcchmjbedppfnaa

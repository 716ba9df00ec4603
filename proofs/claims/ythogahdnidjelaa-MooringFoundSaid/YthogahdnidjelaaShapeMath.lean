/-
  The bounds of offsets and rises.
-/
import Derived.Test.YthogahdnidjelaaShape
import Derived.Test.YthogahdnidjelaaTotal
namespace Go.Proofs.Ythogahdnidjelaa
open Go.RowKit Go.Shelf
set_option linter.unusedSimpArgs false
theorem isq_mono {x y : Int} (h0 : 0 ≤ x) (h : x ≤ y) : isq x ≤ isq y := by
  obtain ⟨a, b, c⟩ := isq_spec h0
  obtain ⟨d, e, f⟩ := isq_spec (x := y) (by omega)
  rcases Int.lt_or_le (isq y) (isq x) with hl | hl
  · have := sq_mono (a := isq y + 1) (b := isq x) (by omega) (by omega); omega
  · exact hl
theorem isqUp_ge {x : Int} (h0 : 0 ≤ x) : isq x ≤ isqUp x ∧ x ≤ isqUp x * isqUp x := by
  obtain ⟨a, b, c⟩ := isq_spec h0
  unfold isqUp
  split
  · exact ⟨by omega, by omega⟩
  · exact ⟨by omega, by omega⟩
theorem le_isqUp {x v : Int} (hv : 0 ≤ v) (h : v * v ≤ x) : v ≤ isqUp x := by
  have h0 : 0 ≤ x := by have := Int.mul_nonneg hv hv; omega
  have g := (isqUp_ge h0).2
  have g2 := (isqUp_ge h0).1
  have g3 := (isq_spec h0).1
  exact sq_le_of (by omega) (by omega)
theorem div_le_len {X v m : Int} (hX : 0 ≤ X) (hv : 0 ≤ v) (hm : v ≤ m) (hp : 1 ≤ m) : 0 ≤ X * v / m ∧ X * v / m ≤ X := by
  have h1 : X * v ≤ X * m := Int.mul_le_mul_of_nonneg_left hm hX
  refine ⟨Int.ediv_nonneg (Int.mul_nonneg hX hv) (by omega), ?_⟩
  have := Int.ediv_le_ediv (by omega : 0 < m) h1
  rwa [Int.mul_ediv_cancel _ (by omega)] at this
theorem div_le_up {n s m : Int} (hn : 0 ≤ n) (hs : 1 ≤ s) (hm : s ≤ m) : n / m ≤ (n + s - 1) / s := by
  have h1 : n / m ≤ n / s := by
    have a : n / m * s ≤ n / m * m := Int.mul_le_mul_of_nonneg_left hm (Int.ediv_nonneg hn (by omega))
    have b : n / m * m ≤ n := Int.ediv_mul_le _ (by omega)
    exact Int.le_ediv_of_mul_le (by omega) (by omega)
  have h2 : n / s ≤ (n + s - 1) / s := Int.ediv_le_ediv (by omega) (by omega)
  omega
theorem le_pos {zs : List El} {cs : List Pr} (h : Rig zs cs) (hst : ∀ k, k < zs.length → 1 ≤ lifTo zs (k + 1)) (free : Bool) {k : Nat} (hk : k < zs.length) :
    lifTo zs (k + 1) * lifTo zs (k + 1) ≤ leG free zs cs (k + 1) ∧ leG free zs cs (k + 1) ≤ moG zs cs (k + 1) ∧ 1 ≤ leG free zs cs (k + 1) ∧ hLo free zs cs (k + 1) * hLo free zs cs (k + 1) ≤ leG free zs cs (k + 1) := by
  have p := pull_bd h free (k := k + 1) (by omega)
  have v1 := hst k hk
  have a := Int.mul_nonneg p.1 p.1
  have b := sq_mono p.1 p.2.2.1
  have c : 1 ≤ lifTo zs (k + 1) * lifTo zs (k + 1) := by have := Int.mul_le_mul v1 v1 (by decide) (by omega); simpa using this
  unfold leG moG
  omega
theorem ris_bd {zs : List El} {cs : List Pr} (h : Rig zs cs) (hst : ∀ k, k < zs.length → 1 ≤ lifTo zs (k + 1)) (free : Bool) {k : Nat} (hk : k < zs.length) :
    0 ≤ (risG free zs cs (k + 1)).lo ∧ (risG free zs cs (k + 1)).lo ≤ (risG free zs cs (k + 1)).hi ∧ (risG free zs cs (k + 1)).hi ≤ (el zs k).len ∧ (el zs k).len ≤ 1048576 := by
  have hx := ((vE_iff _).1 (h.els k hk)).1
  obtain ⟨a, b, c, d⟩ := le_pos h hst free hk
  have v1 := hst k hk
  have s1 := isq_pos c
  have s2 : isq (leG free zs cs (k + 1)) ≤ isqUp (moG zs cs (k + 1)) := Int.le_trans (isq_mono (by omega) b) (isqUp_ge (by omega)).1
  have s3 : lifTo zs (k + 1) ≤ isqUp (moG zs cs (k + 1)) := le_isqUp (by omega) (by omega)
  obtain ⟨t1, t2⟩ := div_le_len hx.1 (v := lifTo zs (k + 1)) (by omega) s3 (by omega)
  have t3 := div_le_up (n := (el zs k).len * lifTo zs (k + 1)) (Int.mul_nonneg hx.1 (by omega)) s1 s2
  simp only [risG]
  omega
theorem off_bd {zs : List El} {cs : List Pr} (h : Rig zs cs) (hst : ∀ k, k < zs.length → 1 ≤ lifTo zs (k + 1)) (free : Bool) {k : Nat} (hk : k < zs.length) :
    0 ≤ (offG free zs cs (k + 1)).lo ∧ (offG free zs cs (k + 1)).lo ≤ (el zs k).len ∧ 0 ≤ (offG free zs cs (k + 1)).hi ∧ (offG free zs cs (k + 1)).hi ≤ (el zs k).len ∧ (el zs k).len ≤ 1048576 := by
  have hx := ((vE_iff _).1 (h.els k hk)).1
  obtain ⟨a, b, c, d⟩ := le_pos h hst free hk
  have p := pull_bd h free (k := k + 1) (by omega)
  have s1 := isq_pos c
  have s0 : 1 ≤ isqUp (leG free zs cs (k + 1)) := Int.le_trans s1 (isqUp_ge (by omega)).1
  have s3 : hLo free zs cs (k + 1) ≤ isqUp (leG free zs cs (k + 1)) := le_isqUp p.1 d
  have m1 := isq_pos (show 1 ≤ moG zs cs (k + 1) by omega)
  obtain ⟨t1, t2⟩ := div_le_len hx.1 p.1 s3 s0
  have t3 : 0 ≤ ((el zs k).len * sHi zs cs (k + 1) + isq (moG zs cs (k + 1)) - 1) / isq (moG zs cs (k + 1)) := Int.ediv_nonneg (by have := Int.mul_nonneg hx.1 (show 0 ≤ sHi zs cs (k + 1) by omega); omega) (by omega)
  simp only [offG]
  omega
/-- the sums of the rises of the first k elements -/
theorem tot_mono {cs : List Pr} (h : ∀ k, k < cs.length → (pr cs k).lo ≤ (pr cs k).hi) : ∀ k, k ≤ cs.length → totLo cs k ≤ totHi cs k
  | 0, _ => by simp [totLo, totHi]
  | k + 1, hk => by
    have ih := tot_mono h k (by omega)
    have := h k (by omega)
    simp only [totLo, totHi]
    omega
noncomputable def rises (free : Bool) (zs : List El) (cs : List Pr) : List Pr := rowL (risG free zs cs) zs.length
noncomputable def offsets (free : Bool) (zs : List El) (cs : List Pr) : List Pr := rowL (offG free zs cs) zs.length
theorem rises_bd {zs : List El} {cs : List Pr} (h : Rig zs cs) (hst : ∀ k, k < zs.length → 1 ≤ lifTo zs (k + 1)) (free : Bool) : ∀ k, k < (rises free zs cs).length → 0 ≤ (pr (rises free zs cs) k).lo ∧ (pr (rises free zs cs) k).lo ≤ 1048576 ∧ 0 ≤ (pr (rises free zs cs) k).hi ∧ (pr (rises free zs cs) k).hi ≤ 1048576 := by
  intro k hk
  unfold rises at *
  rw [rowL_len] at hk
  rw [rowL_get _ _ _ hk]
  have := ris_bd h hst free hk
  omega
theorem rises_tot {zs : List El} {cs : List Pr} (h : Rig zs cs) (hst : ∀ k, k < zs.length → 1 ≤ lifTo zs (k + 1)) (free : Bool) :
    0 ≤ totLo (rises free zs cs) zs.length ∧ totLo (rises free zs cs) zs.length ≤ totHi (rises free zs cs) zs.length ∧ totHi (rises free zs cs) zs.length ≤ 41943040 := by
  have hl : (rises free zs cs).length = zs.length := by unfold rises; rw [rowL_len]
  have a := tot_bd (m := 1048576) (by decide) (rises_bd h hst free) zs.length (by omega)
  have b := tot_mono (cs := rises free zs cs) (fun k hk => by
    unfold rises at *
    rw [rowL_len] at hk
    rw [rowL_get _ _ _ hk]
    have := ris_bd h hst free hk
    omega) zs.length (by omega)
  have := h.most
  omega
end Go.Proofs.Ythogahdnidjelaa

/-
  The mathematics of TopOffset.
-/
import Derived.Test.YtcchmjbedppfnaaTbF
import Derived.Test.YtcchmjbedppfnaaMonMath
import Derived.Test.YtcchmjbedppfnaaLawCtr
import Derived.Deep.CutRange
namespace Go.Proofs.Ytcchmjbedppfnaa
open Go.RowKit Go.Shelf
set_option linter.unusedSimpArgs false
/-- the three ways of At -/
theorem at_cases (p r t : Int) (xs : List Xc) : (∃ E, E ≠ 0 ∧ E ≠ 5 ∧ atR p r xs t = ⟨0, 0, E⟩) ∨ (lrnE p r xs = 0 ∧ (0 ≤ t ∧ t ≤ 1125899906842624) ∧ ((sdB r (ofA r xs) = true ∧ atR p r xs t = ⟨(atS r t (ofA r xs)).1, (atS r t (ofA r xs)).2, 0⟩) ∨ (sdB r (ofA r xs) = false ∧ atR p r xs t = ⟨0, 0, 5⟩))) := by
  unfold atR
  by_cases h0 : lrnE p r xs = 0
  · rw [if_pos h0]
    by_cases h1 : tmB t = true
    · rw [if_pos h1]
      right
      refine ⟨h0, (tmB_iff t).1 h1, ?_⟩
      cases hs : sdB r (ofA r xs)
      · exact .inr ⟨rfl, by rw [if_neg (by decide)]⟩
      · exact .inl ⟨rfl, by rw [if_pos rfl]⟩
    · rw [if_neg h1]
      exact .inl ⟨3, by decide, by decide, rfl⟩
  · rw [if_neg h0]
    exact .inl ⟨_, h0, lrnE_ne5 p r xs, rfl⟩
/-- the common part of the first k bounds -/
def acB (r t : Int) (xs : List Xc) (k : Nat) : Int × Int := meets (-9223372036854775808, 9223372036854775807) ((xs.take k).map fun x => bnd r t (ofX r x))
theorem acB_all (r t : Int) (xs : List Xc) : acB r t xs xs.length = atS r t (ofA r xs) := by
  unfold acB atS
  rw [List.take_length, ofA_map, List.map_map]
  rfl
theorem acB_step {r t : Int} {xs : List Xc} {k : Nat} (h : k < xs.length) : acB r t xs (k + 1) = meetS (acB r t xs k) (bnd r t (ofX r (xc xs k))) := by
  have e : xs.take (k + 1) = xs.take k ++ [xc xs k] := by
    rw [List.take_add_one]
    congr 1
    unfold xc
    rw [List.getElem?_eq_getElem h]
    rfl
  unfold acB
  rw [e, List.map_append]
  exact meets_snoc _ _ _
theorem acB_one {r t : Int} {xs : List Xc} (h : 0 < xs.length) (hb : -9223372036854775808 ≤ (bnd r t (ofX r (xc xs 0))).1 ∧ (bnd r t (ofX r (xc xs 0))).2 ≤ 9223372036854775807) : acB r t xs 1 = bnd r t (ofX r (xc xs 0)) := by
  rw [acB_step h]
  unfold meetS
  exact Prod.ext (by show max (-9223372036854775808) _ = _; omega) (by show min 9223372036854775807 _ = _; omega)
/-- what lies below each lower end and above each upper end -/
theorem meets_ne {ys : List (Int × Int)} {f : Int × Int} (hf : f.1 ≤ f.2) (h1 : ∀ y ∈ ys, f.1 ≤ y.2 ∧ y.1 ≤ f.2) (h2 : ∀ y ∈ ys, ∀ z ∈ ys, y.1 ≤ z.2) : (meets f ys).1 ≤ (meets f ys).2 := by
  induction ys generalizing f with
  | nil => exact hf
  | cons y ys ih =>
    have hy := h1 y (by simp)
    have hyy := h2 y (by simp) y (by simp)
    refine ih (f := meetS f y) ?_ (fun z hz => ?_) (fun u hu z hz => h2 u (by simp [hu]) z (by simp [hz]))
    · unfold meetS; dsimp only; omega
    · have a1 := h1 z (by simp [hz])
      have a2 := h2 y (by simp) z (by simp [hz])
      have a3 := h2 z (by simp [hz]) y (by simp)
      unfold meetS; dsimp only; omega
open Classical in
theorem acB_ne {p r t : Int} {xs : List Xc} (h0 : lrnE p r xs = 0) (ht : 0 ≤ t ∧ t ≤ 1125899906842624) (hs : sdB r (ofA r xs) = true) (k : Nat) : (acB r t xs k).1 ≤ (acB r t xs k).2 := by
  have hv := valid_of h0
  have hr := (rtB_iff r).1 (lrnE_ok h0).2.2.1
  have hlen : (ofA r xs).length = xs.length := ofTo_len r xs xs.length
  have hln : ∀ {j : Nat}, j < xs.length → j < (ofTo r xs xs.length).length := fun {j} hj => by
    rw [ofTo_len]
    exact hj
  have hall : ∀ x ∈ xs, -1073741824 ≤ offL r x ∧ offL r x ≤ offH r x ∧ offH r x ≤ 1073741824 ∧ (0 ≤ x.ba ∧ x.ba ≤ 1125899906842624) := by
    intro x hx
    obtain ⟨j, hj, rfl⟩ := List.getElem_of_mem hx
    have q := okX_get ((lrnE_ok h0).2.2.2 j hj)
    have e : xc xs j = xs[j] := by unfold xc; rw [List.getElem?_eq_getElem hj]; rfl
    rw [e] at q
    have v := (vB_iff _ _).1 q.2.1
    have b := ((xcB_iff _).1 q.2.2.1).1
    omega
  have gb : ∀ x ∈ xs, 0 ≤ grw r (gap t x.ba) ∧ grw r (gap t x.ba) ≤ 2000000000000000 := by
    intro x hx
    have a := hall x hx
    have g0 := gap_nn t x.ba
    have g1 := grw_nn hr.1 g0
    have g2 := grw_le hr g0
    unfold gap at *
    omega
  unfold acB
  refine meets_ne (by decide) ?_ ?_
  · intro y hy
    obtain ⟨x, hx, rfl⟩ := List.mem_map.1 hy
    have a := hall x (List.mem_of_mem_take hx)
    have g := gb x (List.mem_of_mem_take hx)
    unfold bnd ofX
    dsimp only
    omega
  · intro y hy z hz
    obtain ⟨x, hx, rfl⟩ := List.mem_map.1 hy
    obtain ⟨u, hu, rfl⟩ := List.mem_map.1 hz
    have hx := List.mem_of_mem_take hx
    have hu := List.mem_of_mem_take hu
    obtain ⟨i, hi, rfl⟩ := List.getElem_of_mem hx
    obtain ⟨j, hj, rfl⟩ := List.getElem_of_mem hu
    have ei : of (ofA r xs) i = ofX r xs[i] := by rw [of_ofA hi]; unfold xc; rw [List.getElem?_eq_getElem hi]; rfl
    have ej : of (ofA r xs) j = ofX r xs[j] := by rw [of_ofA hj]; unfold xc; rw [List.getElem?_eq_getElem hj]; rfl
    have cd : cdB r (ofA r xs) i j = false := by
      rcases Nat.lt_trichotomy i j with h | h | h
      · exact (of_decide_eq_true hs) i j h (by omega)
      · subst h; exact cd_self hv (hln hi)
      · exact (cd_comm hv (hln hi) (hln hj)).trans ((of_decide_eq_true hs) j i h (by omega))
    have q := ((cd_iff hv (hln hi) (hln hj)).1 cd).1
    have e1 : of (ofTo r xs xs.length) i = ofX r xs[i] := ei
    have e2 : of (ofTo r xs xs.length) j = ofX r xs[j] := ej
    rw [e1, e2] at q
    have ga := grw_add (r := r) (d := gap t (xs[i]).ba) (e := gap t (xs[j]).ba) (f := gap (xs[j]).ba (xs[i]).ba) hr.1 (by unfold gap; omega)
    unfold bnd
    unfold ofX at *
    dsimp only at *
    omega
theorem bup_grw (r d : Int) : bup (d * r) 1000000000 = grw r d := by
  rw [grw_ceil, Int.mul_comm d r]
  unfold bup
  generalize r * d = q
  omega
/-- what is scaled: the growth -/
theorem scale_grw {r d : Int} (hr : 0 ≤ r ∧ r ≤ 1000000) (hd : 0 ≤ d ∧ d ≤ 1073741824) : scaleS d d r 1000000000 = ⟨d * r / 1000000000, grw r d, 0⟩ := by
  have h1 : 0 ≤ d * r := Int.mul_nonneg hd.1 hr.1
  have h2 : d * r ≤ 1073741824 * 1000000 := Int.mul_le_mul hd.2 hr.2 hr.1 (by decide)
  unfold scaleS
  rw [if_pos ((vB_iff _ _).2 (by omega)), if_pos (by omega), Int.min_self, Int.max_self, bup_grw]
  have e := grw_ceil r d
  rw [Int.mul_comm r d] at e
  unfold fit
  rw [if_pos]
  rw [vB_iff, e]
  omega
end Go.Proofs.Ytcchmjbedppfnaa

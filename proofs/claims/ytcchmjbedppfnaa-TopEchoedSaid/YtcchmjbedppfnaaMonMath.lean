/-
  Clock: growth and offsets are monotone.
-/
import Derived.Test.YtcchmjbedppfnaaLawCtr
namespace Go.Proofs.Ytcchmjbedppfnaa
open Go.RowKit Go.Shelf
theorem ofTo_map (r : Int) (xs : List Xc) : ∀ k, k ≤ xs.length → ofTo r xs k = (xs.take k).map (ofX r)
  | 0, _ => rfl
  | k + 1, h => by
    show ofTo r xs k ++ [ofX r (xc xs k)] = _
    rw [ofTo_map r xs k (by omega), List.take_add_one, List.map_append]
    congr 1
    unfold xc
    rw [List.getElem?_eq_getElem h]
    rfl
theorem ofA_map (r : Int) (xs : List Xc) : ofA r xs = xs.map (ofX r) := by
  unfold ofA
  rw [ofTo_map r xs _ (Nat.le_refl _), List.take_length]
theorem meets_le {α : Type} (F G : α → Int × Int) (D : Int) (hD : 0 ≤ D) : ∀ (os : List α) (f g : Int × Int), (∀ o ∈ os, (F o).1 ≤ (G o).1 + D ∧ (G o).2 ≤ (F o).2 + D) → f.1 ≤ g.1 + D → g.2 ≤ f.2 + D → (meets f (os.map F)).1 ≤ (meets g (os.map G)).1 + D ∧ (meets g (os.map G)).2 ≤ (meets f (os.map F)).2 + D
  | [], f, g, _, h1, h2 => ⟨h1, h2⟩
  | o :: os, f, g, h, h1, h2 => by
    obtain ⟨a, b⟩ := h o (List.mem_cons_self ..)
    refine meets_le F G D hD os (meetS f (F o)) (meetS g (G o)) (fun x hx => h x (List.mem_cons_of_mem _ hx)) ?_ ?_
    · show max f.1 (F o).1 ≤ max g.1 (G o).1 + D
      omega
    · show min g.2 (G o).2 ≤ min f.2 (F o).2 + D
      omega
theorem grw_ceil (r d : Int) : grw r d = (r * d + 999999999) / 1000000000 := by
  have h : r * d = 1000000000 * (r * (d / 1000000000)) + r * (d % 1000000000) := by
    conv => lhs; rw [← Int.mul_ediv_add_emod d 1000000000]
    rw [Int.mul_add]
    congr 1
    rw [← Int.mul_assoc, ← Int.mul_assoc, Int.mul_comm r]
  unfold grw
  rw [h]
  generalize r * (d / 1000000000) = u
  generalize r * (d % 1000000000) = v
  omega
theorem grw_mono_d {r d e : Int} (hr : 0 ≤ r) (h : d ≤ e) : grw r d ≤ grw r e := by
  rw [grw_ceil, grw_ceil]
  have := Int.mul_le_mul_of_nonneg_left h hr
  generalize r * d = u at *
  generalize r * e = v at *
  omega
theorem grw_mono_r {r s d : Int} (hd : 0 ≤ d) (h : r ≤ s) : grw r d ≤ grw s d := by
  rw [grw_ceil, grw_ceil]
  have := Int.mul_le_mul_of_nonneg_right h hd
  generalize r * d = u at *
  generalize s * d = v at *
  omega
theorem grw_add {r d e f : Int} (hr : 0 ≤ r) (h : f ≤ d + e) : grw r f ≤ grw r d + grw r e := by
  rw [grw_ceil, grw_ceil, grw_ceil]
  have := Int.mul_le_mul_of_nonneg_left h hr
  rw [Int.mul_add] at this
  generalize r * d = u at *
  generalize r * e = v at *
  generalize r * f = x at *
  omega
theorem grw_le {r d : Int} (hr : 0 ≤ r ∧ r ≤ 1000000) (hd : 0 ≤ d) : grw r d ≤ d := by
  rw [grw_ceil]
  have := Int.mul_le_mul_of_nonneg_right hr.2 hd
  generalize r * d = u at *
  omega
theorem grw_nn {r d : Int} (hr : 0 ≤ r) (hd : 0 ≤ d) : 0 ≤ grw r d := by
  rw [grw_ceil]
  have := Int.mul_nonneg hr hd
  generalize r * d = u at *
  omega
/-- with greater distances the offset is wider -/
theorem atS_wide {r s t : Int} {os : List Of} (hr : 0 ≤ r) (h : ∀ o ∈ os, gap s o.rd ≤ gap t o.rd) : (atS r t os).1 ≤ (atS r s os).1 ∧ (atS r s os).2 ≤ (atS r t os).2 := by
  have q := meets_le (bnd r t) (bnd r s) 0 (Int.le_refl _) os (-9223372036854775808, 9223372036854775807) (-9223372036854775808, 9223372036854775807) (fun o ho => by
    have := grw_mono_d hr (h o ho)
    unfold bnd
    dsimp only
    omega) (by omega) (by omega)
  unfold atS
  omega
/-- between two readings the ends differ by at most the growth -/
theorem atS_slow {r s t : Int} {os : List Of} (hr : 0 ≤ r) (h : s ≤ t) : ((atS r t os).1 ≤ (atS r s os).1 + grw r (t - s) ∧ (atS r s os).2 ≤ (atS r t os).2 + grw r (t - s)) ∧ ((atS r s os).1 ≤ (atS r t os).1 + grw r (t - s) ∧ (atS r t os).2 ≤ (atS r s os).2 + grw r (t - s)) := by
  have hn := grw_nn hr (show 0 ≤ t - s by omega)
  have q1 := meets_le (bnd r t) (bnd r s) (grw r (t - s)) hn os (-9223372036854775808, 9223372036854775807) (-9223372036854775808, 9223372036854775807) (fun o _ => by
    have := grw_add (r := r) (f := gap s o.rd) (d := gap t o.rd) (e := t - s) hr (by unfold gap; omega)
    unfold bnd
    dsimp only
    omega) (by omega) (by omega)
  have q2 := meets_le (bnd r s) (bnd r t) (grw r (t - s)) hn os (-9223372036854775808, 9223372036854775807) (-9223372036854775808, 9223372036854775807) (fun o _ => by
    have := grw_add (r := r) (f := gap t o.rd) (d := gap s o.rd) (e := t - s) hr (by unfold gap; omega)
    unfold bnd
    dsimp only
    omega) (by omega) (by omega)
  unfold atS
  exact ⟨q1, q2⟩
/-- offsets of the same exchanges by a greater rate -/
theorem ofX_rate {r s : Int} {x : Xc} (h : r ≤ s) (hx : x.se ≤ x.ba) : offL s x ≤ offL r x ∧ offH r x ≤ offH s x := by
  have := grw_mono_r (d := x.ba - x.se) (by omega) h
  unfold offL offH
  omega
theorem atS_rate {r s t : Int} {xs : List Xc} (h : r ≤ s) (hx : ∀ x ∈ xs, x.se ≤ x.ba) : (atS s t (ofA s xs)).1 ≤ (atS r t (ofA r xs)).1 ∧ (atS r t (ofA r xs)).2 ≤ (atS s t (ofA s xs)).2 := by
  rw [ofA_map, ofA_map]
  unfold atS
  rw [List.map_map, List.map_map]
  have q := meets_le (bnd s t ∘ ofX s) (bnd r t ∘ ofX r) 0 (Int.le_refl _) xs (-9223372036854775808, 9223372036854775807) (-9223372036854775808, 9223372036854775807) (fun x hxm => by
    have h1 := ofX_rate (x := x) h (hx x hxm)
    have h2 := grw_mono_r (d := gap t x.ba) (gap_nn _ _) h
    show (offL s x - grw s (gap t x.ba) ≤ offL r x - grw r (gap t x.ba) + 0) ∧ (offH r x + grw r (gap t x.ba) ≤ offH s x + grw s (gap t x.ba) + 0)
    omega) (by omega) (by omega)
  omega
/-- the last reading, as the law counts it -/
def lstX (xs : List Xc) : Nat → Int
  | 0 => 0
  | k + 1 => max (lstX xs k) (xc xs k).ba
theorem lstX_of {r : Int} {xs : List Xc} (h : ∀ k, k < xs.length → 0 ≤ (xc xs k).ba) : ∀ k, k ≤ xs.length → 1 ≤ xs.length → (k = 0 → lstX xs k = 0) ∧ (1 ≤ k → lstX xs k = lstTo (ofA r xs) k)
  | 0, _, _ => ⟨fun _ => rfl, fun h => absurd h (by decide)⟩
  | k + 1, hk, h1 => by
    refine ⟨fun h => absurd h (by omega), fun _ => ?_⟩
    have ih := lstX_of (r := r) h k (by omega) h1
    have e : ∀ j, j < xs.length → (of (ofA r xs) j).rd = (xc xs j).ba := fun j hj => by rw [of_ofA hj]; rfl
    show max (lstX xs k) (xc xs k).ba = max (lstTo (ofA r xs) k) (of (ofA r xs) k).rd
    rw [e k (by omega)]
    by_cases hz : k = 0
    · subst hz
      rw [ih.1 rfl]
      show max 0 (xc xs 0).ba = max (of (ofA r xs) 0).rd (xc xs 0).ba
      rw [e 0 (by omega)]
      have := h 0 (by omega)
      omega
    · rw [ih.2 (by omega)]
theorem lst_ge (os : List Of) : ∀ k, k ≤ os.length → ∀ j, j < k → (of os j).rd ≤ lstTo os k
  | 0, _, j, hj => absurd hj (Nat.not_lt_zero _)
  | k + 1, hk, j, hj => by
    show _ ≤ max (lstTo os k) (of os k).rd
    by_cases e : j = k
    · subst e; omega
    · have := lst_ge os k (by omega) j (by omega); omega
/-- from the last exchange on the offset gets wider -/
theorem wd_mono {r l s t : Int} {os : List Of} (hr : 0 ≤ r) (h1 : lstA os ≤ s) (h2 : s ≤ t) (h : wdB r os l s = true) : wdB r os l t = true := by
  have q := atS_wide (r := r) (s := s) (t := t) (os := os) hr (fun o ho => by
    obtain ⟨j, hj, rfl⟩ := List.getElem_of_mem ho
    have := lst_ge os os.length (Nat.le_refl _) j hj
    have e : of os j = os[j] := by unfold of; rw [List.getElem?_eq_getElem hj]; rfl
    rw [e] at this
    unfold lstA at h1
    rw [gap_le (by omega), gap_le (by omega)]
    omega)
  unfold wdB at *
  rw [decide_eq_true_iff] at *
  omega
end Go.Proofs.Ytcchmjbedppfnaa

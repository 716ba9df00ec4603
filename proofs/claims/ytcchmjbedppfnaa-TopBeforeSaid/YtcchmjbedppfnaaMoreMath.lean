/-
  Clock: the mathematics of ClockMore: a further exchange, a greater rate, wider delays.
-/
import Derived.Test.YtcchmjbedppfnaaMonMath
import Derived.Test.YtcchmjbedppfnaaRowSet
namespace Go.Proofs.Ytcchmjbedppfnaa
open Go.RowKit Go.Shelf
/-- an exchange with wider delays -/
def wdX (d : Int) (y : Xc) : Xc := ⟨y.se, y.he, y.an, y.ba, max 0 (y.fLo - d), min 1073741824 (y.fHi + d), max 0 (y.hLo - d), min 1073741824 (y.hHi + d)⟩
theorem at_ok {p r t : Int} {xs : List Xc} {a b : Int} (h : atR p r xs t = ⟨a, b, 0⟩) : lrnE p r xs = 0 ∧ tmB t = true ∧ (a, b) = atS r t (ofA r xs) := by
  unfold atR at h
  by_cases h0 : lrnE p r xs = 0
  · rw [if_pos h0] at h
    by_cases h1 : tmB t = true
    · rw [if_pos h1] at h
      by_cases h2 : sdB r (ofA r xs) = true
      · rw [if_pos h2] at h
        simp only [R3.mk.injEq] at h
        exact ⟨h0, h1, Prod.ext h.1.symm h.2.1.symm⟩
      · rw [if_neg h2] at h
        simp only [R3.mk.injEq] at h
        exact absurd h.2.2 (by decide)
    · rw [if_neg h1] at h
      simp only [R3.mk.injEq] at h
      exact absurd h.2.2 (by decide)
  · rw [if_neg h0] at h
    simp only [R3.mk.injEq] at h
    exact absurd h.2.2 h0
theorem atS_more (r t : Int) (xs : List Xc) (x : Xc) : (atS r t (ofA r xs)).1 ≤ (atS r t (ofA r (xs ++ [x]))).1 ∧ (atS r t (ofA r (xs ++ [x]))).2 ≤ (atS r t (ofA r xs)).2 := by
  rw [ofA_map, ofA_map, List.map_append]
  unfold atS
  rw [List.map_append]
  show _ ≤ (meets _ (_ ++ [bnd r t (ofX r x)])).1 ∧ (meets _ (_ ++ [bnd r t (ofX r x)])).2 ≤ _
  rw [meets_snoc]
  unfold meetS
  dsimp only
  omega
theorem atS_widen {r t d : Int} {xs : List Xc} (hd : 0 ≤ d) (hx : ∀ x ∈ xs, xcB x = true) : (atS r t (ofA r (xs.map (wdX d)))).1 ≤ (atS r t (ofA r xs)).1 ∧ (atS r t (ofA r xs)).2 ≤ (atS r t (ofA r (xs.map (wdX d)))).2 := by
  rw [ofA_map, ofA_map]
  unfold atS
  have e3 : ((xs.map (wdX d)).map (ofX r)).map (bnd r t) = xs.map (bnd r t ∘ ofX r ∘ wdX d) := by simp [List.map_map]
  have e4 : (xs.map (ofX r)).map (bnd r t) = xs.map (bnd r t ∘ ofX r) := by simp [List.map_map]
  rw [e3, e4]
  have q := meets_le (bnd r t ∘ ofX r ∘ wdX d) (bnd r t ∘ ofX r) 0 (Int.le_refl _) xs (-9223372036854775808, 9223372036854775807) (-9223372036854775808, 9223372036854775807) (fun x hxm => by
    obtain ⟨-, -, h3, h4⟩ := (xcB_iff x).1 (hx x hxm)
    show (offL r (wdX d x) - grw r (gap t x.ba) ≤ offL r x - grw r (gap t x.ba) + 0) ∧ (offH r x + grw r (gap t x.ba) ≤ offH r (wdX d x) + grw r (gap t x.ba) + 0)
    unfold offL offH wdX
    dsimp only
    generalize grw r (gap t x.ba) = g1
    generalize grw r (x.ba - x.se) = g2
    omega) (by omega) (by omega)
  omega
theorem ok_all {p r : Int} {xs : List Xc} (h : lrnE p r xs = 0) : ∀ x ∈ xs, xcB x = true := by
  intro x hx
  obtain ⟨k, hk, rfl⟩ := List.getElem_of_mem hx
  have q := (okX_get ((lrnE_ok h).2.2.2 k hk)).2.2.1
  unfold xc at q
  rwa [List.getElem?_eq_getElem hk, Option.getD_some] at q
/-- the three ways of ClockMore, in the answers of At -/
theorem more_one {p r t : Int} {xs : List Xc} {x : Xc} {a b c d : Int} (h : atR p r xs t = ⟨a, b, 0⟩) (g : atR p r (xs ++ [x]) t = ⟨c, d, 0⟩) : a ≤ c ∧ d ≤ b := by
  have e1 := (at_ok h).2.2
  have e2 := (at_ok g).2.2
  have q := atS_more r t xs x
  rw [← e1, ← e2] at q
  exact q
theorem more_rate {p r s t : Int} {xs : List Xc} {a b c d : Int} (hrs : r ≤ s) (h : atR p r xs t = ⟨a, b, 0⟩) (g : atR p s xs t = ⟨c, d, 0⟩) : c ≤ a ∧ b ≤ d := by
  have e1 := (at_ok h).2.2
  have e2 := (at_ok g).2.2
  have hx := ok_all (at_ok h).1
  have q := atS_rate (r := r) (s := s) (t := t) (xs := xs) hrs (fun x hxm => ((xcB_iff x).1 (hx x hxm)).1.2.1)
  rw [← e1, ← e2] at q
  exact q
theorem more_wide {p r t w : Int} {xs : List Xc} {a b c d : Int} (hw : 0 ≤ w) (h : atR p r xs t = ⟨a, b, 0⟩) (g : atR p r (xs.map (wdX w)) t = ⟨c, d, 0⟩) : c ≤ a ∧ b ≤ d := by
  have e1 := (at_ok h).2.2
  have e2 := (at_ok g).2.2
  have q := atS_widen (r := r) (t := t) hw (ok_all (at_ok h).1)
  rw [← e1, ← e2] at q
  exact q
end Go.Proofs.Ytcchmjbedppfnaa

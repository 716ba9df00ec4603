/-
  Ways to replace Open: the mathematics.
-/
import Derived.Test.YtamelpfhbnkggaaAnswers
namespace Go.Proofs.Ytamelpfhbnkggaa
open Go.RowKit Go.Shelf
/-- is the way n to replace the open answers whole -/
def Wy : List Int → Int → Bool
  | [], _ => true
  | z :: zs, n => if z = 1 then (decide (n.tmod 2 = 1) && Wy zs (n.tdiv 2)) else (decide (z = 2) && Wy zs n)
def ones (zs : List Int) : Nat := (zs.filter fun z => decide (z = 1)).length
theorem Wy_one (zs : List Int) (n : Int) : Wy (1 :: zs) n = (decide (n.tmod 2 = 1) && Wy zs (n.tdiv 2)) := by simp [Wy]
theorem Wy_other {z : Int} (zs : List Int) (n : Int) (h : z ≠ 1) : Wy (z :: zs) n = (decide (z = 2) && Wy zs n) := by simp [Wy, h]
theorem drop_get (zs : List Int) (k : Nat) (h : k < zs.length) : zs.drop k = (zs[k]?.getD 0) :: zs.drop (k + 1) := by
  rw [List.drop_eq_getElem_cons h, List.getElem?_eq_getElem h, Option.getD_some]
theorem take_get (zs : List Int) (k : Nat) (h : k < zs.length) : zs.take (k + 1) = zs.take k ++ [zs[k]?.getD 0] := by
  rw [List.take_add_one, List.getElem?_eq_getElem h]; rfl
theorem ones_app (a b : List Int) : ones (a ++ b) = ones a + ones b := by simp [ones]
theorem ones_le (a : List Int) : ones a ≤ a.length := List.length_filter_le _ _
theorem Wy_twos (zs : List Int) (h : ∀ z ∈ zs, z = 2) (n : Int) : Wy zs n = true := by
  induction zs with
  | nil => rfl
  | cons z zs ih =>
    obtain rfl := h z (by simp)
    rw [Wy_other _ _ (by decide), ih (fun y hy => h y (by simp [hy]))]; rfl
theorem Wy_zero (zs : List Int) (h : ∃ z, z ∈ zs ∧ z ≠ 2) : Wy zs 0 = false := by
  induction zs with
  | nil => obtain ⟨z, hz, _⟩ := h; cases hz
  | cons z zs ih =>
    by_cases h1 : z = 1
    · subst h1; rw [Wy_one]; simp
    · rw [Wy_other _ _ h1]
      by_cases h2 : z = 2
      · rw [ih ?_]
        · simp
        · obtain ⟨y, hy, hn⟩ := h
          rcases List.mem_cons.1 hy with rfl | hy
          · exact absurd h2 hn
          · exact ⟨y, hy, hn⟩
      · simp [h2]
theorem Wy_no (zs : List Int) (h : (0 : Int) ∈ zs) (n : Int) : Wy zs n = false := by
  induction zs generalizing n with
  | nil => cases h
  | cons z zs ih =>
    rcases List.mem_cons.1 h with rfl | hy
    · rw [Wy_other _ _ (by decide)]; rfl
    · by_cases h1 : z = 1
      · subst h1; rw [Wy_one, ih hy]; simp
      · rw [Wy_other _ _ h1, ih hy]; simp
theorem Wy_max (zs : List Int) (h : ∀ z ∈ zs, z = 1 ∨ z = 2) : Wy zs ((2 : Int) ^ ones zs - 1) = true := by
  induction zs with
  | nil => rfl
  | cons z zs ih =>
    have ih' := ih (fun y hy => h y (by simp [hy]))
    have p : (0 : Int) < 2 ^ ones zs := Int.pow_pos (by decide)
    rcases h z (by simp) with rfl | rfl
    · have e : ones (1 :: zs) = ones zs + 1 := by simp [ones]
      rw [Wy_one, e, Int.pow_succ]
      generalize (2 : Int) ^ ones zs = P at p ih'
      have e1 : (P * 2 - 1).tmod 2 = 1 := by rw [Int.tmod_eq_emod_of_nonneg (by omega)]; omega
      have e2 : (P * 2 - 1).tdiv 2 = P - 1 := by rw [Int.tdiv_eq_ediv_of_nonneg (by omega)]; omega
      rw [e1, e2, ih']; rfl
    · have e : ones (2 :: zs) = ones zs := by simp [ones]
      rw [Wy_other _ _ (by decide), e, ih']; rfl
theorem le_fold (zs : List Int) (a c : Int) : c ≤ zs.foldl min a ↔ c ≤ a ∧ ∀ z ∈ zs, c ≤ z := by
  induction zs generalizing a with
  | nil => simp
  | cons z zs ih =>
    simp only [List.foldl_cons, ih, List.mem_cons, forall_eq_or_imp]
    constructor
    · rintro ⟨h, k⟩; exact ⟨by omega, by omega, k⟩
    · rintro ⟨h, k, m⟩; exact ⟨by omega, m⟩
theorem fold_opp (zs : List Int) (a : Int) : (zs.map (fun z => 2 - z)).foldl max (2 - a) = 2 - zs.foldl min a := by
  induction zs generalizing a with
  | nil => rfl
  | cons z zs ih =>
    simp only [List.map_cons, List.foldl_cons]
    rw [show max (2 - a) (2 - z) = 2 - min a z by omega, ih]
def Yw (zs : List Int) (n : Nat) : Bool := (List.range n).all fun j => Wy zs j
def Nw (zs : List Int) (n : Nat) : Bool := (List.range n).all fun j => !Wy zs j
theorem Yw_succ (zs : List Int) (n : Nat) : Yw zs (n + 1) = (Yw zs n && Wy zs n) := by simp [Yw, List.range_succ]
theorem Nw_succ (zs : List Int) (n : Nat) : Nw zs (n + 1) = (Nw zs n && !Wy zs n) := by simp [Nw, List.range_succ]
theorem fold_bd (zs : List Int) (hok : ∀ z ∈ zs, 0 ≤ z ∧ z ≤ 2) : 0 ≤ zs.foldl min 2 ∧ zs.foldl min 2 ≤ 2 :=
  ⟨(le_fold zs 2 0).2 ⟨by decide, fun z hz => (hok z hz).1⟩, ((le_fold zs 2 _).1 (Int.le_refl _)).1⟩
theorem kleene_yes (zs : List Int) (hok : ∀ z ∈ zs, 0 ≤ z ∧ z ≤ 2) : decide (zs.foldl min 2 = 2) = Yw zs (2 ^ ones zs) := by
  obtain ⟨b0, b1⟩ := fold_bd zs hok
  by_cases h : ∀ z ∈ zs, z = 2
  · have h1 := (le_fold zs 2 2).2 ⟨by omega, fun z hz => by have := h z hz; omega⟩
    rw [decide_eq_true (show zs.foldl min 2 = 2 by omega)]
    simp [Yw, Wy_twos zs h]
  · have h' : ∃ z, z ∈ zs ∧ z ≠ 2 := by simpa using h
    have e : zs.foldl min 2 ≠ 2 := fun e => by
      obtain ⟨z, hz, hn⟩ := h'
      have h1 := ((le_fold zs 2 2).1 (by omega)).2 z hz
      have h2 := hok z hz
      omega
    rw [decide_eq_false e]
    symm
    rw [Yw, List.all_eq_false]
    exact ⟨0, List.mem_range.2 (Nat.two_pow_pos _), by simp [Wy_zero zs h']⟩
theorem kleene_no (zs : List Int) (hok : ∀ z ∈ zs, 0 ≤ z ∧ z ≤ 2) : decide (zs.foldl min 2 = 0) = Nw zs (2 ^ ones zs) := by
  obtain ⟨b0, b1⟩ := fold_bd zs hok
  by_cases h : (0 : Int) ∈ zs
  · have h1 : ¬ 1 ≤ zs.foldl min 2 := fun e => by have := ((le_fold zs 2 1).1 e).2 0 h; omega
    rw [decide_eq_true (show zs.foldl min 2 = 0 by omega)]
    simp [Nw, Wy_no zs h]
  · have hz : ∀ z ∈ zs, z = 1 ∨ z = 2 := fun z hz => by
      have h1 := hok z hz
      have h2 : z ≠ 0 := fun e => h (e ▸ hz)
      omega
    have h1 : 1 ≤ zs.foldl min 2 := (le_fold zs 2 1).2 ⟨by decide, fun z hm => by have := hz z hm; omega⟩
    rw [decide_eq_false (show ¬ zs.foldl min 2 = 0 by omega)]
    symm
    rw [Nw, List.all_eq_false]
    have p := Nat.two_pow_pos (ones zs)
    refine ⟨2 ^ ones zs - 1, List.mem_range.2 (by omega), ?_⟩
    have e : ((2 ^ ones zs - 1 : Nat) : Int) = (2 : Int) ^ ones zs - 1 := by rw [Int.ofNat_sub p]; simp
    simp [e, Wy_max zs hz]
/-- a slice by its cells -/
theorem SlA.view {w : World} {v : Value} {zs : List Int} (h : SlA w v zs) : ∃ ad cap, v = .slice ad zs.length cap ∧ zs.length ≤ 9223372036854775807 ∧ ∀ k, k < zs.length → ∃ b off, ad = some ⟨b, off, none⟩ ∧ b < w.heap.size ∧ w.cell? ⟨b, off + k, none⟩ = some (.int .i64 (zs[k]?.getD 0)) := by
  rcases h with ⟨ad, cap, rfl, rfl⟩ | ⟨b, off, cap, rfl, hm, hlt, hc⟩
  · exact ⟨ad, cap, rfl, by simp, fun k hk => absurd hk (Nat.not_lt_zero k)⟩
  · exact ⟨_, cap, rfl, hm, fun k hk => ⟨b, off, rfl, hlt, hc k hk⟩⟩
theorem SlA_of_owns {w : World} {B : Nat} {v : Value} {zs : List Int} (hm : zs.length ≤ 9223372036854775807) (h : w.ownsRow B 37 1 v zs.length (zs.map (Value.int .i64))) : SlA w v zs := by
  rcases Nat.eq_zero_or_pos zs.length with h0 | h0
  · have hz := List.length_eq_zero_iff.1 h0
    rcases h.2 with ⟨rfl, _⟩ | ⟨g, cap, cur, rfl, _⟩
    · exact .inl ⟨none, 0, rfl, hz⟩
    · subst hz; exact .inl ⟨_, cap, rfl, rfl⟩
  · rcases h.2 with ⟨rfl, hx⟩ | ⟨g, cap, cur, rfl, _⟩
    · simp at hx; subst hx; simp at h0
    · refine .inr ⟨g, 0, cap, rfl, hm, (h.lt g rfl).2, fun k hk => ?_⟩
      rw [Nat.zero_add, h.cellAt k (by omega)]
      simp [hk]
theorem ansL_okL {zs : List Int} (h : zs.length ≤ 256) (hok : ∀ z ∈ zs, 0 ≤ z ∧ z ≤ 2) : ansL zs = 0 := by
  unfold ansL
  rw [if_neg (by omega), if_pos (List.all_eq_true.2 fun z hz => (okA_iff z).2 (hok z hz))]
end Go.Proofs.Ytamelpfhbnkggaa

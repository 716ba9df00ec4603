/-
  Cables of wires (isobathtop.wired): what they are, and that they are valid (mathematics).
-/
import Derived.Test.YtdohfpnnmppdkaaCblVal
namespace Go.Proofs.Ytdohfpnnmppdkaa
set_option linter.unusedSimpArgs false
/-- a wire: its parent, two resistances, two loads, its delay, its limit -/
structure Wr where
  par : Int
  o0 : Int
  o1 : Int
  l0 : Int
  l1 : Int
  dl : Int
  lim : Int
instance : Inhabited Wr := ⟨⟨0, 0, 0, 0, 0, 0, 0⟩⟩
def wr (ws : List Wr) (k : Nat) : Wr := ws[k]?.getD default
/-- a wire's numbers are those that its types allow -/
structure OkW (x : Wr) : Prop where
  par : 0 ≤ x.par ∧ x.par ≤ 255
  o0 : 0 ≤ x.o0 ∧ x.o0 ≤ 255
  o1 : 0 ≤ x.o1 ∧ x.o1 ≤ 255
  l0 : 0 ≤ x.l0 ∧ x.l0 ≤ 255
  l1 : 0 ≤ x.l1 ∧ x.l1 ≤ 255
  dl : 0 ≤ x.dl ∧ x.dl ≤ 255
  lim : 0 ≤ x.lim ∧ x.lim ≤ 65535
/-- the parent of the node behind wire i -/
def wrP (ws : List Wr) (i : Nat) : Int := (wr ws i).par % ((i : Int) + 1)
theorem wrP_bd {ws : List Wr} (i : Nat) : 0 ≤ wrP ws i ∧ wrP ws i ≤ i := by
  unfold wrP
  have h1 := Int.emod_nonneg (wr ws i).par (show (i : Int) + 1 ≠ 0 by omega)
  have h2 := Int.emod_lt_of_pos (wr ws i).par (show 0 < (i : Int) + 1 by omega)
  omega
def dAt (l : List Int) (p : Nat) : Int := l[p]?.getD 0
/-- the depths of the first nodes -/
def depF (ws : List Wr) : Nat → List Int
  | 0 => [0]
  | i + 1 => depF ws i ++ [dAt (depF ws i) (wrP ws i).toNat + 1]
theorem depF_len (ws : List Wr) (i : Nat) : (depF ws i).length = i + 1 := by
  induction i with
  | zero => rfl
  | succ i ih => simp [depF, ih]
theorem dAt_old (ws : List Wr) {i k : Nat} (hk : k ≤ i) : dAt (depF ws (i + 1)) k = dAt (depF ws i) k := by
  unfold dAt
  show (depF ws i ++ [_])[k]?.getD 0 = _
  rw [List.getElem?_append_left (by rw [depF_len]; omega)]
theorem dAt_new (ws : List Wr) (i : Nat) : dAt (depF ws (i + 1)) (i + 1) = dAt (depF ws i) (wrP ws i).toNat + 1 := by
  unfold dAt
  show (depF ws i ++ [_])[i + 1]?.getD 0 = _
  rw [List.getElem?_append_right (by rw [depF_len]; omega), depF_len]
  simp [dAt]
theorem dAt_bd (ws : List Wr) (i : Nat) : ∀ k, k ≤ i → 0 ≤ dAt (depF ws i) k ∧ dAt (depF ws i) k ≤ k := by
  induction i with
  | zero => intro k hk; obtain rfl : k = 0 := by omega
            exact ⟨Int.le_refl _, Int.le_refl _⟩
  | succ i ih =>
    intro k hk
    by_cases h : k ≤ i
    · rw [dAt_old ws h]; exact ih k h
    · obtain rfl : k = i + 1 := by omega
      rw [dAt_new]
      obtain ⟨p1, p2⟩ := wrP_bd (ws := ws) i
      obtain ⟨q1, q2⟩ := ih (wrP ws i).toNat (by omega)
      constructor <;> omega
/-- the node behind wire i -/
def wrN (ws : List Wr) (i : Nat) : Nd :=
  ⟨wrP ws i, 10 * min (wr ws i).o0 (wr ws i).o1, 10 * max (wr ws i).o0 (wr ws i).o1, (wr ws i).lim, min (wr ws i).l0 (wr ws i).l1, max (wr ws i).l0 (wr ws i).l1, 19000, if 0 < (wr ws i).dl % 3 then 100 - 2 * dAt (depF ws (i + 1)) (i + 1) else -1⟩
/-- the first nodes -/
def wirF (ws : List Wr) : Nat → List Nd
  | 0 => [⟨-1, 0, 0, 100000, 0, 0, 0, -1⟩]
  | i + 1 => wirF ws i ++ [wrN ws i]
theorem wirF_len (ws : List Wr) (i : Nat) : (wirF ws i).length = i + 1 := by
  induction i with
  | zero => rfl
  | succ i ih => simp [wirF, ih]
theorem wirF_nd (ws : List Wr) {i k : Nat} (hk : k < i) : nd (wirF ws i) (k + 1) = wrN ws k := by
  induction i with
  | zero => omega
  | succ i ih =>
    unfold nd
    show (wirF ws i ++ [_])[k + 1]?.getD default = _
    by_cases h : k < i
    · rw [List.getElem?_append_left (by rw [wirF_len]; omega)]
      exact ih h
    · obtain rfl : k = i := by omega
      rw [List.getElem?_append_right (by rw [wirF_len]; omega), wirF_len]
      simp
theorem wirF_zero (ws : List Wr) (i : Nat) : nd (wirF ws i) 0 = ⟨-1, 0, 0, 100000, 0, 0, 0, -1⟩ := by
  induction i with
  | zero => rfl
  | succ i ih =>
    unfold nd
    show (wirF ws i ++ [_])[0]?.getD default = _
    rw [List.getElem?_append_left (by rw [wirF_len]; omega)]
    exact ih
theorem wrN_ok (ws : List Wr) (i : Nat) (hi : i < 10) (h : OkW (wr ws i)) : NodeP (wrN ws i) := by
  obtain ⟨h1, h2, h3, h4, h5, h6, h7⟩ := h
  obtain ⟨d1, d2⟩ := dAt_bd ws (i + 1) (i + 1) (Nat.le_refl _)
  unfold NodeP wrN
  dsimp only
  refine ⟨⟨?_, ?_, ?_⟩, h7.imp id (fun h => by omega), ⟨?_, ?_, ?_⟩, by omega, ?_⟩
  all_goals first | omega | (split <;> constructor <;> omega)
theorem wirF_all (ws : List Wr) (i : Nat) (hi : i ≤ 10) (h : ∀ k, k < i → OkW (wr ws k)) : AllN (wirF ws i) := by
  intro k hk
  rw [wirF_len] at hk
  cases k with
  | zero => rw [wirF_zero]; exact ⟨by decide, by decide⟩
  | succ k =>
    rw [wirF_nd ws (show k < i by omega)]
    refine ⟨decide_eq_true ?_, decide_eq_true (wrN_ok ws k (by omega) (h k (by omega)))⟩
    unfold JoinP
    rw [if_neg (by omega)]
    obtain ⟨p1, p2⟩ := wrP_bd (ws := ws) k
    refine ⟨p1, ?_⟩
    show wrP ws k ≤ _
    omega
theorem wirF_cab (ws : List Wr) (i : Nat) (hi : i ≤ 10) (h : ∀ k, k < i → OkW (wr ws k)) : cabE 20000 20500 (wirF ws i) = 0 := by
  unfold cabE
  rw [if_neg (by rw [wirF_len]; omega), if_neg (by rw [wirF_len]; omega), if_neg (by omega), if_pos (wirF_all ws i hi h)]
end Go.Proofs.Ytdohfpnnmppdkaa

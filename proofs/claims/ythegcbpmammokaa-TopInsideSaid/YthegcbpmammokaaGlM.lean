/-
  TopInside: the mathematics: answers one after another, and all at once.
-/
import Derived.Test.YthegcbpmammokaaGlK
import Derived.Test.YthegcbpmammokaaGlW
namespace Go.Proofs.Ythegcbpmammokaa
open Go.RowKit
set_option linter.unusedSimpArgs false
theorem inS_e {a b c d : Int} (h1 : vB a b = true) (h2 : vB c d = true) : (inS a b c d).e = 0 := by
  unfold inS
  rw [if_pos ⟨h1, h2⟩]
  split
  · rfl
  · split <;> rfl
theorem chkX_get {a b c d : Int} (h : chkX a b c d = 0) : vB a b = true ∧ vB c d = true := by
  unfold chkX at h
  by_cases q : vX a b c d = true
  · obtain ⟨g1, g2⟩ := (vX_iff a b c d).1 q
    exact ⟨g1.1, g2.1⟩
  · rw [if_neg q] at h; exact absurd h (by decide)
theorem cellQ_ok {nx cell : Int} (hn : 1 ≤ nx ∧ nx ≤ 12) (hc : 100 ≤ cell ∧ cell ≤ 65536) {c : Nat} (hl : c < 144) : vB (cellQ nx cell c).a (cellQ nx cell c).b = true ∧ vB (cellQ nx cell c).c (cellQ nx cell c).d = true := by
  obtain ⟨-, b1, b2⟩ := cX_bd hn hc c
  obtain ⟨-, b3, b4⟩ := cY_bd hn hc hl
  rw [vB_iff, vB_iff]
  show (cX nx cell c ≤ cX nx cell c + cell ∧ _ ≤ cX nx cell c ∧ cX nx cell c + cell ≤ _) ∧ (cY nx cell c ≤ cY nx cell c + cell ∧ _ ≤ cY nx cell c ∧ cY nx cell c + cell ≤ _)
  omega
/-- answers that are no more than a list may have -/
theorem ansL_of {l : List Int} (hl : l.length ≤ 256) (h : ∀ x ∈ l, 0 ≤ x ∧ x ≤ 2) : ansL l = 0 := by
  unfold ansL
  rw [if_neg (by omega), if_pos]
  refine List.all_eq_true.2 fun x hx => ?_
  unfold okA
  exact decide_eq_true (h x hx)
theorem anyS_of {l : List Int} (hl : l.length ≤ 256) (h : ∀ x ∈ l, 0 ≤ x ∧ x ≤ 2) : anyS l = ⟨l.foldl max 0, 0⟩ := by
  unfold anyS
  rw [if_pos (ansL_of hl h)]
theorem foldl_max (l : List Int) : ∀ a : Int, 0 ≤ a → l.foldl max a = max a (l.foldl max 0) := by
  induction l with
  | nil => intro a ha; simp; omega
  | cons x l ih =>
    intro a ha
    show l.foldl max (max a x) = max a (l.foldl max (max 0 x))
    rw [ih _ (by omega), ih (max 0 x) (by omega)]
    omega
theorem foldl_bd (l : List Int) (h : ∀ x ∈ l, 0 ≤ x ∧ x ≤ 2) : 0 ≤ l.foldl max 0 ∧ l.foldl max 0 ≤ 2 := by
  have key : ∀ (l : List Int) (a : Int), (∀ x ∈ l, 0 ≤ x ∧ x ≤ 2) → 0 ≤ a ∧ a ≤ 2 → 0 ≤ l.foldl max a ∧ l.foldl max a ≤ 2 := by
    intro l
    induction l with
    | nil => intro a _ ha; exact ha
    | cons x l ih =>
      intro a hl ha
      have hx := hl x (by simp)
      exact ih (max a x) (fun y hy => hl y (by simp [hy])) (by omega)
  exact key l 0 h ⟨by decide, by decide⟩
theorem ansR_in (zs : List Q4) (y : Q4) : ∀ x ∈ ansR zs y, 0 ≤ x ∧ x ≤ 2 := fun x hx => by
  unfold ansR at hx
  obtain ⟨z, -, rfl⟩ := List.mem_map.1 hx
  exact insV_bd z y
theorem ansR_len (zs : List Q4) (y : Q4) : (ansR zs y).length = zs.length := by simp [ansR]
theorem anyV_of (zs : List Q4) (y : Q4) (hl : zs.length ≤ 256) : anyV zs y = (ansR zs y).foldl max 0 := by
  unfold anyV
  rw [anyS_of (by rw [ansR_len]; exact hl) (ansR_in zs y)]
/-- the answers of the boxes of the first k runs -/
def flaT (rs : List (List Q4)) (y : Q4) : Nat → List Int
  | 0 => []
  | k + 1 => flaT rs y k ++ ansR (rn rs k) y
theorem flaT_in (rs : List (List Q4)) (y : Q4) : ∀ k, ∀ x ∈ flaT rs y k, 0 ≤ x ∧ x ≤ 2
  | 0, x, h => by simp [flaT] at h
  | k + 1, x, h => by
    simp only [flaT, List.mem_append] at h
    rcases h with h | h
    · exact flaT_in rs y k x h
    · exact ansR_in _ _ x h
theorem flaT_len (rs : List (List Q4)) (y : Q4) (h : ∀ k, k < rs.length → (rn rs k).length ≤ 20) : ∀ k, k ≤ rs.length → (flaT rs y k).length ≤ k * 20
  | 0, _ => by simp [flaT]
  | k + 1, hk => by
    have ih := flaT_len rs y h k (by omega)
    have := h k (by omega)
    simp only [flaT, List.length_append, ansR_len]
    omega
theorem flaT_max (rs : List (List Q4)) (y : Q4) (h : ∀ k, k < rs.length → (rn rs k).length ≤ 20) : ∀ k, k ≤ rs.length → (flaT rs y k).foldl max 0 = (visT rs y k).foldl max 0
  | 0, _ => rfl
  | k + 1, hk => by
    have ih := flaT_max rs y h k (by omega)
    rw [visT_succ (by omega)]
    simp only [flaT, List.foldl_append, List.foldl_cons, List.foldl_nil]
    rw [ih]
    have b := foldl_bd (flaT rs y k) (flaT_in rs y k)
    rw [ih] at b
    rw [foldl_max _ _ b.1, anyV_of _ _ (by have := h k (by omega); omega)]
theorem visR_in (rs : List (List Q4)) (y : Q4) (h : ∀ k, k < rs.length → (rn rs k).length ≤ 20) : ∀ x ∈ visR rs y, 0 ≤ x ∧ x ≤ 2 := fun x hx => by
  unfold visR at hx
  obtain ⟨r, hr, rfl⟩ := List.mem_map.1 hx
  obtain ⟨k, hk, rfl⟩ := List.getElem_of_mem hr
  have := h k hk
  unfold rn at this
  rw [List.getElem?_eq_getElem hk, Option.getD_some] at this
  rw [anyV_of _ _ (by omega)]
  exact foldl_bd _ (ansR_in _ _)
/-- all answers at once are those of the runs -/
theorem flaT_any (rs : List (List Q4)) (y : Q4) (h3 : rs.length ≤ 3) (h : ∀ k, k < rs.length → (rn rs k).length ≤ 20) : anyS (flaT rs y rs.length) = ⟨visV rs y, 0⟩ := by
  have hl := flaT_len rs y h rs.length (Nat.le_refl _)
  rw [anyS_of (by omega) (flaT_in rs y _), flaT_max rs y h _ (Nat.le_refl _), visT_all]
  unfold visV
  rw [anyS_of (by simp [visR]; omega) (visR_in rs y h)]
/-- the answers of the dives that end in time -/
def fetA (t d f u : Int) (zs : List Q4) (y : Q4) (k : Nat) : List Int := ansR (fetT t d f u zs k) y
theorem fetA_yes {t d f u : Int} {zs : List Q4} {y : Q4} {k : Nat} (h : f ≤ tmD t d (k + 1) ∧ tmD t d (k + 1) ≤ u) : fetA t d f u zs y (k + 1) = fetA t d f u zs y k ++ [insV (q4 zs k) y] := by
  unfold fetA
  rw [show fetT t d f u zs (k + 1) = fetT t d f u zs k ++ [q4 zs k] from if_pos (decide_eq_true h)]
  simp [ansR]
theorem fetA_no {t d f u : Int} {zs : List Q4} {y : Q4} {k : Nat} (h : ¬ (f ≤ tmD t d (k + 1) ∧ tmD t d (k + 1) ≤ u)) : fetA t d f u zs y (k + 1) = fetA t d f u zs y k := by
  unfold fetA
  rw [show fetT t d f u zs (k + 1) = fetT t d f u zs k from if_neg (by simpa using h)]
theorem fetA_len (t d f u : Int) (zs : List Q4) (y : Q4) (k : Nat) : (fetA t d f u zs y k).length ≤ k := by
  unfold fetA
  rw [ansR_len]
  exact fetT_len _ _ _ _ _ _
theorem fetA_any (t d f u : Int) (zs : List Q4) (y : Q4) (hl : zs.length ≤ 64) : anyS (fetA t d f u zs y zs.length) = ⟨fetV t d f u zs y, 0⟩ := by
  have h := fetA_len t d f u zs y zs.length
  have e : (anyS (fetA t d f u zs y zs.length)).v = fetV t d f u zs y := rfl
  have q := anyS_of (l := fetA t d f u zs y zs.length) (by omega) (ansR_in (fetT t d f u zs zs.length) y)
  rw [← e, q]
theorem viT_get (nx cell : Int) (rs : List (List Q4)) {n c : Nat} (h : c < n) : (viT nx cell rs n)[c]?.getD 0 = visV rs (cellQ nx cell c) := by
  unfold viT
  simp [h]
end Go.Proofs.Ythegcbpmammokaa

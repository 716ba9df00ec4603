/-
  TopCircle's mathematics: moorings of links (isobathtop.moored), that they stand; sums of offsets; distances along one line.
-/
import Derived.Test.YtdohfpnnmppdkaaMoG
namespace Go.Proofs.Ytdohfpnnmppdkaa.Moo
set_option linter.unusedSimpArgs false
/-- a link by its numbers -/
structure Lk where
  len : Int
  lift : Int
  drag : Int
  str : Int
  slow : Int
  more : Int
instance : Inhabited Lk := ⟨⟨0, 0, 0, 0, 0, 0⟩⟩
def lk (l : List Lk) (k : Nat) : Lk := l[k]?.getD default
structure OkL (x : Lk) : Prop where
  len : 0 ≤ x.len ∧ x.len ≤ 65535
  lift : -32768 ≤ x.lift ∧ x.lift ≤ 32767
  drag : 0 ≤ x.drag ∧ x.drag ≤ 255
  str : 0 ≤ x.str ∧ x.str ≤ 65535
  slow : 0 ≤ x.slow ∧ x.slow ≤ 255
  more : 0 ≤ x.more ∧ x.more ≤ 255
def liR (y : Lk) : Int := y.lift.tdiv 64
theorem liR_bd {y : Lk} (h : OkL y) : -512 ≤ liR y ∧ liR y ≤ 512 := by
  have h := h.lift
  unfold liR
  rcases Int.lt_or_le y.lift 0 with hn | hn
  · have e : y.lift.tdiv 64 = -((-y.lift) / 64) := by
      rw [show y.lift = -(-y.lift) by omega, Int.neg_tdiv, Int.tdiv_eq_ediv_of_nonneg (by omega)]
      simp
    rw [e]
    omega
  · rw [Int.tdiv_eq_ediv_of_nonneg hn]
    omega
def elmR (y : Lk) : El := ⟨y.len % 2000, liR y, y.drag, 1 + y.str⟩
def curR (y : Lk) : Pr := ⟨2 * y.slow, 2 * y.slow + 2 * y.more⟩
def rawE (l : List Lk) : Nat → List El
  | 0 => []
  | i + 1 => rawE l i ++ [elmR (lk l i)]
def rawC (l : List Lk) : Nat → List Pr
  | 0 => []
  | i + 1 => rawC l i ++ [curR (lk l i)]
def needF (l : List Lk) : Nat → Int
  | 0 => 1
  | i + 1 => needF l i + max 0 (-(liR (lk l i)))
theorem rawE_len (l : List Lk) (i : Nat) : (rawE l i).length = i := by
  induction i with
  | zero => rfl
  | succ i ih => simp [rawE, ih]
theorem rawC_len (l : List Lk) (i : Nat) : (rawC l i).length = i := by
  induction i with
  | zero => rfl
  | succ i ih => simp [rawC, ih]
theorem rawE_el (l : List Lk) {i k : Nat} (hk : k < i) : el (rawE l i) k = elmR (lk l k) := by
  induction i with
  | zero => omega
  | succ i ih =>
    unfold el
    show (rawE l i ++ [_])[k]?.getD default = _
    by_cases h : k < i
    · rw [List.getElem?_append_left (by rw [rawE_len]; omega)]
      exact ih h
    · obtain rfl : k = i := by omega
      rw [List.getElem?_append_right (by rw [rawE_len]; omega), rawE_len]
      simp
theorem rawC_pr (l : List Lk) {i k : Nat} (hk : k < i) : pr (rawC l i) k = curR (lk l k) := by
  induction i with
  | zero => omega
  | succ i ih =>
    unfold pr
    show (rawC l i ++ [_])[k]?.getD default = _
    by_cases h : k < i
    · rw [List.getElem?_append_left (by rw [rawC_len]; omega)]
      exact ih h
    · obtain rfl : k = i := by omega
      rw [List.getElem?_append_right (by rw [rawC_len]; omega), rawC_len]
      simp
/-- the first element carries what is needed besides -/
def finE (l : List Lk) (n : Nat) : List El := (rawE l n).modify 0 fun x => ⟨x.len, x.lift + needF l n, x.drag, x.str⟩
theorem finE_len (l : List Lk) (n : Nat) : (finE l n).length = n := by unfold finE; rw [List.length_modify, rawE_len]
theorem finE_zero (l : List Lk) {n : Nat} (h : 0 < n) : el (finE l n) 0 = ⟨(elmR (lk l 0)).len, (elmR (lk l 0)).lift + needF l n, (elmR (lk l 0)).drag, (elmR (lk l 0)).str⟩ := by
  have q := rawE_el l h
  have hl := rawE_len l n
  unfold el at q ⊢
  unfold finE
  rw [List.getElem?_modify, List.getElem?_eq_getElem (show 0 < (rawE l n).length by omega)] at *
  simp only [Option.getD_some] at q
  simp [q]
theorem finE_succ (l : List Lk) {n k : Nat} (h : k + 1 < n) : el (finE l n) (k + 1) = elmR (lk l (k + 1)) := by
  have q := rawE_el l h
  unfold el at q ⊢
  unfold finE
  rw [List.getElem?_modify]
  simpa using q
theorem needF_bd {l : List Lk} {i : Nat} (h : ∀ k, k < i → OkL (lk l k)) : 1 ≤ needF l i ∧ needF l i ≤ 1 + 512 * (i : Int) := by
  induction i with
  | zero => exact ⟨Int.le_refl _, by simp [needF]⟩
  | succ i ih =>
    have q := ih fun k hk => h k (by omega)
    have b := liR_bd (h i (by omega))
    show 1 ≤ needF l i + max 0 (-(liR (lk l i))) ∧ needF l i + max 0 (-(liR (lk l i))) ≤ _
    omega
theorem needF_mono (l : List Lk) {i n : Nat} (h : i ≤ n) : needF l i ≤ needF l n := by
  induction n with
  | zero => obtain rfl : i = 0 := by omega
            exact Int.le_refl _
  | succ n ih =>
    by_cases e : i = n + 1
    · subst e; exact Int.le_refl _
    · have q := ih (by omega)
      show _ ≤ needF l n + max 0 (-(liR (lk l n)))
      omega
/-- what the elements above carry -/
theorem finE_lift (l : List Lk) {n : Nat} : ∀ k, k < n → lifTo (finE l n) (k + 1) + needF l (k + 1) ≥ 1 + needF l n := by
  intro k
  induction k with
  | zero =>
    intro h
    show lifTo (finE l n) 0 + (el (finE l n) 0).lift + (needF l 0 + max 0 (-(liR (lk l 0)))) ≥ _
    rw [finE_zero l h]
    show 0 + (liR (lk l 0) + needF l n) + (1 + max 0 (-(liR (lk l 0)))) ≥ _
    omega
  | succ k ih =>
    intro h
    have q := ih (by omega)
    show lifTo (finE l n) (k + 1) + (el (finE l n) (k + 1)).lift + (needF l (k + 1) + max 0 (-(liR (lk l (k + 1))))) ≥ _
    rw [finE_succ l h]
    show lifTo (finE l n) (k + 1) + liR (lk l (k + 1)) + (needF l (k + 1) + max 0 (-(liR (lk l (k + 1))))) ≥ _
    omega
/-- such a mooring is valid and stands -/
theorem moored_ok {l : List Lk} {n : Nat} {d : Int} (hd : 0 ≤ d ∧ d ≤ 65535) (h0 : 0 < n) (h8 : n ≤ 8) (h : ∀ k, k < n → OkL (lk l k)) : staE (1 + d) (finE l n) 20000 500 (rawC l n) = 0 := by
  have hl := finE_len l n
  have hc := rawC_len l n
  have hv : ∀ k, k < (finE l n).length → vE (el (finE l n) k) = true := fun k hk => by
    rw [hl] at hk
    rw [vE_iff]
    have o := h k hk
    have b := liR_bd o
    have o1 := o.len
    have o2 := o.drag
    have o3 := o.str
    have nb := needF_bd h
    cases k with
    | zero =>
      rw [finE_zero l h0]
      show (0 ≤ (lk l 0).len % 2000 ∧ (lk l 0).len % 2000 ≤ _) ∧ (_ ≤ liR (lk l 0) + needF l n ∧ liR (lk l 0) + needF l n ≤ _) ∧ (0 ≤ (lk l 0).drag ∧ (lk l 0).drag ≤ _) ∧ (1 ≤ 1 + (lk l 0).str ∧ 1 + (lk l 0).str ≤ _)
      omega
    | succ k =>
      rw [finE_succ l hk]
      show (0 ≤ (lk l (k + 1)).len % 2000 ∧ (lk l (k + 1)).len % 2000 ≤ _) ∧ (_ ≤ liR (lk l (k + 1)) ∧ liR (lk l (k + 1)) ≤ _) ∧ (0 ≤ (lk l (k + 1)).drag ∧ (lk l (k + 1)).drag ≤ _) ∧ (1 ≤ 1 + (lk l (k + 1)).str ∧ 1 + (lk l (k + 1)).str ≤ _)
      omega
  have hm : mooE (1 + d) (finE l n) 20000 500 = 0 := by
    unfold mooE
    rw [if_neg (by omega), if_neg (by omega), if_pos (by unfold mooOk; simp only [Bool.and_eq_true, btw_iff]; omega), if_pos (all_ok hv)]
  have hcur : curE (1 + d) (finE l n) 20000 500 (rawC l n) = 0 := by
    unfold curE
    rw [if_pos hm, if_pos (by omega), if_pos]
    refine List.all_eq_true.2 fun z hz => ?_
    obtain ⟨k, hk, rfl⟩ := List.getElem_of_mem hz
    have e : (rawC l n)[k] = curR (lk l k) := by
      have q := rawC_pr l (i := n) (k := k) (by omega)
      unfold pr at q
      rwa [List.getElem?_eq_getElem hk, Option.getD_some] at q
    rw [e, okC_iff]
    have o := h k (by omega)
    have o1 := o.slow
    have o2 := o.more
    show 0 ≤ 2 * (lk l k).slow ∧ 2 * (lk l k).slow ≤ 2 * (lk l k).slow + 2 * (lk l k).more ∧ 2 * (lk l k).slow + 2 * (lk l k).more ≤ 3000
    omega
  unfold staE
  rw [if_pos hcur, if_pos ((standB_iff (by omega)).2 fun k hk => ?_)]
  have q := finE_lift l (n := n) k (by omega)
  have m := needF_mono l (show k + 1 ≤ n by omega)
  omega
/-- the distance of a box on the line from the anchor -/
theorem dist_line {lo hi : Int} (h0 : 0 ≤ lo) (h1 : lo ≤ hi) (h2 : hi ≤ 268435456) : distS 0 0 0 0 lo hi 0 0 = ⟨lo, hi, 0⟩ := by
  have hx : vX 0 0 0 0 = true := by decide
  have hy : vX lo hi 0 0 = true := by
    rw [vX_iff]
    unfold gX
    rw [vB_iff, vB_iff]
    omega
  unfold distS
  rw [if_pos ⟨hx, hy⟩]
  have e1 : sqLo 0 0 0 0 lo hi 0 0 = lo * lo := by
    have a : gLo 0 0 lo hi = lo := by unfold gLo; omega
    have b : gLo 0 0 0 0 = 0 := by decide
    unfold sqLo
    rw [a, b]
    omega
  have e2 : sqHi 0 0 0 0 lo hi 0 0 = hi * hi := by
    have a : gHi 0 0 lo hi = hi := by unfold gHi; omega
    have b : gHi 0 0 0 0 = 0 := by decide
    unfold sqHi
    rw [a, b]
    omega
  have r : ∀ x : Int, 0 ≤ x → isq (x * x) = x := fun x hx => isq_eq ⟨hx, Int.le_refl _, by
    rw [Int.add_mul, Int.mul_add]
    omega⟩
  rw [e1, e2, r lo h0]
  unfold isqUp
  rw [r hi (by omega), if_neg (by omega)]
/-- the sums of the first offsets: spans, none higher than the last -/
theorem tot_up {cs : List Pr} (h : ∀ k, k < cs.length → 0 ≤ (pr cs k).lo ∧ (pr cs k).lo ≤ (pr cs k).hi) : ∀ k, k ≤ cs.length → 0 ≤ totLo cs k ∧ totLo cs k ≤ totHi cs k ∧ ∀ j, j ≤ k → totHi cs j ≤ totHi cs k := by
  intro k
  induction k with
  | zero =>
    intro _
    refine ⟨Int.le_refl _, Int.le_refl _, fun j hj => ?_⟩
    obtain rfl : j = 0 := by omega
    exact Int.le_refl _
  | succ k ih =>
    intro hk
    obtain ⟨a, b, c⟩ := ih (by omega)
    have q := h k (by omega)
    refine ⟨?_, ?_, fun j hj => ?_⟩
    · show 0 ≤ totLo cs k + (pr cs k).lo; omega
    · show totLo cs k + (pr cs k).lo ≤ totHi cs k + (pr cs k).hi; omega
    · show totHi cs j ≤ totHi cs k + (pr cs k).hi
      by_cases e : j = k + 1
      · subst e; exact Int.le_refl _
      · have := c j (by omega); omega
end Go.Proofs.Ytdohfpnnmppdkaa.Moo

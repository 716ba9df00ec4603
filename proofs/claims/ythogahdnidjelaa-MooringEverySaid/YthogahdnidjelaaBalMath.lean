/-
  With free directions, and without a current: what pulls, tensions, offsets and rises are.
-/
import Derived.Test.YthogahdnidjelaaShapeMath
namespace Go.Proofs.Ythogahdnidjelaa
open Go.RowKit Go.Shelf
set_option linter.unusedSimpArgs false
theorem isqUp_least {x t : Int} (h0 : 0 ≤ x) (ht : 0 ≤ t) (h : x ≤ t * t) : isqUp x ≤ t := by
  obtain ⟨a, b, c⟩ := isq_spec h0
  unfold isqUp
  split
  · rename_i hl
    rcases Int.lt_or_le (isq x) t with g | g
    · omega
    · have := sq_mono ht g; omega
  · rename_i hl
    exact sq_le_of ht (by omega)
theorem isqUp_step {p q v : Int} (hp : 0 ≤ p) (h : p ≤ q) : isqUp (q * q + v * v) ≤ isqUp (p * p + v * v) + (q - p) := by
  have hv : 0 ≤ v * v := by rcases Int.le_total 0 v with g | g; · exact Int.mul_nonneg g g
                            · have := Int.mul_nonneg_of_nonpos_of_nonpos g g; omega
  have hpp := Int.mul_nonneg hp hp
  obtain ⟨g1, g2⟩ := isqUp_ge (x := p * p + v * v) (by omega)
  have g0 := (isq_spec (x := p * p + v * v) (by omega)).1
  have hs : p ≤ isqUp (p * p + v * v) := le_isqUp hp (by omega)
  have hqq := Int.mul_nonneg (show 0 ≤ q by omega) (show 0 ≤ q by omega)
  refine isqUp_least (by omega) (by omega) ?_
  generalize isqUp (p * p + v * v) = s at *
  obtain ⟨d, rfl⟩ : ∃ d, q = p + d := ⟨q - p, by omega⟩
  have hd : 0 ≤ d := by omega
  have e : s + (p + d - p) = s + d := by omega
  rw [e]
  have m := Int.mul_le_mul_of_nonneg_left hs hd
  have x1 : (s + d) * (s + d) = s * s + d * s + d * s + d * d := by rw [Int.mul_add, Int.add_mul, Int.add_mul, Int.mul_comm s d]; omega
  have x2 : (p + d) * (p + d) = p * p + d * p + d * p + d * d := by rw [Int.mul_add, Int.add_mul, Int.add_mul, Int.mul_comm p d]; omega
  omega
theorem off_lo_mono {L p q v : Int} (hL : 0 ≤ L) (hp : 0 ≤ p) (h : p ≤ q) (hv : 1 ≤ v) : L * p / isqUp (p * p + v * v) ≤ L * q / isqUp (q * q + v * v) := by
  have hst := isqUp_step (v := v) hp h
  have hvv : 1 ≤ v * v := by have := Int.mul_le_mul hv hv (by decide) (by omega); simpa using this
  have hpp := Int.mul_nonneg hp hp
  have hqq := Int.mul_nonneg (show 0 ≤ q by omega) (show 0 ≤ q by omega)
  have s1 : 1 ≤ isqUp (p * p + v * v) := Int.le_trans (isq_pos (by omega)) (isqUp_ge (by omega)).1
  have t1 : 1 ≤ isqUp (q * q + v * v) := Int.le_trans (isq_pos (by omega)) (isqUp_ge (by omega)).1
  have hs : p ≤ isqUp (p * p + v * v) := le_isqUp hp (by omega)
  generalize isqUp (p * p + v * v) = s at *
  generalize isqUp (q * q + v * v) = t at *
  generalize hk : L * p / s = k
  have k0 : 0 ≤ k := by rw [← hk]; exact Int.ediv_nonneg (Int.mul_nonneg hL hp) (by omega)
  have kb : k * s ≤ L * p := by rw [← hk]; exact Int.ediv_mul_le _ (by omega)
  have kL : k ≤ L := by
    have := (div_le_len (X := L) (v := p) (m := s) hL hp hs s1).2
    omega
  refine Int.le_ediv_of_mul_le (by omega) ?_
  obtain ⟨d, rfl⟩ : ∃ d, q = p + d := ⟨q - p, by omega⟩
  have m1 : k * t ≤ k * (s + d) := Int.mul_le_mul_of_nonneg_left (by omega) k0
  have m2 : k * d ≤ L * d := Int.mul_le_mul_of_nonneg_right kL (by omega)
  rw [Int.mul_add] at m1
  rw [Int.mul_add]
  omega
theorem up_mono {n s t : Int} (hn : 0 ≤ n) (hs : 1 ≤ s) (h : s ≤ t) : (n + t - 1) / t ≤ (n + s - 1) / s := by
  generalize hk : (n + s - 1) / s = k
  have a : n ≤ k * s := by
    have := Int.lt_ediv_add_one_mul_self (n + s - 1) (show 0 < s by omega)
    rw [hk, Int.add_mul] at this
    omega
  have k0 : 0 ≤ k := by rw [← hk]; exact Int.ediv_nonneg (by omega) (by omega)
  have b : k * s ≤ k * t := Int.mul_le_mul_of_nonneg_left h k0
  have c : (n + t - 1) / t < k + 1 := Int.ediv_lt_of_lt_mul (by omega) (by rw [Int.add_mul]; omega)
  omega
theorem free_le {zs : List El} {cs : List Pr} (h : Rig zs cs) {k : Nat} (hk : k ≤ zs.length) : 0 ≤ hLo true zs cs k ∧ hLo true zs cs k ≤ hLo false zs cs k ∧ hLo false zs cs k ≤ sHi zs cs k := by
  have p := pull_bd h true hk
  have q := pull_bd h false hk
  have e : hLo false zs cs k = sLo zs cs k := rfl
  omega
theorem free_off {zs : List El} {cs : List Pr} (h : Rig zs cs) (hst : ∀ k, k < zs.length → 1 ≤ lifTo zs (k + 1)) {k : Nat} (hk : k < zs.length) :
    (offG true zs cs (k + 1)).lo ≤ (offG false zs cs (k + 1)).lo ∧ (offG false zs cs (k + 1)).lo ≤ (offG false zs cs (k + 1)).hi ∧ (offG false zs cs (k + 1)).hi = (offG true zs cs (k + 1)).hi := by
  have hx := ((vE_iff _).1 (h.els k hk)).1
  have f := free_le h (k := k + 1) (by omega)
  have v1 := hst k hk
  refine ⟨?_, ?_, rfl⟩
  · simp only [offG, leG]
    exact off_lo_mono hx.1 f.1 f.2.1 v1
  · obtain ⟨a, b, c, d⟩ := le_pos h hst false hk
    have p := pull_bd h false (k := k + 1) (by omega)
    have s1 := isq_pos (show 1 ≤ moG zs cs (k + 1) by omega)
    have s0 : 1 ≤ isqUp (leG false zs cs (k + 1)) := Int.le_trans (isq_pos c) (isqUp_ge (by omega)).1
    have s3 : hLo false zs cs (k + 1) ≤ isqUp (leG false zs cs (k + 1)) := le_isqUp p.1 d
    have t2 := (div_le_len hx.1 p.1 s3 s0).2
    have m1 := off_lo_mono (v := lifTo zs (k + 1)) hx.1 f.1 (Int.le_trans f.2.1 f.2.2) v1
    have m2 := off_lo_mono (v := lifTo zs (k + 1)) hx.1 p.1 f.2.2 v1
    have m3 := div_le_up (n := (el zs k).len * sHi zs cs (k + 1)) (s := isq (moG zs cs (k + 1))) (m := isqUp (moG zs cs (k + 1))) (Int.mul_nonneg hx.1 (by omega)) s1 (isqUp_ge (by omega)).1
    unfold moG at m3
    simp only [offG]
    unfold leG moG
    unfold leG at t2
    omega
theorem free_ris {zs : List El} {cs : List Pr} (h : Rig zs cs) (hst : ∀ k, k < zs.length → 1 ≤ lifTo zs (k + 1)) {k : Nat} (hk : k < zs.length) :
    (risG true zs cs (k + 1)).lo = (risG false zs cs (k + 1)).lo ∧ (risG false zs cs (k + 1)).hi ≤ (risG true zs cs (k + 1)).hi := by
  have hx := ((vE_iff _).1 (h.els k hk)).1
  have f := free_le h (k := k + 1) (by omega)
  have v1 := hst k hk
  obtain ⟨a, b, c, d⟩ := le_pos h hst true hk
  refine ⟨rfl, ?_⟩
  have m : leG true zs cs (k + 1) ≤ leG false zs cs (k + 1) := by unfold leG; have := sq_mono f.1 f.2.1; omega
  have := up_mono (n := (el zs k).len * lifTo zs (k + 1)) (Int.mul_nonneg hx.1 (by omega)) (isq_pos c) (isq_mono (by omega) m)
  simp only [risG]
  omega
theorem free_first {zs : List El} {cs : List Pr} (h : Rig zs cs) (hn : 0 < zs.length) : hLo true zs cs 1 = hLo false zs cs 1 := by
  have f := force_bd (h.els 0 hn) (h.cur 0 hn)
  simp only [hLo, sLo, sHi, wid, if_true, if_false, Bool.false_eq_true]
  omega
theorem totHi_congr {cs ds : List Pr} (h : ∀ k, (pr cs k).hi = (pr ds k).hi) : ∀ n, totHi cs n = totHi ds n
  | 0 => rfl
  | n + 1 => by simp only [totHi]; rw [totHi_congr h n, h n]
theorem free_circle {zs : List El} {cs : List Pr} (h : Rig zs cs) (hst : ∀ k, k < zs.length → 1 ≤ lifTo zs (k + 1)) : totHi (offsets false zs cs) zs.length = totHi (offsets true zs cs) zs.length := by
  refine totHi_congr (fun k => ?_) _
  unfold offsets
  rcases Nat.lt_or_ge k zs.length with g | g
  · rw [rowL_get _ _ _ g, rowL_get _ _ _ g]
    exact (free_off h hst g).2.2
  · have e : ∀ (G : Nat → Pr), pr (rowL G zs.length) k = default := fun G => by unfold pr; rw [List.getElem?_eq_none (by rw [rowL_len]; exact g)]; rfl
    rw [e, e]
/-- no current -/
def stillL (n : Nat) : List Pr := List.replicate n ⟨0, 0⟩
theorem still_len (n : Nat) : (stillL n).length = n := List.length_replicate
theorem still_get (n k : Nat) : pr (stillL n) k = ⟨0, 0⟩ ∨ n ≤ k := by
  rcases Nat.lt_or_ge k n with g | g
  · left; unfold pr stillL; rw [List.getElem?_replicate, if_pos g]; rfl
  · right; exact g
theorem still_sums (zs : List El) (n : Nat) : ∀ k, k ≤ n → sLo zs (stillL n) k = 0 ∧ sHi zs (stillL n) k = 0 ∧ wid zs (stillL n) k = 0
  | 0, _ => ⟨rfl, rfl, rfl⟩
  | k + 1, hk => by
    obtain ⟨a, b, c⟩ := still_sums zs n k (by omega)
    rcases still_get n k with e | e
    · simp only [sLo, sHi, wid, a, b, c, e, fLo, fHi]
      simp
    · omega
theorem still_rig {zs : List El} {cs : List Pr} (h : Rig zs cs) : Rig zs (stillL cs.length) := by
  have hl := h.same
  refine { h with same := by rw [still_len]; exact hl, cur := fun k hk => ?_ }
  rcases still_get cs.length k with e | e
  · rw [e]; decide
  · omega
theorem isq_self {v : Int} (h : 0 ≤ v) : isq (0 * 0 + v * v) = v ∧ isqUp (0 * 0 + v * v) = v := by
  have e : (0 : Int) * 0 + v * v = v * v := by omega
  rw [e]
  have e1 : isq (v * v) = v := isq_eq ⟨h, Int.le_refl _, by rw [Int.add_mul, Int.mul_add]; omega⟩
  refine ⟨e1, ?_⟩
  unfold isqUp
  rw [e1, if_neg (by omega)]
theorem still_lo (free : Bool) (zs : List El) (n k : Nat) (hk : k ≤ n) : hLo free zs (stillL n) k = 0 := by
  obtain ⟨a, b, c⟩ := still_sums zs n k hk
  unfold hLo
  rw [a, b, c]
  split <;> rfl
theorem still_ten (free : Bool) {zs : List El} {n k : Nat} (hk : k ≤ n) (hv : 0 ≤ lifTo zs k) : tenG free zs (stillL n) k = ⟨lifTo zs k, lifTo zs k⟩ := by
  obtain ⟨a, b, c⟩ := still_sums zs n k hk
  unfold tenG
  rw [still_lo free zs n k hk, b, (isq_self hv).1, (isq_self hv).2]
theorem still_off (free : Bool) {zs : List El} {n k : Nat} (hk : k + 1 ≤ n) (hv : 1 ≤ lifTo zs (k + 1)) (hx : 0 ≤ (el zs k).len) : offG free zs (stillL n) (k + 1) = ⟨0, 0⟩ := by
  obtain ⟨a, b, c⟩ := still_sums zs n (k + 1) hk
  simp only [offG, leG, moG]
  rw [still_lo free zs n (k + 1) hk, b, (isq_self (by omega)).1, (isq_self (by omega)).2]
  have e : ((el zs k).len * 0 + lifTo zs (k + 1) - 1) / lifTo zs (k + 1) = 0 := Int.ediv_eq_zero_of_lt (by omega) (by omega)
  rw [e]
  simp only [Int.mul_zero, Int.zero_ediv, Pr.mk.injEq, true_and]
  omega
theorem still_ris (free : Bool) {zs : List El} {n k : Nat} (hk : k + 1 ≤ n) (hv : 1 ≤ lifTo zs (k + 1)) : risG free zs (stillL n) (k + 1) = ⟨(el zs k).len, (el zs k).len⟩ := by
  obtain ⟨a, b, c⟩ := still_sums zs n (k + 1) hk
  simp only [risG, leG, moG]
  rw [still_lo free zs n (k + 1) hk, b, (isq_self (by omega)).1, (isq_self (by omega)).2]
  have e1 : (el zs k).len * lifTo zs (k + 1) / lifTo zs (k + 1) = (el zs k).len := Int.mul_ediv_cancel _ (by omega)
  have e2 : ((el zs k).len * lifTo zs (k + 1) + lifTo zs (k + 1) - 1) / lifTo zs (k + 1) = (el zs k).len := by
    have h : (el zs k).len * lifTo zs (k + 1) + lifTo zs (k + 1) - 1 = (lifTo zs (k + 1) - 1) + (el zs k).len * lifTo zs (k + 1) := by omega
    rw [h, Int.add_mul_ediv_right _ _ (by omega), Int.ediv_eq_zero_of_lt (by omega) (by omega)]
    omega
  rw [e1, e2]
  simp
theorem ten_ge {zs : List El} {cs : List Pr} (h : Rig zs cs) (free : Bool) {k : Nat} (hk : k ≤ zs.length) (hv : 0 ≤ lifTo zs k) : lifTo zs k ≤ (tenG free zs cs k).lo := by
  have p := pull_bd h free hk
  have e : isq (lifTo zs k * lifTo zs k) = lifTo zs k := by have := (isq_self hv).1; rwa [show (0 : Int) * 0 + lifTo zs k * lifTo zs k = lifTo zs k * lifTo zs k by omega] at this
  have a := Int.mul_nonneg p.1 p.1
  have b := Int.mul_nonneg hv hv
  have := isq_mono b (show lifTo zs k * lifTo zs k ≤ hLo free zs cs k * hLo free zs cs k + lifTo zs k * lifTo zs k by omega)
  rw [e] at this
  exact this
theorem tot_all {zs : List El} {cs : List Pr} (h : ∀ k, k < zs.length → pr cs k = ⟨(el zs k).len, (el zs k).len⟩) : ∀ k, k ≤ zs.length → totLo cs k = lenTo zs k ∧ totHi cs k = lenTo zs k
  | 0, _ => ⟨rfl, rfl⟩
  | k + 1, hk => by
    obtain ⟨a, b⟩ := tot_all h k (by omega)
    simp only [totLo, totHi, lenTo, a, b, h k (by omega), and_self]
theorem tot_most {zs : List El} {cs : List Pr} (h : ∀ k, k < zs.length → (pr cs k).hi ≤ (el zs k).len) : ∀ k, k ≤ zs.length → totHi cs k ≤ lenTo zs k
  | 0, _ => Int.le_refl _
  | k + 1, hk => by
    have a := tot_most h k (by omega)
    have b := h k (by omega)
    simp only [totHi, lenTo]
    omega
/-- where nothing flows the top is as high as the mooring is long -/
theorem still_tot {zs : List El} {cs : List Pr} (h : Rig zs cs) (hst : ∀ k, k < zs.length → 1 ≤ lifTo zs (k + 1)) (free : Bool) :
    totLo (rises free zs (stillL cs.length)) zs.length = lenTo zs zs.length ∧ totHi (rises free zs (stillL cs.length)) zs.length = lenTo zs zs.length := by
  have hs := h.same
  refine tot_all (fun k hk => ?_) _ (Nat.le_refl _)
  unfold rises
  rw [rowL_get _ _ _ hk]
  exact still_ris free (by omega) (hst k hk)
theorem ris_most {zs : List El} {cs : List Pr} (h : Rig zs cs) (hst : ∀ k, k < zs.length → 1 ≤ lifTo zs (k + 1)) (free : Bool) :
    totHi (rises free zs cs) zs.length ≤ lenTo zs zs.length := by
  refine tot_most (fun k hk => ?_) _ (Nat.le_refl _)
  unfold rises
  rw [rowL_get _ _ _ hk]
  exact (ris_bd h hst free hk).2.2.1
theorem still_sta {d : Int} {zs : List El} {an fr : Int} {cs : List Pr} (h : staE d zs an fr cs = 0) : staE d zs an fr (stillL cs.length) = 0 := by
  obtain ⟨hr, hs, hm, hc⟩ := staE_ok h
  have h1 : (stillL cs.length).all okC = true := call_ok (fun k hk => by
    rw [still_len] at hk
    rcases still_get cs.length k with e | e
    · rw [e]; decide
    · omega)
  have e : curE d zs an fr (stillL cs.length) = 0 := by
    unfold curE
    rw [if_pos hm, if_pos (show (stillL cs.length).length = zs.length by rw [still_len]; exact hr.same), if_pos h1]
  unfold staE
  rw [if_pos e, if_pos hs]
end Go.Proofs.Ythogahdnidjelaa

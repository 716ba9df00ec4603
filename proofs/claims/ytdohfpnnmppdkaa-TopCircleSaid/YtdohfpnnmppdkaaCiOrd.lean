/-
  TopCircle's mathematics: an offset's ends are in their order.
-/
import Derived.Test.YtdohfpnnmppdkaaCiMath
namespace Go.Proofs.Ytdohfpnnmppdkaa.Moo
set_option linter.unusedSimpArgs false
theorem cross_le {H S v U I : Int} (h1 : 0 ≤ H) (h2 : H ≤ S) (hU : 0 ≤ U) (hUU : H * H + v * v ≤ U * U) (hII : I * I ≤ S * S + v * v) : H * I ≤ S * U := by
  have hS : 0 ≤ S := by omega
  refine sq_le_of (Int.mul_nonneg hS hU) ?_
  have a1 : H * I * (H * I) = H * H * (I * I) := by
    rw [Int.mul_assoc, Int.mul_left_comm I H I, ← Int.mul_assoc]
  have a2 : S * U * (S * U) = S * S * (U * U) := by
    rw [Int.mul_assoc, Int.mul_left_comm U S U, ← Int.mul_assoc]
  have hHH : 0 ≤ H * H := Int.mul_nonneg h1 h1
  have hSS : 0 ≤ S * S := Int.mul_nonneg hS hS
  have hvv : 0 ≤ v * v := by
    rcases Int.lt_or_le v 0 with h | h
    · have := Int.mul_nonneg_of_nonpos_of_nonpos (Int.le_of_lt h) (Int.le_of_lt h); exact this
    · exact Int.mul_nonneg h h
  have b1 : H * H * (I * I) ≤ H * H * (S * S + v * v) := Int.mul_le_mul_of_nonneg_left hII hHH
  have b2 : H * H * (v * v) ≤ S * S * (v * v) := Int.mul_le_mul_of_nonneg_right (sq_mono h1 h2) hvv
  have b3 : S * S * (H * H + v * v) ≤ S * S * (U * U) := Int.mul_le_mul_of_nonneg_left hUU hSS
  have e1 : H * H * (S * S + v * v) = H * H * (S * S) + H * H * (v * v) := Int.mul_add _ _ _
  have e2 : S * S * (H * H + v * v) = S * S * (H * H) + S * S * (v * v) := Int.mul_add _ _ _
  have e3 : H * H * (S * S) = S * S * (H * H) := Int.mul_comm _ _
  rw [a1, a2]
  generalize H * H * (I * I) = t1 at *
  generalize H * H * (S * S + v * v) = t2 at *
  generalize S * S * (H * H + v * v) = t3 at *
  generalize S * S * (U * U) = t4 at *
  generalize H * H * (S * S) = t5 at *
  generalize S * S * (H * H) = t6 at *
  generalize H * H * (v * v) = t7 at *
  generalize S * S * (v * v) = t8 at *
  omega
theorem quot_ord {X H S U I : Int} (hX : 0 ≤ X) (hU : 1 ≤ U) (hI : 1 ≤ I) (h : H * I ≤ S * U) : X * H / U ≤ (X * S + I - 1) / I := by
  have a : X * H / U * U ≤ X * H := Int.ediv_mul_le _ (by omega)
  refine Int.le_ediv_of_mul_le (by omega) ?_
  have b : X * H / U * I ≤ X * S := by
    refine Int.le_of_mul_le_mul_right (a := U) ?_ (by omega)
    have c1 : X * H / U * I * U = X * H / U * U * I := by rw [Int.mul_right_comm]
    have c2 : X * H / U * U * I ≤ X * H * I := Int.mul_le_mul_of_nonneg_right a (by omega)
    have c3 : X * H * I = X * (H * I) := Int.mul_assoc _ _ _
    have c4 : X * (H * I) ≤ X * (S * U) := Int.mul_le_mul_of_nonneg_left h hX
    have c5 : X * S * U = X * (S * U) := Int.mul_assoc _ _ _
    rw [c1, c5]
    exact Int.le_trans c2 (by rw [c3]; exact c4)
  omega
theorem off_ord {zs : List El} {cs : List Pr} (h : Rig zs cs) (hst : ∀ k, k < zs.length → 1 ≤ lifTo zs (k + 1)) (free : Bool) {k : Nat} (hk : k < zs.length) :
    (offG free zs cs (k + 1)).lo ≤ (offG free zs cs (k + 1)).hi := by
  have o := off_bd h hst free hk
  have hx := ((vE_iff _).1 (h.els k hk)).1
  obtain ⟨a, b, c, d⟩ := le_pos h hst free hk
  have p := pull_bd h free (k := k + 1) (by omega)
  have s1 := isq_pos c
  have m1 := isq_pos (show 1 ≤ moG zs cs (k + 1) by omega)
  have s0 : 1 ≤ isqUp (leG free zs cs (k + 1)) := Int.le_trans s1 (isqUp_ge (by omega)).1
  have u2 := (isqUp_ge (x := leG free zs cs (k + 1)) (by omega)).2
  have i2 := (isq_spec (x := moG zs cs (k + 1)) (by omega)).2.1
  have ho := o.2.1
  simp only [offG] at ho ⊢
  exact Int.le_min.2 ⟨quot_ord hx.1 s0 m1 (cross_le (v := lifTo zs (k + 1)) p.1 p.2.2.1 (by omega) u2 i2), ho⟩
/-- the offsets of a mooring that stands: their ends -/
theorem offV_ord {d : Int} {zs : List El} {an fr : Int} {cs : List Pr} (free : Bool) (hE : staE d zs an fr cs = 0) : (offV d zs an fr cs free).length = zs.length ∧ ∀ k, k < zs.length → 0 ≤ (pr (offV d zs an fr cs free) k).lo ∧ (pr (offV d zs an fr cs free) k).lo ≤ (pr (offV d zs an fr cs free) k).hi ∧ (pr (offV d zs an fr cs free) k).hi ≤ 1048576 := by
  obtain ⟨hr, hs, -, -⟩ := staE_ok hE
  have hst := (standB_iff hr.pos).1 hs
  rw [show offV d zs an fr cs free = rowL (offG free zs cs) zs.length from if_pos hE, rowL_len]
  refine ⟨rfl, fun k hk => ?_⟩
  rw [rowL_get _ _ _ hk]
  have a := off_bd hr hst free hk
  have b := off_ord hr hst free hk
  omega
/-- what the round of TopCircle calls -/
theorem cir_round {O : List Pr} {n k : Nat} (hl : O.length = n) (h8 : n ≤ 8) (h : ∀ k, k < n → 0 ≤ (pr O k).lo ∧ (pr O k).lo ≤ (pr O k).hi ∧ (pr O k).hi ≤ 1048576) (hk : k < n) :
    0 ≤ totLo O (k + 1) ∧ totLo O (k + 1) ≤ totHi O (k + 1) ∧ totHi O (k + 1) ≤ totHi O n ∧ 0 ≤ totLo O k ∧ totLo O k ≤ totHi O k ∧ totHi O n ≤ 8388608 ∧ totLo O (k + 1) = totLo O k + (pr O k).lo ∧ totHi O (k + 1) = totHi O k + (pr O k).hi ∧ distS 0 0 0 0 (totLo O (k + 1)) (totHi O (k + 1)) 0 0 = ⟨totLo O (k + 1), totHi O (k + 1), 0⟩ ∧ (0 ≤ (pr O k).lo ∧ (pr O k).lo ≤ (pr O k).hi) := by
  subst hl
  have u := tot_up (cs := O) (fun k hk => ⟨(h k hk).1, (h k hk).2.1⟩)
  have un := u O.length (Nat.le_refl _)
  have b := tot_bd (cs := O) (m := 1048576) (by decide) (fun k hk => by have := h k hk; omega) O.length (Nat.le_refl _)
  have u1 := u (k + 1) (by omega)
  have u0 := u k (by omega)
  have t := un.2.2 (k + 1) (by omega)
  exact ⟨u1.1, u1.2.1, t, u0.1, u0.2.1, by omega, rfl, rfl, dist_line u1.1 u1.2.1 (by omega), (h k hk).1, (h k hk).2.1⟩
end Go.Proofs.Ytdohfpnnmppdkaa.Moo

/-
  Clock: rounding, and the true offset of a truth.
-/
import Derived.Test.YtcchmjbedppfnaaHoldMath
import Derived.Test.YtcchmjbedppfnaaOrdRow
import Derived.Test.YtcchmjbedppfnaaRkA
namespace Go.Proofs.Ytcchmjbedppfnaa
open Go.RowKit Go.Shelf
set_option linter.unusedSimpArgs false
set_option maxHeartbeats 1000000 in
theorem down_any (n : Int) (h : -9000000000000000000 ≤ n ∧ n ≤ 9000000000000000000) (w : World) : Calls Try.prog 52 #[.int .i64 n] w fun e w' => e = .returned (.int .i64 (dnG n)) ∧ w' = w := by
  obtain ⟨ha, hb⟩ := tdiv_dn n 1000000000 (by decide)
  have hq1 : -9000000001 ≤ n / 1000000000 ∧ n / 1000000000 ≤ 9000000001 := by omega
  unfold dnG
  by_cases hn : n.tmod 1000000000 < 0
  · have he := ha hn
    have hq : n.tdiv 1000000000 = n / 1000000000 + 1 := by omega
    have Hq := Lib.hid hq
    have hq3 : -9000000001 ≤ n.tdiv 1000000000 := by omega
    have hq4 : n.tdiv 1000000000 ≤ 9000000002 := by omega
    clear ha hb he hq
    go_enter Try.func52, Try.ntmps52
    go_wp2
    go_ret
    exact ⟨ret_int (by rw [Hq.out]; omega), rfl⟩
  · have hq := hb hn
    have Hq := Lib.hid hq
    have hn' : 0 ≤ n.tmod 1000000000 := by omega
    have hq3 : -9000000001 ≤ n.tdiv 1000000000 := by omega
    have hq4 : n.tdiv 1000000000 ≤ 9000000002 := by omega
    clear ha hb hq
    go_enter Try.func52, Try.ntmps52
    go_wp2
    go_ret
    exact ⟨ret_int (by rw [Hq.out]), rfl⟩
set_option maxHeartbeats 1000000 in
theorem up53_any (n : Int) (h : -9000000000000000000 ≤ n ∧ n ≤ 9000000000000000000) (w : World) : Calls Try.prog 53 #[.int .i64 n] w fun e w' => e = .returned (.int .i64 (upG n)) ∧ w' = w := by
  have c1 := fun w => down_any (-n) ⟨by omega, by omega⟩ w
  have b1 : -9000000001 ≤ dnG (-n) ∧ dnG (-n) ≤ 9000000001 := by unfold dnG; omega
  have e1 : upG n = -dnG (-n) := rfl
  rw [e1]
  clear e1
  generalize dnG (-n) = y at *
  go_enter Try.func53, Try.ntmps53
  go_wp2_with fail
  refine (c1 _).mono ?_
  rintro e w' ⟨rfl, rfl⟩
  go_wp2_with fail
  go_ret
  exact ⟨rfl, rfl⟩
/-- 8-bit numbers in memory -/
def I8s (n₀ : Nat) (W : World) (sv : Value) (ps : List Int) : Prop :=
  ∃ a cap, sv = .slice a ps.length cap ∧ ∀ k, k < ps.length → (-128 ≤ tt ps k ∧ tt ps k ≤ 127) ∧ ∃ b off, a = some ⟨b, off, none⟩ ∧ b < n₀ ∧ W.cell? ⟨b, off + k, none⟩ = some (.int .i8 (tt ps k))
theorem I8s.mono {n₀ m : Nat} {W W' : World} {sv : Value} {ts : List Int} (h : I8s n₀ W sv ts) (hb : Below n₀ W W') (hm : n₀ ≤ m) : I8s m W' sv ts := by
  obtain ⟨a, cap, e, hc⟩ := h
  refine ⟨a, cap, e, fun k hk => ?_⟩
  obtain ⟨hx, b, off, h1, h2, c0⟩ := hc k hk
  exact ⟨hx, b, off, h1, Nat.lt_of_lt_of_le h2 hm, (hb.cell (p := ⟨b, _, none⟩) h2).trans c0⟩
theorem I8s.at {W W' : World} {sv : Value} {ts : List Int} (h : I8s W.heap.size W sv ts) (hb : Below W.heap.size W W') : I8s W'.heap.size W' sv ts := h.mono hb hb.size
theorem I8s.form {n₀ : Nat} {W : World} {sv : Value} {ts : List Int} (h : I8s n₀ W sv ts) : ∃ a c, sv = .slice a ts.length c := by
  obtain ⟨a, c, rfl, -⟩ := h
  exact ⟨a, c, rfl⟩
theorem I8s.slow {n₀ : Nat} {W : World} {sv : Value} {ts : List Int} (h : I8s n₀ W sv ts) : Slow ts := by
  obtain ⟨a, c, rfl, hc⟩ := h
  intro k
  by_cases hk : k < ts.length
  · have := (hc k hk).1; omega
  · rw [tt_out hk]; decide
set_option maxRecDepth 100000 in
set_option maxHeartbeats 2000000 in
theorem truth_any (st r t : Int) (sv : Value) (sl : List Int) (hst : -2147483648 ≤ st ∧ st ≤ 2147483647) (hr : 0 ≤ r ∧ r ≤ 1000000) (ht : -10000000000 ≤ t ∧ t ≤ 10000000000) (w : World) (hS : I8s w.heap.size w sv sl) :
    Calls Try.prog 51 #[.agg #[.int .i32 st, sv], .int .i64 r, .int .i64 t] w fun e w' => e = .returned (.int .i64 (truO st r sl t)) ∧ Below w.heap.size w w' := by
  have hsl := hS.slow
  obtain ⟨a, cap, rfl, hc⟩ := hS
  have HC := Lib.hid hc
  have HSL := Lib.hid hsl
  have HR := Lib.hid hr
  have HT := Lib.hid (show truO st r sl t = st * 1000000000 + offTo r t sl (min sl.length 20) from rfl)
  have HOF := Lib.hid (fun k => show offTo r t sl (k + 1) = offTo r t sl k + dst t k * slp r (tt sl k) from rfl)
  have HBD := Lib.hid (fun k => offTo_bd (a := t) hr hsl k)
  have HO0 := Lib.hid (show offTo r t sl 0 = 0 from rfl)
  obtain ⟨A, hA⟩ : ∃ A, A = w.alloc (.cells #[.int .i32 st, .slice a sl.length cap] 67) := ⟨_, rfl⟩
  have HBA := Lib.hid (show Below w.heap.size w A by rw [hA]; exact (Below.refl _ _).alloc (Nat.le_refl _) _)
  have k0 : A.cell? ⟨w.heap.size, 0, none⟩ = some (.int .i32 st) := by rw [hA]; simp [go_sem]
  have k1 : A.cell? ⟨w.heap.size, 1, none⟩ = some (.slice a sl.length cap) := by rw [hA]; simp [go_sem]
  clear hc hsl
  generalize truO st r sl t = T at *
  generalize sl.length = len at *
  have v1 : wrap64 st = st := wrap64_id (by omega) (by omega)
  have v2 : wrap64 (st * 1000000000) = st * 1000000000 := wrap64_id (by omega) (by omega)
  go_enter Try.func51, Try.ntmps51
  go_upto_region 1 with fail
  try rw [← hA]
  clear hA
  go_wp2_with fail
  go_loopw [7, 8] (fun v7 iv wr => ∃ k : Nat, k ≤ len ∧ k ≤ 20 ∧ iv = .int .i64 k ∧ v7 = .int .i64 (st * 1000000000 + offTo r t sl k) ∧ wr = A) (fun _ iv _ => 20 - (intOf iv).toNat)
  case atStart => exact ⟨0, Nat.zero_le _, Nat.zero_le _, rfl, by rw [HO0.out, Int.add_zero], rfl⟩
  case round =>
    obtain ⟨k, hk, hk20, rfl, rfl, rfl⟩ := hrel
    by_cases hlt : k < len
    · have hki : (k : Int) < (len : Int) := by omega
      have d1 : decide ((k : Int) < (len : Int)) = true := decide_eq_true hki
      by_cases h20 : k < 20
      · have hk2 : (k : Int) < 20 := by omega
        obtain ⟨hs, b, off, hab, hb, e0⟩ := HC.out k hlt
        subst hab
        have m0 := (HBA.out.cell (p := ⟨b, off + k, none⟩) hb).trans e0
        have HOk := Lib.hid (HOF.out k)
        obtain ⟨q1, q2⟩ := HBD.out k
        have q3 := mul_in (slp_bd HR.out.1 (HSL.out k)) (dst_nn t k)
        have q4 : r * dst t k ≤ 1000000 * dst t k := Int.mul_le_mul_of_nonneg_right HR.out.2 (dst_nn t k)
        have q5 := dst_le t k
        have q6 := slp_bd HR.out.1 (HSL.out k)
        have q7 := HR.out
        have q8 : r * tt sl k ≤ r * 128 := Int.mul_le_mul_of_nonneg_left (HSL.out k).2 HR.out.1
        have q9 : r * (-128) ≤ r * tt sl k := Int.mul_le_mul_of_nonneg_left (HSL.out k).1 HR.out.1
        have d2 : (r * tt sl k).tdiv 128 = slp r (tt sl k) := rfl
        have d3 : min 1000000 (max 0 (t - (k : Int) * 1000000)) = dst t k := rfl
        have w0 : wrap64 ((k : Int) * 1000000) = (k : Int) * 1000000 := wrap64_id (by omega) (by omega)
        have w00 : wrap64 (t - (k : Int) * 1000000) = t - (k : Int) * 1000000 := wrap64_id (by omega) (by omega)
        generalize offTo r t sl k = N at *
        generalize dst t k = D at *
        generalize slp r (tt sl k) = sp at *
        generalize tt sl k = s at *
        have w1 : wrap64 s = s := wrap64_id (by omega) (by omega)
        have w2 : wrap64 (r * s) = r * s := wrap64_id (by omega) (by omega)
        have w3 : wrap64 sp = sp := wrap64_id (by omega) (by omega)
        have w4 : wrap64 (D * sp) = D * sp := wrap64_id (by omega) (by omega)
        have w5 : wrap64 (st * 1000000000 + N + D * sp) = st * 1000000000 + N + D * sp := wrap64_id (by omega) (by omega)
        clear q1 q2 q3 q4 q5 q6 q7 q8 q9 e0
        go_wp2_with fail
        go_roundw
        case rel => exact ⟨k + 1, by omega, by omega, by go_num, by rw [w5, HOk.out, Int.add_assoc], by first | rfl | trivial⟩
        case measure => simp [intOf]; omega
      · have hk2 : ¬ (k : Int) < 20 := by omega
        obtain rfl : k = 20 := by omega
        have e : min len 20 = 20 := by omega
        rw [e] at HT
        clear hk2
        go_wp2_with fail
        go_ret
        exact ⟨ret_int (by rw [HT.out]), HBA.out⟩
    · obtain rfl : k = len := by omega
      have d1 : decide ((k : Int) < (k : Int)) = false := decide_eq_false (by omega)
      have e : min k 20 = k := by omega
      rw [e] at HT
      go_wp2_with fail
      go_ret
      exact ⟨ret_int (by rw [HT.out]), HBA.out⟩
end Go.Proofs.Ytcchmjbedppfnaa

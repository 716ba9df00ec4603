/-
  Clock: the reference's small functions.
-/
import Derived.Test.YtcchmjbedppfnaaCkD
namespace Go.Proofs.Ytcchmjbedppfnaa
open Go.RowKit Go.Shelf
set_option linter.unusedSimpArgs false
theorem risTime_any (t : Int) (w : World) : Calls Try.prog 83 #[.int .i64 t] w fun e w' => e = .returned (.bool (tmB t)) ∧ w' = w := by
  unfold tmB
  by_cases h1 : 0 ≤ t
  · by_cases h2 : t ≤ 1125899906842624
    · rw [decide_eq_true ⟨h1, h2⟩]
      go_enter Try.func83, Try.ntmps83
      go_wp2_with fail
      go_ret
      first | exact ⟨rfl, rfl⟩ | simp [*]
    · rw [decide_eq_false (fun h => h2 h.2)]
      go_enter Try.func83, Try.ntmps83
      go_wp2_with fail
      go_ret
      first | exact ⟨rfl, rfl⟩ | simp [*]
  · rw [decide_eq_false (fun h => h1 h.1)]
    go_enter Try.func83, Try.ntmps83
    go_wp2_with fail
    go_ret
    first | exact ⟨rfl, rfl⟩ | simp [*]
theorem rgrown_any (lo hi g : Int) (h1 : -1000000000000000000 ≤ lo ∧ lo ≤ 1000000000000000000) (h2 : -1000000000000000000 ≤ hi ∧ hi ≤ 1000000000000000000) (h3 : 0 ≤ g ∧ g ≤ 1000000000000000000) (w : World) :
    Calls Try.prog 133 #[.agg #[.int .i64 lo, .int .i64 hi], .int .i64 g] w fun e w' => e = .returned (.agg #[.int .i64 (lo - g), .int .i64 (hi + g)]) ∧ Below w.heap.size w w' := by
  have v1 : wrap64 (lo - g) = lo - g := by unfold wrap64; omega
  have v2 : wrap64 (hi + g) = hi + g := by unfold wrap64; omega
  go_enter Try.func133, Try.ntmps133
  go_wp2_with fail
  refine bodyPost_ret (v := .agg #[.int .i64 (lo - g), .int .i64 (hi + g)]) (by simp [results, Try.results133, go_sem]) rfl ⟨rfl, by repeat (first | exact Below.refl _ _ | refine Below.alloc ?_ (by simp; try omega) _)⟩
theorem rmeet_any (a b c d : Int) (w : World) :
    Calls Try.prog 108 #[.agg #[.int .i64 a, .int .i64 b], .agg #[.int .i64 c, .int .i64 d]] w fun e w' => e = .returned (.agg #[.int .i64 (max a c), .int .i64 (min b d)]) ∧ Below w.heap.size w w' := by
  go_enter Try.func108, Try.ntmps108
  go_wp2_with fail
  refine bodyPost_ret (v := .agg #[.int .i64 (max a c), .int .i64 (min b d)]) (by simp [results, Try.results108, go_sem]) rfl ⟨rfl, by repeat (first | exact Below.refl _ _ | refine Below.alloc ?_ (by simp; try omega) _)⟩
theorem rwithin_any (x lo hi : Int) (w : World) :
    Calls Try.prog 136 #[.int .i64 x, .int .i64 lo, .int .i64 hi] w fun e w' => e = .returned (.bool (decide (lo ≤ x ∧ x ≤ hi))) ∧ w' = w := by
  by_cases h1 : lo ≤ x
  · by_cases h2 : x ≤ hi
    · rw [decide_eq_true ⟨h1, h2⟩]
      go_enter Try.func136, Try.ntmps136
      go_wp2_with fail
      go_ret
      first | exact ⟨rfl, rfl⟩ | simp [*]
    · rw [decide_eq_false (fun h => h2 h.2)]
      go_enter Try.func136, Try.ntmps136
      go_wp2_with fail
      go_ret
      first | exact ⟨rfl, rfl⟩ | simp [*]
  · rw [decide_eq_false (fun h => h1 h.1)]
    go_enter Try.func136, Try.ntmps136
    go_wp2_with fail
    go_ret
    first | exact ⟨rfl, rfl⟩ | simp [*]
set_option maxHeartbeats 1000000 in
theorem rvalid_any (a b : Int) (w : World) :
    Calls Try.prog 87 #[.agg #[.int .i64 a, .int .i64 b]] w fun e w' => e = .returned (.bool (vB a b)) ∧ Below w.heap.size w w' := by
  have HA := Lib.hid (show Below w.heap.size w (w.alloc (.cells #[.int .i64 a, .int .i64 b] 23)) from (Below.refl _ _).alloc (Nat.le_refl _) _)
  have ca := fun W => rwithin_any a (-1073741824) 1073741824 W
  have cb := fun W => rwithin_any b (-1073741824) 1073741824 W
  have hv : vB a b = (decide (a ≤ b) && (decide (-1073741824 ≤ a ∧ a ≤ 1073741824) && decide (-1073741824 ≤ b ∧ b ≤ 1073741824))) := by
    unfold vB
    rw [← Bool.decide_and, ← Bool.decide_and]
    exact decide_eq_decide.2 (by omega)
  rw [hv]
  clear hv
  generalize decide (-1073741824 ≤ a ∧ a ≤ 1073741824) = x at *
  generalize decide (-1073741824 ≤ b ∧ b ≤ 1073741824) = y at *
  by_cases h : a ≤ b
  rotate_left
  · rw [decide_eq_false h, Bool.false_and]
    go_enter Try.func87, Try.ntmps87
    go_wp2_with fail
    go_ret
    exact ⟨by first | rfl | simp [*], HA.out⟩
  rw [decide_eq_true h, Bool.true_and]
  cases x
  · go_enter Try.func87, Try.ntmps87
    go_wp2_with fail
    refine (ca _).mono ?_
    rintro e w1 ⟨rfl, rfl⟩
    go_wp2_with fail
    go_ret
    exact ⟨by first | rfl | simp [*], HA.out⟩
  · go_enter Try.func87, Try.ntmps87
    go_wp2_with fail
    refine (ca _).mono ?_
    rintro e w1 ⟨rfl, rfl⟩
    go_wp2_with fail
    refine (cb _).mono ?_
    rintro e w1 ⟨rfl, rfl⟩
    go_wp2_with fail
    go_ret
    exact ⟨by first | rfl | simp [*], HA.out⟩
theorem tdiv_dn (x d : Int) (hd : 1 ≤ d) : (x.tmod d < 0 → x.tdiv d - 1 = x / d) ∧ (¬ x.tmod d < 0 → x.tdiv d = x / d) := by
  have h1 := Int.mul_tdiv_add_tmod x d
  have h2 := Int.tmod_lt_of_pos x (show 0 < d by omega)
  have h3 : -d < x.tmod d := by
    have := Int.tmod_lt_of_pos (-x) (show 0 < d by omega)
    rw [Int.neg_tmod] at this; omega
  generalize hq : x.tdiv d = q at *
  generalize hr : x.tmod d = r at *
  constructor
  · intro h
    symm
    rw [← h1]
    have : d * q + r = d * (q - 1) + (r + d) := by rw [Int.mul_sub]; omega
    rw [this, Int.mul_add_ediv_left _ _ (by omega), Int.ediv_eq_zero_of_lt (by omega) (by omega)]
    omega
  · intro h
    symm
    rw [← h1, Int.mul_add_ediv_left _ _ (by omega), Int.ediv_eq_zero_of_lt (by omega) (by omega)]
    omega
theorem dn_bd (x d B : Int) (hd : 1 ≤ d) (h1 : -B ≤ x) (h2 : x ≤ B) : -B ≤ x / d ∧ x / d ≤ B := by
  have hB : 0 ≤ B := by omega
  constructor
  · refine Int.le_ediv_of_mul_le (by omega) ?_
    have := Int.mul_le_mul_of_nonneg_left hd hB
    have h3 : -B * d = -(B * d) := Int.neg_mul _ _
    omega
  · refine Int.le_trans (Int.ediv_le_ediv (by omega) h2) ?_
    exact Int.ediv_le_self _ hB
set_option maxHeartbeats 1000000 in
theorem rdown_pos (x d : Int) (hd : 1 ≤ d) (hd' : d ≤ 4611686018427387904) (h1 : -4611686018427387904 ≤ x) (h2 : x ≤ 4611686018427387904) (w : World) :
    Calls Try.prog 143 #[.int .i64 x, .int .i64 d] w fun e w' => e = .returned (.int .i64 (x / d)) ∧ w' = w := by
  obtain ⟨ha, hb⟩ := tdiv_dn x d hd
  obtain ⟨hq1, hq2⟩ := dn_bd x d 4611686018427387904 hd h1 h2
  by_cases hn : x.tmod d < 0
  · have he := ha hn
    have hq : x.tdiv d = x / d + 1 := by omega
    have Hq := Lib.hid hq
    have hq3 : -4611686018427387904 ≤ x.tdiv d := by omega
    have hq4 : x.tdiv d ≤ 4611686018427387905 := by omega
    clear ha hb he hq
    go_enter Try.func143, Try.ntmps143
    go_wp2
    go_ret
    exact ⟨ret_int (by rw [Hq.out]; omega), rfl⟩
  · have hq := hb hn
    have Hq := Lib.hid hq
    have hn' : 0 ≤ x.tmod d := by omega
    have hq3 : -4611686018427387904 ≤ x.tdiv d := by omega
    have hq4 : x.tdiv d ≤ 4611686018427387904 := by omega
    clear ha hb hq
    go_enter Try.func143, Try.ntmps143
    go_wp2
    go_ret
    exact ⟨ret_int (by rw [Hq.out]), rfl⟩
set_option maxHeartbeats 1000000 in
theorem rup_any (q : Int) (h : 0 ≤ q ∧ q ≤ 1000000000000000) (w : World) :
    Calls Try.prog 110 #[.int .i64 q, .int .i64 1000000000] w fun e w' => e = .returned (.int .i64 ((q + 999999999) / 1000000000)) ∧ w' = w := by
  have c1 := fun w => rdown_pos (-q) 1000000000 (by decide) (by decide) (by omega) (by omega) w
  have e1 : (q + 999999999) / 1000000000 = -((-q) / 1000000000) := by omega
  have b1 : -1000000000000000 ≤ (-q) / 1000000000 ∧ (-q) / 1000000000 ≤ 0 := by omega
  rw [e1]
  clear e1
  generalize (-q) / 1000000000 = y at *
  go_enter Try.func110, Try.ntmps110
  go_wp2_with fail
  refine (c1 _).mono ?_
  rintro e w' ⟨rfl, rfl⟩
  go_wp2_with fail
  go_ret
  exact ⟨rfl, rfl⟩
set_option maxHeartbeats 1000000 in
theorem rgrowth_any (r d : Int) (hr : 0 ≤ r ∧ r ≤ 1000000) (hd : -9007199254740992 ≤ d ∧ d ≤ 9007199254740992) (w : World) :
    Calls Try.prog 55 #[.int .i64 r, .int .i64 d] w fun e w' => e = .returned (.int .i64 (grw r (max d (-d)))) ∧ w' = w := by
  have hd2 : 0 ≤ max d (-d) ∧ max d (-d) ≤ 9007199254740992 := by omega
  obtain ⟨⟨p1, p2⟩, ⟨q1, q2⟩, g1, g2⟩ := grw_bd hr hd2
  have HG := Lib.hid (show grw r (max d (-d)) = r * (max d (-d) / 1000000000) + (r * (max d (-d) % 1000000000) + 999999999) / 1000000000 from rfl)
  have hneg : wrap64 (-d) = -d := by unfold wrap64; omega
  have HM := Lib.hid (show ∀ z, z = max d (-d) → z = max d (-d) from fun _ h => h)
  generalize hm : max d (-d) = m at *
  generalize grw r m = g at *
  generalize hP : r * (m / 1000000000) = P at *
  generalize hQ : r * (m % 1000000000) = Q at *
  have c110 := fun w => rup_any Q ⟨q1, q2⟩ w
  have v1 : wrap64 P = P := by unfold wrap64; omega
  have v2 : wrap64 Q = Q := by unfold wrap64; omega
  generalize hU : (Q + 999999999) / 1000000000 = U at *
  have hgu : P + U = g := HG.out.symm
  have HGU := Lib.hid hgu
  have v3 : wrap64 (P + U) = P + U := by unfold wrap64; omega
  clear HG hgu
  go_enter Try.func55, Try.ntmps55
  go_wp2_with fail
  refine (c110 _).mono ?_
  rintro e w' ⟨rfl, rfl⟩
  go_wp2_with fail
  go_ret
  exact ⟨ret_int HGU.out, rfl⟩
end Go.Proofs.Ytcchmjbedppfnaa

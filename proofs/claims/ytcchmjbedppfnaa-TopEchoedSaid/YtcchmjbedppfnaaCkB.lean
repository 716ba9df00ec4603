/-
  Clock: exchanges.
-/
import Derived.Test.YtcchmjbedppfnaaCkA
namespace Go.Proofs.Ytcchmjbedppfnaa
open Go.RowKit Go.Shelf
set_option linter.unusedSimpArgs false
set_option maxRecDepth 100000 in
set_option maxHeartbeats 4000000 in
theorem checkX_any (x : Xc) (w : World) :
    Calls Try.prog 26 #[x.val] w fun e w' => e = .returned (.int .i64 (if xcB x = true then 0 else 2)) ∧ Below w.heap.size w w' := by
  have hA : Below w.heap.size w (w.alloc (.cells #[.int .i64 x.se, .int .i64 x.he, .int .i64 x.an, .int .i64 x.ba, .int .i64 x.fLo, .int .i64 x.fHi, .int .i64 x.hLo, .int .i64 x.hHi] 25)) := (Below.refl _ _).alloc (Nat.le_refl _) _
  have HA := Lib.hid hA
  clear hA
  have t1 := fun W => isTime_any x.se W
  have t2 := fun W => isTime_any x.he W
  have t3 := fun W => isTime_any x.an W
  have t4 := fun W => isTime_any x.ba W
  have t5 := fun W => isDelay_any x.fLo x.fHi W
  have t6 := fun W => isDelay_any x.hLo x.hHi W
  have HX := Lib.hid (show xcB x = (tmB x.se && (tmB x.he && (tmB x.an && (tmB x.ba && (decide (x.se ≤ x.ba) && (decide (x.he ≤ x.an) && (dlB x.fLo x.fHi && dlB x.hLo x.hHi))))))) from rfl)
  generalize xcB x = X at *
  generalize tmB x.se = b1 at *
  generalize tmB x.he = b2 at *
  generalize tmB x.an = b3 at *
  generalize tmB x.ba = b4 at *
  generalize dlB x.fLo x.fHi = b5 at *
  generalize dlB x.hLo x.hHi = b6 at *
  unfold Xc.val
  generalize x.se = y0 at *
  generalize x.he = y1 at *
  generalize x.an = y2 at *
  generalize x.ba = y3 at *
  generalize x.fLo = y4 at *
  generalize x.fHi = y5 at *
  generalize x.hLo = y6 at *
  generalize x.hHi = y7 at *
  clear x
  cases b1
  · obtain rfl : X = false := by rw [HX.out]; simp
    rw [if_neg (by decide)]
    go_enter Try.func26, Try.ntmps26
    go_wp2_with fail
    refine (t1 _).mono ?_
    rintro e w1 ⟨rfl, rfl⟩
    go_wp2_with fail
    go_ret
    exact ⟨rfl, HA.out⟩
  cases b2
  · obtain rfl : X = false := by rw [HX.out]; simp
    rw [if_neg (by decide)]
    go_enter Try.func26, Try.ntmps26
    go_wp2_with fail
    refine (t1 _).mono ?_
    rintro e w1 ⟨rfl, rfl⟩
    go_wp2_with fail
    refine (t2 _).mono ?_
    rintro e w1 ⟨rfl, rfl⟩
    go_wp2_with fail
    go_ret
    exact ⟨rfl, HA.out⟩
  cases b3
  · obtain rfl : X = false := by rw [HX.out]; simp
    rw [if_neg (by decide)]
    go_enter Try.func26, Try.ntmps26
    go_wp2_with fail
    refine (t1 _).mono ?_
    rintro e w1 ⟨rfl, rfl⟩
    go_wp2_with fail
    refine (t2 _).mono ?_
    rintro e w1 ⟨rfl, rfl⟩
    go_wp2_with fail
    refine (t3 _).mono ?_
    rintro e w1 ⟨rfl, rfl⟩
    go_wp2_with fail
    go_ret
    exact ⟨rfl, HA.out⟩
  cases b4
  · obtain rfl : X = false := by rw [HX.out]; simp
    rw [if_neg (by decide)]
    go_enter Try.func26, Try.ntmps26
    go_wp2_with fail
    refine (t1 _).mono ?_
    rintro e w1 ⟨rfl, rfl⟩
    go_wp2_with fail
    refine (t2 _).mono ?_
    rintro e w1 ⟨rfl, rfl⟩
    go_wp2_with fail
    refine (t3 _).mono ?_
    rintro e w1 ⟨rfl, rfl⟩
    go_wp2_with fail
    refine (t4 _).mono ?_
    rintro e w1 ⟨rfl, rfl⟩
    go_wp2_with fail
    go_ret
    exact ⟨rfl, HA.out⟩
  by_cases h5 : y0 ≤ y3
  rotate_left
  · obtain rfl : X = false := by rw [HX.out]; simp [h5]
    rw [if_neg (by decide)]
    go_enter Try.func26, Try.ntmps26
    go_wp2_with fail
    refine (t1 _).mono ?_
    rintro e w1 ⟨rfl, rfl⟩
    go_wp2_with fail
    refine (t2 _).mono ?_
    rintro e w1 ⟨rfl, rfl⟩
    go_wp2_with fail
    refine (t3 _).mono ?_
    rintro e w1 ⟨rfl, rfl⟩
    go_wp2_with fail
    refine (t4 _).mono ?_
    rintro e w1 ⟨rfl, rfl⟩
    go_wp2_with fail
    go_ret
    exact ⟨rfl, HA.out⟩
  by_cases h6 : y1 ≤ y2
  rotate_left
  · obtain rfl : X = false := by rw [HX.out]; simp [h6]
    rw [if_neg (by decide)]
    go_enter Try.func26, Try.ntmps26
    go_wp2_with fail
    refine (t1 _).mono ?_
    rintro e w1 ⟨rfl, rfl⟩
    go_wp2_with fail
    refine (t2 _).mono ?_
    rintro e w1 ⟨rfl, rfl⟩
    go_wp2_with fail
    refine (t3 _).mono ?_
    rintro e w1 ⟨rfl, rfl⟩
    go_wp2_with fail
    refine (t4 _).mono ?_
    rintro e w1 ⟨rfl, rfl⟩
    go_wp2_with fail
    go_ret
    exact ⟨rfl, HA.out⟩
  cases b5
  · obtain rfl : X = false := by rw [HX.out]; simp
    rw [if_neg (by decide)]
    go_enter Try.func26, Try.ntmps26
    go_wp2_with fail
    refine (t1 _).mono ?_
    rintro e w1 ⟨rfl, rfl⟩
    go_wp2_with fail
    refine (t2 _).mono ?_
    rintro e w1 ⟨rfl, rfl⟩
    go_wp2_with fail
    refine (t3 _).mono ?_
    rintro e w1 ⟨rfl, rfl⟩
    go_wp2_with fail
    refine (t4 _).mono ?_
    rintro e w1 ⟨rfl, rfl⟩
    go_wp2_with fail
    refine (t5 _).mono ?_
    rintro e w1 ⟨rfl, hb⟩
    have HB := Lib.hid (HA.out.trans (hb.mono (by simp)))
    clear hb
    go_wp2_with fail
    go_ret
    exact ⟨rfl, HB.out⟩
  cases b6
  · obtain rfl : X = false := by rw [HX.out]; simp
    rw [if_neg (by decide)]
    go_enter Try.func26, Try.ntmps26
    go_wp2_with fail
    refine (t1 _).mono ?_
    rintro e w1 ⟨rfl, rfl⟩
    go_wp2_with fail
    refine (t2 _).mono ?_
    rintro e w1 ⟨rfl, rfl⟩
    go_wp2_with fail
    refine (t3 _).mono ?_
    rintro e w1 ⟨rfl, rfl⟩
    go_wp2_with fail
    refine (t4 _).mono ?_
    rintro e w1 ⟨rfl, rfl⟩
    go_wp2_with fail
    refine (t5 _).mono ?_
    rintro e w1 ⟨rfl, hb⟩
    have HB := Lib.hid (HA.out.trans (hb.mono (by simp)))
    have hz := hb.size
    simp at hz
    have k6 := hb.cell (p := ⟨w.heap.size, 6, none⟩) (by simp)
    have k7 := hb.cell (p := ⟨w.heap.size, 7, none⟩) (by simp)
    simp [go_sem] at k6 k7
    clear hb
    go_wp2_with fail
    refine (t6 _).mono ?_
    rintro e w2 ⟨rfl, hb⟩
    have HB2 := Lib.hid (HB.out.trans (hb.mono (by omega)))
    clear hb
    go_wp2_with fail
    go_ret
    exact ⟨rfl, HB2.out⟩
  obtain rfl : X = true := by rw [HX.out]; simp [h5, h6]
  rw [if_pos rfl]
  go_enter Try.func26, Try.ntmps26
  go_wp2_with fail
  refine (t1 _).mono ?_
  rintro e w1 ⟨rfl, rfl⟩
  go_wp2_with fail
  refine (t2 _).mono ?_
  rintro e w1 ⟨rfl, rfl⟩
  go_wp2_with fail
  refine (t3 _).mono ?_
  rintro e w1 ⟨rfl, rfl⟩
  go_wp2_with fail
  refine (t4 _).mono ?_
  rintro e w1 ⟨rfl, rfl⟩
  go_wp2_with fail
  refine (t5 _).mono ?_
  rintro e w1 ⟨rfl, hb⟩
  have HB := Lib.hid (HA.out.trans (hb.mono (by simp)))
  have hz := hb.size
  simp at hz
  have k6 := hb.cell (p := ⟨w.heap.size, 6, none⟩) (by simp)
  have k7 := hb.cell (p := ⟨w.heap.size, 7, none⟩) (by simp)
  simp [go_sem] at k6 k7
  clear hb
  go_wp2_with fail
  refine (t6 _).mono ?_
  rintro e w2 ⟨rfl, hb⟩
  have HB2 := Lib.hid (HB.out.trans (hb.mono (by omega)))
  clear hb
  go_wp2_with fail
  go_ret
  exact ⟨rfl, HB2.out⟩
set_option maxRecDepth 100000 in
set_option maxHeartbeats 4000000 in
theorem there_any (x : Xc) (h : xcB x = true) (w : World) :
    Calls Try.prog 74 #[x.val] w fun e w' => e = .returned (.agg #[.int .i64 (x.he - x.se - x.fHi), .int .i64 (x.he - x.se - x.fLo), .int .i64 x.se]) ∧ Below w.heap.size w w' := by
  obtain ⟨h1, h2, h3, h4⟩ := (xcB_iff x).1 h
  have v1 : wrap64 (x.he - x.se) = x.he - x.se := by unfold wrap64; omega
  have v2 : wrap64 (x.he - x.se - x.fHi) = x.he - x.se - x.fHi := by unfold wrap64; omega
  have v3 : wrap64 (x.he - x.se - x.fLo) = x.he - x.se - x.fLo := by unfold wrap64; omega
  clear h h1 h2 h3 h4
  unfold Xc.val
  go_enter Try.func74, Try.ntmps74
  go_wp2_with fail
  refine bodyPost_ret (v := .agg #[.int .i64 (x.he - x.se - x.fHi), .int .i64 (x.he - x.se - x.fLo), .int .i64 x.se]) (by simp [results, Try.results74, go_sem]) rfl ⟨rfl, by repeat (first | exact Below.refl _ _ | refine Below.alloc ?_ (by simp; try omega) _)⟩
set_option maxRecDepth 100000 in
set_option maxHeartbeats 4000000 in
theorem back_any (x : Xc) (h : xcB x = true) (w : World) :
    Calls Try.prog 76 #[x.val] w fun e w' => e = .returned (.agg #[.int .i64 (x.an - x.ba + x.hLo), .int .i64 (x.an - x.ba + x.hHi), .int .i64 x.ba]) ∧ Below w.heap.size w w' := by
  obtain ⟨h1, h2, h3, h4⟩ := (xcB_iff x).1 h
  have v1 : wrap64 (x.an - x.ba) = x.an - x.ba := by unfold wrap64; omega
  have v2 : wrap64 (x.an - x.ba + x.hLo) = x.an - x.ba + x.hLo := by unfold wrap64; omega
  have v3 : wrap64 (x.an - x.ba + x.hHi) = x.an - x.ba + x.hHi := by unfold wrap64; omega
  clear h h1 h2 h3 h4
  unfold Xc.val
  go_enter Try.func76, Try.ntmps76
  go_wp2_with fail
  refine bodyPost_ret (v := .agg #[.int .i64 (x.an - x.ba + x.hLo), .int .i64 (x.an - x.ba + x.hHi), .int .i64 x.ba]) (by simp [results, Try.results76, go_sem]) rfl ⟨rfl, by repeat (first | exact Below.refl _ _ | refine Below.alloc ?_ (by simp; try omega) _)⟩
end Go.Proofs.Ytcchmjbedppfnaa

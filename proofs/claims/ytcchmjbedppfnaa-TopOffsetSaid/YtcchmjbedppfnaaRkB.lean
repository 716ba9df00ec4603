/-
  Clock: the reference's exchanges.
-/
import Derived.Test.YtcchmjbedppfnaaRkA
namespace Go.Proofs.Ytcchmjbedppfnaa
open Go.RowKit Go.Shelf
set_option linter.unusedSimpArgs false
set_option maxRecDepth 100000 in
set_option maxHeartbeats 4000000 in
theorem rcheckX_any (x : Xc) (w : World) :
    Calls Try.prog 27 #[x.val] w fun e w' => e = .returned (.int .i64 (if xcB x = true then 0 else 2)) ∧ Below w.heap.size w w' := by
  have hA : Below w.heap.size w (w.alloc (.cells #[.int .i64 x.se, .int .i64 x.he, .int .i64 x.an, .int .i64 x.ba, .int .i64 x.fLo, .int .i64 x.fHi, .int .i64 x.hLo, .int .i64 x.hHi] 25)) := (Below.refl _ _).alloc (Nat.le_refl _) _
  have HA := Lib.hid hA
  clear hA
  have t1 := fun W => risTime_any x.se W
  have t2 := fun W => risTime_any x.he W
  have t3 := fun W => risTime_any x.an W
  have t4 := fun W => risTime_any x.ba W
  have t5 := fun W => rvalid_any x.fLo x.fHi W
  have t6 := fun W => rvalid_any x.hLo x.hHi W
  have HX := Lib.hid (show xcB x = (tmB x.se && (tmB x.he && (tmB x.an && (tmB x.ba && (decide (x.se ≤ x.ba) && (decide (x.he ≤ x.an) && ((vB x.fLo x.fHi && decide (0 ≤ x.fLo)) && (vB x.hLo x.hHi && decide (0 ≤ x.hLo)))))))))  from rfl)
  generalize xcB x = X at *
  generalize tmB x.se = b1 at *
  generalize tmB x.he = b2 at *
  generalize tmB x.an = b3 at *
  generalize tmB x.ba = b4 at *
  generalize vB x.fLo x.fHi = b5 at *
  generalize vB x.hLo x.hHi = b6 at *
  unfold Xc.val
  generalize x.se = y0 at *
  generalize x.he = y1 at *
  generalize x.an = y2 at *
  generalize x.ba = y3 at *
  generalize x.fLo = y4 at *
  generalize x.fHi = y5 at *
  generalize x.hLo = y6 at *
  generalize x.hHi = y7 at *
  clear x
  cases b1
  · obtain rfl : X = false := by rw [HX.out]; simp
    rw [if_neg (by decide)]
    go_enter Try.func27, Try.ntmps27
    go_wp2_with fail
    refine (t1 _).mono ?_
    rintro e w1 ⟨rfl, rfl⟩
    go_wp2_with fail
    go_ret
    exact ⟨rfl, HA.out⟩
  cases b2
  · obtain rfl : X = false := by rw [HX.out]; simp
    rw [if_neg (by decide)]
    go_enter Try.func27, Try.ntmps27
    go_wp2_with fail
    refine (t1 _).mono ?_
    rintro e w1 ⟨rfl, rfl⟩
    go_wp2_with fail
    refine (t2 _).mono ?_
    rintro e w1 ⟨rfl, rfl⟩
    go_wp2_with fail
    go_ret
    exact ⟨rfl, HA.out⟩
  cases b3
  · obtain rfl : X = false := by rw [HX.out]; simp
    rw [if_neg (by decide)]
    go_enter Try.func27, Try.ntmps27
    go_wp2_with fail
    refine (t1 _).mono ?_
    rintro e w1 ⟨rfl, rfl⟩
    go_wp2_with fail
    refine (t2 _).mono ?_
    rintro e w1 ⟨rfl, rfl⟩
    go_wp2_with fail
    refine (t3 _).mono ?_
    rintro e w1 ⟨rfl, rfl⟩
    go_wp2_with fail
    go_ret
    exact ⟨rfl, HA.out⟩
  cases b4
  · obtain rfl : X = false := by rw [HX.out]; simp
    rw [if_neg (by decide)]
    go_enter Try.func27, Try.ntmps27
    go_wp2_with fail
    refine (t1 _).mono ?_
    rintro e w1 ⟨rfl, rfl⟩
    go_wp2_with fail
    refine (t2 _).mono ?_
    rintro e w1 ⟨rfl, rfl⟩
    go_wp2_with fail
    refine (t3 _).mono ?_
    rintro e w1 ⟨rfl, rfl⟩
    go_wp2_with fail
    refine (t4 _).mono ?_
    rintro e w1 ⟨rfl, rfl⟩
    go_wp2_with fail
    go_ret
    exact ⟨rfl, HA.out⟩
  by_cases h5 : y0 ≤ y3
  rotate_left
  · obtain rfl : X = false := by rw [HX.out]; simp [h5]
    rw [if_neg (by decide)]
    go_enter Try.func27, Try.ntmps27
    go_wp2_with fail
    refine (t1 _).mono ?_
    rintro e w1 ⟨rfl, rfl⟩
    go_wp2_with fail
    refine (t2 _).mono ?_
    rintro e w1 ⟨rfl, rfl⟩
    go_wp2_with fail
    refine (t3 _).mono ?_
    rintro e w1 ⟨rfl, rfl⟩
    go_wp2_with fail
    refine (t4 _).mono ?_
    rintro e w1 ⟨rfl, rfl⟩
    go_wp2_with fail
    go_ret
    exact ⟨rfl, HA.out⟩
  by_cases h6 : y1 ≤ y2
  rotate_left
  · obtain rfl : X = false := by rw [HX.out]; simp [h6]
    rw [if_neg (by decide)]
    go_enter Try.func27, Try.ntmps27
    go_wp2_with fail
    refine (t1 _).mono ?_
    rintro e w1 ⟨rfl, rfl⟩
    go_wp2_with fail
    refine (t2 _).mono ?_
    rintro e w1 ⟨rfl, rfl⟩
    go_wp2_with fail
    refine (t3 _).mono ?_
    rintro e w1 ⟨rfl, rfl⟩
    go_wp2_with fail
    refine (t4 _).mono ?_
    rintro e w1 ⟨rfl, rfl⟩
    go_wp2_with fail
    go_ret
    exact ⟨rfl, HA.out⟩
  cases b5
  · obtain rfl : X = false := by rw [HX.out]; simp
    rw [if_neg (by decide)]
    go_enter Try.func27, Try.ntmps27
    go_wp2_with fail
    refine (t1 _).mono ?_
    rintro e w1 ⟨rfl, rfl⟩
    go_wp2_with fail
    refine (t2 _).mono ?_
    rintro e w1 ⟨rfl, rfl⟩
    go_wp2_with fail
    refine (t3 _).mono ?_
    rintro e w1 ⟨rfl, rfl⟩
    go_wp2_with fail
    refine (t4 _).mono ?_
    rintro e w1 ⟨rfl, rfl⟩
    go_wp2_with fail
    refine (t5 _).mono ?_
    rintro e w1 ⟨rfl, hb⟩
    have HB := Lib.hid (HA.out.trans (hb.mono (by simp)))
    clear hb
    go_wp2_with fail
    go_ret
    exact ⟨rfl, HB.out⟩
  cases b6
  · obtain rfl : X = false := by rw [HX.out]; simp
    rw [if_neg (by decide)]
    go_enter Try.func27, Try.ntmps27
    go_wp2_with fail
    refine (t1 _).mono ?_
    rintro e w1 ⟨rfl, rfl⟩
    go_wp2_with fail
    refine (t2 _).mono ?_
    rintro e w1 ⟨rfl, rfl⟩
    go_wp2_with fail
    refine (t3 _).mono ?_
    rintro e w1 ⟨rfl, rfl⟩
    go_wp2_with fail
    refine (t4 _).mono ?_
    rintro e w1 ⟨rfl, rfl⟩
    go_wp2_with fail
    refine (t5 _).mono ?_
    rintro e w1 ⟨rfl, hb⟩
    have HB := Lib.hid (HA.out.trans (hb.mono (by simp)))
    have hz := hb.size
    simp at hz
    have k4 := hb.cell (p := ⟨w.heap.size, 4, none⟩) (by simp)
    have k6 := hb.cell (p := ⟨w.heap.size, 6, none⟩) (by simp)
    have k7 := hb.cell (p := ⟨w.heap.size, 7, none⟩) (by simp)
    simp [go_sem] at k4 k6 k7
    clear hb
    go_wp2_with fail
    refine (t6 _).mono ?_
    rintro e w2 ⟨rfl, hb⟩
    have HB2 := Lib.hid (HB.out.trans (hb.mono (by omega)))
    have j4 := (hb.cell (p := ⟨w.heap.size, 4, none⟩) (by show w.heap.size < w1.heap.size; omega)).trans k4
    have j6 := (hb.cell (p := ⟨w.heap.size, 6, none⟩) (by show w.heap.size < w1.heap.size; omega)).trans k6
    clear hb k4 k6 k7
    go_wp2_with fail
    go_ret
    exact ⟨rfl, HB2.out⟩
  by_cases g4 : 0 ≤ y4
  rotate_left
  · obtain rfl : X = false := by rw [HX.out]; simp [g4]
    rw [if_neg (by decide)]
    have g4b : y4 < 0 := by omega
    go_enter Try.func27, Try.ntmps27
    go_wp2_with fail
    refine (t1 _).mono ?_
    rintro e w1 ⟨rfl, rfl⟩
    go_wp2_with fail
    refine (t2 _).mono ?_
    rintro e w1 ⟨rfl, rfl⟩
    go_wp2_with fail
    refine (t3 _).mono ?_
    rintro e w1 ⟨rfl, rfl⟩
    go_wp2_with fail
    refine (t4 _).mono ?_
    rintro e w1 ⟨rfl, rfl⟩
    go_wp2_with fail
    refine (t5 _).mono ?_
    rintro e w1 ⟨rfl, hb⟩
    have HB := Lib.hid (HA.out.trans (hb.mono (by simp)))
    have hz := hb.size
    simp at hz
    have k4 := hb.cell (p := ⟨w.heap.size, 4, none⟩) (by simp)
    have k6 := hb.cell (p := ⟨w.heap.size, 6, none⟩) (by simp)
    have k7 := hb.cell (p := ⟨w.heap.size, 7, none⟩) (by simp)
    simp [go_sem] at k4 k6 k7
    clear hb
    go_wp2_with fail
    refine (t6 _).mono ?_
    rintro e w2 ⟨rfl, hb⟩
    have HB2 := Lib.hid (HB.out.trans (hb.mono (by omega)))
    have j4 := (hb.cell (p := ⟨w.heap.size, 4, none⟩) (by show w.heap.size < w1.heap.size; omega)).trans k4
    have j6 := (hb.cell (p := ⟨w.heap.size, 6, none⟩) (by show w.heap.size < w1.heap.size; omega)).trans k6
    clear hb k4 k6 k7
    go_wp2_with fail
    go_ret
    exact ⟨rfl, HB2.out⟩
  by_cases g6 : 0 ≤ y6
  rotate_left
  · obtain rfl : X = false := by rw [HX.out]; simp [g6]
    rw [if_neg (by decide)]
    have g4b : ¬ y4 < 0 := by omega
    have g6b : y6 < 0 := by omega
    go_enter Try.func27, Try.ntmps27
    go_wp2_with fail
    refine (t1 _).mono ?_
    rintro e w1 ⟨rfl, rfl⟩
    go_wp2_with fail
    refine (t2 _).mono ?_
    rintro e w1 ⟨rfl, rfl⟩
    go_wp2_with fail
    refine (t3 _).mono ?_
    rintro e w1 ⟨rfl, rfl⟩
    go_wp2_with fail
    refine (t4 _).mono ?_
    rintro e w1 ⟨rfl, rfl⟩
    go_wp2_with fail
    refine (t5 _).mono ?_
    rintro e w1 ⟨rfl, hb⟩
    have HB := Lib.hid (HA.out.trans (hb.mono (by simp)))
    have hz := hb.size
    simp at hz
    have k4 := hb.cell (p := ⟨w.heap.size, 4, none⟩) (by simp)
    have k6 := hb.cell (p := ⟨w.heap.size, 6, none⟩) (by simp)
    have k7 := hb.cell (p := ⟨w.heap.size, 7, none⟩) (by simp)
    simp [go_sem] at k4 k6 k7
    clear hb
    go_wp2_with fail
    refine (t6 _).mono ?_
    rintro e w2 ⟨rfl, hb⟩
    have HB2 := Lib.hid (HB.out.trans (hb.mono (by omega)))
    have j4 := (hb.cell (p := ⟨w.heap.size, 4, none⟩) (by show w.heap.size < w1.heap.size; omega)).trans k4
    have j6 := (hb.cell (p := ⟨w.heap.size, 6, none⟩) (by show w.heap.size < w1.heap.size; omega)).trans k6
    clear hb k4 k6 k7
    go_wp2_with fail
    go_ret
    exact ⟨rfl, HB2.out⟩
  obtain rfl : X = true := by rw [HX.out]; simp [h5, h6, g4, g6]
  rw [if_pos rfl]
  have g4b : ¬ y4 < 0 := by omega
  have g6b : ¬ y6 < 0 := by omega
  go_enter Try.func27, Try.ntmps27
  go_wp2_with fail
  refine (t1 _).mono ?_
  rintro e w1 ⟨rfl, rfl⟩
  go_wp2_with fail
  refine (t2 _).mono ?_
  rintro e w1 ⟨rfl, rfl⟩
  go_wp2_with fail
  refine (t3 _).mono ?_
  rintro e w1 ⟨rfl, rfl⟩
  go_wp2_with fail
  refine (t4 _).mono ?_
  rintro e w1 ⟨rfl, rfl⟩
  go_wp2_with fail
  refine (t5 _).mono ?_
  rintro e w1 ⟨rfl, hb⟩
  have HB := Lib.hid (HA.out.trans (hb.mono (by simp)))
  have hz := hb.size
  simp at hz
  have k4 := hb.cell (p := ⟨w.heap.size, 4, none⟩) (by simp)
  have k6 := hb.cell (p := ⟨w.heap.size, 6, none⟩) (by simp)
  have k7 := hb.cell (p := ⟨w.heap.size, 7, none⟩) (by simp)
  simp [go_sem] at k4 k6 k7
  clear hb
  go_wp2_with fail
  refine (t6 _).mono ?_
  rintro e w2 ⟨rfl, hb⟩
  have HB2 := Lib.hid (HB.out.trans (hb.mono (by omega)))
  have j4 := (hb.cell (p := ⟨w.heap.size, 4, none⟩) (by show w.heap.size < w1.heap.size; omega)).trans k4
  have j6 := (hb.cell (p := ⟨w.heap.size, 6, none⟩) (by show w.heap.size < w1.heap.size; omega)).trans k6
  clear hb k4 k6 k7
  go_wp2_with fail
  go_ret
  exact ⟨rfl, HB2.out⟩
end Go.Proofs.Ytcchmjbedppfnaa

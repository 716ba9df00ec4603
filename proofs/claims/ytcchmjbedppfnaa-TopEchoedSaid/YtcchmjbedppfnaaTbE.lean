/-
  The small examples of the layers up to 5: works03, works05.
-/
import Derived.Test.YtcchmjbedppfnaaTbD
import Derived.Test.YtcchmjbedppfnaaCkN
import Derived.Test.YtcchmjbedppfnaaCkM
namespace Go.Proofs.Ytcchmjbedppfnaa
open Go.RowKit Go.Shelf
set_option linter.unusedSimpArgs false
set_option maxHeartbeats 1000000
set_option maxRecDepth 100000
theorem sub_ex : subS (-3) 5 2 4 = ⟨-7, 3, 0⟩ := by
  unfold subS
  rw [if_pos ⟨by decide, by decide⟩]
  unfold fit
  rw [if_pos (by decide)]
  rfl
theorem works03_any (w : World) : Calls Try.prog 111 #[] w fun e w' => e = .returned (.bool true) ∧ Below w.heap.size w w' := by
  have c1 := fun W => bsub_any (-3) 5 2 4 W
  rw [sub_ex] at c1
  dsimp only at c1
  have c2 := fun W => lasts144 W
  go_enter Try.func111, Try.ntmps111
  go_wp2_with fail
  refine (c1 _).mono ?_
  rintro e w1 ⟨rfl, hb⟩
  have HB1 := Lib.hid hb
  clear hb
  go_upto_region 2 with fail
  obtain ⟨V, hV⟩ : ∃ V, V = w1.alloc (.cells #[.int .i64 (-7), .int .i64 3] 23) := ⟨_, rfl⟩
  try rw [← hV]
  have HX := Lib.hid (show Bx2 V w1.heap.size (.int .i64 (-7)) (.int .i64 3) by rw [hV]; exact Bx2.new _ _ _)
  have HV := Lib.hid (show Below w.heap.size w V by rw [hV]; exact HB1.out.alloc HB1.out.size _)
  clear hV
  go_wp2_with fail
  refine (c2 _).mono ?_
  rintro e w2 ⟨rfl, hb⟩
  have HB2 := Lib.hid (HV.out.trans (hb.mono HV.out.size))
  have d0 := (HX.out.keep hb).c0
  have d1 := (HX.out.keep hb).c1
  clear hb
  go_wp2_with fail
  go_ret
  exact ⟨rfl, HB2.out⟩
def x5 : Xc := ⟨0, 110, 110, 20, 5, 15, 5, 15⟩
theorem x5_lrn : lrnE (-1) 0 [x5] = 0 := by rfl
open Classical in
theorem x5_sd : sdB 0 (ofA 0 [x5]) = true := decide_eq_true (fun i k h hk => by
  have hk2 : k < 1 := hk
  omega)
theorem x5_at : atR (-1) 0 [x5] 7 = ⟨95, 105, 0⟩ := by
  unfold atR
  rw [if_pos x5_lrn, if_pos (by decide), if_pos x5_sd]
  rfl
theorem works05_any (w : World) : Calls Try.prog 59 #[] w fun e w' => e = .returned (.bool true) ∧ Below w.heap.size w w' := by
  have c3 := fun W => works03_any W
  obtain ⟨A, hA⟩ : ∃ A, A = (w.alloc (.cells #[.int .i64 0, .int .i64 110, .int .i64 110, .int .i64 20, .int .i64 5, .int .i64 15, .int .i64 5, .int .i64 15] 25)).alloc (.cells #[.int .i64 (-1), .int .i64 0, .slice (some ⟨w.heap.size, 0, none⟩) 1 1] 28) := ⟨_, rfl⟩
  have HBA := Lib.hid (show Below w.heap.size w A by rw [hA]; exact ((Below.refl _ _).alloc (Nat.le_refl _) _).alloc (by simp) _)
  have hzA : A.heap.size = w.heap.size + 2 := by rw [hA]; simp
  have hX : Xcs A.heap.size A (.slice (some ⟨w.heap.size, 0, none⟩) 1 1) [x5] := by
    refine ⟨_, 1, rfl, Nat.le_refl _, fun k hk => ?_⟩
    have hk2 : k < 1 := hk
    obtain rfl : k = 0 := by omega
    refine ⟨w.heap.size, 0, rfl, by omega, ?_⟩
    rw [hA]
    refine ⟨?_, ?_, ?_, ?_, ?_, ?_, ?_, ?_⟩ <;> simp [go_sem, xc, x5]
  have c1 := at24_any (-1) 0 7 (.slice (some ⟨w.heap.size, 0, none⟩) 1 1) [x5] A hX
  rw [x5_at] at c1
  unfold R3.out at c1
  dsimp only at c1
  have C1 := Lib.hid c1
  have k0 : A.cell? ⟨w.heap.size + 1, 0, none⟩ = some (.int .i64 (-1)) := by rw [hA]; simp [go_sem]
  have k1 : A.cell? ⟨w.heap.size + 1, 1, none⟩ = some (.int .i64 0) := by rw [hA]; simp [go_sem]
  have k2 : A.cell? ⟨w.heap.size + 1, 2, none⟩ = some (.slice (some ⟨w.heap.size, 0, none⟩) 1 1) := by rw [hA]; simp [go_sem]
  clear c1 hX hzA
  go_enter Try.func59, Try.ntmps59
  go_upto_region 2 with fail
  try rw [← hA]
  clear hA
  go_wp2_with fail
  refine C1.out.mono ?_
  rintro e w1 ⟨rfl, hb⟩
  have HB1 := Lib.hid (HBA.out.trans (hb.mono HBA.out.size))
  clear hb k0 k1 k2
  go_upto_region 3 with fail
  obtain ⟨V, hV⟩ : ∃ V, V = w1.alloc (.cells #[.int .i64 95, .int .i64 105] 23) := ⟨_, rfl⟩
  try rw [← hV]
  have HX := Lib.hid (show Bx2 V w1.heap.size (.int .i64 95) (.int .i64 105) by rw [hV]; exact Bx2.new _ _ _)
  have HV := Lib.hid (show Below w.heap.size w V by rw [hV]; exact HB1.out.alloc HB1.out.size _)
  clear hV
  have C2 := Lib.hid (path62 V.heap.size (V.alloc (.cells #[.int .i64 (-1), .int .i64 0, .int .i64 0, .int .i64 0, .int .i64 0, .int .i64 0, .int .i64 0, .int .i64 (-1), .int .i64 0, .int .i64 0, .int .i64 0, .int .i64 0, .int .i64 0, .int .i64 0, .int .i64 0, .int .i64 3] 106)) (World.alloc_heap_new _ _))
  have hbV : Below V.heap.size V (V.alloc (.cells #[.int .i64 (-1), .int .i64 0, .int .i64 0, .int .i64 0, .int .i64 0, .int .i64 0, .int .i64 0, .int .i64 (-1), .int .i64 0, .int .i64 0, .int .i64 0, .int .i64 0, .int .i64 0, .int .i64 0, .int .i64 0, .int .i64 3] 106)) := (Below.refl _ _).alloc (Nat.le_refl _) _
  have HBV := Lib.hid hbV
  clear hbV
  go_wp2_with fail
  refine C2.out.mono ?_
  rintro e w2 ⟨⟨a, c, rfl⟩, hb⟩
  have hb2 := HBV.out.trans (hb.mono HBV.out.size)
  have HB2 := Lib.hid (HV.out.trans (hb2.mono HV.out.size))
  have d0 := (HX.out.keep hb2).c0
  have d1 := (HX.out.keep hb2).c1
  clear hb hb2 C2
  go_wp2_with fail
  refine (c3 _).mono ?_
  rintro e w3 ⟨rfl, hb⟩
  have HB3 := Lib.hid (HB2.out.trans (hb.mono HB2.out.size))
  clear hb d0 d1
  go_wp2_with fail
  go_ret
  exact ⟨rfl, HB3.out⟩
end Go.Proofs.Ytcchmjbedppfnaa

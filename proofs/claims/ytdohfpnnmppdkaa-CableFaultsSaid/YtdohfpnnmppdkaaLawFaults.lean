/-
  Cables: faults.
-/
import Derived.Test.YtdohfpnnmppdkaaLcJ
import Derived.Test.YtdohfpnnmppdkaaLcD
import Derived.Test.YtdohfpnnmppdkaaCbQ
import Derived.Test.YtdohfpnnmppdkaaCbDi
namespace Go.Proofs.Ytdohfpnnmppdkaa
open Go.RowKit Go.Shelf
set_option linter.unusedSimpArgs false
open Go.RowKit Go.Shelf
set_option linter.unusedSimpArgs false
attribute [local go_sem] Oper.semAt_some
theorem segE_zero {sl sh : Int} {ns : List Nd} {ls : List Int} {k a b : Int} (h : segE sl sh ns ls k a b = 0) : ValidC sl sh ns ∧ 0 ≤ k ∧ k < ns.length := by
  by_cases hE : cabE sl sh ns = 0
  · by_cases h2 : ls.length = ns.length
    · by_cases h3 : 0 ≤ k ∧ k < ns.length
      · exact ⟨cabE_ok hE, h3⟩
      · rw [seg3 hE h2 h3] at h; exact absurd h (by decide)
    · rw [seg2 hE h2] at h; exact absurd h (by decide)
  · rw [seg1 hE] at h; exact absurd h hE
theorem seg_short (sl sh : Int) (ns : List Nd) (ls : List Int) (k a b : Int) : (zs (if segE sl sh ns ls k a b = 0 then segL ns ls k a b else [])).length ≤ 1000 := by
  unfold zs
  rw [List.length_map]
  split
  · rename_i h
    obtain ⟨hv, h0, h1⟩ := segE_zero h
    have q := pth_len hv.all.tree k.toNat
    have r := sgL_len ls (pth (par ns) k.toNat) a b ((pth (par ns) k.toNat).length - 1)
    have s := hv.len
    unfold segL
    omega
  · simp
set_option maxRecDepth 100000 in
set_option maxHeartbeats 16000000 in
theorem faultsLaw_any (sl sh : Int) (sv lv : Value) (ns : List Nd) (ls : List Int) (k a b g e0 e1 f0 f1 : Int) (mv : Value) (l : List Ms) (w : World) (hN : Nds w.heap.size w sv ns) (hL : Il w.heap.size w lv ls) (hM : MsA w.heap.size w mv l) :
    Calls Try.prog 6 #[.agg #[.int .i64 sl, .int .i64 sh, sv], lv, .int .i64 k, .agg #[.int .i64 a, .int .i64 b], .agg #[.int .i64 g, .int .i64 e0, .int .i64 e1, .int .i64 f0, .int .i64 f1], mv] w fun e w' => e = .returned (.bool true) ∧ Below w.heap.size w w' := by
  have c44 := Lib.hid (fun W => distance_any g e0 e1 f0 f1 W)
  have c45 := Lib.hid (fun W => refDistance_any g e0 e1 f0 f1 W)
  have c46 := Lib.hid (fun W (h : Below w.heap.size w W) => locate_any mv l W (hM.at h))
  have c47 := Lib.hid (fun W (h : Below w.heap.size w W) => refLocate_any mv l W (hM.at h))
  have c48 := Lib.hid (fun W (h : Below w.heap.size w W) => segments_any sl sh sv lv ns ls k a b W (hN.at h) (hL.at h))
  have c49 := Lib.hid (fun W (h : Below w.heap.size w W) => refsegments_any sl sh sv lv ns ls k a b W (hN.at h) (hL.at h))
  unfold SegR at c48 c49
  have HSH := seg_short sl sh ns ls k a b
  obtain ⟨ca, cap, hsv⟩ := hN.form
  obtain ⟨la, lc, hlv⟩ := hL.form
  obtain ⟨ma, mc, hmv⟩ := hM.form
  subst hsv
  subst hlv
  subst hmv
  have c1 := fun W => long_any sl sh ca ns.length cap W
  have c20 := fun W => fine_any W
  clear hN hL hM
  generalize (zs (if segE sl sh ns ls k a b = 0 then segL ns ls k a b else [])) = RL at *
  have c27 := Lib.hid (fun av bv W (hX : Il W.heap.size W av RL) (hY : Il W.heap.size W bv RL) => show Calls Try.prog 27 #[av, bv] W fun e w' => e = .returned (.bool true) ∧ Below W.heap.size W w' by
    have q := ints_any av bv RL RL W hX hY HSH
    rw [decide_eq_true rfl] at q
    exact q)
  clear HSH
  generalize segE sl sh ns ls k a b = SE at *
  generalize (dsS g e0 e1 f0 f1).lo = d0 at *
  generalize (dsS g e0 e1 f0 f1).hi = d1 at *
  generalize (dsS g e0 e1 f0 f1).e = d2 at *
  generalize (locR l).lo = r0 at *
  generalize (locR l).hi = r1 at *
  generalize (locR l).e = r2 at *
  generalize lng ns.length = LB at *
  generalize ns.length = n at *
  generalize ls.length = lm at *
  generalize l.length = mm at *
  obtain ⟨A, hA⟩ : ∃ A, A = ((w.alloc (.cells #[.int .i64 sl, .int .i64 sh, .slice ca n cap] 26)).alloc (.cells #[.int .i64 a, .int .i64 b] 23)).alloc (.cells #[.int .i64 g, .int .i64 e0, .int .i64 e1, .int .i64 f0, .int .i64 f1] 52) := ⟨_, rfl⟩
  have HBA := Lib.hid (show Below w.heap.size w A by rw [hA]; exact (((Below.refl _ _).alloc (Nat.le_refl _) _).alloc (by simp) _).alloc (by simp; omega) _)
  have hzA : A.heap.size = w.heap.size + 3 := by rw [hA]; simp
  have q0 : A.cell? ⟨w.heap.size, 0, none⟩ = some (.int .i64 sl) := by rw [hA]; simp [go_sem]
  have q1 : A.cell? ⟨w.heap.size, 1, none⟩ = some (.int .i64 sh) := by rw [hA]; simp [go_sem]
  have q2 : A.cell? ⟨w.heap.size, 2, none⟩ = some (.slice ca n cap) := by rw [hA]; simp [go_sem]
  have q3 : A.cell? ⟨w.heap.size + 1, 0, none⟩ = some (.int .i64 a) := by rw [hA]; simp [go_sem]
  have q4 : A.cell? ⟨w.heap.size + 1, 1, none⟩ = some (.int .i64 b) := by rw [hA]; simp [go_sem]
  have q5 : A.cell? ⟨w.heap.size + 2, 0, none⟩ = some (.int .i64 g) := by rw [hA]; simp [go_sem]
  have q6 : A.cell? ⟨w.heap.size + 2, 1, none⟩ = some (.int .i64 e0) := by rw [hA]; simp [go_sem]
  have q7 : A.cell? ⟨w.heap.size + 2, 2, none⟩ = some (.int .i64 e1) := by rw [hA]; simp [go_sem]
  have q8 : A.cell? ⟨w.heap.size + 2, 3, none⟩ = some (.int .i64 f0) := by rw [hA]; simp [go_sem]
  have q9 : A.cell? ⟨w.heap.size + 2, 4, none⟩ = some (.int .i64 f1) := by rw [hA]; simp [go_sem]
  have KK := Lib.hid (show ∀ W, Below A.heap.size A W → W.cell? ⟨w.heap.size, 0, none⟩ = some (.int .i64 sl) ∧ W.cell? ⟨w.heap.size, 1, none⟩ = some (.int .i64 sh) ∧ W.cell? ⟨w.heap.size, 2, none⟩ = some (.slice ca n cap) ∧ W.cell? ⟨w.heap.size + 1, 0, none⟩ = some (.int .i64 a) ∧ W.cell? ⟨w.heap.size + 1, 1, none⟩ = some (.int .i64 b) ∧ W.cell? ⟨w.heap.size + 2, 0, none⟩ = some (.int .i64 g) ∧ W.cell? ⟨w.heap.size + 2, 1, none⟩ = some (.int .i64 e0) ∧ W.cell? ⟨w.heap.size + 2, 2, none⟩ = some (.int .i64 e1) ∧ W.cell? ⟨w.heap.size + 2, 3, none⟩ = some (.int .i64 f0) ∧ W.cell? ⟨w.heap.size + 2, 4, none⟩ = some (.int .i64 f1) from fun W h => ⟨(h.cell (p := ⟨w.heap.size, 0, none⟩) (by show w.heap.size < A.heap.size; omega)).trans q0, (h.cell (p := ⟨w.heap.size, 1, none⟩) (by show w.heap.size < A.heap.size; omega)).trans q1, (h.cell (p := ⟨w.heap.size, 2, none⟩) (by show w.heap.size < A.heap.size; omega)).trans q2, (h.cell (p := ⟨w.heap.size + 1, 0, none⟩) (by show w.heap.size + 1 < A.heap.size; omega)).trans q3, (h.cell (p := ⟨w.heap.size + 1, 1, none⟩) (by show w.heap.size + 1 < A.heap.size; omega)).trans q4, (h.cell (p := ⟨w.heap.size + 2, 0, none⟩) (by show w.heap.size + 2 < A.heap.size; omega)).trans q5, (h.cell (p := ⟨w.heap.size + 2, 1, none⟩) (by show w.heap.size + 2 < A.heap.size; omega)).trans q6, (h.cell (p := ⟨w.heap.size + 2, 2, none⟩) (by show w.heap.size + 2 < A.heap.size; omega)).trans q7, (h.cell (p := ⟨w.heap.size + 2, 3, none⟩) (by show w.heap.size + 2 < A.heap.size; omega)).trans q8, (h.cell (p := ⟨w.heap.size + 2, 4, none⟩) (by show w.heap.size + 2 < A.heap.size; omega)).trans q9⟩)
  clear q0 q1 q2 q3 q4 q5 q6 q7 q8 q9 hzA
  obtain ⟨k0, k1, k2, k3, k4, m0, m1, m2, m3, m4⟩ := KK.out _ (Below.refl _ _)
  cases LB
  rotate_left
  · skip
    go_enter Try.func6, Try.ntmps6
    go_upto_region 1 with fail
    rw [← hA]
    clear hA
    go_wp2_with fail
    refine (c1 _).mono ?_
    rintro e w1 ⟨rfl, hb⟩
    have HC1 := Lib.hid hb
    clear hb k0 k1 k2 k3 k4 m0 m1 m2 m3 m4
    obtain ⟨k0, k1, k2, k3, k4, m0, m1, m2, m3, m4⟩ := KK.out _ HC1.out
    clear k0 k1 k2 k3 k4 m0 m1 m2 m3 m4
    go_wp2_with fail
    refine (c20 _).mono ?_
    rintro e w2 ⟨rfl, hb⟩
    have HB2 := Lib.hid (HC1.out.trans (hb.mono HC1.out.size))
    clear hb
    go_wp2_with fail
    go_ret
    exact ⟨rfl, HBA.out.trans (HB2.out.mono HBA.out.size)⟩
  by_cases hl : 100 < lm
  · have hl' : (100 : Int) < (lm : Int) := by omega
    go_enter Try.func6, Try.ntmps6
    go_upto_region 1 with fail
    rw [← hA]
    clear hA
    go_wp2_with fail
    refine (c1 _).mono ?_
    rintro e w1 ⟨rfl, hb⟩
    have HC1 := Lib.hid hb
    clear hb k0 k1 k2 k3 k4 m0 m1 m2 m3 m4
    obtain ⟨k0, k1, k2, k3, k4, m0, m1, m2, m3, m4⟩ := KK.out _ HC1.out
    clear k0 k1 k2 k3 k4 m0 m1 m2 m3 m4
    go_wp2_with fail
    refine (c20 _).mono ?_
    rintro e w2 ⟨rfl, hb⟩
    have HB2 := Lib.hid (HC1.out.trans (hb.mono HC1.out.size))
    clear hb
    go_wp2_with fail
    go_ret
    exact ⟨rfl, HBA.out.trans (HB2.out.mono HBA.out.size)⟩
  by_cases hm : 60 < mm
  · have hl' : ¬ (100 : Int) < (lm : Int) := by omega
    have hm' : (60 : Int) < (mm : Int) := by omega
    go_enter Try.func6, Try.ntmps6
    go_upto_region 1 with fail
    rw [← hA]
    clear hA
    go_wp2_with fail
    refine (c1 _).mono ?_
    rintro e w1 ⟨rfl, hb⟩
    have HC1 := Lib.hid hb
    clear hb k0 k1 k2 k3 k4 m0 m1 m2 m3 m4
    obtain ⟨k0, k1, k2, k3, k4, m0, m1, m2, m3, m4⟩ := KK.out _ HC1.out
    clear k0 k1 k2 k3 k4 m0 m1 m2 m3 m4
    go_wp2_with fail
    refine (c20 _).mono ?_
    rintro e w2 ⟨rfl, hb⟩
    have HB2 := Lib.hid (HC1.out.trans (hb.mono HC1.out.size))
    clear hb
    go_wp2_with fail
    go_ret
    exact ⟨rfl, HBA.out.trans (HB2.out.mono HBA.out.size)⟩
  have hl' : ¬ (100 : Int) < (lm : Int) := by omega
  have hm' : ¬ (60 : Int) < (mm : Int) := by omega
  go_enter Try.func6, Try.ntmps6
  go_upto_region 1 with fail
  rw [← hA]
  clear hA
  go_wp2_with fail
  refine (c1 _).mono ?_
  rintro e w1 ⟨rfl, hb⟩
  have HC1 := Lib.hid hb
  clear hb k0 k1 k2 k3 k4 m0 m1 m2 m3 m4
  obtain ⟨k0, k1, k2, k3, k4, m0, m1, m2, m3, m4⟩ := KK.out _ HC1.out
  go_wp2_with fail
  refine (c44.out _).mono ?_
  rintro e u1 ⟨rfl, hb⟩
  have HU1 := Lib.hid (HC1.out.trans (hb.mono HC1.out.size))
  obtain ⟨V1, hV1⟩ : ∃ V, V = u1.alloc (.cells #[.int .i64 d0, .int .i64 d1] 23) := ⟨_, rfl⟩
  have hbV : Below u1.heap.size u1 V1 := by rw [hV1]; exact (Below.refl _ _).alloc (Nat.le_refl _) _
  have HV1 := Lib.hid (HU1.out.trans (hbV.mono HU1.out.size))
  have X1 := Lib.hid (show Bx2 V1 u1.heap.size (.int .i64 d0) (.int .i64 d1) by rw [hV1]; exact Bx2.new _ _ _)
  clear hb k0 k1 k2 k3 k4 m0 m1 m2 m3 m4
  obtain ⟨k0, k1, k2, k3, k4, m0, m1, m2, m3, m4⟩ := KK.out _ HV1.out
  go_upto_region 4 with fail
  try rw [← hV1]
  clear hV1 hbV HU1
  generalize u1.heap.size = Q1 at *
  go_wp2_with fail
  refine (c45.out _).mono ?_
  rintro e u2 ⟨rfl, hb⟩
  have HU2 := Lib.hid (HV1.out.trans (hb.mono HV1.out.size))
  obtain ⟨V2, hV2⟩ : ∃ V, V = u2.alloc (.cells #[.int .i64 d0, .int .i64 d1] 23) := ⟨_, rfl⟩
  have hbV : Below u2.heap.size u2 V2 := by rw [hV2]; exact (Below.refl _ _).alloc (Nat.le_refl _) _
  have HV2 := Lib.hid (HU2.out.trans (hbV.mono HU2.out.size))
  replace X1 := Lib.hid ((X1.out.keep hb).keep hbV)
  have X2 := Lib.hid (show Bx2 V2 u2.heap.size (.int .i64 d0) (.int .i64 d1) by rw [hV2]; exact Bx2.new _ _ _)
  clear hb k0 k1 k2 k3 k4 m0 m1 m2 m3 m4
  obtain ⟨k0, k1, k2, k3, k4, m0, m1, m2, m3, m4⟩ := KK.out _ HV2.out
  go_upto_region 5 with fail
  try rw [← hV2]
  clear hV2 hbV HU2
  generalize u2.heap.size = Q2 at *
  go_wp2_with fail
  refine (c46.out _ (HBA.out.trans (HV2.out.mono HBA.out.size))).mono ?_
  rintro e u3 ⟨rfl, hb⟩
  have HU3 := Lib.hid (HV2.out.trans (hb.mono HV2.out.size))
  obtain ⟨V3, hV3⟩ : ∃ V, V = u3.alloc (.cells #[.int .i64 r0, .int .i64 r1] 23) := ⟨_, rfl⟩
  have hbV : Below u3.heap.size u3 V3 := by rw [hV3]; exact (Below.refl _ _).alloc (Nat.le_refl _) _
  have HV3 := Lib.hid (HU3.out.trans (hbV.mono HU3.out.size))
  replace X1 := Lib.hid ((X1.out.keep hb).keep hbV)
  replace X2 := Lib.hid ((X2.out.keep hb).keep hbV)
  have X3 := Lib.hid (show Bx2 V3 u3.heap.size (.int .i64 r0) (.int .i64 r1) by rw [hV3]; exact Bx2.new _ _ _)
  clear hb k0 k1 k2 k3 k4 m0 m1 m2 m3 m4
  obtain ⟨k0, k1, k2, k3, k4, m0, m1, m2, m3, m4⟩ := KK.out _ HV3.out
  go_upto_region 6 with fail
  try rw [← hV3]
  clear hV3 hbV HU3
  generalize u3.heap.size = Q3 at *
  go_wp2_with fail
  refine (c47.out _ (HBA.out.trans (HV3.out.mono HBA.out.size))).mono ?_
  rintro e u4 ⟨rfl, hb⟩
  have HU4 := Lib.hid (HV3.out.trans (hb.mono HV3.out.size))
  obtain ⟨V4, hV4⟩ : ∃ V, V = u4.alloc (.cells #[.int .i64 r0, .int .i64 r1] 23) := ⟨_, rfl⟩
  have hbV : Below u4.heap.size u4 V4 := by rw [hV4]; exact (Below.refl _ _).alloc (Nat.le_refl _) _
  have HV4 := Lib.hid (HU4.out.trans (hbV.mono HU4.out.size))
  replace X1 := Lib.hid ((X1.out.keep hb).keep hbV)
  replace X2 := Lib.hid ((X2.out.keep hb).keep hbV)
  replace X3 := Lib.hid ((X3.out.keep hb).keep hbV)
  have X4 := Lib.hid (show Bx2 V4 u4.heap.size (.int .i64 r0) (.int .i64 r1) by rw [hV4]; exact Bx2.new _ _ _)
  clear hb k0 k1 k2 k3 k4 m0 m1 m2 m3 m4
  obtain ⟨k0, k1, k2, k3, k4, m0, m1, m2, m3, m4⟩ := KK.out _ HV4.out
  go_upto_region 7 with fail
  try rw [← hV4]
  clear hV4 hbV HU4
  generalize u4.heap.size = Q4 at *
  clear k0 k1 k2 k3 k4 m0 m1 m2 m3 m4
  obtain ⟨k0, k1, k2, k3, k4, -, -, -, -, -⟩ := KK.out _ HV4.out
  have x10 := X1.out.c0
  have x11 := X1.out.c1
  have x20 := X2.out.c0
  have x21 := X2.out.c1
  have x30 := X3.out.c0
  have x31 := X3.out.c1
  have x40 := X4.out.c0
  have x41 := X4.out.c1
  go_wp2_with fail
  refine (c48.out _ (HBA.out.trans (HV4.out.mono HBA.out.size))).mono ?_
  rintro e w5 ⟨v5, rfl, hi5, hb⟩
  have HI5 := Lib.hid hi5
  have HW5 := Lib.hid (HV4.out.trans (hb.mono HV4.out.size))
  clear hb hi5 x10 x11 x20 x21 x30 x31 x40 x41 X1 X2 X3 X4 k0 k1 k2 k3 k4
  obtain ⟨k0, k1, k2, k3, k4, -, -, -, -, -⟩ := KK.out _ HW5.out
  go_wp2_with fail
  refine (c49.out _ (HBA.out.trans (HW5.out.mono HBA.out.size))).mono ?_
  rintro e w6 ⟨v6, rfl, hi6, hb⟩
  have HI6 := Lib.hid hi6
  have HI5' := Lib.hid (HI5.out.at hb)
  have HW6 := Lib.hid (HW5.out.trans (hb.mono HW5.out.size))
  clear hb hi6 HI5 k0 k1 k2 k3 k4
  go_wp2_with fail
  refine (c27.out _ _ _ HI5'.out HI6.out).mono ?_
  rintro e w7 ⟨rfl, hb⟩
  have HW7 := Lib.hid (HW6.out.trans (hb.mono HW6.out.size))
  clear hb
  go_wp2_with fail
  refine (c20 _).mono ?_
  rintro e w8 ⟨rfl, hb⟩
  have HW8 := Lib.hid (HW7.out.trans (hb.mono HW7.out.size))
  clear hb
  go_wp2_with fail
  go_ret
  exact ⟨rfl, HBA.out.trans (HW8.out.mono HBA.out.size)⟩
end Go.Proofs.Ytdohfpnnmppdkaa

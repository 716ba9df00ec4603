/-
  The walk of TopOffset, where no two exchanges contradict each other.
-/
import Derived.Test.YtcchmjbedppfnaaOfsA
namespace Go.Proofs.Ytcchmjbedppfnaa
open Go.RowKit Go.Shelf
set_option linter.unusedSimpArgs false
set_option maxRecDepth 100000 in
set_option maxHeartbeats 8000000 in
theorem law_offset0 (p r t : Int) (sv : Value) (xs : List Xc) (w : World) (hX : Xcs w.heap.size w sv xs) (hq0 : lrnE p r xs = 0 → sdB r (ofA r xs) = true) :
    Calls Try.prog 17 #[.agg #[.int .i64 p, .int .i64 r, sv], .int .i64 t] w fun e w' => e = .returned (.bool true) ∧ Below w.heap.size w w' := by
  have c59 := fun W => works05_any W
  have HQ0 := Lib.hid hq0
  clear hq0
  have c30 := Lib.hid (fun W (hb : Below w.heap.size w W) => contra30_any p r sv xs W (hX.at hb))
  have c24 := Lib.hid (fun W (hb : Below w.heap.size w W) => at24_any p r t sv xs W (hX.at hb))
  have c25 := Lib.hid (fun W (hb : Below w.heap.size w W) => rAt_any p r t sv xs W (hX.at hb))
  have c34 := Lib.hid (fun (i k : Int) W (hb : Below w.heap.size w W) => cck_any p r i k sv xs W (hX.at hb))
  obtain ⟨a, cap, rfl, -, hcc⟩ := hX
  have HC := Lib.hid hcc
  have HAT := Lib.hid (at_cases p r t xs)
  clear hcc
  unfold R3.out at c24 c25
  generalize hZ : atR p r xs t = Z at *
  clear hZ
  have few := Lib.hid (fun B W h => few_one xs.length a cap B W h)
  obtain ⟨A, hA⟩ : ∃ A, A = (w.alloc (.cells #[.int .i64 p, .int .i64 r, .slice a xs.length cap] 28)).alloc (.cells #[.int .i64 p, .int .i64 r, .slice a xs.length cap] 28) := ⟨_, rfl⟩
  have hzA : A.heap.size = w.heap.size + 2 := by rw [hA]; simp
  have HBA := Lib.hid (show Below w.heap.size w A by rw [hA]; exact ((Below.refl _ _).alloc (Nat.le_refl _) _).alloc (by simp) _)
  have k0 : A.cell? ⟨w.heap.size, 0, none⟩ = some (.int .i64 p) := by rw [hA]; simp [go_sem]
  have k1 : A.cell? ⟨w.heap.size, 1, none⟩ = some (.int .i64 r) := by rw [hA]; simp [go_sem]
  have k2 : A.cell? ⟨w.heap.size, 2, none⟩ = some (.slice a xs.length cap) := by rw [hA]; simp [go_sem]
  have kf : A.cell? ⟨w.heap.size + 1, 2, none⟩ = some (.slice a xs.length cap) := by rw [hA]; simp [go_sem]
  have KK := Lib.hid (show ∀ W, Below A.heap.size A W → W.cell? ⟨w.heap.size, 0, none⟩ = some (.int .i64 p) ∧ W.cell? ⟨w.heap.size, 1, none⟩ = some (.int .i64 r) ∧ W.cell? ⟨w.heap.size, 2, none⟩ = some (.slice a xs.length cap) from fun W h => ⟨(h.cell (p := ⟨w.heap.size, 0, none⟩) (by show w.heap.size < A.heap.size; omega)).trans k0, (h.cell (p := ⟨w.heap.size, 1, none⟩) (by show w.heap.size < A.heap.size; omega)).trans k1, (h.cell (p := ⟨w.heap.size, 2, none⟩) (by show w.heap.size < A.heap.size; omega)).trans k2⟩)
  have HUP := Lib.hid (show ∀ W, Below A.heap.size A W → Below w.heap.size w W from fun W h => HBA.out.trans (h.mono HBA.out.size))
  have cf := few.out _ A kf
  have HRA := Lib.hid (Below.refl A.heap.size A)
  clear k0 k1 k2 kf hzA few
  generalize hn : xs.length = n at *
  have HN := Lib.hid hn
  clear hn
  by_cases hbig : n ≤ 12
  case neg =>
    rw [decide_eq_false hbig] at cf
    go_enter Try.func17, Try.ntmps17
    go_wp2_with fail
    try rw [← hA]
    clear hA
    refine cf.mono ?_
    rintro e w0 ⟨rfl, rfl⟩
    go_wp2_with fail
    refine (c59 _).mono ?_
    rintro e w2 ⟨rfl, hb⟩
    have HB2 := Lib.hid (HRA.out.trans hb)
    clear hb
    go_wp2_with fail
    go_ret
    exact ⟨rfl, HUP.out _ HB2.out⟩
  rw [decide_eq_true hbig] at cf
  go_enter Try.func17, Try.ntmps17
  go_wp2_with fail
  try rw [← hA]
  clear hA
  refine cf.mono ?_
  rintro e w0 ⟨rfl, hw⟩
  have hw' := hw.symm
  subst hw'
  clear cf hw
  obtain ⟨g0, g1, g2⟩ := KK.out _ HRA.out
  go_wp2_with fail
  refine (c24.out _ (HUP.out _ HRA.out)).mono ?_
  rintro e w1 ⟨rfl, hb1⟩
  have HB1 := Lib.hid (HRA.out.trans hb1)
  clear hb1 g0 g1 g2
  go_upto_region 4 with fail
  obtain ⟨V1, hV⟩ : ∃ V, V = w1.alloc (.cells #[.int .i64 Z.lo, .int .i64 Z.hi] 23) := ⟨_, rfl⟩
  try rw [← hV]
  have HX1 := Lib.hid (show Bx2 V1 w1.heap.size (.int .i64 Z.lo) (.int .i64 Z.hi) by rw [hV]; exact Bx2.new _ _ _)
  have HV1 := Lib.hid (show Below A.heap.size A V1 by rw [hV]; exact HB1.out.alloc HB1.out.size _)
  clear hV
  generalize w1.heap.size = B5 at *
  obtain ⟨g0, g1, g2⟩ := KK.out _ HV1.out
  go_wp2_with fail
  refine (c25.out _ (HUP.out _ HV1.out)).mono ?_
  rintro e w2 ⟨rfl, hb⟩
  have HB2 := Lib.hid (HV1.out.trans (hb.mono HV1.out.size))
  have HX2 := Lib.hid (HX1.out.keep hb)
  clear hb g0 g1 g2 HX1
  go_upto_region 5 with fail
  obtain ⟨V2, hV⟩ : ∃ V, V = w2.alloc (.cells #[.int .i64 Z.lo, .int .i64 Z.hi] 23) := ⟨_, rfl⟩
  try rw [← hV]
  have HX := Lib.hid (show Bx2 V2 B5 (.int .i64 Z.lo) (.int .i64 Z.hi) by rw [hV]; exact HX2.out.keep ((Below.refl _ _).alloc (Nat.le_refl _) _))
  have HV2 := Lib.hid (show Below A.heap.size A V2 by rw [hV]; exact HB2.out.alloc HB2.out.size _)
  clear hV HX2 c24 c25
  rcases HAT.out with ⟨E, hE0, hE5, hZ⟩ | ⟨hl0, htm, hZ⟩
  case inl =>
    subst hZ
    dsimp only at HX
    obtain ⟨d0, d1⟩ := And.intro HX.out.c0 HX.out.c1
    dsimp only
    go_wp2_with fail
    refine (c59 _).mono ?_
    rintro e w3 ⟨rfl, hb⟩
    have HB3 := Lib.hid (HV2.out.trans (hb.mono HV2.out.size))
    clear hb
    go_wp2_with fail
    go_ret
    exact ⟨rfl, HUP.out _ HB3.out⟩
    all_goals
      have h : (E != 0) = false ∨ (E != 5) = false := by assumption
      rcases h with h | h
      · exact absurd (by simpa using h) hE0
      · exact absurd (by simpa using h) hE5
  have HT := Lib.hid htm
  have hsd : ∀ k, (sdB r (ofA r xs) = true → (acB r t xs k).1 ≤ (acB r t xs k).2) := fun k h => acB_ne hl0 htm h k
  have hok := fun k hk => okX_get ((lrnE_ok hl0).2.2.2 k hk)
  have hr0 := (rtB_iff r).1 (lrnE_ok hl0).2.2.1
  have HNE := Lib.hid hsd
  have HOK := Lib.hid hok
  have HR0 := Lib.hid hr0
  have HL0 := Lib.hid hl0
  rw [HN.out] at hok
  have HOK := Lib.hid hok
  clear hsd hok hr0 hl0
  have hEE : ∃ L H E, Z = ⟨L, H, E⟩ ∧ ((E = 0 ∧ sdB r (ofA r xs) = true ∧ L = (atS r t (ofA r xs)).1 ∧ H = (atS r t (ofA r xs)).2) ∨ (E = 5 ∧ sdB r (ofA r xs) = false)) := by
    rcases hZ with ⟨h1, h2⟩ | ⟨h1, h2⟩
    · exact ⟨_, _, _, h2, .inl ⟨rfl, h1, rfl, rfl⟩⟩
    · exact ⟨_, _, _, h2, .inr ⟨rfl, h1⟩⟩
  obtain ⟨oL, oH, E, rfl, hEE⟩ := hEE
  clear hZ htm HAT
  dsimp only at HX
  dsimp only
  rcases hEE with ⟨rfl, hS, hL, hH⟩ | ⟨rfl, hS⟩
  case inl =>
    have HSD := Lib.hid (And.intro hS (And.intro hL hH))
    clear hS hL hH
    go_upto_region 10 with fail
    obtain ⟨V3, hV⟩ : ∃ V, V = V2.alloc (.cells #[.int .i64 0, .int .i64 0] 23) := ⟨_, rfl⟩
    try rw [← hV]
    have HX0 := Lib.hid (show Bx2 V3 V2.heap.size (.int .i64 0) (.int .i64 0) by rw [hV]; exact Bx2.new _ _ _)
    have HV3 := Lib.hid (show Below V2.heap.size V2 V3 by rw [hV]; exact (Below.refl _ _).alloc (Nat.le_refl _) _)
    clear hV
    have HB5 := Lib.hid (show B5 < V2.heap.size from HX.out.lt)
    have HUA := Lib.hid (show ∀ W, Below V2.heap.size V2 W → Below A.heap.size A W from fun W h => HV2.out.trans (h.mono HV2.out.size))
    have HO5 := Lib.hid (show ∀ W, Below V2.heap.size V2 W → Bx2 W B5 (.int .i64 oL) (.int .i64 oH) from fun W h => HX.out.keep h)
    generalize hB9 : V2.heap.size = B9 at *
    have HB9 := Lib.hid hB9
    clear hB9 HX
    go_wp2_with fail
    go_loopw [10, 11] (fun fv iv wr => ∃ (k : Nat) (bl bh : Int), k ≤ n ∧ iv = .int .i64 k ∧ Bx2 wr B9 (.int .i64 bl) (.int .i64 bh) ∧ ((fv = .bool false ∧ (0 < k → bl = (acB r t xs k).1 ∧ bh = (acB r t xs k).2 ∧ vB bl bh = true)) ∨ (fv = .bool true ∧ sdB r (ofA r xs) = false)) ∧ Below B9 V2 wr) (fun _ iv _ => n - (intOf iv).toNat)
    case atStart => exact ⟨0, 0, 0, Nat.zero_le _, rfl, HX0.out, .inl ⟨rfl, fun h => absurd h (Nat.lt_irrefl _)⟩, HV3.out⟩
    case round =>
      obtain ⟨k, bl, bh, hk, rfl, hX9, hfl, hB⟩ := hrel
      have HX9 := Lib.hid hX9
      have HFL := Lib.hid hfl
      have HB := Lib.hid hB
      clear hX9 hfl hB
      by_cases hlt : k < n
      · have hki : (k : Int) < (n : Int) := by omega
        obtain ⟨b, off, hab, hb0, m0, m1, m2, m3, m4, m5, m6, m7⟩ := HC.out k hlt
        subst hab
        obtain ⟨q1, q2, q3, q4, q5⟩ := HOK.out k hlt
        have HXS := Lib.hid (show acB r t xs (k + 1) = meetS (acB r t xs k) (bnd r t (ofX r (xc xs k))) from acB_step (by rw [HN.out]; exact hlt))
        have HX1 := Lib.hid (show k = 0 → acB r t xs 1 = meetS (-9223372036854775808, 9223372036854775807) (bnd r t (ofX r (xc xs k))) from fun h => by subst h; rw [acB_step (by rw [HN.out]; exact hlt)]; rfl)
        have cO := fun W => offset_any (xc xs k) r W
        rw [q1] at cO
        unfold Xc.val R3.out at cO
        unfold bnd ofX at HXS HX1
        generalize xc xs k = x at *
        obtain ⟨se, he, an, ba, fLo, fHi, hLo, hHi⟩ := x
        dsimp only at *
        obtain ⟨⟨r1, r2, r3⟩, ⟨r4, r5, r6⟩, ⟨r7, r8, r9⟩, r10, r11, r12⟩ := (xcB_iff _).1 q3
        dsimp only at r1 r2 r3 r4 r5 r6 r7 r8 r9 r10 r11 r12
        have HTT := HT.out
        have hol : offL r ⟨se, he, an, ba, fLo, fHi, hLo, hHi⟩ = max (he - se - fHi - grw r (ba - se)) (an - ba + hLo) := rfl
        have hoh : offH r ⟨se, he, an, ba, fLo, fHi, hLo, hHi⟩ = min (he - se - fLo + grw r (ba - se)) (an - ba + hHi) := rfl
        have hg : max (t - ba) (-(t - ba)) = gap t ba := by unfold gap; omega
        have hgb : 0 ≤ gap t ba ∧ gap t ba ≤ 1125899906842624 := by unfold gap; omega
        generalize offL r ⟨se, he, an, ba, fLo, fHi, hLo, hHi⟩ = ol at *
        generalize offH r ⟨se, he, an, ba, fLo, fHi, hLo, hHi⟩ = oh at *
        have HW := HUP.out _ (HUA.out _ HB.out)
        obtain ⟨g0, g1, g2⟩ := KK.out _ (HUA.out _ HB.out)
        replace m0 := (HW.cell (p := ⟨b, _, none⟩) hb0).trans m0
        replace m1 := (HW.cell (p := ⟨b, _, none⟩) hb0).trans m1
        replace m2 := (HW.cell (p := ⟨b, _, none⟩) hb0).trans m2
        replace m3 := (HW.cell (p := ⟨b, _, none⟩) hb0).trans m3
        replace m4 := (HW.cell (p := ⟨b, _, none⟩) hb0).trans m4
        replace m5 := (HW.cell (p := ⟨b, _, none⟩) hb0).trans m5
        replace m6 := (HW.cell (p := ⟨b, _, none⟩) hb0).trans m6
        replace m7 := (HW.cell (p := ⟨b, _, none⟩) hb0).trans m7
        clear HW
        have w1 : IntKind.wrap .i64 (he - se) = he - se := by rw [IntKind.wrap_i64]; omega
        have w2 : IntKind.wrap .i64 (an - ba) = an - ba := by rw [IntKind.wrap_i64]; omega
        have w3 : IntKind.wrap .i64 (ba - se) = ba - se := by rw [IntKind.wrap_i64]; omega
        have w4 : IntKind.wrap .i64 (t - ba) = t - ba := by rw [IntKind.wrap_i64]; omega
        have c63a := fun W => amount_any (t - ba) (by omega) W
        rw [hg] at c63a
        clear hg
        generalize gap t ba = u at *
        have c63b := fun W => amount_any (he - se) (by omega) W
        have c63c := fun W => amount_any (an - ba) (by omega) W
        have hfa : max (he - se) (-(he - se)) = max (he - se) (se - he) := by omega
        have hga : max (an - ba) (-(an - ba)) = max (an - ba) (ba - an) := by omega
        rw [hfa] at c63b
        rw [hga] at c63c
        clear hfa hga
        obtain ⟨fa, hfa⟩ : ∃ z, z = max (he - se) (se - he) := ⟨_, rfl⟩
        obtain ⟨ga, hga⟩ : ∃ z, z = max (an - ba) (ba - an) := ⟨_, rfl⟩
        rw [← hfa] at c63b
        rw [← hga] at c63c
        go_upto_region 15 with fail
        obtain ⟨V4, hV⟩ : ∃ V, V = wr.alloc (.cells #[.int .i64 se, .int .i64 he, .int .i64 an, .int .i64 ba, .int .i64 fLo, .int .i64 fHi, .int .i64 hLo, .int .i64 hHi] 25) := ⟨_, rfl⟩
        try rw [← hV]
        have HV4 := Lib.hid (show Below B9 V2 V4 by rw [hV]; exact HB.out.alloc (by have := HB9.out; have := HB.out.size; omega) _)
        have HX94 := Lib.hid (show Bx2 V4 B9 (.int .i64 bl) (.int .i64 bh) by rw [hV]; exact HX9.out.keep ((Below.refl _ _).alloc (Nat.le_refl _) _))
        have e0 : V4.cell? ⟨wr.heap.size, 0, none⟩ = some (.int .i64 se) := by rw [hV]; simp [go_sem]
        have e1 : V4.cell? ⟨wr.heap.size, 1, none⟩ = some (.int .i64 he) := by rw [hV]; simp [go_sem]
        have e2 : V4.cell? ⟨wr.heap.size, 2, none⟩ = some (.int .i64 an) := by rw [hV]; simp [go_sem]
        have e3 : V4.cell? ⟨wr.heap.size, 3, none⟩ = some (.int .i64 ba) := by rw [hV]; simp [go_sem]
        have e4 : V4.cell? ⟨wr.heap.size, 4, none⟩ = some (.int .i64 fLo) := by rw [hV]; simp [go_sem]
        have e5 : V4.cell? ⟨wr.heap.size, 5, none⟩ = some (.int .i64 fHi) := by rw [hV]; simp [go_sem]
        have e6 : V4.cell? ⟨wr.heap.size, 6, none⟩ = some (.int .i64 hLo) := by rw [hV]; simp [go_sem]
        have e7 : V4.cell? ⟨wr.heap.size, 7, none⟩ = some (.int .i64 hHi) := by rw [hV]; simp [go_sem]
        have hz4 : wr.heap.size < V4.heap.size := by rw [hV]; simp
        have KW := Lib.hid (show ∀ W, Below V4.heap.size V4 W → W.cell? ⟨wr.heap.size, 0, none⟩ = some (.int .i64 se) ∧ W.cell? ⟨wr.heap.size, 1, none⟩ = some (.int .i64 he) ∧ W.cell? ⟨wr.heap.size, 2, none⟩ = some (.int .i64 an) ∧ W.cell? ⟨wr.heap.size, 3, none⟩ = some (.int .i64 ba) ∧ W.cell? ⟨wr.heap.size, 4, none⟩ = some (.int .i64 fLo) ∧ W.cell? ⟨wr.heap.size, 5, none⟩ = some (.int .i64 fHi) ∧ W.cell? ⟨wr.heap.size, 6, none⟩ = some (.int .i64 hLo) ∧ W.cell? ⟨wr.heap.size, 7, none⟩ = some (.int .i64 hHi) from fun W h => ⟨(h.cell (p := ⟨wr.heap.size, 0, none⟩) hz4).trans e0, (h.cell (p := ⟨wr.heap.size, 1, none⟩) hz4).trans e1, (h.cell (p := ⟨wr.heap.size, 2, none⟩) hz4).trans e2, (h.cell (p := ⟨wr.heap.size, 3, none⟩) hz4).trans e3, (h.cell (p := ⟨wr.heap.size, 4, none⟩) hz4).trans e4, (h.cell (p := ⟨wr.heap.size, 5, none⟩) hz4).trans e5, (h.cell (p := ⟨wr.heap.size, 6, none⟩) hz4).trans e6, (h.cell (p := ⟨wr.heap.size, 7, none⟩) hz4).trans e7⟩)
        have HUV := Lib.hid (show ∀ W, Below V4.heap.size V4 W → Below B9 V2 W from fun W h => HV4.out.trans (h.mono (by have := HX94.out.lt; omega)))
        have HX9U := Lib.hid (show ∀ W, Below V4.heap.size V4 W → Bx2 W B9 (.int .i64 bl) (.int .i64 bh) from fun W h => HX94.out.keep h)
        clear hV m0 m1 m2 m3 m4 m5 m6 m7 g0 g1 g2 hz4
        generalize wr.heap.size = B12 at *
        refine wp_region_held_drew (S := fun w' => w'.cell? ⟨B12, 0, none⟩ = some (.int .i64 se) ∧ w'.cell? ⟨B12, 1, none⟩ = some (.int .i64 he) ∧ w'.cell? ⟨B12, 2, none⟩ = some (.int .i64 an) ∧ w'.cell? ⟨B12, 3, none⟩ = some (.int .i64 ba) ∧ w'.cell? ⟨B12, 4, none⟩ = some (.int .i64 fLo) ∧ w'.cell? ⟨B12, 5, none⟩ = some (.int .i64 fHi) ∧ w'.cell? ⟨B12, 6, none⟩ = some (.int .i64 hLo) ∧ w'.cell? ⟨B12, 7, none⟩ = some (.int .i64 hHi)) (by kernel_rfl) ⟨by simpa [go_sem] using e0, by simpa [go_sem] using e1, by simpa [go_sem] using e2, by simpa [go_sem] using e3, by simpa [go_sem] using e4, by simpa [go_sem] using e5, by simpa [go_sem] using e6, by simpa [go_sem] using e7⟩ (fun hHeld => ?_)
        refine wpAnyH_take (i := 0) (oi := _) (v := Value.pointer (some ⟨B12, 1, none⟩)) rfl (by kernel_rfl) (by kernel_rfl) (by kernel_rfl) (fun _ _ _ h => h) (Or.inl ⟨by rfl, fun w' hSw => ?_⟩) hHeld ?_
        · obtain ⟨t0, t1, t2, t3, t4, t5, t6, t7⟩ := hSw
          go_simp
          try simp [*]
          try (intro hh; exfalso; omega)
          try omega
        try simp only [Act.put, List.setIfInBounds_toArray, List.set_cons_zero, List.set_cons_succ, List.getElem_toArray, List.getElem_cons_succ, List.getElem_cons_zero]
        refine wpAnyH_take (i := 1) (oi := _) (v := Value.int .i64 he) rfl (by kernel_rfl) (by kernel_rfl) (by kernel_rfl) (fun _ _ _ h => h) (Or.inl ⟨by rfl, fun w' hSw => ?_⟩) hHeld ?_
        · obtain ⟨t0, t1, t2, t3, t4, t5, t6, t7⟩ := hSw
          go_simp
          try simp [*]
          try (intro hh; exfalso; omega)
          try omega
        try simp only [Act.put, List.setIfInBounds_toArray, List.set_cons_zero, List.set_cons_succ, List.getElem_toArray, List.getElem_cons_succ, List.getElem_cons_zero]
        refine wpAnyH_take (i := 2) (oi := _) (v := Value.pointer (some ⟨B12, 0, none⟩)) rfl (by kernel_rfl) (by kernel_rfl) (by kernel_rfl) (fun _ _ _ h => h) (Or.inl ⟨by rfl, fun w' hSw => ?_⟩) hHeld ?_
        · obtain ⟨t0, t1, t2, t3, t4, t5, t6, t7⟩ := hSw
          go_simp
          try simp [*]
          try (intro hh; exfalso; omega)
          try omega
        try simp only [Act.put, List.setIfInBounds_toArray, List.set_cons_zero, List.set_cons_succ, List.getElem_toArray, List.getElem_cons_succ, List.getElem_cons_zero]
        refine wpAnyH_take (i := 3) (oi := _) (v := Value.int .i64 se) rfl (by kernel_rfl) (by kernel_rfl) (by kernel_rfl) (fun _ _ _ h => h) (Or.inl ⟨by rfl, fun w' hSw => ?_⟩) hHeld ?_
        · obtain ⟨t0, t1, t2, t3, t4, t5, t6, t7⟩ := hSw
          go_simp
          try simp [*]
          try (intro hh; exfalso; omega)
          try omega
        try simp only [Act.put, List.setIfInBounds_toArray, List.set_cons_zero, List.set_cons_succ, List.getElem_toArray, List.getElem_cons_succ, List.getElem_cons_zero]
        refine wpAnyH_take (i := 4) (oi := _) (v := Value.int .i64 (he - se)) rfl (by kernel_rfl) (by kernel_rfl) (by kernel_rfl) (fun _ _ _ h => h) (Or.inl ⟨by rfl, fun w' hSw => ?_⟩) hHeld ?_
        · obtain ⟨t0, t1, t2, t3, t4, t5, t6, t7⟩ := hSw
          go_simp
          try simp [*]
          try (intro hh; exfalso; omega)
          try omega
        try simp only [Act.put, List.setIfInBounds_toArray, List.set_cons_zero, List.set_cons_succ, List.getElem_toArray, List.getElem_cons_succ, List.getElem_cons_zero]
        refine wpAnyH_take (i := 5) (oi := _) (v := Value.pointer (some ⟨B12, 2, none⟩)) rfl (by kernel_rfl) (by kernel_rfl) (by kernel_rfl) (fun _ _ _ h => h) (Or.inl ⟨by rfl, fun w' hSw => ?_⟩) hHeld ?_
        · obtain ⟨t0, t1, t2, t3, t4, t5, t6, t7⟩ := hSw
          go_simp
          try simp [*]
          try (intro hh; exfalso; omega)
          try omega
        try simp only [Act.put, List.setIfInBounds_toArray, List.set_cons_zero, List.set_cons_succ, List.getElem_toArray, List.getElem_cons_succ, List.getElem_cons_zero]
        refine wpAnyH_take (i := 6) (oi := _) (v := Value.int .i64 an) rfl (by kernel_rfl) (by kernel_rfl) (by kernel_rfl) (fun _ _ _ h => h) (Or.inl ⟨by rfl, fun w' hSw => ?_⟩) hHeld ?_
        · obtain ⟨t0, t1, t2, t3, t4, t5, t6, t7⟩ := hSw
          go_simp
          try simp [*]
          try (intro hh; exfalso; omega)
          try omega
        try simp only [Act.put, List.setIfInBounds_toArray, List.set_cons_zero, List.set_cons_succ, List.getElem_toArray, List.getElem_cons_succ, List.getElem_cons_zero]
        refine wpAnyH_take (i := 7) (oi := _) (v := Value.pointer (some ⟨B12, 3, none⟩)) rfl (by kernel_rfl) (by kernel_rfl) (by kernel_rfl) (fun _ _ _ h => h) (Or.inl ⟨by rfl, fun w' hSw => ?_⟩) hHeld ?_
        · obtain ⟨t0, t1, t2, t3, t4, t5, t6, t7⟩ := hSw
          go_simp
          try simp [*]
          try (intro hh; exfalso; omega)
          try omega
        try simp only [Act.put, List.setIfInBounds_toArray, List.set_cons_zero, List.set_cons_succ, List.getElem_toArray, List.getElem_cons_succ, List.getElem_cons_zero]
        refine wpAnyH_take (i := 8) (oi := _) (v := Value.int .i64 ba) rfl (by kernel_rfl) (by kernel_rfl) (by kernel_rfl) (fun _ _ _ h => h) (Or.inl ⟨by rfl, fun w' hSw => ?_⟩) hHeld ?_
        · obtain ⟨t0, t1, t2, t3, t4, t5, t6, t7⟩ := hSw
          go_simp
          try simp [*]
          try (intro hh; exfalso; omega)
          try omega
        try simp only [Act.put, List.setIfInBounds_toArray, List.set_cons_zero, List.set_cons_succ, List.getElem_toArray, List.getElem_cons_succ, List.getElem_cons_zero]
        refine wpAnyH_take (i := 9) (oi := _) (v := Value.int .i64 (an - ba)) rfl (by kernel_rfl) (by kernel_rfl) (by kernel_rfl) (fun _ _ _ h => h) (Or.inl ⟨by rfl, fun w' hSw => ?_⟩) hHeld ?_
        · obtain ⟨t0, t1, t2, t3, t4, t5, t6, t7⟩ := hSw
          go_simp
          try simp [*]
          try (intro hh; exfalso; omega)
          try omega
        try simp only [Act.put, List.setIfInBounds_toArray, List.set_cons_zero, List.set_cons_succ, List.getElem_toArray, List.getElem_cons_succ, List.getElem_cons_zero]
        refine wpAnyH_take (i := 10) (oi := _) (v := Value.pointer (some ⟨B12, 3, none⟩)) rfl (by kernel_rfl) (by kernel_rfl) (by kernel_rfl) (fun _ _ _ h => h) (Or.inl ⟨by rfl, fun w' hSw => ?_⟩) hHeld ?_
        · obtain ⟨t0, t1, t2, t3, t4, t5, t6, t7⟩ := hSw
          go_simp
          try simp [*]
          try (intro hh; exfalso; omega)
          try omega
        try simp only [Act.put, List.setIfInBounds_toArray, List.set_cons_zero, List.set_cons_succ, List.getElem_toArray, List.getElem_cons_succ, List.getElem_cons_zero]
        refine wpAnyH_take (i := 11) (oi := _) (v := Value.int .i64 ba) rfl (by kernel_rfl) (by kernel_rfl) (by kernel_rfl) (fun _ _ _ h => h) (Or.inl ⟨by rfl, fun w' hSw => ?_⟩) hHeld ?_
        · obtain ⟨t0, t1, t2, t3, t4, t5, t6, t7⟩ := hSw
          go_simp
          try simp [*]
          try (intro hh; exfalso; omega)
          try omega
        try simp only [Act.put, List.setIfInBounds_toArray, List.set_cons_zero, List.set_cons_succ, List.getElem_toArray, List.getElem_cons_succ, List.getElem_cons_zero]
        refine wpAnyH_take (i := 12) (oi := _) (v := Value.pointer (some ⟨B12, 0, none⟩)) rfl (by kernel_rfl) (by kernel_rfl) (by kernel_rfl) (fun _ _ _ h => h) (Or.inl ⟨by rfl, fun w' hSw => ?_⟩) hHeld ?_
        · obtain ⟨t0, t1, t2, t3, t4, t5, t6, t7⟩ := hSw
          go_simp
          try simp [*]
          try (intro hh; exfalso; omega)
          try omega
        try simp only [Act.put, List.setIfInBounds_toArray, List.set_cons_zero, List.set_cons_succ, List.getElem_toArray, List.getElem_cons_succ, List.getElem_cons_zero]
        refine wpAnyH_take (i := 13) (oi := _) (v := Value.int .i64 se) rfl (by kernel_rfl) (by kernel_rfl) (by kernel_rfl) (fun _ _ _ h => h) (Or.inl ⟨by rfl, fun w' hSw => ?_⟩) hHeld ?_
        · obtain ⟨t0, t1, t2, t3, t4, t5, t6, t7⟩ := hSw
          go_simp
          try simp [*]
          try (intro hh; exfalso; omega)
          try omega
        try simp only [Act.put, List.setIfInBounds_toArray, List.set_cons_zero, List.set_cons_succ, List.getElem_toArray, List.getElem_cons_succ, List.getElem_cons_zero]
        refine wpAnyH_take (i := 14) (oi := _) (v := Value.int .i64 (ba - se)) rfl (by kernel_rfl) (by kernel_rfl) (by kernel_rfl) (fun _ _ _ h => h) (Or.inl ⟨by rfl, fun w' hSw => ?_⟩) hHeld ?_
        · obtain ⟨t0, t1, t2, t3, t4, t5, t6, t7⟩ := hSw
          go_simp
          try simp [*]
          try (intro hh; exfalso; omega)
          try omega
        try simp only [Act.put, List.setIfInBounds_toArray, List.set_cons_zero, List.set_cons_succ, List.getElem_toArray, List.getElem_cons_succ, List.getElem_cons_zero]
        refine wpAnyH_take (i := 15) (oi := _) (v := Value.int .i64 t) rfl (by kernel_rfl) (by kernel_rfl) (by kernel_rfl) (fun _ _ _ h => h) (Or.inl ⟨by rfl, fun w' hSw => ?_⟩) hHeld ?_
        · obtain ⟨t0, t1, t2, t3, t4, t5, t6, t7⟩ := hSw
          go_simp
          try simp [*]
          try (intro hh; exfalso; omega)
          try omega
        try simp only [Act.put, List.setIfInBounds_toArray, List.set_cons_zero, List.set_cons_succ, List.getElem_toArray, List.getElem_cons_succ, List.getElem_cons_zero]
        refine wpAnyH_take (i := 16) (oi := _) (v := Value.pointer (some ⟨B12, 3, none⟩)) rfl (by kernel_rfl) (by kernel_rfl) (by kernel_rfl) (fun _ _ _ h => h) (Or.inl ⟨by rfl, fun w' hSw => ?_⟩) hHeld ?_
        · obtain ⟨t0, t1, t2, t3, t4, t5, t6, t7⟩ := hSw
          go_simp
          try simp [*]
          try (intro hh; exfalso; omega)
          try omega
        try simp only [Act.put, List.setIfInBounds_toArray, List.set_cons_zero, List.set_cons_succ, List.getElem_toArray, List.getElem_cons_succ, List.getElem_cons_zero]
        refine wpAnyH_take (i := 17) (oi := _) (v := Value.int .i64 ba) rfl (by kernel_rfl) (by kernel_rfl) (by kernel_rfl) (fun _ _ _ h => h) (Or.inl ⟨by rfl, fun w' hSw => ?_⟩) hHeld ?_
        · obtain ⟨t0, t1, t2, t3, t4, t5, t6, t7⟩ := hSw
          go_simp
          try simp [*]
          try (intro hh; exfalso; omega)
          try omega
        try simp only [Act.put, List.setIfInBounds_toArray, List.set_cons_zero, List.set_cons_succ, List.getElem_toArray, List.getElem_cons_succ, List.getElem_cons_zero]
        refine wpAnyH_take (i := 18) (oi := _) (v := Value.int .i64 (t - ba)) rfl (by kernel_rfl) (by kernel_rfl) (by kernel_rfl) (fun _ _ _ h => h) (Or.inl ⟨by rfl, fun w' hSw => ?_⟩) hHeld ?_
        · obtain ⟨t0, t1, t2, t3, t4, t5, t6, t7⟩ := hSw
          go_simp
          try simp [*]
          try (intro hh; exfalso; omega)
          try omega
        try simp only [Act.put, List.setIfInBounds_toArray, List.set_cons_zero, List.set_cons_succ, List.getElem_toArray, List.getElem_cons_succ, List.getElem_cons_zero]
        have HD1 := Lib.hid (show Below V4.heap.size V4 _ from (Below.refl V4.heap.size V4).drew)
        refine wpAnyH_ready (rs := [19]) (by kernel_rfl) (by simp) ?_
        refine AllReadyH.cons (o := _) rfl (fun K hK => ?_) AllReadyH.nil
        go_simp
        go_at_call 63
        refine Calls.mono (c63a _) ?_
        rintro e v1 ⟨rfl, hb⟩
        have hb' := hb.symm
        subst hb'
        clear hb
        clear hHeld
        refine hK.out _ _ (KW.out _ HD1.out) (fun hHeld => ?_)
        clear hK K
        try simp only [Act.put, List.setIfInBounds_toArray, List.set_cons_zero, List.set_cons_succ, List.getElem_toArray, List.getElem_cons_succ, List.getElem_cons_zero]
        refine wpAnyH_take (i := 20) (oi := _) (v := Value.int .i64 (he - se)) rfl (by kernel_rfl) (by kernel_rfl) (by kernel_rfl) (fun _ _ _ h => h) (Or.inl ⟨by rfl, fun w' hSw => ?_⟩) hHeld ?_
        · obtain ⟨t0, t1, t2, t3, t4, t5, t6, t7⟩ := hSw
          go_simp
          try simp [*]
          try (intro hh; exfalso; omega)
          try omega
        try simp only [Act.put, List.setIfInBounds_toArray, List.set_cons_zero, List.set_cons_succ, List.getElem_toArray, List.getElem_cons_succ, List.getElem_cons_zero]
        refine wpAnyH_take (i := 21) (oi := _) (v := Value.int .i64 (an - ba)) rfl (by kernel_rfl) (by kernel_rfl) (by kernel_rfl) (fun _ _ _ h => h) (Or.inl ⟨by rfl, fun w' hSw => ?_⟩) hHeld ?_
        · obtain ⟨t0, t1, t2, t3, t4, t5, t6, t7⟩ := hSw
          go_simp
          try simp [*]
          try (intro hh; exfalso; omega)
          try omega
        try simp only [Act.put, List.setIfInBounds_toArray, List.set_cons_zero, List.set_cons_succ, List.getElem_toArray, List.getElem_cons_succ, List.getElem_cons_zero]
        refine wpAnyH_take (i := 22) (oi := _) (v := Value.int .i64 (ba - se)) rfl (by kernel_rfl) (by kernel_rfl) (by kernel_rfl) (fun _ _ _ h => h) (Or.inl ⟨by rfl, fun w' hSw => ?_⟩) hHeld ?_
        · obtain ⟨t0, t1, t2, t3, t4, t5, t6, t7⟩ := hSw
          go_simp
          try simp [*]
          try (intro hh; exfalso; omega)
          try omega
        try simp only [Act.put, List.setIfInBounds_toArray, List.set_cons_zero, List.set_cons_succ, List.getElem_toArray, List.getElem_cons_succ, List.getElem_cons_zero]
        refine wpAnyH_take (i := 23) (oi := _) (v := Value.int .i64 u) rfl (by kernel_rfl) (by kernel_rfl) (by kernel_rfl) (fun _ _ _ h => h) (Or.inl ⟨by rfl, fun w' hSw => ?_⟩) hHeld ?_
        · obtain ⟨t0, t1, t2, t3, t4, t5, t6, t7⟩ := hSw
          go_simp
          try simp [*]
          try (intro hh; exfalso; omega)
          try omega
        try simp only [Act.put, List.setIfInBounds_toArray, List.set_cons_zero, List.set_cons_succ, List.getElem_toArray, List.getElem_cons_succ, List.getElem_cons_zero]
        refine wpAnyH_done (by kernel_rfl) ?_ _
        clear hHeld e0 e1 e2 e3 e4 e5 e6 e7
        obtain ⟨e0, e1, e2, e3, e4, e5, e6, e7⟩ := KW.out _ HD1.out
        go_wp2_with fail
        refine (c63b _).mono ?_
        rintro e v1 ⟨rfl, hb⟩
        have hb' := hb.symm
        subst hb'
        clear hb
        go_wp2_with fail
        refine (c63c _).mono ?_
        rintro e v1 ⟨rfl, hb⟩
        have hb' := hb.symm
        subst hb'
        clear hb
        by_cases hM : (1073741824 : Int) < max (max (max fa ga) (ba - se)) u
        · go_wp2_with fail
          refine (c59 _).mono ?_
          rintro e v2 ⟨rfl, hb⟩
          have HB2 := Lib.hid (HD1.out.trans (hb.mono HD1.out.size))
          clear hb
          go_wp2_with fail
          go_ret
          exact ⟨rfl, HUP.out _ (HUA.out _ (HUV.out _ HB2.out))⟩
        go_upto_region 18 with fail
        have hrr := HR0.out
        have hgp : 0 ≤ grw r (ba - se) ∧ grw r (ba - se) ≤ 1073741824 := ⟨grw_nn hrr.1 (by omega), by have := grw_le (r := r) (d := ba - se) hrr (by omega); omega⟩
        have hgu : 0 ≤ grw r u ∧ grw r u ≤ 1073741824 := ⟨grw_nn hrr.1 hgb.1, by have := grw_le (r := r) (d := u) hrr hgb.1; omega⟩
        obtain ⟨s1, cS1⟩ := scale_two (r := r) (d := ba - se) hrr ⟨by omega, by omega⟩
        obtain ⟨s2, cS2⟩ := scale_two (r := r) (d := u) hrr ⟨by omega, by omega⟩
        obtain ⟨a0, a1, ea, cSub, hAA⟩ := sub_two (F := he - se) (a := fLo) (b := fHi) ⟨by omega, by omega⟩ ((vB_iff _ _).2 (by omega))
        obtain ⟨b0, b1, eb, cAdd, hBB⟩ := add_two (F := an - ba) (a := hLo) (b := hHi) ⟨by omega, by omega⟩ ((vB_iff _ _).2 (by omega))
        generalize grw r (ba - se) = gp at *
        generalize grw r u = gu at *
        have HFA := Lib.hid (And.intro hgp (And.intro hgu (And.intro hol (And.intro hoh (And.intro q2 q5)))))
        clear hgp hgu hol hoh q1 q2 q3 q4 q5 hgb hfa hga c63a c63b c63c
        obtain ⟨g0, g1, g2⟩ := KK.out _ (HUA.out _ (HUV.out _ HD1.out))
        go_wp2_with fail
        refine (cS1 _).mono ?_
        rintro e w5 ⟨rfl, hb⟩
        have HW5 := Lib.hid (HD1.out.trans (hb.mono HD1.out.size))
        clear hb g0 g1 g2 e0 e1 e2 e3 e4 e5 e6 e7
        go_upto_region 19 with fail
        obtain ⟨V5, hV⟩ : ∃ V, V = w5.alloc (.cells #[.int .i64 s1, .int .i64 gp] 23) := ⟨_, rfl⟩
        try rw [← hV]
        have HD5 := Lib.hid (show Below V4.heap.size V4 V5 by rw [hV]; exact HW5.out.alloc HW5.out.size _)
        have HX17 := Lib.hid (show Bx2 V5 w5.heap.size (.int .i64 s1) (.int .i64 gp) by rw [hV]; exact Bx2.new _ _ _)
        have HLE17 := Lib.hid (show V4.heap.size ≤ w5.heap.size from HW5.out.size)
        clear hV
        generalize w5.heap.size = B17 at *
        obtain ⟨g0, g1, g2⟩ := KK.out _ (HUA.out _ (HUV.out _ HD5.out))
        go_wp2_with fail
        refine (cS2 _).mono ?_
        rintro e w6 ⟨rfl, hb⟩
        have HW6 := Lib.hid (HD5.out.trans (hb.mono HD5.out.size))
        have HX17' := Lib.hid (HX17.out.keep hb)
        clear HX17
        have HX17 := HX17'
        clear HX17'
        clear hb g0 g1 g2
        go_upto_region 20 with fail
        obtain ⟨V6, hV⟩ : ∃ V, V = w6.alloc (.cells #[.int .i64 s2, .int .i64 gu] 23) := ⟨_, rfl⟩
        try rw [← hV]
        have HD6 := Lib.hid (show Below V4.heap.size V4 V6 by rw [hV]; exact HW6.out.alloc HW6.out.size _)
        have HX19 := Lib.hid (show Bx2 V6 w6.heap.size (.int .i64 s2) (.int .i64 gu) by rw [hV]; exact Bx2.new _ _ _)
        have HNE17_19 := Lib.hid (show B17 ≠ w6.heap.size from Nat.ne_of_lt HX17.out.lt)
        have HLE19 := Lib.hid (show V4.heap.size ≤ w6.heap.size from HW6.out.size)
        have HX17' := Lib.hid (HX17.out.keep (show Below _ w6 V6 by rw [hV]; exact (Below.refl _ _).alloc (Nat.le_refl _) _))
        clear HX17
        have HX17 := HX17'
        clear HX17'
        clear hV
        generalize w6.heap.size = B19 at *
        obtain ⟨e0, e1, e2, e3, e4, e5, e6, e7⟩ := KW.out _ HD6.out
        go_wp2_with fail
        refine (cSub _).mono ?_
        rintro e w7 ⟨rfl, hb⟩
        have HW7 := Lib.hid (HD6.out.trans (hb.mono HD6.out.size))
        have HX17' := Lib.hid (HX17.out.keep hb)
        clear HX17
        have HX17 := HX17'
        clear HX17'
        have HX19' := Lib.hid (HX19.out.keep hb)
        clear HX19
        have HX19 := HX19'
        clear HX19'
        clear hb e0 e1 e2 e3 e4 e5 e6 e7
        go_upto_region 21 with fail
        obtain ⟨V7, hV⟩ : ∃ V, V = w7.alloc (.cells #[.int .i64 a0, .int .i64 a1] 23) := ⟨_, rfl⟩
        try rw [← hV]
        have HD7 := Lib.hid (show Below V4.heap.size V4 V7 by rw [hV]; exact HW7.out.alloc HW7.out.size _)
        have HX21 := Lib.hid (show Bx2 V7 w7.heap.size (.int .i64 a0) (.int .i64 a1) by rw [hV]; exact Bx2.new _ _ _)
        have HNE17_21 := Lib.hid (show B17 ≠ w7.heap.size from Nat.ne_of_lt HX17.out.lt)
        have HNE19_21 := Lib.hid (show B19 ≠ w7.heap.size from Nat.ne_of_lt HX19.out.lt)
        have HLE21 := Lib.hid (show V4.heap.size ≤ w7.heap.size from HW7.out.size)
        have HX17' := Lib.hid (HX17.out.keep (show Below _ w7 V7 by rw [hV]; exact (Below.refl _ _).alloc (Nat.le_refl _) _))
        clear HX17
        have HX17 := HX17'
        clear HX17'
        have HX19' := Lib.hid (HX19.out.keep (show Below _ w7 V7 by rw [hV]; exact (Below.refl _ _).alloc (Nat.le_refl _) _))
        clear HX19
        have HX19 := HX19'
        clear HX19'
        clear hV
        generalize w7.heap.size = B21 at *
        obtain ⟨e0, e1, e2, e3, e4, e5, e6, e7⟩ := KW.out _ HD7.out
        go_wp2_with fail
        refine (cAdd _).mono ?_
        rintro e w8 ⟨rfl, hb⟩
        have HW8 := Lib.hid (HD7.out.trans (hb.mono HD7.out.size))
        have HX17' := Lib.hid (HX17.out.keep hb)
        clear HX17
        have HX17 := HX17'
        clear HX17'
        have HX19' := Lib.hid (HX19.out.keep hb)
        clear HX19
        have HX19 := HX19'
        clear HX19'
        have HX21' := Lib.hid (HX21.out.keep hb)
        clear HX21
        have HX21 := HX21'
        clear HX21'
        clear hb e0 e1 e2 e3 e4 e5 e6 e7
        go_upto_region 22 with fail
        obtain ⟨V8, hV⟩ : ∃ V, V = w8.alloc (.cells #[.int .i64 b0, .int .i64 b1] 23) := ⟨_, rfl⟩
        try rw [← hV]
        have HD8 := Lib.hid (show Below V4.heap.size V4 V8 by rw [hV]; exact HW8.out.alloc HW8.out.size _)
        have HX23 := Lib.hid (show Bx2 V8 w8.heap.size (.int .i64 b0) (.int .i64 b1) by rw [hV]; exact Bx2.new _ _ _)
        have HNE17_23 := Lib.hid (show B17 ≠ w8.heap.size from Nat.ne_of_lt HX17.out.lt)
        have HNE19_23 := Lib.hid (show B19 ≠ w8.heap.size from Nat.ne_of_lt HX19.out.lt)
        have HNE21_23 := Lib.hid (show B21 ≠ w8.heap.size from Nat.ne_of_lt HX21.out.lt)
        have HLE23 := Lib.hid (show V4.heap.size ≤ w8.heap.size from HW8.out.size)
        have HX17' := Lib.hid (HX17.out.keep (show Below _ w8 V8 by rw [hV]; exact (Below.refl _ _).alloc (Nat.le_refl _) _))
        clear HX17
        have HX17 := HX17'
        clear HX17'
        have HX19' := Lib.hid (HX19.out.keep (show Below _ w8 V8 by rw [hV]; exact (Below.refl _ _).alloc (Nat.le_refl _) _))
        clear HX19
        have HX19 := HX19'
        clear HX19'
        have HX21' := Lib.hid (HX21.out.keep (show Below _ w8 V8 by rw [hV]; exact (Below.refl _ _).alloc (Nat.le_refl _) _))
        clear HX21
        have HX21 := HX21'
        clear HX21'
        clear hV
        generalize w8.heap.size = B23 at *
        rcases hAA with ⟨va, ha0, ha1, rfl⟩ | rfl
        case inr =>
          rcases hBB with ⟨vb, hb0, hb1, rfl⟩ | rfl
          all_goals
            go_wp2_with fail
            refine (c59 _).mono ?_
            rintro e v2 ⟨rfl, hb⟩
            have HBZ := Lib.hid (HD8.out.trans (hb.mono HD8.out.size))
            clear hb
            go_wp2_with fail
            go_ret
            exact ⟨rfl, HUP.out _ (HUA.out _ (HUV.out _ HBZ.out))⟩
        rcases hBB with ⟨vb, hb0, hb1, rfl⟩ | rfl
        case inr =>
          go_wp2_with fail
          refine (c59 _).mono ?_
          rintro e v2 ⟨rfl, hb⟩
          have HBZ := Lib.hid (HD8.out.trans (hb.mono HD8.out.size))
          clear hb
          go_wp2_with fail
          go_ret
          exact ⟨rfl, HUP.out _ (HUA.out _ (HUV.out _ HBZ.out))⟩
        have hav : vB a0 a1 = true := by rw [ha0, ha1]; exact va
        have hbv : vB b0 b1 = true := by rw [hb0, hb1]; exact vb
        obtain ⟨c0, c1, ec, cGr, hCC⟩ := grow_two (a := a0) (b := a1) (g := gp) hav HFA.out.1
        have HAB := Lib.hid (And.intro (And.intro ha0 ha1) (And.intro hb0 hb1))
        have HBV := Lib.hid hbv
        clear ha0 ha1 hb0 hb1 va vb hav hbv
        obtain ⟨x21a, x21b⟩ := And.intro HX21.out.c0 HX21.out.c1
        obtain ⟨x17a, x17b⟩ := And.intro HX17.out.c0 HX17.out.c1
        go_wp2_with fail
        refine (cGr _).mono ?_
        rintro e w9 ⟨rfl, hb⟩
        have HW9 := Lib.hid (HD8.out.trans (hb.mono HD8.out.size))
        have HX17' := Lib.hid (HX17.out.keep hb)
        clear HX17
        have HX17 := HX17'
        clear HX17'
        have HX19' := Lib.hid (HX19.out.keep hb)
        clear HX19
        have HX19 := HX19'
        clear HX19'
        have HX21' := Lib.hid (HX21.out.keep hb)
        clear HX21
        have HX21 := HX21'
        clear HX21'
        have HX23' := Lib.hid (HX23.out.keep hb)
        clear HX23
        have HX23 := HX23'
        clear HX23'
        clear hb x21a x21b x17a x17b
        obtain ⟨x21a, x21b⟩ := And.intro HX21.out.c0 HX21.out.c1
        obtain ⟨f21a, f21b⟩ := And.intro (HX21.out.f0 0) (HX21.out.f0 1)
        go_upto_region 27 with fail
        clear x21a x21b f21a f21b
        obtain ⟨V9, hV⟩ : ∃ V, V = (w9.setCell ⟨B21, 0, none⟩ (.int .i64 c0)).setCell ⟨B21, 1, none⟩ (.int .i64 c1) := ⟨_, rfl⟩
        try rw [← hV]
        have HD9 := Lib.hid (show Below V4.heap.size V4 V9 by rw [hV]; exact (HW9.out.setCell (p := ⟨B21, 0, none⟩) HLE21.out _).setCell (p := ⟨B21, 1, none⟩) HLE21.out _)
        have HX21' := Lib.hid (show Bx2 V9 B21 (.int .i64 c0) (.int .i64 c1) by rw [hV]; exact HX21.out.set _ _)
        clear HX21
        have HX21 := HX21'
        clear HX21'
        have HX17' := Lib.hid (show Bx2 V9 B17 _ _ by rw [hV]; exact (HX17.out.far HNE17_21.out).far HNE17_21.out)
        clear HX17
        have HX17 := HX17'
        clear HX17'
        have HX19' := Lib.hid (show Bx2 V9 B19 _ _ by rw [hV]; exact (HX19.out.far HNE19_21.out).far HNE19_21.out)
        clear HX19
        have HX19 := HX19'
        clear HX19'
        have HX23' := Lib.hid (show Bx2 V9 B23 _ _ by rw [hV]; exact (HX23.out.far (Ne.symm HNE21_23.out)).far (Ne.symm HNE21_23.out))
        clear HX23
        have HX23 := HX23'
        clear HX23'
        clear hV
        rcases hCC with ⟨vc, hc0, hc1, rfl⟩ | rfl
        case inr =>
          go_wp2_with fail
          refine (c59 _).mono ?_
          rintro e v2 ⟨rfl, hb⟩
          have HBZ := Lib.hid (HD9.out.trans (hb.mono HD9.out.size))
          clear hb
          go_wp2_with fail
          go_ret
          exact ⟨rfl, HUP.out _ (HUA.out _ (HUV.out _ HBZ.out))⟩
        have hcv : vB c0 c1 = true := by rw [hc0, hc1]; exact vc
        obtain ⟨m0, m1, em, cMe, hMM⟩ := meet_two hcv HBV.out
        obtain ⟨⟨ha0, ha1⟩, hb0, hb1⟩ := HAB.out
        have hmm : m0 = ol ∧ m1 = oh ∧ em = 0 := by
          obtain ⟨-, -, ho1, ho2, -, ho3⟩ := HFA.out
          rcases hMM with ⟨q1, q2, q3, q4⟩ | ⟨q1, -⟩ <;> omega
        rw [hmm.1, hmm.2.1, hmm.2.2] at cMe
        have HVV := Lib.hid HFA.out.2.2.2.2.1
        clear hmm hMM ha0 ha1 hb0 hb1 vc hc0 hc1 hcv HAB HBV
        obtain ⟨x21a, x21b⟩ := And.intro HX21.out.c0 HX21.out.c1
        obtain ⟨x23a, x23b⟩ := And.intro HX23.out.c0 HX23.out.c1
        go_wp2_with fail
        refine (cMe _).mono ?_
        rintro e w10 ⟨rfl, hb⟩
        have HW10 := Lib.hid (HD9.out.trans (hb.mono HD9.out.size))
        have HX17' := Lib.hid (HX17.out.keep hb)
        clear HX17
        have HX17 := HX17'
        clear HX17'
        have HX19' := Lib.hid (HX19.out.keep hb)
        clear HX19
        have HX19 := HX19'
        clear HX19'
        have HX21' := Lib.hid (HX21.out.keep hb)
        clear HX21
        have HX21 := HX21'
        clear HX21'
        have HX23' := Lib.hid (HX23.out.keep hb)
        clear HX23
        have HX23 := HX23'
        clear HX23'
        clear hb x21a x21b x23a x23b
        go_upto_region 30 with fail
        obtain ⟨V10, hV⟩ : ∃ V, V = w10.alloc (.cells #[.int .i64 ol, .int .i64 oh] 23) := ⟨_, rfl⟩
        try rw [← hV]
        have HD10 := Lib.hid (show Below V4.heap.size V4 V10 by rw [hV]; exact HW10.out.alloc HW10.out.size _)
        have HX25 := Lib.hid (show Bx2 V10 w10.heap.size (.int .i64 ol) (.int .i64 oh) by rw [hV]; exact Bx2.new _ _ _)
        have HNE17_25 := Lib.hid (show B17 ≠ w10.heap.size from Nat.ne_of_lt HX17.out.lt)
        have HNE19_25 := Lib.hid (show B19 ≠ w10.heap.size from Nat.ne_of_lt HX19.out.lt)
        have HNE21_25 := Lib.hid (show B21 ≠ w10.heap.size from Nat.ne_of_lt HX21.out.lt)
        have HNE23_25 := Lib.hid (show B23 ≠ w10.heap.size from Nat.ne_of_lt HX23.out.lt)
        have HLE25 := Lib.hid (show V4.heap.size ≤ w10.heap.size from HW10.out.size)
        have HX17' := Lib.hid (HX17.out.keep (show Below _ w10 V10 by rw [hV]; exact (Below.refl _ _).alloc (Nat.le_refl _) _))
        clear HX17
        have HX17 := HX17'
        clear HX17'
        have HX19' := Lib.hid (HX19.out.keep (show Below _ w10 V10 by rw [hV]; exact (Below.refl _ _).alloc (Nat.le_refl _) _))
        clear HX19
        have HX19 := HX19'
        clear HX19'
        have HX21' := Lib.hid (HX21.out.keep (show Below _ w10 V10 by rw [hV]; exact (Below.refl _ _).alloc (Nat.le_refl _) _))
        clear HX21
        have HX21 := HX21'
        clear HX21'
        have HX23' := Lib.hid (HX23.out.keep (show Below _ w10 V10 by rw [hV]; exact (Below.refl _ _).alloc (Nat.le_refl _) _))
        clear HX23
        have HX23 := HX23'
        clear HX23'
        clear hV
        generalize w10.heap.size = B25 at *
        obtain ⟨e0, e1, e2, e3, e4, e5, e6, e7⟩ := KW.out _ HD10.out
        obtain ⟨g0, g1, g2⟩ := KK.out _ (HUA.out _ (HUV.out _ HD10.out))
        go_wp2_with fail
        refine (cO _).mono ?_
        rintro e w11 ⟨rfl, hb⟩
        have HW11 := Lib.hid (HD10.out.trans (hb.mono HD10.out.size))
        have HX19' := Lib.hid (HX19.out.keep hb)
        clear HX19
        have HX19 := HX19'
        clear HX19'
        have HX25' := Lib.hid (HX25.out.keep hb)
        clear HX25
        have HX25 := HX25'
        clear HX25'
        clear hb e0 e1 e2 e3 e4 e5 e6 e7 g0 g1 g2
        clear HX17 HX21 HX23
        go_upto_region 31 with fail
        obtain ⟨V11, hV⟩ : ∃ V, V = w11.alloc (.cells #[.int .i64 ol, .int .i64 oh] 23) := ⟨_, rfl⟩
        try rw [← hV]
        have HD11 := Lib.hid (show Below V4.heap.size V4 V11 by rw [hV]; exact HW11.out.alloc HW11.out.size _)
        have HX26 := Lib.hid (show Bx2 V11 w11.heap.size (.int .i64 ol) (.int .i64 oh) by rw [hV]; exact Bx2.new _ _ _)
        have HNE19_26 := Lib.hid (show B19 ≠ w11.heap.size from Nat.ne_of_lt HX19.out.lt)
        have HNE25_26 := Lib.hid (show B25 ≠ w11.heap.size from Nat.ne_of_lt HX25.out.lt)
        have HLE26 := Lib.hid (show V4.heap.size ≤ w11.heap.size from HW11.out.size)
        have HX19' := Lib.hid (HX19.out.keep (show Below _ w11 V11 by rw [hV]; exact (Below.refl _ _).alloc (Nat.le_refl _) _))
        clear HX19
        have HX19 := HX19'
        clear HX19'
        have HX25' := Lib.hid (HX25.out.keep (show Below _ w11 V11 by rw [hV]; exact (Below.refl _ _).alloc (Nat.le_refl _) _))
        clear HX25
        have HX25 := HX25'
        clear HX25'
        clear hV
        generalize w11.heap.size = B26 at *
        obtain ⟨x25a, x25b⟩ := And.intro HX25.out.c0 HX25.out.c1
        obtain ⟨x26a, x26b⟩ := And.intro HX26.out.c0 HX26.out.c1
        go_upto_region 33 with fail
        clear x25a x25b x26a x26b HX26
        obtain ⟨n0, n1, en, cG2, hNN⟩ := grow_two (a := ol) (b := oh) (g := gu) HVV.out HFA.out.2.1
        obtain ⟨x25a, x25b⟩ := And.intro HX25.out.c0 HX25.out.c1
        obtain ⟨x19a, x19b⟩ := And.intro HX19.out.c0 HX19.out.c1
        go_wp2_with fail
        refine (cG2 _).mono ?_
        rintro e w12 ⟨rfl, hb⟩
        have HW12 := Lib.hid (HD11.out.trans (hb.mono HD11.out.size))
        have HX19' := Lib.hid (HX19.out.keep hb)
        clear HX19
        have HX19 := HX19'
        clear HX19'
        have HX25' := Lib.hid (HX25.out.keep hb)
        clear HX25
        have HX25 := HX25'
        clear HX25'
        clear hb x25a x25b x19a x19b
        clear HX19
        obtain ⟨x25a, x25b⟩ := And.intro HX25.out.c0 HX25.out.c1
        obtain ⟨f25a, f25b⟩ := And.intro (HX25.out.f0 0) (HX25.out.f0 1)
        go_upto_region 34 with fail
        clear x25a x25b f25a f25b
        obtain ⟨V12, hV⟩ : ∃ V, V = (w12.setCell ⟨B25, 0, none⟩ (.int .i64 n0)).setCell ⟨B25, 1, none⟩ (.int .i64 n1) := ⟨_, rfl⟩
        try rw [← hV]
        have HD12 := Lib.hid (show Below V4.heap.size V4 V12 by rw [hV]; exact (HW12.out.setCell (p := ⟨B25, 0, none⟩) HLE25.out _).setCell (p := ⟨B25, 1, none⟩) HLE25.out _)
        have HX25' := Lib.hid (show Bx2 V12 B25 (.int .i64 n0) (.int .i64 n1) by rw [hV]; exact HX25.out.set _ _)
        clear HX25
        have HX25 := HX25'
        clear HX25'
        clear hV
        rcases hNN with ⟨vn, hn0, hn1, rfl⟩ | rfl
        case inr =>
          go_wp2_with fail
          refine (c59 _).mono ?_
          rintro e v2 ⟨rfl, hb⟩
          have HBZ := Lib.hid (HD12.out.trans (hb.mono HD12.out.size))
          clear hb
          go_wp2_with fail
          go_ret
          exact ⟨rfl, HUP.out _ (HUA.out _ (HUV.out _ HBZ.out))⟩
        have hnv : vB n0 n1 = true := by rw [hn0, hn1]; exact vn
        clear vn
        have HX912 := Lib.hid (HX9U.out _ HD12.out)
        have HB12 := Lib.hid (HUV.out _ HD12.out)
        rcases HFL.out with ⟨hf, hfk⟩ | ⟨hf, hfs⟩
        · subst hf
          by_cases hk0 : k = 0
          · have hki0 : (k : Int) = 0 := by omega
            have HEN := Lib.hid (show n0 = (acB r t xs (k + 1)).1 ∧ n1 = (acB r t xs (k + 1)).2 ∧ vB n0 n1 = true from by
              have e := HX1.out hk0
              rw [hk0]
              show n0 = (acB r t xs 1).1 ∧ n1 = (acB r t xs 1).2 ∧ _
              rw [e]
              have hv := (vB_iff _ _).1 hnv
              unfold meetS
              dsimp only
              exact ⟨by omega, by omega, hnv⟩)
            clear hnv hn0 hn1 hfk
            obtain ⟨x25a, x25b⟩ := And.intro HX25.out.c0 HX25.out.c1
            obtain ⟨x9a, x9b⟩ := And.intro HX912.out.c0 HX912.out.c1
            obtain ⟨f9a, f9b⟩ := And.intro (HX912.out.f0 0) (HX912.out.f0 1)
            go_wp2_with fail
            go_roundw
            case rel => exact ⟨k + 1, n0, n1, by omega, by go_num, HX912.out.set _ _, .inl ⟨rfl, fun _ => HEN.out⟩, (HB12.out.setCell (p := ⟨B9, 0, none⟩) (Nat.le_refl _) _).setCell (p := ⟨B9, 1, none⟩) (Nat.le_refl _) _⟩
            case measure => simp [intOf]; omega
          · have hki0 : ¬ ((k : Int) = 0) := by omega
            obtain ⟨hbl, hbh, hbv⟩ := hfk (by omega)
            obtain ⟨z0, z1, ez, cMz, hZZ⟩ := meet_two hbv hnv
            have HEZ := Lib.hid (show (ez = 0 ∧ z0 = (acB r t xs (k + 1)).1 ∧ z1 = (acB r t xs (k + 1)).2 ∧ vB z0 z1 = true) ∨ (ez = 5 ∧ sdB r (ofA r xs) = false) from by
              have e := HXS.out
              have hv := (vB_iff _ _).1 hnv
              have hv2 := (vB_iff _ _).1 hbv
              unfold meetS at e
              dsimp only at e
              rcases hZZ with ⟨y1, y2, y3, y4⟩ | ⟨y1, y2⟩
              · refine .inl ⟨y4, ?_, ?_, (vB_iff _ _).2 (by omega)⟩
                · rw [e]; dsimp only; omega
                · rw [e]; dsimp only; omega
              · refine .inr ⟨y2, ?_⟩
                cases hs : sdB r (ofA r xs)
                · rfl
                · exfalso
                  have q := HNE.out (k + 1) hs
                  rw [e] at q
                  dsimp only at q
                  omega)
            clear hnv hn0 hn1 hfk hbl hbh hbv hZZ
            obtain ⟨x25a, x25b⟩ := And.intro HX25.out.c0 HX25.out.c1
            obtain ⟨x9a, x9b⟩ := And.intro HX912.out.c0 HX912.out.c1
            go_wp2_with fail
            refine (cMz _).mono ?_
            rintro e w13 ⟨rfl, hb⟩
            have HW13 := Lib.hid (HD12.out.trans (hb.mono HD12.out.size))
            clear hb x25a x25b x9a x9b HX25
            go_upto_region 40 with fail
            obtain ⟨V13, hV⟩ : ∃ V, V = w13.alloc (.cells #[.int .i64 z0, .int .i64 z1] 23) := ⟨_, rfl⟩
            try rw [← hV]
            have HD13 := Lib.hid (show Below V4.heap.size V4 V13 by rw [hV]; exact HW13.out.alloc HW13.out.size _)
            have HX27 := Lib.hid (show Bx2 V13 w13.heap.size (.int .i64 z0) (.int .i64 z1) by rw [hV]; exact Bx2.new _ _ _)
            clear hV
            generalize w13.heap.size = B27 at *
            have HX913 := Lib.hid (HX9U.out _ HD13.out)
            have HB13 := Lib.hid (HUV.out _ HD13.out)
            rcases HEZ.out with ⟨rfl, hz⟩ | ⟨rfl, hz⟩
            · have HEN := Lib.hid hz
              clear hz HEZ
              obtain ⟨x27a, x27b⟩ := And.intro HX27.out.c0 HX27.out.c1
              obtain ⟨x9a, x9b⟩ := And.intro HX913.out.c0 HX913.out.c1
              obtain ⟨f9a, f9b⟩ := And.intro (HX913.out.f0 0) (HX913.out.f0 1)
              go_wp2_with fail
              go_roundw
              case rel => exact ⟨k + 1, z0, z1, by omega, by go_num, HX913.out.set _ _, .inl ⟨rfl, fun _ => HEN.out⟩, (HB13.out.setCell (p := ⟨B9, 0, none⟩) (Nat.le_refl _) _).setCell (p := ⟨B9, 1, none⟩) (Nat.le_refl _) _⟩
              case measure => simp [intOf]; omega
            · have HEN := Lib.hid hz
              clear hz HEZ
              obtain ⟨x27a, x27b⟩ := And.intro HX27.out.c0 HX27.out.c1
              obtain ⟨x9a, x9b⟩ := And.intro HX913.out.c0 HX913.out.c1
              obtain ⟨f9a, f9b⟩ := And.intro (HX913.out.f0 0) (HX913.out.f0 1)
              go_wp2_with fail
              go_roundw
              case rel => exact ⟨k + 1, z0, z1, by omega, by go_num, HX913.out.set _ _, .inr ⟨rfl, HEN.out⟩, (HB13.out.setCell (p := ⟨B9, 0, none⟩) (Nat.le_refl _) _).setCell (p := ⟨B9, 1, none⟩) (Nat.le_refl _) _⟩
              case measure => simp [intOf]; omega
        · subst hf
          have HFS := Lib.hid hfs
          clear hfs hnv hn0 hn1
          by_cases hk0 : k = 0
          · have hki0 : (k : Int) = 0 := by omega
            obtain ⟨x25a, x25b⟩ := And.intro HX25.out.c0 HX25.out.c1
            obtain ⟨x9a, x9b⟩ := And.intro HX912.out.c0 HX912.out.c1
            obtain ⟨f9a, f9b⟩ := And.intro (HX912.out.f0 0) (HX912.out.f0 1)
            go_wp2_with fail
            go_roundw
            case rel => exact ⟨k + 1, n0, n1, by omega, by go_num, HX912.out.set _ _, .inr ⟨rfl, HFS.out⟩, (HB12.out.setCell (p := ⟨B9, 0, none⟩) (Nat.le_refl _) _).setCell (p := ⟨B9, 1, none⟩) (Nat.le_refl _) _⟩
            case measure => simp [intOf]; omega
          · have hki0 : ¬ ((k : Int) = 0) := by omega
            go_wp2_with fail
            go_roundw
            case rel => exact ⟨k + 1, bl, bh, by omega, by go_num, HX912.out, .inr ⟨rfl, HFS.out⟩, HB12.out⟩
            case measure => simp [intOf]; omega
      · have hnlt : ¬ ((k : Int) < (n : Int)) := by omega
        have hkn : k = n := by omega
        rcases HFL.out with ⟨hf, hfk⟩ | ⟨hf, hfs⟩
        case inr => exact absurd hfs (by rw [HSD.out.1]; decide)
        subst hf
        obtain ⟨hb1, hb2, -⟩ := hfk (by have := (lrnE_ok HL0.out).1.1; have := HN.out; omega)
        have ea : acB r t xs k = atS r t (ofA r xs) := by rw [hkn, ← HN.out]; exact acB_all r t xs
        have h1 : bl = oL := by rw [hb1, ea, HSD.out.2.1]
        have h2 : bh = oH := by rw [hb2, ea, HSD.out.2.2]
        clear hb1 hb2 ea hfk
        obtain ⟨g0, g1, g2⟩ := KK.out _ (HUA.out _ HB.out)
        obtain ⟨d0, d1⟩ := And.intro HX9.out.c0 HX9.out.c1
        obtain ⟨f0, f1⟩ := And.intro (HO5.out _ HB.out).c0 (HO5.out _ HB.out).c1
        rw [h1] at d0
        rw [h2] at d1
        clear h1 h2
        go_wp2_with fail
        refine (c59 _).mono ?_
        rintro e v2 ⟨rfl, hb⟩
        have HBZ := Lib.hid (HB.out.trans (hb.mono (Nat.le_of_lt HX9.out.lt)))
        clear hb
        go_wp2_with fail
        go_ret
        exact ⟨rfl, HUP.out _ (HUA.out _ HBZ.out)⟩

  case inr =>
    exact absurd hS (by rw [HQ0.out HL0.out]; decide)
end Go.Proofs.Ytcchmjbedppfnaa

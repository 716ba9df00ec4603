/-
  Clock: the true time of a stamp, by the reference.
-/
import Derived.Test.YtcchmjbedppfnaaHtB
namespace Go.Proofs.Ytcchmjbedppfnaa
open Go.RowKit Go.Shelf
set_option linter.unusedSimpArgs false
set_option maxRecDepth 100000 in
set_option maxHeartbeats 8000000 in
theorem rtime_any (sv : Value) (cs : List Cl) (c t : Int) (h0 : entE cs = 0) (hc : 0 ≤ c ∧ c < (cs.length : Int)) (ht : 0 ≤ t ∧ t ≤ 1125899906842624) (w : World) (hC : Cls w.heap.size w sv cs) :
    Calls Try.prog 100 #[sv, .agg #[.int .i64 c, .int .i64 t]] w fun e w' => e = .returned (spv (tmS (cs.map knC) (cs.length + 1) c (t, t))) ∧ Below w.heap.size w w' := by
  obtain ⟨⟨-, hl32⟩, hlr, -, -⟩ := entE_ok h0
  have hk := hs_of h0
  have HPAR := Lib.hid (show ∀ k, k < cs.length → -1 ≤ (cl cs k).p ∧ (cl cs k).p < (k : Int) from fun k h => by have q := hk.par k (by rw [List.length_map]; exact h); rwa [kc_map cs k h] at q)
  have HLR := Lib.hid hlr
  have HST := Lib.hid (show ∀ k n, k < cs.length → k < n → ∀ a, tmS (cs.map knC) n (k : Int) a = tmS (cs.map knC) (n - 1) (cl cs k).p (upS (cl cs k).r (ofA (cl cs k).r (cl cs k).xs) a) from fun k n h hn a => by rw [tmS_step _ k n hn a, kc_map cs k h]; rfl)
  have HRT := Lib.hid (fun n a => tmS_root (cs.map knC) a n)
  have HBDU := Lib.hid (fun k (h : k < cs.length) x y B hB hx hy => up_bd (r := (cl cs k).r) (x := x) (y := y) (os := ofA (cl cs k).r (cl cs k).xs) (B := B) (valid_of (hlr k h)) (by have := (lrnE_ok (hlr k h)).1.1; show 1 ≤ (ofTo _ _ _).length; rw [ofTo_len]; exact this) hB hx hy)
  generalize tmS (cs.map knC) = TM at *
  obtain ⟨a, cap, hsv, -, hcc⟩ := hC
  subst hsv
  have HC := Lib.hid hcc
  obtain ⟨F, hF⟩ : ∃ F, F = TM (cs.length + 1) c (t, t) := ⟨_, rfl⟩
  rw [← hF]
  have HF := Lib.hid hF
  obtain ⟨A, hA⟩ : ∃ A, A = (w.alloc (.cells #[.int .i64 c, .int .i64 t] 49)).alloc (.cells #[.int .i64 0, .int .i64 0] 23) := ⟨_, rfl⟩
  have hzA : A.heap.size = w.heap.size + 2 := by rw [hA]; simp
  have HBA := Lib.hid (show Below w.heap.size w A by rw [hA]; exact ((Below.refl _ _).alloc (Nat.le_refl _) _).alloc (by simp) _)
  have hRA : Bx2 A (w.heap.size + 1) (.int .i64 0) (.int .i64 0) := by
    rw [hA]
    have q := Bx2.new (w.alloc (.cells #[.int .i64 c, .int .i64 t] 49)) (.int .i64 0) (.int .i64 0)
    rwa [World.size_alloc] at q
  have k0 : A.cell? ⟨w.heap.size, 0, none⟩ = some (.int .i64 c) := by rw [hA]; simp [go_sem]
  have k1 : A.cell? ⟨w.heap.size, 1, none⟩ = some (.int .i64 t) := by rw [hA]; simp [go_sem]
  have HRA := Lib.hid hRA
  have hX0 : Bx2 (A.alloc (.cells #[.int .i64 t, .int .i64 t] 23)) (w.heap.size + 2) (.int .i64 t) (.int .i64 t) := by
    have q := Bx2.new A (.int .i64 t) (.int .i64 t)
    rwa [hzA] at q
  have HX0 := Lib.hid hX0
  have HR0 := Lib.hid (hRA.keep (W' := A.alloc (.cells #[.int .i64 t, .int .i64 t] 23)) ((Below.refl _ _).alloc (Nat.le_refl _) _))
  have HB0 := Lib.hid (HBA.out.alloc (by omega) (.cells #[.int .i64 t, .int .i64 t] 23))
  have hz0 : (A.alloc (.cells #[.int .i64 t, .int .i64 t] 23)).heap.size = w.heap.size + 3 := by simp; omega
  have k0' : (A.alloc (.cells #[.int .i64 t, .int .i64 t] 23)).cell? ⟨w.heap.size, 0, none⟩ = some (.int .i64 c) := by
    have := ((Below.refl A.heap.size A).alloc (Nat.le_refl _) (.cells #[.int .i64 t, .int .i64 t] 23)).cell (p := ⟨w.heap.size, 0, none⟩) (by show w.heap.size < A.heap.size; omega)
    exact this.trans k0
  clear hRA hX0 hF hcc hlr hk h0
  generalize cs.length = len at *
  have hcl : c < (len : Int) := hc.2
  have hcz : 0 ≤ c := hc.1
  clear hc
  go_enter Try.func100, Try.ntmps100
  go_wp2_with fail
  try rw [← hA]
  clear hA
  go_wp2_with fail
  try rw [hzA]
  generalize hV : A.alloc (.cells #[.int .i64 t, .int .i64 t] 23) = V at *
  clear hV k0 k1 HRA HBA hzA
  go_wp2_with fail
  go_loopw [6] (fun kv wr => ∃ (kz x y : Int) (n : Nat), kv = .int .i64 kz ∧ -1 ≤ kz ∧ kz < (len : Int) ∧ kz + 1 ≤ (n : Int) ∧ F = TM n kz (x, y) ∧ (-(1125899906842624 + (64 - kz) * 10000000000000) ≤ x ∧ x ≤ 1125899906842624 + (64 - kz) * 10000000000000) ∧ (-(1125899906842624 + (64 - kz) * 10000000000000) ≤ y ∧ y ≤ 1125899906842624 + (64 - kz) * 10000000000000) ∧ Bx2 wr (w.heap.size + 1) (.int .i64 0) (.int .i64 0) ∧ Bx2 wr (w.heap.size + 2) (.int .i64 x) (.int .i64 y) ∧ w.heap.size + 3 ≤ wr.heap.size ∧ Below w.heap.size w wr) (fun kv _ => ((intOf kv) + 1).toNat)
  case atStart => exact ⟨c, t, t, len + 1, rfl, by omega, hcl, by omega, HF.out, by omega, by omega, HR0.out, HX0.out, by omega, HB0.out⟩
  case round =>
    obtain ⟨kz, x, y, n, rfl, hkz, hkl, hkn, hFn, hx, hy, hR, hX, hsz, hB⟩ := hrel
    have HFN := Lib.hid hFn
    have HR := Lib.hid hR
    have HX := Lib.hid hX
    have HB := Lib.hid hB
    clear hFn
    by_cases hroot : kz = -1
    · subst hroot
      have hfe : F = (x, y) := by rw [HFN.out, HRT.out]
      subst hfe
      have x0 := hX.c0
      have x1 := hX.c1
      have r0 := hR.c0
      have r1 := hR.c1
      have r2 := hR.f0 0
      have r3 := hR.f0 1
      have HBE := Lib.hid (show Below w.heap.size w ((wr.setCell ⟨w.heap.size + 1, 0, none⟩ (.int .i64 x)).setCell ⟨w.heap.size + 1, 1, none⟩ (.int .i64 y)) from (hB.setCell (p := ⟨w.heap.size + 1, 0, none⟩) (by show w.heap.size ≤ w.heap.size + 1; omega) _).setCell (p := ⟨w.heap.size + 1, 1, none⟩) (by show w.heap.size ≤ w.heap.size + 1; omega) _)
      clear hR hX hB
      go_wp2_with fail
      refine bodyPost_ret (v := .agg #[.int .i64 x, .int .i64 y]) (by simp [results, Try.results100, go_sem, r0, r1]) rfl ⟨rfl, HBE.out⟩
    · obtain ⟨k, hkk⟩ : ∃ k : Nat, kz = (k : Int) := ⟨kz.toNat, by omega⟩
      subst hkk
      have hlt : k < len := by omega
      have hkb : (k : Int) < (len : Int) := hkl
      obtain ⟨b, off, s, hab, hb, e0, e1, e2, ho⟩ := HC.out k hlt
      subst hab
      have m0 := (hB.cell (p := ⟨b, off + k * 3, none⟩) hb).trans e0
      have m1 := (hB.cell (p := ⟨b, off + k * 3 + 1, none⟩) hb).trans e1
      have m2 := (hB.cell (p := ⟨b, off + k * 3 + 2, none⟩) hb).trans e2
      have ho2 := ho.mono hB hB.size
      have hfs := HFN.out
      rw [HST.out k n hlt (by omega)] at hfs
      have hbd := HBDU.out k hlt x y (1125899906842624 + (64 - (k : Int)) * 10000000000000) (by omega) hx hy
      have c141 := Lib.hid (fun W (hbw : Below wr.heap.size wr W) => rupC_any (cl cs k).p (cl cs k).r x y s (cl cs k).xs (HLR.out k hlt) (by omega) (by omega) W (ho2.at hbw))
      obtain ⟨a5, c5, hs⟩ := ho.form
      subst hs
      obtain ⟨hp1, hp2⟩ := HPAR.out k hlt
      unfold spv at c141
      generalize upS (cl cs k).r (ofA (cl cs k).r (cl cs k).xs) (x, y) = z at *
      generalize (cl cs k).p = p at *
      generalize (cl cs k).r = r at *
      generalize (cl cs k).xs.length = n5 at *
      obtain ⟨z0, z1⟩ := z
      dsimp only at hbd c141
      have HFS := Lib.hid hfs
      have HBD := Lib.hid hbd
      have hzb : b < wr.heap.size := by have := hB.size; omega
      have KK := Lib.hid (show ∀ W, Below wr.heap.size wr W → W.cell? ⟨b, off + k * 3, none⟩ = some (.int .i64 p) ∧ W.cell? ⟨b, off + k * 3 + 1, none⟩ = some (.int .i64 r) ∧ W.cell? ⟨b, off + k * 3 + 2, none⟩ = some (.slice a5 n5 c5) from fun W h => ⟨(h.cell (p := ⟨b, off + k * 3, none⟩) hzb).trans m0, (h.cell (p := ⟨b, off + k * 3 + 1, none⟩) hzb).trans m1, (h.cell (p := ⟨b, off + k * 3 + 2, none⟩) hzb).trans m2⟩)
      have x0 := hX.c0
      have x1 := hX.c1
      have hbW : b < w.heap.size := hb
      clear hfs hbd e0 e1 e2 ho ho2 hR hX hB hx hy
      go_wp2_with fail
      refine wp_region_held_drew (S := fun w' => w'.cell? ⟨b, off + k * 3, none⟩ = some (.int .i64 p) ∧ w'.cell? ⟨b, off + k * 3 + 1, none⟩ = some (.int .i64 r) ∧ w'.cell? ⟨b, off + k * 3 + 2, none⟩ = some (.slice a5 n5 c5)) (by kernel_rfl) ⟨by simpa [go_sem] using m0, by simpa [go_sem] using m1, by simpa [go_sem] using m2⟩ (fun hHeld => ?_)
      refine wpAnyH_take (i := 0) (oi := _) (v := Value.slice (some ⟨b, off, none⟩) len cap) rfl (by kernel_rfl) (by kernel_rfl) (by kernel_rfl) (fun _ _ _ h => h) (Or.inl ⟨by rfl, fun w' hSw => ?_⟩) hHeld ?_
      · obtain ⟨t0, t1, t2⟩ := hSw
        go_simp
        try simp [*]
        try (intro hh; exfalso; omega)
        try omega
      try simp only [Act.put, List.setIfInBounds_toArray, List.set_cons_zero, List.set_cons_succ, List.getElem_toArray, List.getElem_cons_succ, List.getElem_cons_zero]
      refine wpAnyH_take (i := 1) (oi := _) (v := Value.int .i64 (k : Int)) rfl (by kernel_rfl) (by kernel_rfl) (by kernel_rfl) (fun _ _ _ h => h) (Or.inl ⟨by rfl, fun w' hSw => ?_⟩) hHeld ?_
      · obtain ⟨t0, t1, t2⟩ := hSw
        go_simp
        try simp [*]
        try (intro hh; exfalso; omega)
        try omega
      try simp only [Act.put, List.setIfInBounds_toArray, List.set_cons_zero, List.set_cons_succ, List.getElem_toArray, List.getElem_cons_succ, List.getElem_cons_zero]
      refine wpAnyH_take (i := 2) (oi := _) (v := Value.pointer (some ⟨b, off + k * 3, none⟩)) rfl (by kernel_rfl) (by kernel_rfl) (by kernel_rfl) (fun _ _ _ h => h) (Or.inl ⟨by rfl, fun w' hSw => ?_⟩) hHeld ?_
      · obtain ⟨t0, t1, t2⟩ := hSw
        go_simp
        try simp [*]
        try (intro hh; exfalso; omega)
        try omega
      try simp only [Act.put, List.setIfInBounds_toArray, List.set_cons_zero, List.set_cons_succ, List.getElem_toArray, List.getElem_cons_succ, List.getElem_cons_zero]
      refine wpAnyH_take (i := 3) (oi := _) (v := Value.agg #[Value.int .i64 p, Value.int .i64 r, Value.slice a5 n5 c5]) rfl (by kernel_rfl) (by kernel_rfl) (by kernel_rfl) (fun _ _ _ h => h) (Or.inl ⟨by rfl, fun w' hSw => ?_⟩) hHeld ?_
      · obtain ⟨t0, t1, t2⟩ := hSw
        go_simp
        try simp [*]
        try (intro hh; exfalso; omega)
        try omega
      try simp only [Act.put, List.setIfInBounds_toArray, List.set_cons_zero, List.set_cons_succ, List.getElem_toArray, List.getElem_cons_succ, List.getElem_cons_zero]
      refine wpAnyH_ready (rs := [4]) (by kernel_rfl) (by simp) ?_
      refine AllReadyH.cons (o := _) rfl (fun K hK => ?_) AllReadyH.nil
      go_simp
      clear hHeld
      refine hK.out _ _ (KK.out _ (Below.refl wr.heap.size wr).drew) (fun hHeld => ?_)
      clear hK K
      try simp only [Act.put, List.setIfInBounds_toArray, List.set_cons_zero, List.set_cons_succ, List.getElem_toArray, List.getElem_cons_succ, List.getElem_cons_zero]
      refine wpAnyH_ready (rs := [5]) (by kernel_rfl) (by simp) ?_
      refine AllReadyH.cons (o := _) rfl (fun K hK => ?_) AllReadyH.nil
      go_simp
      go_at_call 141
      refine Calls.mono (c141.out _ (Below.refl wr.heap.size wr).drew) ?_
      rintro e v1 ⟨rfl, hb⟩
      have HV1 := Lib.hid (show Below wr.heap.size wr v1 from Below.trans ((Below.refl wr.heap.size wr).drew) hb)
      clear hb
      clear hHeld
      refine hK.out _ _ (KK.out _ HV1.out) (fun hHeld => ?_)
      clear hK K
      try simp only [Act.put, List.setIfInBounds_toArray, List.set_cons_zero, List.set_cons_succ, List.getElem_toArray, List.getElem_cons_succ, List.getElem_cons_zero]
      have hR2 := HX.out.keep HV1.out
      have x0 := hR2.c0
      have x1 := hR2.c1
      have rf0 := hR2.f0 0
      have rf1 := hR2.f0 1
      have HX2 := Lib.hid hR2
      have HRR := Lib.hid (HR.out.keep HV1.out)
      clear hR2
      obtain ⟨V2, hV2⟩ : ∃ V2, V2 = (v1.setCell ⟨w.heap.size + 2, 0, none⟩ (.int .i64 z0)).setCell ⟨w.heap.size + 2, 1, none⟩ (.int .i64 z1) := ⟨_, rfl⟩
      have hbne : b ≠ w.heap.size + 2 := by omega
      have l0 : V2.cell? ⟨b, off + k * 3, none⟩ = some (.int .i64 p) ∧ V2.cell? ⟨b, off + k * 3 + 1, none⟩ = some (.int .i64 r) ∧ V2.cell? ⟨b, off + k * 3 + 2, none⟩ = some (.slice a5 n5 c5) := by
        obtain ⟨q0, q1, q2⟩ := KK.out _ HV1.out
        have q : ∀ o, V2.cell? ⟨b, o, none⟩ = v1.cell? ⟨b, o, none⟩ := fun o => by
          rw [hV2]
          exact (World.cell?_setCell_other _ _ _ _ (by intro q; exact hbne (Addr.mk.inj q).1.symm)).trans (World.cell?_setCell_other _ _ _ _ (by intro q; exact hbne (Addr.mk.inj q).1.symm))
        exact ⟨(q _).trans q0, (q _).trans q1, (q _).trans q2⟩
      refine wpAnyH_ready (rs := [6]) (by kernel_rfl) (by simp) ?_
      refine AllReadyH.cons (o := _) rfl (fun K hK => ?_) AllReadyH.nil
      go_simp
      try rw [← hV2]
      clear hHeld
      refine hK.out _ _ l0 (fun hHeld => ?_)
      clear hK K
      try simp only [Act.put, List.setIfInBounds_toArray, List.set_cons_zero, List.set_cons_succ, List.getElem_toArray, List.getElem_cons_succ, List.getElem_cons_zero]
      refine wpAnyH_done (by kernel_rfl) ?_ _
      clear hHeld
      have hX3 : Bx2 V2 (w.heap.size + 2) (.int .i64 z0) (.int .i64 z1) := by rw [hV2]; exact HX2.out.set _ _
      have hR3 : Bx2 V2 (w.heap.size + 1) (.int .i64 0) (.int .i64 0) := by rw [hV2]; exact (HRR.out.far (by omega)).far (by omega)
      have hB3 : Below w.heap.size w V2 := by rw [hV2]; exact ((HB.out.trans (HV1.out.mono HB.out.size)).setCell (p := ⟨w.heap.size + 2, 0, none⟩) (by show w.heap.size ≤ w.heap.size + 2; omega) _).setCell (p := ⟨w.heap.size + 2, 1, none⟩) (by show w.heap.size ≤ w.heap.size + 2; omega) _
      have hz3 : w.heap.size + 3 ≤ V2.heap.size := by have := HV1.out.size; rw [hV2]; simp; omega
      have HX3 := Lib.hid hX3
      have HR3 := Lib.hid hR3
      have HB3 := Lib.hid hB3
      obtain ⟨q0, q1, q2⟩ := l0
      clear hV2 hX3 hR3 hB3 m0 m1 m2 x0 x1 rf0 rf1
      go_wp2_with fail
      go_roundw
      case rel => exact ⟨p, z0, z1, n - 1, by first | rfl | go_num, hp1, by omega, by omega, HFS.out, by have := HBD.out.1; omega, by have := HBD.out.2; omega, HR3.out, HX3.out, hz3, HB3.out⟩
      case measure => simp [intOf]; omega
end Go.Proofs.Ytcchmjbedppfnaa

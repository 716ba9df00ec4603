/-
  Cables: the reference's voltages.
-/
import Derived.Test.YtdohfpnnmppdkaaCcA
namespace Go.Proofs.Ytdohfpnnmppdkaa
open Go.RowKit Go.Shelf
set_option linter.unusedSimpArgs false
attribute [local go_sem] Oper.semAt_some
theorem own_one (W : World) (x y : Value) (base : Nat) (hb : base ≤ W.heap.size) : (W.alloc (.cells #[x, y] 23)).ownsRow base 23 2 (.slice (some ⟨W.heap.size, 0, none⟩) 1 1) 1 [x, y] :=
  ⟨rfl, .inr ⟨_, 1, _, rfl, hb, World.alloc_heap_new W _, Nat.le_refl _, by unfold maxLen; omega, rfl, rfl⟩⟩
set_option maxRecDepth 100000 in
set_option maxHeartbeats 8000000 in
theorem refvoltages_any (sl sh : Int) (sv : Value) (ns : List Nd) (hv : ValidC sl sh ns) (w : World) (hN : Nds w.heap.size w sv ns) :
    Calls Try.prog 95 #[.agg #[.int .i64 sl, .int .i64 sh, sv]] w fun e w' => ∃ v, e = .returned v ∧ w'.ownsRow w.heap.size 23 2 v ns.length (spL (vol sl sh ns) ns.length) ∧ Below w.heap.size w w' := by
  obtain ⟨i0, hi0, hz0, hz1, hz2⟩ := info_parts infoI23
  have hn0 := hv.pos
  have hl := hv.len
  have c1 := Lib.hid (fun W (h : Below w.heap.size w W) => refcurrents_any sl sh sv ns hv.all hl hn0 W (hN.at h))
  have HDR := Lib.hid (fun k (h : k < ns.length) => drop_bd hv h)
  have HVI := Lib.hid (fun k (h : k < ns.length) => vol_in hv h)
  have HPE := Lib.hid (fun k (h : k < ns.length) (h0 : 0 < k) => hv.all.par_eq h h0)
  have HPL := Lib.hid (fun k (h0 : 0 < k) => hv.all.tree k h0)
  have HVP := Lib.hid (fun k (h0 : 0 < k) => show (vol sl sh ns k).1 = (vol sl sh ns (par ns k)).1 - dropH ns k ∧ (vol sl sh ns k).2 = (vol sl sh ns (par ns k)).2 - dropL ns k by rw [vol_pos hv.all.tree h0]; exact ⟨rfl, rfl⟩)
  have HV0 := Lib.hid (show spL (vol sl sh ns) 1 = [.int .i64 sl, .int .i64 sh] by rw [spL_succ, spL_zero, vol_zero]; rfl)
  have HSP := Lib.hid (fun k => spL_succ (vol sl sh ns) k)
  obtain ⟨a, cap, hsv, -, hcc⟩ := hN
  obtain ⟨nb, off, hab, hnb, -⟩ := hcc 0 hn0
  subst hab
  subst hsv
  have HC := Lib.hid (show ∀ W k, Below w.heap.size w W → k < ns.length → W.cell? ⟨nb, off + k * 8, none⟩ = some (.int .i64 (nd ns k).par) ∧ W.cell? ⟨nb, off + k * 8 + 1, none⟩ = some (.int .i64 (nd ns k).ol) ∧ W.cell? ⟨nb, off + k * 8 + 2, none⟩ = some (.int .i64 (nd ns k).oh) from fun W k hb hk => by
    obtain ⟨b, o, h1, h2, e0, e1, e2, e3, e4, e5, e6, e7⟩ := hcc k hk
    simp only [Option.some.injEq, Addr.mk.injEq] at h1
    obtain ⟨rfl, rfl, -⟩ := h1
    exact ⟨(hb.cell (p := ⟨_, _, none⟩) h2).trans e0, (hb.cell (p := ⟨_, _, none⟩) h2).trans e1, (hb.cell (p := ⟨_, _, none⟩) h2).trans e2⟩)
  clear hcc hv
  generalize hnn : ns.length = n at *
  clear hnn
  obtain ⟨A, hA⟩ : ∃ A, A = w.alloc (.cells #[.int .i64 sl, .int .i64 sh, .slice (some ⟨nb, off, none⟩) n cap] 26) := ⟨_, rfl⟩
  have HBA := Lib.hid (show Below w.heap.size w A by rw [hA]; exact ((Below.refl _ _).alloc (Nat.le_refl _) _))
  have hltA : w.heap.size + 1 ≤ A.heap.size := by rw [hA]; simp
  have q0 : A.cell? ⟨w.heap.size, 0, none⟩ = some (.int .i64 sl) := by rw [hA]; exact (cellHB (World.alloc_heap_new w _) 0).trans (by simp)
  have q1 : A.cell? ⟨w.heap.size, 1, none⟩ = some (.int .i64 sh) := by rw [hA]; exact (cellHB (World.alloc_heap_new w _) 1).trans (by simp)
  have q2 : A.cell? ⟨w.heap.size, 2, none⟩ = some (.slice (some ⟨nb, off, none⟩) n cap) := by rw [hA]; exact (cellHB (World.alloc_heap_new w _) 2).trans (by simp)
  have KK := Lib.hid (show ∀ W, Below A.heap.size A W → W.cell? ⟨w.heap.size, 0, none⟩ = some (.int .i64 sl) ∧ W.cell? ⟨w.heap.size, 1, none⟩ = some (.int .i64 sh) ∧ W.cell? ⟨w.heap.size, 2, none⟩ = some (.slice (some ⟨nb, off, none⟩) n cap) from fun W h => ⟨(h.cell (p := ⟨w.heap.size, 0, none⟩) (by show w.heap.size < A.heap.size; omega)).trans q0, (h.cell (p := ⟨w.heap.size, 1, none⟩) (by show w.heap.size < A.heap.size; omega)).trans q1, (h.cell (p := ⟨w.heap.size, 2, none⟩) (by show w.heap.size < A.heap.size; omega)).trans q2⟩)
  have HLT := Lib.hid hltA
  clear hltA q0 q1 q2
  obtain ⟨k0, k1, k2⟩ := KK.out _ (Below.refl _ _)
  go_enter Try.func95, Try.ntmps95
  go_upto_region 1 with fail
  rw [← hA]
  clear hA
  go_wp2_with fail
  refine (c1.out _ HBA.out).mono ?_
  rintro e w1 ⟨cv, rfl, hr, hb⟩
  have HB1 := Lib.hid hb
  have HCU := Lib.hid (sv_of_own hr)
  obtain ⟨ca, cc, rfl⟩ := HCU.out.form
  clear hr hb k0 k1 k2
  obtain ⟨k0, k1, k2⟩ := KK.out _ HB1.out
  obtain ⟨U, hU⟩ : ∃ U, U = w1.alloc (.cells #[.int .i64 sl, .int .i64 sh] 23) := ⟨_, rfl⟩
  have HBU := Lib.hid (show Below w1.heap.size w1 U by rw [hU]; exact (Below.refl _ _).alloc (Nat.le_refl _) _)
  have HRU := Lib.hid (show U.ownsRow w1.heap.size 23 2 (.slice (some ⟨w1.heap.size, 0, none⟩) 1 1) 1 (spL (vol sl sh ns) 1) by rw [hU, HV0.out]; exact own_one _ _ _ _ (Nat.le_refl _))
  have HBU1 := Lib.hid (HB1.out.trans (HBU.out.mono HB1.out.size))
  go_upto_region 3 with fail
  try rw [← hU]
  clear hU k0 k1 k2
  obtain ⟨k0, k1, k2⟩ := KK.out _ HBU1.out
  go_wp2_with fail
  go_loopw [4, 5] (fun ov iv wr => ∃ k : Nat, 1 ≤ k ∧ k ≤ n ∧ iv = .int .i64 k ∧ wr.ownsRow w1.heap.size 23 2 ov k (spL (vol sl sh ns) k) ∧ Below w1.heap.size w1 wr) (fun _ iv _ => n - (intOf iv).toNat)
  case atStart => exact ⟨1, Nat.le_refl _, by omega, rfl, HRU.out, HBU.out⟩
  case round =>
    obtain ⟨k, hk1, hk, rfl, hrow, hB⟩ := hrel
    have HBR := Lib.hid hB
    have HB := Lib.hid (HB1.out.trans (hB.mono HB1.out.size))
    have HROW := Lib.hid hrow
    obtain ⟨oa, oc, rfl⟩ := own_form hrow
    clear hrow hB k0 k1 k2
    obtain ⟨k0, k1, k2⟩ := KK.out _ HB.out
    by_cases hlt : k < n
    · have hki : (k : Int) < (n : Int) := by omega
      obtain ⟨n0, n1, n2⟩ := HC.out _ k (HBA.out.trans (HB.out.mono HBA.out.size)) hlt
      rw [HPE.out k hlt (by omega)] at n0
      have hpl := HPL.out k (by omega)
      have hpi : ((par ns k : Nat) : Int) < (k : Int) := by omega
      obtain ⟨a1, a2, a3, a4, a5, a6, a7, a8, a9, a10⟩ := HDR.out k hlt
      have hvi := HVI.out (par ns k) (by omega)
      have HVPk := Lib.hid (HVP.out k (by omega))
      have HSPk := Lib.hid (show spL (vol sl sh ns) (k + 1) = spL (vol sl sh ns) k ++ [.int .i64 (vol sl sh ns k).1, .int .i64 (vol sl sh ns k).2] from HSP.out k)
      obtain ⟨sa, sc, hse, -, hsv⟩ := sv_of_own HROW.out
      simp only [Value.slice.injEq] at hse
      obtain ⟨rfl, -, rfl⟩ := hse
      obtain ⟨g, o0, rfl, hgl, g0, g1⟩ := hsv (par ns k) hpl
      obtain ⟨qa, qc, hqe, -, hqv⟩ := HCU.out.at HBR.out
      simp only [Value.slice.injEq] at hqe
      obtain ⟨rfl, -, rfl⟩ := hqe
      obtain ⟨cb, co, rfl, hcl, u0, u1⟩ := hqv k hlt
      clear hsv hqv
      dsimp only at u0 u1
      have hd1 : (curL ns k * (nd ns k).ol).tdiv 1000 = dropL ns k := Int.tdiv_eq_ediv_of_nonneg a5.1
      have hd2 : (curH ns k * (nd ns k).oh + 999).tdiv 1000 = dropH ns k := Int.tdiv_eq_ediv_of_nonneg (by omega)
      generalize (vol sl sh ns k).1 = r0 at *
      generalize (vol sl sh ns k).2 = r1 at *
      generalize (vol sl sh ns (par ns k)).1 = vl at *
      generalize (vol sl sh ns (par ns k)).2 = vh at *
      generalize par ns k = p at *
      generalize dropL ns k = dl at *
      generalize dropH ns k = dh at *
      generalize hm1 : curL ns k * (nd ns k).ol = m1 at *
      generalize hm2 : curH ns k * (nd ns k).oh = m2 at *
      generalize curL ns k = cl at *
      generalize curH ns k = ch at *
      generalize (nd ns k).ol = ol at *
      generalize (nd ns k).oh = oh at *
      clear a1 a2 a3 a4 a7 a10
      have HM1 := Lib.hid (show IntKind.wrap .i64 (cl * ol) = m1 by rw [hm1, IntKind.wrap_i64]; omega)
      have HM2 := Lib.hid (show IntKind.wrap .i64 (ch * oh) = m2 by rw [hm2, IntKind.wrap_i64]; omega)
      have HM3 := Lib.hid (show IntKind.wrap .i64 (m2 + 999) = m2 + 999 by rw [IntKind.wrap_i64]; omega)
      have HM4 := Lib.hid (show IntKind.wrap .i64 dl = dl by rw [IntKind.wrap_i64]; omega)
      have HM5 := Lib.hid (show IntKind.wrap .i64 dh = dh by rw [IntKind.wrap_i64]; omega)
      have HD1 := Lib.hid hd1
      have HD2 := Lib.hid hd2
      clear hm1 hm2 hd1 hd2 a5 a6
      have hlw : w.heap.size < wr.heap.size ∧ nb < wr.heap.size := by have := HBA.out.size; have := HB.out.size; have := HLT.out; omega
      have KQ := Lib.hid (show ∀ Z, Below wr.heap.size wr Z → Z.cell? ⟨w.heap.size, 2, none⟩ = some (.slice (some ⟨nb, off, none⟩) n cap) ∧ Z.cell? ⟨nb, off + k * 8, none⟩ = some (.int .i64 (p : Int)) ∧ Z.cell? ⟨g, o0 + p * 2, none⟩ = some (.int .i64 vl) ∧ Z.cell? ⟨g, o0 + p * 2 + 1, none⟩ = some (.int .i64 vh) ∧ Z.cell? ⟨cb, co + k * 2, none⟩ = some (.int .i64 cl) ∧ Z.cell? ⟨cb, co + k * 2 + 1, none⟩ = some (.int .i64 ch) from fun Z h => ⟨(h.cell (p := ⟨w.heap.size, 2, none⟩) hlw.1).trans k2, (h.cell (p := ⟨nb, _, none⟩) hlw.2).trans n0, (h.cell (p := ⟨g, _, none⟩) hgl).trans g0, (h.cell (p := ⟨g, _, none⟩) hgl).trans g1, (h.cell (p := ⟨cb, _, none⟩) hcl).trans u0, (h.cell (p := ⟨cb, _, none⟩) hcl).trans u1⟩)
      obtain ⟨V, hV⟩ : ∃ V, V = wr.alloc (.cells #[.int .i64 ol, .int .i64 oh] 23) := ⟨_, rfl⟩
      have HBV := Lib.hid (show Below wr.heap.size wr V by rw [hV]; exact (Below.refl _ _).alloc (Nat.le_refl _) _)
      have HXV := Lib.hid (show Bx2 V wr.heap.size (.int .i64 ol) (.int .i64 oh) by rw [hV]; exact Bx2.new _ _ _)
      have HZV := Lib.hid (show V.heap.size = wr.heap.size + 1 by rw [hV]; simp)
      go_upto_region 7 with fail
      try rw [← hV]
      clear hV k0 k1 k2 n0 n1 n2 g0 g1 u0 u1
      obtain ⟨k2, n0, g0, g1, u0, u1⟩ := KQ.out _ HBV.out
      obtain ⟨Y, hY⟩ : ∃ Y, Y = V.alloc (.cells #[.int .i64 vl, .int .i64 vh] 23) := ⟨_, rfl⟩
      have HBY := Lib.hid (show Below wr.heap.size wr Y by rw [hY]; exact HBV.out.trans (((Below.refl _ _).alloc (Nat.le_refl _) _).mono HBV.out.size))
      have HXY := Lib.hid (show Bx2 Y V.heap.size (.int .i64 vl) (.int .i64 vh) by rw [hY]; exact Bx2.new _ _ _)
      have HXV2 := Lib.hid (show Bx2 Y wr.heap.size (.int .i64 ol) (.int .i64 oh) by rw [hY]; exact HXV.out.keep ((Below.refl _ _).alloc (Nat.le_refl _) _))
      go_upto_region 8 with fail
      try rw [← hY]
      clear hY k2 n0 g0 g1 u0 u1
      obtain ⟨k2, n0, g0, g1, u0, u1⟩ := KQ.out _ HBY.out
      have z0 := HXV2.out.c0
      have z1 := HXV2.out.c1
      have KM := Lib.hid (show (IntKind.wrap .i64 (cl * ol) = m1 ∧ IntKind.wrap .i64 (ch * oh) = m2 ∧ IntKind.wrap .i64 (m2 + 999) = m2 + 999 ∧ IntKind.wrap .i64 dl = dl ∧ IntKind.wrap .i64 dh = dh) ∧ m1.tdiv 1000 = dl ∧ (m2 + 999).tdiv 1000 = dh from ⟨⟨HM1.out, HM2.out, HM3.out, HM4.out, HM5.out⟩, HD1.out, HD2.out⟩)
      clear HM1 HM2 HM3 HM4 HM5 HD1 HD2
      refine wp_region_held_drew (S := fun w' => w'.cell? ⟨cb, co + k * 2, none⟩ = some (Value.int .i64 cl) ∧ w'.cell? ⟨cb, co + k * 2 + 1, none⟩ = some (Value.int .i64 ch) ∧ w'.cell? ⟨wr.heap.size, 0, none⟩ = some (Value.int .i64 ol) ∧ w'.cell? ⟨wr.heap.size, 1, none⟩ = some (Value.int .i64 oh)) (by kernel_rfl) ⟨by simpa [go_sem] using u0, by simpa [go_sem] using u1, by simpa [go_sem] using z0, by simpa [go_sem] using z1⟩ (fun hHeld => ?_)
      refine wpAnyH_take (i := 0) (oi := _) (v := Value.slice (some ⟨cb, co, none⟩) n cc) rfl (by kernel_rfl) (by kernel_rfl) (by kernel_rfl) (fun _ _ _ h => h) (Or.inl ⟨by rfl, fun w' hSw => ?_⟩) hHeld ?_
      · obtain ⟨t0, t1, t2, t3⟩ := hSw
        go_simp
        try simp [KM.out, *]
        try (intro hh; exfalso; omega)
        try omega
      try simp only [Act.put, List.setIfInBounds_toArray, List.set_cons_zero, List.set_cons_succ, List.getElem_toArray, List.getElem_cons_succ, List.getElem_cons_zero]
      refine wpAnyH_take (i := 1) (oi := _) (v := Value.int .i64 (k : Int)) rfl (by kernel_rfl) (by kernel_rfl) (by kernel_rfl) (fun _ _ _ h => h) (Or.inl ⟨by rfl, fun w' hSw => ?_⟩) hHeld ?_
      · obtain ⟨t0, t1, t2, t3⟩ := hSw
        go_simp
        try simp [KM.out, *]
        try (intro hh; exfalso; omega)
        try omega
      try simp only [Act.put, List.setIfInBounds_toArray, List.set_cons_zero, List.set_cons_succ, List.getElem_toArray, List.getElem_cons_succ, List.getElem_cons_zero]
      refine wpAnyH_take (i := 2) (oi := _) (v := Value.pointer (some ⟨cb, co + k * 2, none⟩)) rfl (by kernel_rfl) (by kernel_rfl) (by kernel_rfl) (fun _ _ _ h => h) (Or.inl ⟨by rfl, fun w' hSw => ?_⟩) hHeld ?_
      · obtain ⟨t0, t1, t2, t3⟩ := hSw
        go_simp
        try simp [KM.out, *]
        try (intro hh; exfalso; omega)
        try omega
      try simp only [Act.put, List.setIfInBounds_toArray, List.set_cons_zero, List.set_cons_succ, List.getElem_toArray, List.getElem_cons_succ, List.getElem_cons_zero]
      refine wpAnyH_take (i := 3) (oi := _) (v := Value.pointer (some ⟨cb, co + k * 2, none⟩)) rfl (by kernel_rfl) (by kernel_rfl) (by kernel_rfl) (fun _ _ _ h => h) (Or.inl ⟨by rfl, fun w' hSw => ?_⟩) hHeld ?_
      · obtain ⟨t0, t1, t2, t3⟩ := hSw
        go_simp
        try simp [KM.out, *]
        try (intro hh; exfalso; omega)
        try omega
      try simp only [Act.put, List.setIfInBounds_toArray, List.set_cons_zero, List.set_cons_succ, List.getElem_toArray, List.getElem_cons_succ, List.getElem_cons_zero]
      refine wpAnyH_take (i := 4) (oi := _) (v := Value.int .i64 cl) rfl (by kernel_rfl) (by kernel_rfl) (by kernel_rfl) (fun _ _ _ h => h) (Or.inl ⟨by rfl, fun w' hSw => ?_⟩) hHeld ?_
      · obtain ⟨t0, t1, t2, t3⟩ := hSw
        go_simp
        try simp [KM.out, *]
        try (intro hh; exfalso; omega)
        try omega
      try simp only [Act.put, List.setIfInBounds_toArray, List.set_cons_zero, List.set_cons_succ, List.getElem_toArray, List.getElem_cons_succ, List.getElem_cons_zero]
      refine wpAnyH_take (i := 5) (oi := _) (v := Value.pointer (some ⟨wr.heap.size, 0, none⟩)) rfl (by kernel_rfl) (by kernel_rfl) (by kernel_rfl) (fun _ _ _ h => h) (Or.inl ⟨by rfl, fun w' hSw => ?_⟩) hHeld ?_
      · obtain ⟨t0, t1, t2, t3⟩ := hSw
        go_simp
        try simp [KM.out, *]
        try (intro hh; exfalso; omega)
        try omega
      try simp only [Act.put, List.setIfInBounds_toArray, List.set_cons_zero, List.set_cons_succ, List.getElem_toArray, List.getElem_cons_succ, List.getElem_cons_zero]
      refine wpAnyH_take (i := 6) (oi := _) (v := Value.int .i64 ol) rfl (by kernel_rfl) (by kernel_rfl) (by kernel_rfl) (fun _ _ _ h => h) (Or.inl ⟨by rfl, fun w' hSw => ?_⟩) hHeld ?_
      · obtain ⟨t0, t1, t2, t3⟩ := hSw
        go_simp
        try simp [KM.out, *]
        try (intro hh; exfalso; omega)
        try omega
      try simp only [Act.put, List.setIfInBounds_toArray, List.set_cons_zero, List.set_cons_succ, List.getElem_toArray, List.getElem_cons_succ, List.getElem_cons_zero]
      refine wpAnyH_take (i := 7) (oi := _) (v := Value.int .i64 m1) rfl (by kernel_rfl) (by kernel_rfl) (by kernel_rfl) (fun _ _ _ h => h) (Or.inl ⟨by rfl, fun w' hSw => ?_⟩) hHeld ?_
      · obtain ⟨t0, t1, t2, t3⟩ := hSw
        go_simp
        try simp [KM.out, *]
        try (intro hh; exfalso; omega)
        try omega
      try simp only [Act.put, List.setIfInBounds_toArray, List.set_cons_zero, List.set_cons_succ, List.getElem_toArray, List.getElem_cons_succ, List.getElem_cons_zero]
      refine wpAnyH_take (i := 8) (oi := _) (v := Value.int .i64 dl) rfl (by kernel_rfl) (by kernel_rfl) (by kernel_rfl) (fun _ _ _ h => h) (Or.inl ⟨by rfl, fun w' hSw => ?_⟩) hHeld ?_
      · obtain ⟨t0, t1, t2, t3⟩ := hSw
        go_simp
        try simp [KM.out, *]
        try (intro hh; exfalso; omega)
        try omega
      try simp only [Act.put, List.setIfInBounds_toArray, List.set_cons_zero, List.set_cons_succ, List.getElem_toArray, List.getElem_cons_succ, List.getElem_cons_zero]
      refine wpAnyH_take (i := 9) (oi := _) (v := Value.slice (some ⟨cb, co, none⟩) n cc) rfl (by kernel_rfl) (by kernel_rfl) (by kernel_rfl) (fun _ _ _ h => h) (Or.inl ⟨by rfl, fun w' hSw => ?_⟩) hHeld ?_
      · obtain ⟨t0, t1, t2, t3⟩ := hSw
        go_simp
        try simp [KM.out, *]
        try (intro hh; exfalso; omega)
        try omega
      try simp only [Act.put, List.setIfInBounds_toArray, List.set_cons_zero, List.set_cons_succ, List.getElem_toArray, List.getElem_cons_succ, List.getElem_cons_zero]
      refine wpAnyH_take (i := 10) (oi := _) (v := Value.int .i64 (k : Int)) rfl (by kernel_rfl) (by kernel_rfl) (by kernel_rfl) (fun _ _ _ h => h) (Or.inl ⟨by rfl, fun w' hSw => ?_⟩) hHeld ?_
      · obtain ⟨t0, t1, t2, t3⟩ := hSw
        go_simp
        try simp [KM.out, *]
        try (intro hh; exfalso; omega)
        try omega
      try simp only [Act.put, List.setIfInBounds_toArray, List.set_cons_zero, List.set_cons_succ, List.getElem_toArray, List.getElem_cons_succ, List.getElem_cons_zero]
      refine wpAnyH_take (i := 11) (oi := _) (v := Value.pointer (some ⟨cb, co + k * 2, none⟩)) rfl (by kernel_rfl) (by kernel_rfl) (by kernel_rfl) (fun _ _ _ h => h) (Or.inl ⟨by rfl, fun w' hSw => ?_⟩) hHeld ?_
      · obtain ⟨t0, t1, t2, t3⟩ := hSw
        go_simp
        try simp [KM.out, *]
        try (intro hh; exfalso; omega)
        try omega
      try simp only [Act.put, List.setIfInBounds_toArray, List.set_cons_zero, List.set_cons_succ, List.getElem_toArray, List.getElem_cons_succ, List.getElem_cons_zero]
      refine wpAnyH_take (i := 12) (oi := _) (v := Value.pointer (some ⟨cb, co + k * 2 + 1, none⟩)) rfl (by kernel_rfl) (by kernel_rfl) (by kernel_rfl) (fun _ _ _ h => h) (Or.inl ⟨by rfl, fun w' hSw => ?_⟩) hHeld ?_
      · obtain ⟨t0, t1, t2, t3⟩ := hSw
        go_simp
        try simp [KM.out, *]
        try (intro hh; exfalso; omega)
        try omega
      try simp only [Act.put, List.setIfInBounds_toArray, List.set_cons_zero, List.set_cons_succ, List.getElem_toArray, List.getElem_cons_succ, List.getElem_cons_zero]
      refine wpAnyH_take (i := 13) (oi := _) (v := Value.int .i64 ch) rfl (by kernel_rfl) (by kernel_rfl) (by kernel_rfl) (fun _ _ _ h => h) (Or.inl ⟨by rfl, fun w' hSw => ?_⟩) hHeld ?_
      · obtain ⟨t0, t1, t2, t3⟩ := hSw
        go_simp
        try simp [KM.out, *]
        try (intro hh; exfalso; omega)
        try omega
      try simp only [Act.put, List.setIfInBounds_toArray, List.set_cons_zero, List.set_cons_succ, List.getElem_toArray, List.getElem_cons_succ, List.getElem_cons_zero]
      refine wpAnyH_take (i := 14) (oi := _) (v := Value.pointer (some ⟨wr.heap.size, 1, none⟩)) rfl (by kernel_rfl) (by kernel_rfl) (by kernel_rfl) (fun _ _ _ h => h) (Or.inl ⟨by rfl, fun w' hSw => ?_⟩) hHeld ?_
      · obtain ⟨t0, t1, t2, t3⟩ := hSw
        go_simp
        try simp [KM.out, *]
        try (intro hh; exfalso; omega)
        try omega
      try simp only [Act.put, List.setIfInBounds_toArray, List.set_cons_zero, List.set_cons_succ, List.getElem_toArray, List.getElem_cons_succ, List.getElem_cons_zero]
      refine wpAnyH_take (i := 15) (oi := _) (v := Value.int .i64 oh) rfl (by kernel_rfl) (by kernel_rfl) (by kernel_rfl) (fun _ _ _ h => h) (Or.inl ⟨by rfl, fun w' hSw => ?_⟩) hHeld ?_
      · obtain ⟨t0, t1, t2, t3⟩ := hSw
        go_simp
        try simp [KM.out, *]
        try (intro hh; exfalso; omega)
        try omega
      try simp only [Act.put, List.setIfInBounds_toArray, List.set_cons_zero, List.set_cons_succ, List.getElem_toArray, List.getElem_cons_succ, List.getElem_cons_zero]
      refine wpAnyH_take (i := 16) (oi := _) (v := Value.int .i64 m2) rfl (by kernel_rfl) (by kernel_rfl) (by kernel_rfl) (fun _ _ _ h => h) (Or.inl ⟨by rfl, fun w' hSw => ?_⟩) hHeld ?_
      · obtain ⟨t0, t1, t2, t3⟩ := hSw
        go_simp
        try simp [KM.out, *]
        try (intro hh; exfalso; omega)
        try omega
      try simp only [Act.put, List.setIfInBounds_toArray, List.set_cons_zero, List.set_cons_succ, List.getElem_toArray, List.getElem_cons_succ, List.getElem_cons_zero]
      refine wpAnyH_take (i := 17) (oi := _) (v := Value.int .i64 (m2 + 999)) rfl (by kernel_rfl) (by kernel_rfl) (by kernel_rfl) (fun _ _ _ h => h) (Or.inl ⟨by rfl, fun w' hSw => ?_⟩) hHeld ?_
      · obtain ⟨t0, t1, t2, t3⟩ := hSw
        go_simp
        try simp [KM.out, *]
        try (intro hh; exfalso; omega)
        try omega
      try simp only [Act.put, List.setIfInBounds_toArray, List.set_cons_zero, List.set_cons_succ, List.getElem_toArray, List.getElem_cons_succ, List.getElem_cons_zero]
      refine wpAnyH_take (i := 18) (oi := _) (v := Value.int .i64 dh) rfl (by kernel_rfl) (by kernel_rfl) (by kernel_rfl) (fun _ _ _ h => h) (Or.inl ⟨by rfl, fun w' hSw => ?_⟩) hHeld ?_
      · obtain ⟨t0, t1, t2, t3⟩ := hSw
        go_simp
        try simp [KM.out, *]
        try (intro hh; exfalso; omega)
        try omega
      try simp only [Act.put, List.setIfInBounds_toArray, List.set_cons_zero, List.set_cons_succ, List.getElem_toArray, List.getElem_cons_succ, List.getElem_cons_zero]
      refine wpAnyH_take (i := 19) (oi := _) (v := Value.int .i64 dl) rfl (by kernel_rfl) (by kernel_rfl) (by kernel_rfl) (fun _ _ _ h => h) (Or.inl ⟨by rfl, fun w' hSw => ?_⟩) hHeld ?_
      · obtain ⟨t0, t1, t2, t3⟩ := hSw
        go_simp
        try simp [KM.out, *]
        try (intro hh; exfalso; omega)
        try omega
      try simp only [Act.put, List.setIfInBounds_toArray, List.set_cons_zero, List.set_cons_succ, List.getElem_toArray, List.getElem_cons_succ, List.getElem_cons_zero]
      refine wpAnyH_take (i := 20) (oi := _) (v := Value.int .i64 dh) rfl (by kernel_rfl) (by kernel_rfl) (by kernel_rfl) (fun _ _ _ h => h) (Or.inl ⟨by rfl, fun w' hSw => ?_⟩) hHeld ?_
      · obtain ⟨t0, t1, t2, t3⟩ := hSw
        go_simp
        try simp [KM.out, *]
        try (intro hh; exfalso; omega)
        try omega
      try simp only [Act.put, List.setIfInBounds_toArray, List.set_cons_zero, List.set_cons_succ, List.getElem_toArray, List.getElem_cons_succ, List.getElem_cons_zero]
      refine wpAnyH_done (by kernel_rfl) ?_ _
      clear hHeld
      clear k2 n0 g0 g1 u0 u1 z0 z1
      have HXD := Lib.hid (show Bx2 Y.drew V.heap.size (.int .i64 vl) (.int .i64 vh) from HXY.out)
      have HBD := Lib.hid (show Below w1.heap.size w1 Y.drew from (HBR.out.trans (HBY.out.mono HBR.out.size)).drew)
      have HROWY := Lib.hid (show Y.drew.ownsRow w1.heap.size 23 2 (.slice (some ⟨g, o0, none⟩) k oc) k (spL (vol sl sh ns) k) from own_below HROW.out HBY.out.drew)
      generalize Y.drew = X at *
      have y0 := HXD.out.c0
      have y1 := HXD.out.c1
      have HBX := Lib.hid (HB1.out.trans (HBD.out.mono HB1.out.size))
      go_wp2_with (at_builtin; refine wpList_append_own _ rfl _ _ 36 rfl w1.heap.size 23 i0 (.agg #[.int .i64 0, .int .i64 0]) 2 16 Try.underlying36 hi0 hz0 hz1 hz2 rfl (by decide) _ _ _ rfl (HROWY.out.alloc _) ⟨X.heap.size, 0, none⟩ 1 1 [.int .i64 (vl - dh), .int .i64 (vh - dl)] rfl rfl (two_new _ _ _) (by simp [Value.oneCell']) (by unfold maxLen; omega) (by omega) (by have := HBD.out.size; simp; omega) ?_; intro v' w5 hown' hgrow _; have HG := Lib.hid hgrow; have HO := Lib.hid hown'; obtain ⟨g', cap', rfl⟩ := ownsRow_succ hown'; clear hown' hgrow; have HB5 := Lib.hid (show Below w1.heap.size w1 w5 from (HBD.out.alloc HBD.out.size _).grown HG.out (by have := HBD.out.size; simp; omega) (fun r e => (((HROWY.out.alloc (.cells #[.int .i64 (vl - dh), .int .i64 (vh - dl)] 23)).lt r e).1))))
      have HR5 := Lib.hid (show w5.ownsRow w1.heap.size 23 2 _ (k + 1) (spL (vol sl sh ns) (k + 1)) by rw [HSPk.out, HVPk.out.1, HVPk.out.2]; exact HO.out)
      go_roundw
      case rel => exact ⟨k + 1, by omega, by omega, by go_num, HR5.out, HB5.out⟩
      case measure => simp [intOf]; omega
    · obtain rfl : k = n := by omega
      have HR := Lib.hid (show wr.ownsRow w.heap.size 23 2 (.slice oa k oc) k (spL (vol sl sh ns) k) from own_base HROW.out (Nat.le_trans HBA.out.size HB1.out.size))
      go_wp2_with fail
      go_ret
      exact ⟨_, rfl, HR.out, HBA.out.trans (HB.out.mono HBA.out.size)⟩
end Go.Proofs.Ytdohfpnnmppdkaa

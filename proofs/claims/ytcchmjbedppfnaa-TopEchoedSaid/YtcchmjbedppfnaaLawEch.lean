/-
  The walk of TopEchoed.
-/
import Derived.Test.YtcchmjbedppfnaaEcF
import Derived.Test.YtcchmjbedppfnaaTbE
import Derived.Deep.Cut
namespace Go.Proofs.Ytcchmjbedppfnaa
open Go.RowKit Go.Shelf
set_option linter.unusedSimpArgs false
theorem build115 (w : World) (v0 nb b0 b1 : Int) : (Instr.buildSlice 115 1 #[(0, .agg #[.int .i64 2, .int .i64 v0, .int .i64 nb, .int .i64 b0, .int .i64 b1])]).run Try.prog w = .ok (.slice (some ⟨w.heap.size, 0, none⟩) 1 1) (w.alloc (.cells #[.int .i64 2, .int .i64 v0, .int .i64 nb, .int .i64 b0, .int .i64 b1] 113)) := by kernel_rfl
theorem wp_build115 {o : Oper} {a : Act} {K : Act → World → Prop} {Q : Exit → Act → World → Prop} (w : World) (x : Operand) {v0 nb b0 b1 : Int} (ho : o.op = .buildSlice 115 1 #[(0, x)])
    (hx : a.eval x = .agg #[.int .i64 2, .int .i64 v0, .int .i64 nb, .int .i64 b0, .int .i64 b1])
    (h : K (a.put o.dst (.slice (some ⟨w.heap.size, 0, none⟩) 1 1)) (w.alloc (.cells #[.int .i64 2, .int .i64 v0, .int .i64 nb, .int .i64 b0, .int .i64 b1] 113))) : o.wp Try.prog a w K Q := by
  unfold Oper.wp execOp
  simp only [ho, List.map_toArray, List.map_cons, List.map_nil, hx, Sem.run_bind, Sem.run_pure, build115, Result.andThen_ok]
  exact h
set_option maxRecDepth 100000 in
set_option maxHeartbeats 8000000 in
theorem law_echoed (bh d wd ec st sp m0 m1 : Int) (h1 : 0 ≤ bh ∧ bh ≤ 65535) (h2 : 0 ≤ d ∧ d ≤ 65535) (h3 : 0 ≤ wd ∧ wd ≤ 65535) (h4 : 0 ≤ ec ∧ ec ≤ 65535) (h5 : 0 ≤ st ∧ st ≤ 4294967295) (h6 : 0 ≤ sp ∧ sp ≤ 255) (h7 : 0 ≤ m0 ∧ m0 ≤ 255) (h8 : 0 ≤ m1 ∧ m1 ≤ 255) (w : World) :
    Calls Try.prog 18 #[.int .u16 bh, .int .u16 d, .int .u16 wd, .int .u16 ec, .int .u32 st, .int .u8 sp, .agg #[.int .u8 m0, .int .u8 m1]] w fun e w' => e = .returned (.bool true) ∧ Below w.heap.size w w' := by
  have c59 := fun W => works05_any W
  obtain ⟨x, hx⟩ : ∃ x, x = wd.tmod 1000 := ⟨_, rfl⟩
  obtain ⟨y, hy⟩ : ∃ y, y = ec.tmod 40000 := ⟨_, rfl⟩
  obtain ⟨z, hz⟩ : ∃ z, z = st.tmod 536870912 := ⟨_, rfl⟩
  obtain ⟨f, hf⟩ : ∃ f, f = sp.tmod 100 := ⟨_, rfl⟩
  have hxb : 0 ≤ x ∧ x ≤ 999 := by rw [hx, Int.tmod_eq_emod_of_nonneg h3.1]; omega
  have hyb : 0 ≤ y ∧ y ≤ 39999 := by rw [hy, Int.tmod_eq_emod_of_nonneg h4.1]; omega
  have hzb : 0 ≤ z ∧ z ≤ 536870911 := by rw [hz, Int.tmod_eq_emod_of_nonneg h5.1]; omega
  have hfb : 0 ≤ f ∧ f ≤ 99 := by rw [hf, Int.tmod_eq_emod_of_nonneg h6.1]; omega
  replace hx := hx.symm
  replace hy := hy.symm
  replace hz := hz.symm
  replace hf := hf.symm
  have c39 := fun W => times_ech bh d x z y h1 h2 hxb hzb hyb W
  have hub : 0 ≤ min d x ∧ min d x ≤ 999 := by omega
  have c65 := fun W => took_ech z y (min d x) hzb hyb hub W
  have c64 := fun W => nanos_ech y (min d x) hyb hub W
  have hpl := place_ech (m0 := m0) (m1 := m1) hyb hub hfb h7 h8
  have c69 := Lib.hid (fun b c (W : World) hb k0 k1 k2 k3 k4 => locate69 b c (max 0 (1000 * (y - 2 * min d x))) (1000 * (y + 2 * min d x)) (2000 * (1 + f) - m0) (2000 * (1 + f) + m1) (by omega) (by omega) (by omega) (by omega) (by omega) (by omega) W hb k0 k1 k2 k3 k4)
  generalize min d x = u at *
  have wp : IntKind.wrap .i64 ((1 + f) * y) = (1 + f) * y := by
    have a1 : 0 ≤ (1 + f) * y := Int.mul_nonneg (by omega) hyb.1
    have a2 : (1 + f) * y ≤ 100 * 39999 := Int.mul_le_mul (by omega) (by omega) (by omega) (by omega)
    rw [IntKind.wrap_i64]; omega
  generalize max 0 (1000 * (y - 2 * u)) * (2000 * (1 + f) - m0) / 2000000 = q1 at *
  generalize (1000 * (y + 2 * u) * (2000 * (1 + f) + m1) + 1999999) / 2000000 = q2 at *
  obtain ⟨hp1, hp2⟩ := hpl
  have hnab : (-2000000 ≤ 1000 * (y - 2 * u) ∧ 1000 * (y - 2 * u) ≤ 50000000) ∧ -2000000 ≤ 1000 * (y + 2 * u) ∧ 1000 * (y + 2 * u) ≤ 50000000 := by omega
  generalize 1000 * (y - 2 * u) = na at *
  generalize 1000 * (y + 2 * u) = nb at *
  obtain ⟨p, hp⟩ : ∃ p, p = (1 + f) * y := ⟨_, rfl⟩
  rw [← hp] at hp1 hp2
  have HWP := Lib.hid (show IntKind.wrap .i64 ((1 + f) * y) = p by rw [wp, hp])
  clear hp wp
  obtain ⟨W2, hW2⟩ : ∃ W, W = (w.alloc (.cells #[.int .u8 m0, .int .u8 m1] 111)).alloc (.cells #[.int .i64 (max 0 (d - x)), .int .i64 (d + x)] 23) := ⟨_, rfl⟩
  have hz2 : W2.heap.size = w.heap.size + 1 + 1 := by rw [hW2]; simp
  have HB2 := Lib.hid (show Below w.heap.size w W2 by rw [hW2]; exact ((Below.refl _ _).alloc (Nat.le_refl _) _).alloc (by simp) _)
  have n0 : W2.cell? ⟨w.heap.size, 0, none⟩ = some (.int .u8 m0) := by rw [hW2]; simp [go_sem]
  have n1 : W2.cell? ⟨w.heap.size, 1, none⟩ = some (.int .u8 m1) := by rw [hW2]; simp [go_sem]
  have i0 : W2.cell? ⟨w.heap.size + 1, 0, none⟩ = some (.int .i64 (max 0 (d - x))) := by rw [hW2]; simp [go_sem]
  have i1 : W2.cell? ⟨w.heap.size + 1, 1, none⟩ = some (.int .i64 (d + x)) := by rw [hW2]; simp [go_sem]
  obtain ⟨A, hA⟩ : ∃ A, A = ((W2.alloc (.cells #[.int .i64 100000, .int .i64 (100000 + bh + d), .int .i64 (100000 + bh + d), .int .i64 (100000 + 2 * d), .int .i64 (max 0 (d - x)), .int .i64 (d + x), .int .i64 (max 0 (d - x)), .int .i64 (d + x)] 25)).alloc (.cells #[.int .i64 (-1), .int .i64 0, .slice (some ⟨W2.heap.size, 0, none⟩) 1 1] 28)).alloc (.cells #[.int .i64 0, .int .i64 (70000 + z - bh), .int .i64 0, .int .i64 (70000 + z + y - bh)] 49) := ⟨_, rfl⟩
  have HA2 := Lib.hid (show Below W2.heap.size W2 A by rw [hA]; exact (((Below.refl _ _).alloc (Nat.le_refl _) _).alloc (by simp) _).alloc (by simp; omega) _)
  have KM := Lib.hid (show ∀ W, Below A.heap.size A W → W.cell? ⟨w.heap.size, 0, none⟩ = some (.int .u8 m0) ∧ W.cell? ⟨w.heap.size, 1, none⟩ = some (.int .u8 m1) from fun W h => by
    have h2 := HA2.out.trans (h.mono HA2.out.size)
    exact ⟨(h2.cell (p := ⟨w.heap.size, 0, none⟩) (by show w.heap.size < W2.heap.size; omega)).trans n0, (h2.cell (p := ⟨w.heap.size, 1, none⟩) (by show w.heap.size < W2.heap.size; omega)).trans n1⟩)
  have HUP := Lib.hid (show ∀ W, Below A.heap.size A W → Below w.heap.size w W from fun W h => HB2.out.trans ((HA2.out.trans (h.mono HA2.out.size)).mono HB2.out.size))
  have C39 := Lib.hid (c39 W2)
  rw [← hA] at C39
  have HZ2 := Lib.hid hz2
  clear c39 n0 n1 hz2
  go_enter Try.func18, Try.ntmps18
  go_upto_region 3 with fail
  try rw [← hW2]
  clear hW2
  go_upto_region 7 with fail
  go_wp2_with fail
  try rw [← hA]
  clear hA i0 i1
  refine C39.out.mono ?_
  rintro e w1 ⟨⟨b, off, c, rfl, hbl, e0, e1, e2, e3⟩, hb⟩
  have HB1 := Lib.hid hb
  have HBL := Lib.hid hbl
  clear hb C39 hbl
  have KE := Lib.hid (show ∀ W, Below w1.heap.size w1 W → W.cell? ⟨b, off, none⟩ = some (.int .i64 (70000 + z - u)) ∧ W.cell? ⟨b, off + 1, none⟩ = some (.int .i64 (70000 + z + u)) ∧ W.cell? ⟨b, off + 2, none⟩ = some (.int .i64 (70000 + z + y - u)) ∧ W.cell? ⟨b, off + 3, none⟩ = some (.int .i64 (70000 + z + y + u)) from fun W h => ⟨(h.cell (p := ⟨b, off, none⟩) HBL.out).trans e0, (h.cell (p := ⟨b, off + 1, none⟩) HBL.out).trans e1, (h.cell (p := ⟨b, off + 2, none⟩) HBL.out).trans e2, (h.cell (p := ⟨b, off + 3, none⟩) HBL.out).trans e3⟩)
  go_upto_region 10 with fail
  go_cut [22, 23] from 24 (fun s22 s23 wc => ∃ B, s22 = Value.int .i64 0 ∧ s23 = Value.pointer (some ⟨B, 0, none⟩) ∧ Bx2 wc B (.int .i64 (y - 2 * u)) (.int .i64 (y + 2 * u)) ∧ Below w1.heap.size w1 wc)
  case first => as_aux_lemma =>
    have HD := Lib.hid (show Below w1.heap.size w1 w1.drew from (Below.refl _ _).drew)
    refine wp_region_held_drew (S := fun w' => w'.cell? ⟨b, off, none⟩ = some (Value.int .i64 (70000 + z - u)) ∧ w'.cell? ⟨b, off + 1, none⟩ = some (Value.int .i64 (70000 + z + u)) ∧ w'.cell? ⟨b, off + 2, none⟩ = some (Value.int .i64 (70000 + z + y - u)) ∧ w'.cell? ⟨b, off + 3, none⟩ = some (Value.int .i64 (70000 + z + y + u))) (by kernel_rfl) ⟨by simpa [go_sem] using e0, by simpa [go_sem] using e1, by simpa [go_sem] using e2, by simpa [go_sem] using e3⟩ (fun hHeld => ?_)
    refine wpAnyH_take (i := 0) (oi := _) (v := Value.slice (some ⟨b, off, none⟩) 2 c) rfl (by kernel_rfl) (by kernel_rfl) (by kernel_rfl) (fun _ _ _ h => h) (Or.inl ⟨by rfl, fun w' hSw => ?_⟩) hHeld ?_
    · obtain ⟨t0, t1, t2, t3⟩ := hSw
      go_simp
      try simp [*]
      try (intro hh; exfalso; omega)
      try omega
    try simp only [Act.put, List.setIfInBounds_toArray, List.set_cons_zero, List.set_cons_succ, List.getElem_toArray, List.getElem_cons_succ, List.getElem_cons_zero]
    refine wpAnyH_take (i := 1) (oi := _) (v := Value.pointer (some ⟨b, off + 2, none⟩)) rfl (by kernel_rfl) (by kernel_rfl) (by kernel_rfl) (fun _ _ _ h => h) (Or.inl ⟨by rfl, fun w' hSw => ?_⟩) hHeld ?_
    · obtain ⟨t0, t1, t2, t3⟩ := hSw
      go_simp
      try simp [*]
      try (intro hh; exfalso; omega)
      try omega
    try simp only [Act.put, List.setIfInBounds_toArray, List.set_cons_zero, List.set_cons_succ, List.getElem_toArray, List.getElem_cons_succ, List.getElem_cons_zero]
    refine wpAnyH_take (i := 2) (oi := _) (v := Value.agg #[Value.int .i64 (70000 + z + y - u), Value.int .i64 (70000 + z + y + u)]) rfl (by kernel_rfl) (by kernel_rfl) (by kernel_rfl) (fun _ _ _ h => h) (Or.inl ⟨by rfl, fun w' hSw => ?_⟩) hHeld ?_
    · obtain ⟨t0, t1, t2, t3⟩ := hSw
      go_simp
      try simp [*]
      try (intro hh; exfalso; omega)
      try omega
    try simp only [Act.put, List.setIfInBounds_toArray, List.set_cons_zero, List.set_cons_succ, List.getElem_toArray, List.getElem_cons_succ, List.getElem_cons_zero]
    refine wpAnyH_take (i := 3) (oi := _) (v := Value.slice (some ⟨b, off, none⟩) 2 c) rfl (by kernel_rfl) (by kernel_rfl) (by kernel_rfl) (fun _ _ _ h => h) (Or.inl ⟨by rfl, fun w' hSw => ?_⟩) hHeld ?_
    · obtain ⟨t0, t1, t2, t3⟩ := hSw
      go_simp
      try simp [*]
      try (intro hh; exfalso; omega)
      try omega
    try simp only [Act.put, List.setIfInBounds_toArray, List.set_cons_zero, List.set_cons_succ, List.getElem_toArray, List.getElem_cons_succ, List.getElem_cons_zero]
    refine wpAnyH_take (i := 4) (oi := _) (v := Value.pointer (some ⟨b, off, none⟩)) rfl (by kernel_rfl) (by kernel_rfl) (by kernel_rfl) (fun _ _ _ h => h) (Or.inl ⟨by rfl, fun w' hSw => ?_⟩) hHeld ?_
    · obtain ⟨t0, t1, t2, t3⟩ := hSw
      go_simp
      try simp [*]
      try (intro hh; exfalso; omega)
      try omega
    try simp only [Act.put, List.setIfInBounds_toArray, List.set_cons_zero, List.set_cons_succ, List.getElem_toArray, List.getElem_cons_succ, List.getElem_cons_zero]
    refine wpAnyH_take (i := 5) (oi := _) (v := Value.agg #[Value.int .i64 (70000 + z - u), Value.int .i64 (70000 + z + u)]) rfl (by kernel_rfl) (by kernel_rfl) (by kernel_rfl) (fun _ _ _ h => h) (Or.inl ⟨by rfl, fun w' hSw => ?_⟩) hHeld ?_
    · obtain ⟨t0, t1, t2, t3⟩ := hSw
      go_simp
      try simp [*]
      try (intro hh; exfalso; omega)
      try omega
    try simp only [Act.put, List.setIfInBounds_toArray, List.set_cons_zero, List.set_cons_succ, List.getElem_toArray, List.getElem_cons_succ, List.getElem_cons_zero]
    refine wpAnyH_ready (rs := [6, 10]) (by kernel_rfl) (by simp) ?_
    refine AllReadyH.cons (o := _) rfl (fun K hK => ?_) (AllReadyH.cons (o := _) rfl (fun K hK => ?_) (AllReadyH.nil))
    · go_simp
      go_at_call 65
      refine Calls.mono (c65 _) ?_
      rintro e v1 ⟨rfl, hbx⟩
      have HV1 := Lib.hid (show Below w1.heap.size w1 v1 from Below.trans HD.out (hbx.mono (Below.size HD.out)))
      clear hbx
      clear hHeld
      refine hK.out _ _ (KE.out _ HV1.out) (fun hHeld => ?_)
      clear hK K
      try simp only [Act.put, List.setIfInBounds_toArray, List.set_cons_zero, List.set_cons_succ, List.getElem_toArray, List.getElem_cons_succ, List.getElem_cons_zero]
      refine wpAnyH_take (i := 7) (oi := _) (v := Value.tuple #[.agg #[.int .i64 (y - 2 * u), .int .i64 (y + 2 * u)], .int .i64 0]) rfl (by kernel_rfl) (by kernel_rfl) (by kernel_rfl) (fun _ _ _ h => h) (Or.inl ⟨by rfl, fun w' hSw => ?_⟩) hHeld ?_
      · obtain ⟨t0, t1, t2, t3⟩ := hSw
        go_simp
        try simp [*]
        try (intro hh; exfalso; omega)
        try omega
      try simp only [Act.put, List.setIfInBounds_toArray, List.set_cons_zero, List.set_cons_succ, List.getElem_toArray, List.getElem_cons_succ, List.getElem_cons_zero]
      refine wpAnyH_take (i := 8) (oi := _) (v := .agg #[.int .i64 (y - 2 * u), .int .i64 (y + 2 * u)]) rfl (by kernel_rfl) (by kernel_rfl) (by kernel_rfl) (fun _ _ _ h => h) (Or.inl ⟨by rfl, fun w' hSw => ?_⟩) hHeld ?_
      · obtain ⟨t0, t1, t2, t3⟩ := hSw
        go_simp
        try simp [*]
        try (intro hh; exfalso; omega)
        try omega
      try simp only [Act.put, List.setIfInBounds_toArray, List.set_cons_zero, List.set_cons_succ, List.getElem_toArray, List.getElem_cons_succ, List.getElem_cons_zero]
      refine wpAnyH_ready (rs := [9, 10]) (by kernel_rfl) (by simp) ?_
      refine AllReadyH.cons (o := _) rfl (fun K hK => ?_) (AllReadyH.cons (o := _) rfl (fun K hK => ?_) (AllReadyH.nil))
      · go_simp
        clear hHeld
        refine hK.out _ _ (KE.out _ HV1.out) (fun hHeld => ?_)
        clear hK K
        try simp only [Act.put, List.setIfInBounds_toArray, List.set_cons_zero, List.set_cons_succ, List.getElem_toArray, List.getElem_cons_succ, List.getElem_cons_zero]
        refine wpAnyH_ready (rs := [10]) (by kernel_rfl) (by simp) ?_
        refine AllReadyH.cons (o := _) rfl (fun K hK => ?_) (AllReadyH.nil)
        go_simp
        have HVa := Lib.hid (show Below w1.heap.size w1 (v1.alloc (.cells #[.int .i64 0, .int .i64 0] 23)) from HV1.out.alloc HV1.out.size _)
        have HX0 := Lib.hid (show Bx2 (v1.alloc (.cells #[.int .i64 0, .int .i64 0] 23)) v1.heap.size (.int .i64 0) (.int .i64 0) from Bx2.new _ _ _)
        clear hHeld
        refine hK.out _ _ (KE.out _ HVa.out) (fun hHeld => ?_)
        clear hK K
        try simp only [Act.put, List.setIfInBounds_toArray, List.set_cons_zero, List.set_cons_succ, List.getElem_toArray, List.getElem_cons_succ, List.getElem_cons_zero]
        obtain ⟨Z, hZe⟩ : ∃ Z, Z = v1.alloc (.cells #[.int .i64 (y - 2 * u), .int .i64 (y + 2 * u)] 23) := ⟨_, rfl⟩
        have hZ : Bx2 Z v1.heap.size (.int .i64 (y - 2 * u)) (.int .i64 (y + 2 * u)) := by rw [hZe]; exact Bx2.new _ _ _
        have hBZ : Below w1.heap.size w1 Z := by rw [hZe]; exact HV1.out.alloc HV1.out.size _
        refine wpAnyH_ready (rs := [11]) (by kernel_rfl) (by simp) ?_
        refine AllReadyH.cons (o := _) rfl (fun K hK => ?_) AllReadyH.nil
        go_simp
        try rw [← hZe]
        clear hHeld
        refine hK.out _ _ (KE.out _ hBZ) (fun hHeld => ?_)
        clear hK K
        try simp only [Act.put, List.setIfInBounds_toArray, List.set_cons_zero, List.set_cons_succ, List.getElem_toArray, List.getElem_cons_succ, List.getElem_cons_zero]
        clear hZe
        refine wpAnyH_take (i := 12) (oi := _) (v := Value.int .i64 (0)) rfl (by kernel_rfl) (by kernel_rfl) (by kernel_rfl) (fun _ _ _ h => h) (Or.inl ⟨by rfl, fun w' hSw => ?_⟩) hHeld ?_
        · obtain ⟨t0, t1, t2, t3⟩ := hSw
          go_simp
          try simp [*]
          try (intro hh; exfalso; omega)
          try omega
        try simp only [Act.put, List.setIfInBounds_toArray, List.set_cons_zero, List.set_cons_succ, List.getElem_toArray, List.getElem_cons_succ, List.getElem_cons_zero]
        refine wpAnyH_done (by kernel_rfl) ?_ _
        clear hHeld
        go_wp2_with fail
        go_meet
        case rel => exact ⟨_, rfl, rfl, hZ, hBZ⟩
      · go_simp
        have HVa := Lib.hid (show Below w1.heap.size w1 (v1.alloc (.cells #[.int .i64 0, .int .i64 0] 23)) from HV1.out.alloc HV1.out.size _)
        have HX0 := Lib.hid (show Bx2 (v1.alloc (.cells #[.int .i64 0, .int .i64 0] 23)) v1.heap.size (.int .i64 0) (.int .i64 0) from Bx2.new _ _ _)
        clear hHeld
        refine hK.out _ _ (KE.out _ HVa.out) (fun hHeld => ?_)
        clear hK K
        try simp only [Act.put, List.setIfInBounds_toArray, List.set_cons_zero, List.set_cons_succ, List.getElem_toArray, List.getElem_cons_succ, List.getElem_cons_zero]
        obtain ⟨Z, hZe⟩ : ∃ Z, Z = v1.alloc (.cells #[.int .i64 (y - 2 * u), .int .i64 (y + 2 * u)] 23) := ⟨_, rfl⟩
        have hZ : Bx2 Z v1.heap.size (.int .i64 (y - 2 * u)) (.int .i64 (y + 2 * u)) := by rw [hZe]; exact Bx2.new _ _ _
        have hBZ : Below w1.heap.size w1 Z := by rw [hZe]; exact HV1.out.alloc HV1.out.size _
        refine wpAnyH_ready (rs := [9, 11]) (by kernel_rfl) (by simp) ?_
        refine AllReadyH.cons (o := _) rfl (fun K hK => ?_) (AllReadyH.cons (o := _) rfl (fun K hK => ?_) (AllReadyH.nil))
        · go_simp
          clear hHeld
          refine hK.out _ _ (KE.out _ HVa.out) (fun hHeld => ?_)
          clear hK K
          try simp only [Act.put, List.setIfInBounds_toArray, List.set_cons_zero, List.set_cons_succ, List.getElem_toArray, List.getElem_cons_succ, List.getElem_cons_zero]
          refine wpAnyH_ready (rs := [11]) (by kernel_rfl) (by simp) ?_
          refine AllReadyH.cons (o := _) rfl (fun K hK => ?_) AllReadyH.nil
          go_simp
          try rw [← hZe]
          clear hHeld
          refine hK.out _ _ (KE.out _ hBZ) (fun hHeld => ?_)
          clear hK K
          try simp only [Act.put, List.setIfInBounds_toArray, List.set_cons_zero, List.set_cons_succ, List.getElem_toArray, List.getElem_cons_succ, List.getElem_cons_zero]
          clear hZe
          refine wpAnyH_take (i := 12) (oi := _) (v := Value.int .i64 (0)) rfl (by kernel_rfl) (by kernel_rfl) (by kernel_rfl) (fun _ _ _ h => h) (Or.inl ⟨by rfl, fun w' hSw => ?_⟩) hHeld ?_
          · obtain ⟨t0, t1, t2, t3⟩ := hSw
            go_simp
            try simp [*]
            try (intro hh; exfalso; omega)
            try omega
          try simp only [Act.put, List.setIfInBounds_toArray, List.set_cons_zero, List.set_cons_succ, List.getElem_toArray, List.getElem_cons_succ, List.getElem_cons_zero]
          refine wpAnyH_done (by kernel_rfl) ?_ _
          clear hHeld
          go_wp2_with fail
          go_meet
          case rel => exact ⟨_, rfl, rfl, hZ, hBZ⟩
        · go_simp
          try rw [← hZe]
          clear hHeld
          refine hK.out _ _ (KE.out _ hBZ) (fun hHeld => ?_)
          clear hK K
          try simp only [Act.put, List.setIfInBounds_toArray, List.set_cons_zero, List.set_cons_succ, List.getElem_toArray, List.getElem_cons_succ, List.getElem_cons_zero]
          clear hZe
          refine wpAnyH_take (i := 9) (oi := _) (v := .int .i64 0) rfl (by kernel_rfl) (by kernel_rfl) (by kernel_rfl) (fun _ _ _ h => h) (Or.inl ⟨by rfl, fun w' hSw => ?_⟩) hHeld ?_
          · obtain ⟨t0, t1, t2, t3⟩ := hSw
            go_simp
            try simp [*]
            try (intro hh; exfalso; omega)
            try omega
          try simp only [Act.put, List.setIfInBounds_toArray, List.set_cons_zero, List.set_cons_succ, List.getElem_toArray, List.getElem_cons_succ, List.getElem_cons_zero]
          refine wpAnyH_take (i := 12) (oi := _) (v := .int .i64 0) rfl (by kernel_rfl) (by kernel_rfl) (by kernel_rfl) (fun _ _ _ h => h) (Or.inl ⟨by rfl, fun w' hSw => ?_⟩) hHeld ?_
          · obtain ⟨t0, t1, t2, t3⟩ := hSw
            go_simp
            try simp [*]
            try (intro hh; exfalso; omega)
            try omega
          try simp only [Act.put, List.setIfInBounds_toArray, List.set_cons_zero, List.set_cons_succ, List.getElem_toArray, List.getElem_cons_succ, List.getElem_cons_zero]
          refine wpAnyH_done (by kernel_rfl) ?_ _
          clear hHeld
          go_wp2_with fail
          go_meet
          case rel => exact ⟨_, rfl, rfl, hZ, hBZ⟩
    · go_simp
      have HVa := Lib.hid (show Below w1.heap.size w1 (w1.drew.alloc (.cells #[.int .i64 0, .int .i64 0] 23)) from HD.out.alloc (Below.size HD.out) _)
      have HX0 := Lib.hid (show Bx2 (w1.drew.alloc (.cells #[.int .i64 0, .int .i64 0] 23)) w1.heap.size (.int .i64 0) (.int .i64 0) from Bx2.new _ _ _)
      clear hHeld
      refine hK.out _ _ (KE.out _ HVa.out) (fun hHeld => ?_)
      clear hK K
      try simp only [Act.put, List.setIfInBounds_toArray, List.set_cons_zero, List.set_cons_succ, List.getElem_toArray, List.getElem_cons_succ, List.getElem_cons_zero]
      refine wpAnyH_ready (rs := [6]) (by kernel_rfl) (by simp) ?_
      refine AllReadyH.cons (o := _) rfl (fun K hK => ?_) AllReadyH.nil
      go_simp
      go_at_call 65
      refine Calls.mono (c65 _) ?_
      rintro e v1 ⟨rfl, hbx⟩
      have HV1 := Lib.hid (show Below w1.heap.size w1 v1 from Below.trans HVa.out (hbx.mono (Below.size HVa.out)))
      have HX1 := Lib.hid (HX0.out.keep hbx)
      clear hbx
      clear hHeld
      refine hK.out _ _ (KE.out _ HV1.out) (fun hHeld => ?_)
      clear hK K
      try simp only [Act.put, List.setIfInBounds_toArray, List.set_cons_zero, List.set_cons_succ, List.getElem_toArray, List.getElem_cons_succ, List.getElem_cons_zero]
      refine wpAnyH_take (i := 7) (oi := _) (v := Value.tuple #[.agg #[.int .i64 (y - 2 * u), .int .i64 (y + 2 * u)], .int .i64 0]) rfl (by kernel_rfl) (by kernel_rfl) (by kernel_rfl) (fun _ _ _ h => h) (Or.inl ⟨by rfl, fun w' hSw => ?_⟩) hHeld ?_
      · obtain ⟨t0, t1, t2, t3⟩ := hSw
        go_simp
        try simp [*]
        try (intro hh; exfalso; omega)
        try omega
      try simp only [Act.put, List.setIfInBounds_toArray, List.set_cons_zero, List.set_cons_succ, List.getElem_toArray, List.getElem_cons_succ, List.getElem_cons_zero]
      refine wpAnyH_take (i := 8) (oi := _) (v := .agg #[.int .i64 (y - 2 * u), .int .i64 (y + 2 * u)]) rfl (by kernel_rfl) (by kernel_rfl) (by kernel_rfl) (fun _ _ _ h => h) (Or.inl ⟨by rfl, fun w' hSw => ?_⟩) hHeld ?_
      · obtain ⟨t0, t1, t2, t3⟩ := hSw
        go_simp
        try simp [*]
        try (intro hh; exfalso; omega)
        try omega
      try simp only [Act.put, List.setIfInBounds_toArray, List.set_cons_zero, List.set_cons_succ, List.getElem_toArray, List.getElem_cons_succ, List.getElem_cons_zero]
      have r0 := HX1.out.c0
      have r1 := HX1.out.c1
      have rf0 := HX1.out.f0 0
      have rf1 := HX1.out.f0 1
      have hBl : w1.heap.size ≤ w1.heap.size := (Nat.le_refl _)
      obtain ⟨Z, hZe⟩ : ∃ Z, Z = ((v1).setCell ⟨w1.heap.size, 0, none⟩ (.int .i64 (y - 2 * u))).setCell ⟨w1.heap.size, 1, none⟩ (.int .i64 (y + 2 * u)) := ⟨_, rfl⟩
      have hZ : Bx2 Z (w1.heap.size) (.int .i64 (y - 2 * u)) (.int .i64 (y + 2 * u)) := by rw [hZe]; exact HX1.out.set _ _
      have hBZ : Below w1.heap.size w1 Z := by rw [hZe]; exact (HV1.out.setCell (p := ⟨w1.heap.size, 0, none⟩) hBl _).setCell (p := ⟨w1.heap.size, 1, none⟩) hBl _
      refine wpAnyH_ready (rs := [9, 11]) (by kernel_rfl) (by simp) ?_
      refine AllReadyH.cons (o := _) rfl (fun K hK => ?_) (AllReadyH.cons (o := _) rfl (fun K hK => ?_) (AllReadyH.nil))
      · go_simp
        clear hHeld
        refine hK.out _ _ (KE.out _ HV1.out) (fun hHeld => ?_)
        clear hK K
        try simp only [Act.put, List.setIfInBounds_toArray, List.set_cons_zero, List.set_cons_succ, List.getElem_toArray, List.getElem_cons_succ, List.getElem_cons_zero]
        refine wpAnyH_ready (rs := [11]) (by kernel_rfl) (by simp) ?_
        refine AllReadyH.cons (o := _) rfl (fun K hK => ?_) AllReadyH.nil
        go_simp
        try rw [← hZe]
        clear hHeld
        refine hK.out _ _ (KE.out _ hBZ) (fun hHeld => ?_)
        clear hK K
        try simp only [Act.put, List.setIfInBounds_toArray, List.set_cons_zero, List.set_cons_succ, List.getElem_toArray, List.getElem_cons_succ, List.getElem_cons_zero]
        clear hZe r0 r1 rf0 rf1
        refine wpAnyH_take (i := 12) (oi := _) (v := Value.int .i64 (0)) rfl (by kernel_rfl) (by kernel_rfl) (by kernel_rfl) (fun _ _ _ h => h) (Or.inl ⟨by rfl, fun w' hSw => ?_⟩) hHeld ?_
        · obtain ⟨t0, t1, t2, t3⟩ := hSw
          go_simp
          try simp [*]
          try (intro hh; exfalso; omega)
          try omega
        try simp only [Act.put, List.setIfInBounds_toArray, List.set_cons_zero, List.set_cons_succ, List.getElem_toArray, List.getElem_cons_succ, List.getElem_cons_zero]
        refine wpAnyH_done (by kernel_rfl) ?_ _
        clear hHeld
        go_wp2_with fail
        go_meet
        case rel => exact ⟨_, rfl, rfl, hZ, hBZ⟩
      · go_simp
        try rw [← hZe]
        clear hHeld
        refine hK.out _ _ (KE.out _ hBZ) (fun hHeld => ?_)
        clear hK K
        try simp only [Act.put, List.setIfInBounds_toArray, List.set_cons_zero, List.set_cons_succ, List.getElem_toArray, List.getElem_cons_succ, List.getElem_cons_zero]
        clear hZe r0 r1 rf0 rf1
        refine wpAnyH_take (i := 9) (oi := _) (v := .int .i64 0) rfl (by kernel_rfl) (by kernel_rfl) (by kernel_rfl) (fun _ _ _ h => h) (Or.inl ⟨by rfl, fun w' hSw => ?_⟩) hHeld ?_
        · obtain ⟨t0, t1, t2, t3⟩ := hSw
          go_simp
          try simp [*]
          try (intro hh; exfalso; omega)
          try omega
        try simp only [Act.put, List.setIfInBounds_toArray, List.set_cons_zero, List.set_cons_succ, List.getElem_toArray, List.getElem_cons_succ, List.getElem_cons_zero]
        refine wpAnyH_take (i := 12) (oi := _) (v := .int .i64 0) rfl (by kernel_rfl) (by kernel_rfl) (by kernel_rfl) (fun _ _ _ h => h) (Or.inl ⟨by rfl, fun w' hSw => ?_⟩) hHeld ?_
        · obtain ⟨t0, t1, t2, t3⟩ := hSw
          go_simp
          try simp [*]
          try (intro hh; exfalso; omega)
          try omega
        try simp only [Act.put, List.setIfInBounds_toArray, List.set_cons_zero, List.set_cons_succ, List.getElem_toArray, List.getElem_cons_succ, List.getElem_cons_zero]
        refine wpAnyH_done (by kernel_rfl) ?_ _
        clear hHeld
        go_wp2_with fail
        go_meet
        case rel => exact ⟨_, rfl, rfl, hZ, hBZ⟩
  case rest => as_aux_lemma =>
    obtain ⟨B, rfl, rfl, hX, hW⟩ := hcut
    have HX := Lib.hid hX
    have HW := Lib.hid (HB1.out.trans (hW.mono HB1.out.size))
    clear e0 e1 e2 e3 hW hX
    obtain ⟨g0, g1⟩ := And.intro HX.out.c0 HX.out.c1
    go_wp2_with fail
    refine (c64 _).mono ?_
    rintro e w2 ⟨rfl, hb⟩
    have HB2 := Lib.hid (HW.out.trans (hb.mono HW.out.size))
    clear hb g0 g1 HX
    go_upto_region 12 with fail
    obtain ⟨V, hV⟩ : ∃ V, V = w2.alloc (.cells #[.int .i64 na, .int .i64 nb] 23) := ⟨_, rfl⟩
    try rw [← hV]
    have HX := Lib.hid (show Bx2 V w2.heap.size (.int .i64 na) (.int .i64 nb) by rw [hV]; exact Bx2.new _ _ _)
    have HV := Lib.hid (show Below A.heap.size A V by rw [hV]; exact HB2.out.alloc HB2.out.size _)
    clear hV
    generalize w2.heap.size = B24 at *
    obtain ⟨g0, g1⟩ := And.intro HX.out.c0 HX.out.c1
    obtain ⟨j0, j1⟩ := KM.out _ HV.out
    go_upto_region 16 with fail
    obtain ⟨Y, hY⟩ : ∃ Y, Y = V.alloc (.cells #[.int .i64 2, .int .i64 (max 0 na), .int .i64 nb, .int .i64 (2000 * (1 + f) - m0), .int .i64 (2000 * (1 + f) + m1)] 113) := ⟨_, rfl⟩
    try rw [← hY]
    clear h1 h2 h3 h4 h5 h6 h7 h8 hxb hzb hx hy hz hf hnab
    generalize 2000 * (1 + f) - m0 = bb0 at *
    generalize 2000 * (1 + f) + m1 = bb1 at *
    generalize max 0 na = v0 at *
    clear hfb hyb
    generalize 1 + f = g at *
    have HY := Lib.hid (show Below A.heap.size A Y by rw [hY]; exact HV.out.alloc HV.out.size _)
    have g2 : Y.cell? ⟨V.heap.size, 0, none⟩ = some (.int .i64 2) := by rw [hY]; simp [go_sem]
    have g3 : Y.cell? ⟨V.heap.size, 1, none⟩ = some (.int .i64 v0) := by rw [hY]; simp [go_sem]
    have g4 : Y.cell? ⟨V.heap.size, 2, none⟩ = some (.int .i64 nb) := by rw [hY]; simp [go_sem]
    have g5 : Y.cell? ⟨V.heap.size, 3, none⟩ = some (.int .i64 bb0) := by rw [hY]; simp [go_sem]
    have g6 : Y.cell? ⟨V.heap.size, 4, none⟩ = some (.int .i64 bb1) := by rw [hY]; simp [go_sem]
    clear hY g0 g1 j0 j1 HX
    generalize V.heap.size = B27 at *
    obtain ⟨U, hU⟩ : ∃ U, U = Y.alloc (.cells #[.int .i64 2, .int .i64 v0, .int .i64 nb, .int .i64 bb0, .int .i64 bb1] 113) := ⟨_, rfl⟩
    have HU := Lib.hid (show Below A.heap.size A U by rw [hU]; exact HY.out.alloc HY.out.size _)
    have C69 := Lib.hid (c69.out Y.heap.size 1 U (by rw [hU]; simp) (by rw [hU]; simp [go_sem]) (by rw [hU]; simp [go_sem]) (by rw [hU]; simp [go_sem]) (by rw [hU]; simp [go_sem]) (by rw [hU]; simp [go_sem]))
    go_upto_region 16 with fail
    iterate 5 go_step
    refine wp_build115 _ (.tmp 174) rfl rfl ?_
    try rw [← hU]
    clear hU
    go_wp2_with fail
    refine C69.out.mono ?_
    rintro e w3 ⟨rfl, hb⟩
    have HB3 := Lib.hid (HU.out.trans (hb.mono HU.out.size))
    clear hb C69 g2 g3 g4 g5 g6
    go_upto_region 17 with fail
    obtain ⟨T, hT⟩ : ∃ T, T = w3.alloc (.cells #[.int .i64 q1, .int .i64 q2] 23) := ⟨_, rfl⟩
    try rw [← hT]
    have HX := Lib.hid (show Bx2 T w3.heap.size (.int .i64 q1) (.int .i64 q2) by rw [hT]; exact Bx2.new _ _ _)
    have HT := Lib.hid (show Below A.heap.size A T by rw [hT]; exact HB3.out.alloc HB3.out.size _)
    clear hT
    generalize w3.heap.size = B28 at *
    obtain ⟨g0, g1⟩ := And.intro HX.out.c0 HX.out.c1
    have hwp := HWP.out
    go_wp2_with fail
    refine (c59 _).mono ?_
    rintro e w4 ⟨rfl, hb⟩
    have HB4 := Lib.hid (HT.out.trans (hb.mono HT.out.size))
    clear hb g0 g1
    go_wp2_with fail
    go_ret
    exact ⟨rfl, HUP.out _ HB4.out⟩
end Go.Proofs.Ytcchmjbedppfnaa

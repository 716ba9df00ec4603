/-
  Clock: the walk of ClockEvents.
-/
import Derived.Test.YtcchmjbedppfnaaEvG
import Derived.Test.YtcchmjbedppfnaaEvD
import Derived.Test.YtcchmjbedppfnaaCkM
namespace Go.Proofs.Ytcchmjbedppfnaa
open Go.RowKit Go.Shelf
set_option linter.unusedSimpArgs false
@[go_sem] theorem eq63 (a b c d : Int) (w : World) : (Op.equalIn 10000 63 (.agg #[.int .i64 a, .int .i64 b]) (.agg #[.int .i64 c, .int .i64 d])).run Try.prog w = .ok (a == c && b == d) w := by
  have u3 := Try.underlying3
  have a3 := Try.isAgg3
  have z3 := Try.sizeOf3
  rw [show (10000 : Nat) = 9999 + 1 from rfl, Op.equalIn]
  simp only [Sem.run_bind, run_underlying Try.underlying63, Result.andThen_ok]
  simp only [Std.Legacy.Range.forIn_eq_forIn_range', Std.Legacy.Range.size, Nat.sub_zero, Nat.add_sub_cancel, Nat.div_one, List.range'_succ, List.range'_zero, List.forIn_cons, List.forIn_nil]
  go_simp
  by_cases h1 : a = c <;> by_cases h2 : b = d <;> simp [h1, h2]
set_option maxRecDepth 100000 in
set_option maxHeartbeats 8000000 in
theorem law_events (a b : Int × Int) (sv : Value) (zs : List (Int × Int)) (w : World) (hZ : Sps w.heap.size w sv zs) :
    Calls Try.prog 6 #[spv a, spv b, sv] w fun e w' => e = .returned (.bool true) ∧ Below w.heap.size w w' := by
  have c21 := fun W => works_any W
  have c44 := fun W => before44_any a b W
  have c45 := fun W => before45_any a b W
  have c46 := Lib.hid (fun W (hb : Below w.heap.size w W) => ranks46_any sv zs W (hZ.at hb))
  have c47 := Lib.hid (fun W (hb : Below w.heap.size w W) => rranks_any sv zs W (hZ.at hb))
  have c48 := Lib.hid (fun W (hb : Below w.heap.size w W) => common_any sv zs W (hZ.at hb))
  have c49 := Lib.hid (fun W (hb : Below w.heap.size w W) => rcommon_any sv zs W (hZ.at hb))
  obtain ⟨a9, cap, hsv⟩ := hZ.form
  subst hsv
  clear hZ
  unfold RnkR at c46 c47
  have HRL := Lib.hid (show ∃ rs : List (Int × Int), rs = (if evE zs = 0 then rkTo zs zs.length else []) from ⟨_, rfl⟩)
  obtain ⟨rs, hrs⟩ := HRL.out
  have HRS := Lib.hid hrs
  clear hrs HRL
  generalize hE0 : evE zs = E0 at *
  have HRB := Lib.hid (show evE zs = 0 → zs.length ≤ 128 from fun h => (evE_get h).1)
  have HRN := Lib.hid (show rs.length ≤ 128 by
    rw [HRS.out]
    by_cases h : E0 = 0
    · rw [if_pos h, rkTo_len]; exact HRB.out (hE0.trans h)
    · rw [if_neg h]; exact Nat.zero_le _)
  clear hE0 HRB
  generalize BefR a b = bf at *
  generalize comR zs = q at *
  generalize hl1 : rkTo zs zs.length = rk at *
  clear hl1
  generalize zs.length = len at *
  obtain ⟨f0, f1⟩ := bf
  obtain ⟨q0, q1, qe⟩ := q
  obtain ⟨a0, a1⟩ := a
  obtain ⟨b0, b1⟩ := b
  unfold R3.out at *
  unfold spv at *
  dsimp only at *
  obtain ⟨A, hA⟩ : ∃ A, A = (w.alloc (.cells #[.int .i64 a0, .int .i64 a1] 23)).alloc (.cells #[.int .i64 b0, .int .i64 b1] 23) := ⟨_, rfl⟩
  have HBA := Lib.hid (show Below w.heap.size w A by rw [hA]; exact ((Below.refl _ _).alloc (Nat.le_refl _) _).alloc (by simp) _)
  have hX1 : Bx2 A w.heap.size (.int .i64 a0) (.int .i64 a1) := by rw [hA]; exact (Bx2.new w _ _).keep ((Below.refl _ _).alloc (Nat.le_refl _) _)
  have hX2 : Bx2 A (w.heap.size + 1) (.int .i64 b0) (.int .i64 b1) := by
    rw [hA]
    have q := Bx2.new (w.alloc (.cells #[.int .i64 a0, .int .i64 a1] 23)) (.int .i64 b0) (.int .i64 b1)
    rwa [World.size_alloc] at q
  have HX1 := Lib.hid hX1
  have HX2 := Lib.hid hX2
  have HUP := Lib.hid (show ∀ W, Below A.heap.size A W → Below w.heap.size w W from fun W h => HBA.out.trans (h.mono HBA.out.size))
  clear hX1 hX2
  by_cases hbig : (140 : Int) < (len : Int)
  · go_enter Try.func6, Try.ntmps6
    go_wp2_with fail
    try rw [← hA]
    clear hA
    refine (c21 _).mono ?_
    rintro e wz ⟨rfl, hbz⟩
    have HBZ := Lib.hid (HBA.out.trans (hbz.mono HBA.out.size))
    clear hbz
    go_wp2_with fail
    go_ret
    exact ⟨rfl, HBZ.out⟩
  have g0 := HX1.out.c0
  have g1 := HX1.out.c1
  have g2 := HX2.out.c0
  have g3 := HX2.out.c1
  go_enter Try.func6, Try.ntmps6
  go_upto_region 1 with fail
  try rw [← hA]
  clear hA
  go_wp2_with fail
  refine (c44 _).mono ?_
  rintro e w1 ⟨rfl, hb⟩
  have HB1 := Lib.hid hb
  have g0 := (HX1.out.keep hb).c0
  have g1 := (HX1.out.keep hb).c1
  have g2 := (HX2.out.keep hb).c0
  have g3 := (HX2.out.keep hb).c1
  clear hb
  go_wp2_with fail
  refine (c45 _).mono ?_
  rintro e w2 ⟨rfl, hb⟩
  have HB2 := Lib.hid (HB1.out.trans (hb.mono HB1.out.size))
  clear hb g0 g1 g2 g3
  go_wp2_with fail
  refine (c46.out _ (HUP.out _ HB2.out)).mono ?_
  rintro e w3 ⟨v3, E3, rfl, hE3, hS3, hb⟩
  subst hE3
  rw [← HRS.out] at hS3
  have HB3 := Lib.hid (HB2.out.trans (hb.mono HB2.out.size))
  have HS3 := Lib.hid hS3
  clear hb hS3
  go_wp2_with fail
  refine (c47.out _ (HUP.out _ HB3.out)).mono ?_
  rintro e w4 ⟨v4, E4, rfl, hE4, hS4, hb⟩
  subst hE4
  rw [← HRS.out] at hS4
  have HB4 := Lib.hid (HB3.out.trans (hb.mono HB3.out.size))
  have HS4 := Lib.hid hS4
  have HS34 := Lib.hid (HS3.out.at hb)
  clear hb hS4 HS3
  go_wp2_with fail
  refine (c48.out _ (HUP.out _ HB4.out)).mono ?_
  rintro e w5 ⟨rfl, hb⟩
  have HB5 := Lib.hid (HB4.out.trans (hb.mono HB4.out.size))
  have HS5a := Lib.hid (HS34.out.at hb)
  have HS5b := Lib.hid (HS4.out.at hb)
  clear hb HS34 HS4
  go_upto_region 8 with fail
  obtain ⟨V5, hV5⟩ : ∃ V5, V5 = w5.alloc (.cells #[.int .i64 q0, .int .i64 q1] 23) := ⟨_, rfl⟩
  try rw [← hV5]
  have hbb : Below w5.heap.size w5 V5 := by rw [hV5]; exact (Below.refl _ _).alloc (Nat.le_refl _) _
  have HB5v := Lib.hid (HB5.out.trans (hbb.mono HB5.out.size))
  have HX5 := Lib.hid (show Bx2 V5 w5.heap.size (.int .i64 q0) (.int .i64 q1) by rw [hV5]; exact Bx2.new _ _ _)
  have HS6a := Lib.hid (HS5a.out.at hbb)
  have HS6b := Lib.hid (HS5b.out.at hbb)
  clear hbb hV5 HS5a HS5b
  go_wp2_with fail
  refine (c49.out _ (HUP.out _ HB5v.out)).mono ?_
  rintro e w6 ⟨rfl, hb⟩
  have HB6 := Lib.hid (HB5v.out.trans (hb.mono HB5v.out.size))
  have HX56 := Lib.hid (HX5.out.keep hb)
  have HS7a := Lib.hid (HS6a.out.at hb)
  have HS7b := Lib.hid (HS6b.out.at hb)
  clear hb HS6a HS6b HX5
  go_upto_region 9 with fail
  obtain ⟨V6, hV6⟩ : ∃ V6, V6 = w6.alloc (.cells #[.int .i64 q0, .int .i64 q1] 23) := ⟨_, rfl⟩
  try rw [← hV6]
  have hbb : Below w6.heap.size w6 V6 := by rw [hV6]; exact (Below.refl _ _).alloc (Nat.le_refl _) _
  have HB6v := Lib.hid (HB6.out.trans (hbb.mono HB6.out.size))
  have HX6 := Lib.hid (show Bx2 V6 w6.heap.size (.int .i64 q0) (.int .i64 q1) by rw [hV6]; exact Bx2.new _ _ _)
  have HX56v := Lib.hid (HX56.out.keep hbb)
  have hs7a := HS7a.out.at hbb
  have hs7b := HS7b.out.at hbb
  clear hbb hV6 HS7a HS7b HX56
  obtain ⟨r3, cr3, rfl, -, hc3⟩ := hs7a
  obtain ⟨r4, cr4, rfl, -, hc4⟩ := hs7b
  have HC3 := Lib.hid hc3
  have HC4 := Lib.hid hc4
  have hn := HRN.out
  clear hc3 hc4
  generalize rs.length = n at *
  have g0 := HX6.out.c0
  have g1 := HX6.out.c1
  have g2 := HX56v.out.c0
  have g3 := HX56v.out.c1
  go_wp2_with fail
  clear g0 g1 g2 g3
  go_loopw [19] (fun iv wr => ∃ k : Nat, k ≤ n ∧ iv = .int .i64 k ∧ Below A.heap.size A wr ∧ Below V6.heap.size V6 wr) (fun iv _ => n - (intOf iv).toNat)
  case atStart => exact ⟨0, Nat.zero_le _, rfl, HB6v.out, Below.refl _ _⟩
  case round =>
    obtain ⟨k, hk, rfl, hB, hBv⟩ := hrel
    have HB := Lib.hid hB
    have HBv := Lib.hid hBv
    clear hB
    by_cases hlt : k < n
    · have hki : (k : Int) < (n : Int) := by omega
      obtain ⟨b3, off3, hab, hb3, e0, e1⟩ := HC3.out k hlt
      subst hab
      obtain ⟨b4, off4, hab, hb4, d0, d1⟩ := HC4.out k hlt
      subst hab
      have m0 := (hBv.cell (p := ⟨b3, off3 + k * 2, none⟩) hb3).trans e0
      have m1 := (hBv.cell (p := ⟨b3, off3 + k * 2 + 1, none⟩) hb3).trans e1
      have n0 := (hBv.cell (p := ⟨b4, off4 + k * 2, none⟩) hb4).trans d0
      have n1 := (hBv.cell (p := ⟨b4, off4 + k * 2 + 1, none⟩) hb4).trans d1
      clear e0 e1 d0 d1 hBv
      generalize (sp rs k).1 = s0 at *
      generalize (sp rs k).2 = s1 at *
      go_wp2_with fail
      refine wp_region_held_drew (S := fun w' => w'.cell? ⟨b3, off3 + k * 2, none⟩ = some (.int .i64 s0) ∧ w'.cell? ⟨b3, off3 + k * 2 + 1, none⟩ = some (.int .i64 s1) ∧ w'.cell? ⟨b4, off4 + k * 2, none⟩ = some (.int .i64 s0) ∧ w'.cell? ⟨b4, off4 + k * 2 + 1, none⟩ = some (.int .i64 s1)) (by kernel_rfl) ⟨by simpa [go_sem] using m0, by simpa [go_sem] using m1, by simpa [go_sem] using n0, by simpa [go_sem] using n1⟩ (fun hHeld => ?_)
      refine wpAnyH_take (i := 0) (oi := _) (v := Value.slice (some ⟨b3, off3, none⟩) n cr3) rfl (by kernel_rfl) (by kernel_rfl) (by kernel_rfl) (fun _ _ _ h => h) (Or.inl ⟨by rfl, fun w' hSw => ?_⟩) hHeld ?_
      · obtain ⟨t0, t1, t2, t3⟩ := hSw
        go_simp
        try simp [*]
        try (intro hh; exfalso; omega)
        try omega
      try simp only [Act.put, List.setIfInBounds_toArray, List.set_cons_zero, List.set_cons_succ, List.getElem_toArray, List.getElem_cons_succ, List.getElem_cons_zero]
      refine wpAnyH_take (i := 1) (oi := _) (v := Value.int .i64 (k : Int)) rfl (by kernel_rfl) (by kernel_rfl) (by kernel_rfl) (fun _ _ _ h => h) (Or.inl ⟨by rfl, fun w' hSw => ?_⟩) hHeld ?_
      · obtain ⟨t0, t1, t2, t3⟩ := hSw
        go_simp
        try simp [*]
        try (intro hh; exfalso; omega)
        try omega
      try simp only [Act.put, List.setIfInBounds_toArray, List.set_cons_zero, List.set_cons_succ, List.getElem_toArray, List.getElem_cons_succ, List.getElem_cons_zero]
      refine wpAnyH_take (i := 2) (oi := _) (v := Value.pointer (some ⟨b3, off3 + k * 2, none⟩)) rfl (by kernel_rfl) (by kernel_rfl) (by kernel_rfl) (fun _ _ _ h => h) (Or.inl ⟨by rfl, fun w' hSw => ?_⟩) hHeld ?_
      · obtain ⟨t0, t1, t2, t3⟩ := hSw
        go_simp
        try simp [*]
        try (intro hh; exfalso; omega)
        try omega
      try simp only [Act.put, List.setIfInBounds_toArray, List.set_cons_zero, List.set_cons_succ, List.getElem_toArray, List.getElem_cons_succ, List.getElem_cons_zero]
      refine wpAnyH_take (i := 3) (oi := _) (v := Value.agg #[Value.int .i64 s0, Value.int .i64 s1]) rfl (by kernel_rfl) (by kernel_rfl) (by kernel_rfl) (fun _ _ _ h => h) (Or.inl ⟨by rfl, fun w' hSw => ?_⟩) hHeld ?_
      · obtain ⟨t0, t1, t2, t3⟩ := hSw
        go_simp
        try simp [*]
        try (intro hh; exfalso; omega)
        try omega
      try simp only [Act.put, List.setIfInBounds_toArray, List.set_cons_zero, List.set_cons_succ, List.getElem_toArray, List.getElem_cons_succ, List.getElem_cons_zero]
      refine wpAnyH_take (i := 4) (oi := _) (v := Value.slice (some ⟨b4, off4, none⟩) n cr4) rfl (by kernel_rfl) (by kernel_rfl) (by kernel_rfl) (fun _ _ _ h => h) (Or.inl ⟨by rfl, fun w' hSw => ?_⟩) hHeld ?_
      · obtain ⟨t0, t1, t2, t3⟩ := hSw
        go_simp
        try simp [*]
        try (intro hh; exfalso; omega)
        try omega
      try simp only [Act.put, List.setIfInBounds_toArray, List.set_cons_zero, List.set_cons_succ, List.getElem_toArray, List.getElem_cons_succ, List.getElem_cons_zero]
      refine wpAnyH_take (i := 5) (oi := _) (v := Value.int .i64 (k : Int)) rfl (by kernel_rfl) (by kernel_rfl) (by kernel_rfl) (fun _ _ _ h => h) (Or.inl ⟨by rfl, fun w' hSw => ?_⟩) hHeld ?_
      · obtain ⟨t0, t1, t2, t3⟩ := hSw
        go_simp
        try simp [*]
        try (intro hh; exfalso; omega)
        try omega
      try simp only [Act.put, List.setIfInBounds_toArray, List.set_cons_zero, List.set_cons_succ, List.getElem_toArray, List.getElem_cons_succ, List.getElem_cons_zero]
      refine wpAnyH_take (i := 6) (oi := _) (v := Value.pointer (some ⟨b4, off4 + k * 2, none⟩)) rfl (by kernel_rfl) (by kernel_rfl) (by kernel_rfl) (fun _ _ _ h => h) (Or.inl ⟨by rfl, fun w' hSw => ?_⟩) hHeld ?_
      · obtain ⟨t0, t1, t2, t3⟩ := hSw
        go_simp
        try simp [*]
        try (intro hh; exfalso; omega)
        try omega
      try simp only [Act.put, List.setIfInBounds_toArray, List.set_cons_zero, List.set_cons_succ, List.getElem_toArray, List.getElem_cons_succ, List.getElem_cons_zero]
      refine wpAnyH_take (i := 7) (oi := _) (v := Value.agg #[Value.int .i64 s0, Value.int .i64 s1]) rfl (by kernel_rfl) (by kernel_rfl) (by kernel_rfl) (fun _ _ _ h => h) (Or.inl ⟨by rfl, fun w' hSw => ?_⟩) hHeld ?_
      · obtain ⟨t0, t1, t2, t3⟩ := hSw
        go_simp
        try simp [*]
        try (intro hh; exfalso; omega)
        try omega
      try simp only [Act.put, List.setIfInBounds_toArray, List.set_cons_zero, List.set_cons_succ, List.getElem_toArray, List.getElem_cons_succ, List.getElem_cons_zero]
      refine wpAnyH_take (i := 8) (oi := _) (v := Value.bool false) rfl (by kernel_rfl) (by kernel_rfl) (by kernel_rfl) (fun _ _ _ h => h) (Or.inl ⟨by rfl, fun w' hSw => ?_⟩) hHeld ?_
      · obtain ⟨t0, t1, t2, t3⟩ := hSw
        go_simp
        try simp [*]
        try (intro hh; exfalso; omega)
        try omega
      try simp only [Act.put, List.setIfInBounds_toArray, List.set_cons_zero, List.set_cons_succ, List.getElem_toArray, List.getElem_cons_succ, List.getElem_cons_zero]
      refine wpAnyH_done (by kernel_rfl) ?_ _
      clear hHeld
      go_wp2_with fail
      go_roundw
      case rel => exact ⟨k + 1, by omega, by go_num, by first | exact HB.out.drew | exact HB.out, by first | exact HBv.out.drew | exact HBv.out⟩
      case measure => simp [intOf]; omega
    · obtain rfl : k = n := by omega
      clear hBv
      go_wp2_with fail
      refine (c21 _).mono ?_
      rintro e wz ⟨rfl, hbz⟩
      have HBZ := Lib.hid (HB.out.trans (hbz.mono HB.out.size))
      clear hbz
      go_wp2_with fail
      go_ret
      exact ⟨rfl, HUP.out _ HBZ.out⟩
end Go.Proofs.Ytcchmjbedppfnaa

/-
  Clock: the reference's common part of events.
-/
import Derived.Test.YtcchmjbedppfnaaEvF
namespace Go.Proofs.Ytcchmjbedppfnaa
open Go.RowKit Go.Shelf
set_option linter.unusedSimpArgs false
/-- what the first k events have in common -/
def comTo (zs : List (Int × Int)) : Nat → Int × Int
  | 0 => sp zs 0
  | k + 1 => meetS (comTo zs k) (sp zs k)
theorem comTo_take (zs : List (Int × Int)) : ∀ k, k ≤ zs.length → comTo zs k = meets (sp zs 0) (zs.take k)
  | 0, _ => rfl
  | k + 1, h => by
    show meetS (comTo zs k) (sp zs k) = _
    rw [sp_take (by omega), meets_snoc, comTo_take zs k (by omega)]
theorem comTo_all (zs : List (Int × Int)) : comTo zs zs.length = meets (sp zs 0) zs := by rw [comTo_take zs _ (Nat.le_refl _), List.take_length]
set_option maxRecDepth 100000 in
set_option maxHeartbeats 8000000 in
theorem rcommon_any (sv : Value) (zs : List (Int × Int)) (w : World) (hZ : Sps w.heap.size w sv zs) :
    Calls Try.prog 49 #[sv] w fun e w' => e = .returned (comR zs).out ∧ Below w.heap.size w w' := by
  have c105 := Lib.hid (fun W (hb : Below w.heap.size w W) => rspans_any sv zs W (hZ.at hb))
  have HLE := Lib.hid (show evE zs = 0 → zs.length ≤ 128 from fun h => (evE_get h).1)
  unfold comR
  have HCA := Lib.hid (comTo_all zs)
  have HCS := Lib.hid (fun k => show comTo zs (k + 1) = (max (comTo zs k).1 (sp zs k).1, min (comTo zs k).2 (sp zs k).2) from rfl)
  have HC0 := Lib.hid (show comTo zs 0 = sp zs 0 from rfl)
  obtain ⟨a, cap, rfl, -, hcc⟩ := hZ
  have HC := Lib.hid hcc
  obtain ⟨A, hA⟩ : ∃ A, A = w.alloc (.cells #[.int .i64 0, .int .i64 0] 23) := ⟨_, rfl⟩
  have hzA : A.heap.size = w.heap.size + 1 := by rw [hA]; simp
  have HBA := Lib.hid (show Below w.heap.size w A by rw [hA]; exact (Below.refl _ _).alloc (Nat.le_refl _) _)
  have hRA : Bx2 A w.heap.size (.int .i64 0) (.int .i64 0) := by rw [hA]; exact Bx2.new _ _ _
  have KR := Lib.hid (show ∀ W, Below A.heap.size A W → (W.cell? ⟨w.heap.size, 0, none⟩ = some (.int .i64 0) ∧ W.cell? ⟨w.heap.size, 1, none⟩ = some (.int .i64 0)) ∧ W.frozen? ⟨w.heap.size, 0, none⟩ = false ∧ W.frozen? ⟨w.heap.size, 1, none⟩ = false from fun W h => ⟨⟨(hRA.keep h).c0, (hRA.keep h).c1⟩, (hRA.keep h).f0 0, (hRA.keep h).f0 1⟩)
  have HUP := Lib.hid (show ∀ W, Below A.heap.size A W → Below w.heap.size w W from fun W h => HBA.out.trans (h.mono HBA.out.size))
  have HEND := Lib.hid (show ∀ W v0 v1, Below A.heap.size A W → Below w.heap.size w ((W.setCell ⟨w.heap.size, 0, none⟩ v0).setCell ⟨w.heap.size, 1, none⟩ v1) from fun W v0 v1 h =>
    ((HBA.out.trans (h.mono HBA.out.size)).setCell (p := ⟨w.heap.size, 0, none⟩) (Nat.le_refl _) _).setCell (p := ⟨w.heap.size, 1, none⟩) (Nat.le_refl _) _)
  have HZA := Lib.hid (show w.heap.size < A.heap.size by omega)
  clear hRA hzA hcc
  generalize evE zs = E0 at *
  generalize meets (sp zs 0) zs = z at *
  generalize zs.length = len at *
  obtain ⟨q, hq⟩ : ∃ q : R3, q = if E0 = 0 then (if len = 0 then ⟨0, 0, 5⟩ else (if z.1 ≤ z.2 then ⟨z.1, z.2, 0⟩ else ⟨0, 0, 5⟩)) else ⟨0, 0, E0⟩ := ⟨_, rfl⟩
  rw [← hq]
  have HQ := Lib.hid hq
  clear hq
  generalize hqo : q.out = qo at *
  have HQO := Lib.hid (show qo = .tuple #[.agg #[.int .i64 q.lo, .int .i64 q.hi], .int .i64 q.e] from hqo.symm)
  clear hqo
  obtain ⟨z0, z1⟩ := z
  dsimp only at *
  go_enter Try.func49, Try.ntmps49
  go_wp2_with fail
  try rw [← hA]
  clear hA
  refine (c105.out _ HBA.out).mono ?_
  rintro e w1 ⟨rfl, hb⟩
  have HB1 := Lib.hid hb
  obtain ⟨⟨r0, r1⟩, r2, r3⟩ := KR.out _ hb
  clear hb
  by_cases h0 : E0 = 0
  rotate_left
  · have hb0 : (E0 != 0) = true := by simpa using h0
    clear r0 r1 r2 r3
    go_wp2_with fail
    refine (c105.out _ (HUP.out _ HB1.out)).mono ?_
    rintro e w2 ⟨rfl, hb⟩
    have HB2 := Lib.hid (HB1.out.trans (hb.mono HB1.out.size))
    obtain ⟨⟨r0, r1⟩, r2, r3⟩ := KR.out _ HB2.out
    clear hb
    go_wp2_with fail
    refine bodyPost_ret (v := .tuple #[.agg #[.int .i64 0, .int .i64 0], .int .i64 E0]) (by simp [results, Try.results49, go_sem, r0, r1]) rfl ⟨?_, HEND.out _ _ _ HB2.out⟩
    rw [HQO.out, HQ.out, if_neg h0]
  have hl64 := HLE.out h0
  subst h0
  by_cases hl : len = 0
  · have hl2 : (len : Int) = 0 := by omega
    go_wp2_with fail
    refine bodyPost_ret (v := .tuple #[.agg #[.int .i64 0, .int .i64 0], .int .i64 5]) (by simp [results, Try.results49, go_sem, r0, r1]) rfl ⟨?_, HEND.out _ _ _ HB1.out⟩
    rw [HQO.out, HQ.out]; simp [hl]
  have hl2 : ¬ (len : Int) = 0 := by omega
  have hl5 : ((len : Int) == 0) = false := by simpa using hl2
  have hl3 : (0 : Int) < (len : Int) := by omega
  have hl4 : 0 < len := by omega
  obtain ⟨b, off, hab, hb, e0, e1⟩ := HC.out 0 hl4
  subst hab
  simp only [Nat.zero_mul, Nat.add_zero] at e0 e1
  have m0 := ((HUP.out _ HB1.out).cell (p := ⟨b, off, none⟩) hb).trans e0
  have m1 := ((HUP.out _ HB1.out).cell (p := ⟨b, off + 1, none⟩) hb).trans e1
  clear e0 e1 c105 r0 r1 r2 r3
  have HX0 := Lib.hid (show Bx2 (w1.alloc (.cells #[.int .i64 (sp zs 0).1, .int .i64 (sp zs 0).2] 23)) w1.heap.size (.int .i64 (sp zs 0).1) (.int .i64 (sp zs 0).2) from Bx2.new _ _ _)
  have HB1a := Lib.hid (HB1.out.alloc HB1.out.size (.cells #[.int .i64 (sp zs 0).1, .int .i64 (sp zs 0).2] 23))
  have hz1 := HB1.out.size
  go_wp2_with fail
  go_loopw [5] (fun iv wr => ∃ k : Nat, k ≤ len ∧ iv = .int .i64 k ∧ Bx2 wr w1.heap.size (.int .i64 (comTo zs k).1) (.int .i64 (comTo zs k).2) ∧ Below A.heap.size A wr) (fun iv _ => len - (intOf iv).toNat)
  case atStart => exact ⟨0, Nat.zero_le _, rfl, by rw [HC0.out]; exact HX0.out, HB1a.out⟩
  case round =>
    obtain ⟨k, hk, rfl, hX, hB⟩ := hrel
    have HX := Lib.hid hX
    have HB := Lib.hid hB
    clear hX hB m0 m1
    by_cases hlt : k < len
    · have hki : (k : Int) < (len : Int) := by omega
      obtain ⟨b2, off2, hab, hb2, e0, e1⟩ := HC.out k hlt
      simp only [Option.some.injEq, Addr.mk.injEq] at hab
      obtain ⟨rfl, rfl, -⟩ := hab
      have HCk := Lib.hid (HCS.out k)
      have KS := Lib.hid (show ∀ W, Below A.heap.size A W → W.cell? ⟨b, off + k * 2, none⟩ = some (.int .i64 (sp zs k).1) ∧ W.cell? ⟨b, off + k * 2 + 1, none⟩ = some (.int .i64 (sp zs k).2) from fun W h => ⟨((HUP.out W h).cell (p := ⟨b, off + k * 2, none⟩) hb).trans e0, ((HUP.out W h).cell (p := ⟨b, off + k * 2 + 1, none⟩) hb).trans e1⟩)
      clear e0 e1
      generalize comTo zs k = cz at *
      generalize (sp zs k).1 = s0 at *
      generalize (sp zs k).2 = s1 at *
      obtain ⟨c0, c1⟩ := cz
      dsimp only at *
      have c108 := fun W => rmeet_any c0 c1 s0 s1 W
      obtain ⟨m0, m1⟩ := KS.out _ HB.out
      have x0 := HX.out.c0
      have x1 := HX.out.c1
      go_wp2_with fail
      refine wp_region_held_drew (S := fun w' => w'.cell? ⟨b, off + k * 2, none⟩ = some (.int .i64 s0) ∧ w'.cell? ⟨b, off + k * 2 + 1, none⟩ = some (.int .i64 s1)) (by kernel_rfl) ⟨by simpa [go_sem] using m0, by simpa [go_sem] using m1⟩ (fun hHeld => ?_)
      refine wpAnyH_take (i := 1) (oi := _) (v := Value.slice (some ⟨b, off, none⟩) len cap) rfl (by kernel_rfl) (by kernel_rfl) (by kernel_rfl) (fun _ _ _ h => h) (Or.inl ⟨by rfl, fun w' hSw => ?_⟩) hHeld ?_
      · obtain ⟨t0, t1⟩ := hSw
        go_simp
        try simp [*]
        try (intro hh; exfalso; omega)
        try omega
      try simp only [Act.put, List.setIfInBounds_toArray, List.set_cons_zero, List.set_cons_succ, List.getElem_toArray, List.getElem_cons_succ, List.getElem_cons_zero]
      refine wpAnyH_take (i := 2) (oi := _) (v := Value.int .i64 (k : Int)) rfl (by kernel_rfl) (by kernel_rfl) (by kernel_rfl) (fun _ _ _ h => h) (Or.inl ⟨by rfl, fun w' hSw => ?_⟩) hHeld ?_
      · obtain ⟨t0, t1⟩ := hSw
        go_simp
        try simp [*]
        try (intro hh; exfalso; omega)
        try omega
      try simp only [Act.put, List.setIfInBounds_toArray, List.set_cons_zero, List.set_cons_succ, List.getElem_toArray, List.getElem_cons_succ, List.getElem_cons_zero]
      refine wpAnyH_take (i := 3) (oi := _) (v := Value.pointer (some ⟨b, off + k * 2, none⟩)) rfl (by kernel_rfl) (by kernel_rfl) (by kernel_rfl) (fun _ _ _ h => h) (Or.inl ⟨by rfl, fun w' hSw => ?_⟩) hHeld ?_
      · obtain ⟨t0, t1⟩ := hSw
        go_simp
        try simp [*]
        try (intro hh; exfalso; omega)
        try omega
      try simp only [Act.put, List.setIfInBounds_toArray, List.set_cons_zero, List.set_cons_succ, List.getElem_toArray, List.getElem_cons_succ, List.getElem_cons_zero]
      refine wpAnyH_take (i := 4) (oi := _) (v := Value.agg #[Value.int .i64 s0, Value.int .i64 s1]) rfl (by kernel_rfl) (by kernel_rfl) (by kernel_rfl) (fun _ _ _ h => h) (Or.inl ⟨by rfl, fun w' hSw => ?_⟩) hHeld ?_
      · obtain ⟨t0, t1⟩ := hSw
        go_simp
        try simp [*]
        try (intro hh; exfalso; omega)
        try omega
      try simp only [Act.put, List.setIfInBounds_toArray, List.set_cons_zero, List.set_cons_succ, List.getElem_toArray, List.getElem_cons_succ, List.getElem_cons_zero]
      refine wpAnyH_ready (rs := [0]) (by kernel_rfl) (by simp) ?_
      refine AllReadyH.cons (o := _) rfl (fun K hK => ?_) AllReadyH.nil
      go_simp
      clear hHeld
      refine hK.out _ _ (KS.out _ HB.out.drew) (fun hHeld => ?_)
      clear hK K
      try simp only [Act.put, List.setIfInBounds_toArray, List.set_cons_zero, List.set_cons_succ, List.getElem_toArray, List.getElem_cons_succ, List.getElem_cons_zero]
      refine wpAnyH_ready (rs := [5]) (by kernel_rfl) (by simp) ?_
      refine AllReadyH.cons (o := _) rfl (fun K hK => ?_) AllReadyH.nil
      go_simp
      go_at_call 108
      refine Calls.mono (c108 _) ?_
      rintro e v1 ⟨rfl, hb9⟩
      have hbx : Below wr.heap.size wr v1 := Below.trans ((Below.refl wr.heap.size wr).drew) hb9
      have HV1 := Lib.hid (show Below A.heap.size A v1 from HB.out.trans (hbx.mono HB.out.size))
      have HX1 := Lib.hid (HX.out.keep hbx)
      clear hb9 hbx
      clear hHeld
      refine hK.out _ _ (KS.out _ HV1.out) (fun hHeld => ?_)
      clear hK K
      try simp only [Act.put, List.setIfInBounds_toArray, List.set_cons_zero, List.set_cons_succ, List.getElem_toArray, List.getElem_cons_succ, List.getElem_cons_zero]
      have x0 := HX1.out.c0
      have x1 := HX1.out.c1
      have rf0 := HX1.out.f0 0
      have rf1 := HX1.out.f0 1
      obtain ⟨V2, hV2⟩ : ∃ V2, V2 = (v1.setCell ⟨w1.heap.size, 0, none⟩ (.int .i64 (max c0 s0))).setCell ⟨w1.heap.size, 1, none⟩ (.int .i64 (min c1 s1)) := ⟨_, rfl⟩
      have HX2 := Lib.hid (show Bx2 V2 w1.heap.size (.int .i64 (max c0 s0)) (.int .i64 (min c1 s1)) by rw [hV2]; exact HX1.out.set _ _)
      have HB2 := Lib.hid (show Below A.heap.size A V2 by rw [hV2]; exact (HV1.out.setCell (p := ⟨w1.heap.size, 0, none⟩) hz1 _).setCell (p := ⟨w1.heap.size, 1, none⟩) hz1 _)
      refine wpAnyH_ready (rs := [6]) (by kernel_rfl) (by simp) ?_
      refine AllReadyH.cons (o := _) rfl (fun K hK => ?_) AllReadyH.nil
      go_simp
      try rw [← hV2]
      clear hHeld
      refine hK.out _ _ (KS.out _ HB2.out) (fun hHeld => ?_)
      clear hK K
      try simp only [Act.put, List.setIfInBounds_toArray, List.set_cons_zero, List.set_cons_succ, List.getElem_toArray, List.getElem_cons_succ, List.getElem_cons_zero]
      refine wpAnyH_done (by kernel_rfl) ?_ _
      clear hHeld
      clear hV2 x0 x1 rf0 rf1 m0 m1
      go_wp2_with fail
      go_roundw
      case rel => exact ⟨k + 1, by omega, by go_num, by rw [HCk.out]; exact HX2.out, HB2.out⟩
      case measure => simp [intOf]; omega
    · obtain rfl : k = len := by omega
      have hX2 := HX.out
      rw [HCA.out] at hX2
      have q0 := hX2.c0
      have q1 := hX2.c1
      obtain ⟨⟨r0, r1⟩, r2, r3⟩ := KR.out _ HB.out
      clear hX2
      dsimp only at q0 q1
      by_cases hz : z1 < z0
      · go_wp2_with fail
        refine bodyPost_ret (v := .tuple #[.agg #[.int .i64 0, .int .i64 0], .int .i64 5]) (by simp [results, Try.results49, go_sem, r0, r1]) rfl ⟨?_, HEND.out _ _ _ HB.out⟩
        rw [HQO.out, HQ.out]; have hz2 : ¬ z0 ≤ z1 := (by omega); simp [hl, hz2]
      · go_wp2_with fail
        refine bodyPost_ret (v := .tuple #[.agg #[.int .i64 z0, .int .i64 z1], .int .i64 0]) (by simp [results, Try.results49, go_sem, r0, r1]) rfl ⟨?_, HEND.out _ _ _ HB.out⟩
        rw [HQO.out, HQ.out]; have hz2 : z0 ≤ z1 := (by omega); simp [hl, hz2]
end Go.Proofs.Ytcchmjbedppfnaa

/-
  Clock: the common part of events.
-/
import Derived.Test.YtcchmjbedppfnaaEvE
import Derived.Test.YtcchmjbedppfnaaRkA
import Derived.Deep.Cut
namespace Go.Proofs.Ytcchmjbedppfnaa
open Go.RowKit Go.Shelf
set_option linter.unusedSimpArgs false
/-- what Common returns -/
def comR (zs : List (Int × Int)) : R3 :=
  if evE zs = 0 then (if zs.length = 0 then ⟨0, 0, 5⟩ else (if (meets (sp zs 0) zs).1 ≤ (meets (sp zs 0) zs).2 then ⟨(meets (sp zs 0) zs).1, (meets (sp zs 0) zs).2, 0⟩ else ⟨0, 0, 5⟩)) else ⟨0, 0, evE zs⟩
set_option maxRecDepth 100000 in
set_option maxHeartbeats 8000000 in
theorem common_any (sv : Value) (zs : List (Int × Int)) (w : World) (hZ : Sps w.heap.size w sv zs) :
    Calls Try.prog 48 #[sv] w fun e w' => e = .returned (comR zs).out ∧ Below w.heap.size w w' := by
  have c103 := Lib.hid (fun W (hb : Below w.heap.size w W) => checkEvents_any sv zs W (hZ.at hb))
  have c106 := Lib.hid (fun (hl : zs.length ≤ 128) W (hb : Below w.heap.size w W) B (h2 : B < W.heap.size) (h5 : W.cell? ⟨B, 0, none⟩ = some sv) => comb_values sv zs hl (sp zs 0) W B (hZ.at hb) h2 h5)
  have HLE := Lib.hid (show evE zs = 0 → zs.length ≤ 128 from fun h => (evE_get h).1)
  unfold comR
  obtain ⟨a, cap, rfl, -, hcc⟩ := hZ
  have c107 := fun W => values107_any a zs.length cap W
  have HC := Lib.hid hcc
  obtain ⟨A, hA⟩ : ∃ A, A = w.alloc (.cells #[.int .i64 0, .int .i64 0] 23) := ⟨_, rfl⟩
  have hzA : A.heap.size = w.heap.size + 1 := by rw [hA]; simp
  have HBA := Lib.hid (show Below w.heap.size w A by rw [hA]; exact (Below.refl _ _).alloc (Nat.le_refl _) _)
  have hRA : Bx2 A w.heap.size (.int .i64 0) (.int .i64 0) := by rw [hA]; exact Bx2.new _ _ _
  have KR := Lib.hid (show ∀ W, Below A.heap.size A W → (W.cell? ⟨w.heap.size, 0, none⟩ = some (.int .i64 0) ∧ W.cell? ⟨w.heap.size, 1, none⟩ = some (.int .i64 0)) ∧ W.frozen? ⟨w.heap.size, 0, none⟩ = false ∧ W.frozen? ⟨w.heap.size, 1, none⟩ = false from fun W h => ⟨⟨(hRA.keep h).c0, (hRA.keep h).c1⟩, (hRA.keep h).f0 0, (hRA.keep h).f0 1⟩)
  have HUP := Lib.hid (show ∀ W, Below A.heap.size A W → Below w.heap.size w W from fun W h => HBA.out.trans (h.mono HBA.out.size))
  have HEND := Lib.hid (show ∀ W v0 v1, Below A.heap.size A W → Below w.heap.size w ((W.setCell ⟨w.heap.size, 0, none⟩ v0).setCell ⟨w.heap.size, 1, none⟩ v1) from fun W v0 v1 h =>
    ((HBA.out.trans (h.mono HBA.out.size)).setCell (p := ⟨w.heap.size, 0, none⟩) (Nat.le_refl _) _).setCell (p := ⟨w.heap.size, 1, none⟩) (Nat.le_refl _) _)
  have HZA := Lib.hid (show w.heap.size < A.heap.size by omega)
  clear hRA hzA hcc
  generalize evE zs = E0 at *
  generalize meets (sp zs 0) zs = z at *
  generalize zs.length = len at *
  obtain ⟨q, hq⟩ : ∃ q : R3, q = if E0 = 0 then (if len = 0 then ⟨0, 0, 5⟩ else (if z.1 ≤ z.2 then ⟨z.1, z.2, 0⟩ else ⟨0, 0, 5⟩)) else ⟨0, 0, E0⟩ := ⟨_, rfl⟩
  rw [← hq]
  have HQ := Lib.hid hq
  clear hq
  generalize hqo : q.out = qo at *
  have HQO := Lib.hid (show qo = .tuple #[.agg #[.int .i64 q.lo, .int .i64 q.hi], .int .i64 q.e] from hqo.symm)
  clear hqo
  obtain ⟨z0, z1⟩ := z
  unfold spv at c106
  dsimp only at *
  go_enter Try.func48, Try.ntmps48
  go_wp2_with fail
  try rw [← hA]
  clear hA
  refine (c103.out _ HBA.out).mono ?_
  rintro e w1 ⟨rfl, hb⟩
  have HB1 := Lib.hid hb
  obtain ⟨⟨r0, r1⟩, r2, r3⟩ := KR.out _ hb
  clear hb
  by_cases h0 : E0 = 0
  rotate_left
  · have hb0 : (E0 != 0) = true := by simpa using h0
    go_wp2_with fail
    refine bodyPost_ret (v := .tuple #[.agg #[.int .i64 0, .int .i64 0], .int .i64 E0]) (by simp [results, Try.results48, go_sem, r0, r1]) rfl ⟨?_, HEND.out _ _ _ HB1.out⟩
    rw [HQO.out, HQ.out, if_neg h0]
  have c106b := Lib.hid (c106.out (HLE.out h0))
  subst h0
  by_cases hl : len = 0
  · have hl2 : (len : Int) = 0 := by omega
    go_wp2_with fail
    refine bodyPost_ret (v := .tuple #[.agg #[.int .i64 0, .int .i64 0], .int .i64 5]) (by simp [results, Try.results48, go_sem, r0, r1]) rfl ⟨?_, HEND.out _ _ _ HB1.out⟩
    rw [HQO.out, HQ.out]; simp [hl]
  have hl2 : ¬ (len : Int) = 0 := by omega
  have hl3 : (0 : Int) < (len : Int) := by omega
  have hl4 : 0 < len := by omega
  obtain ⟨b, off, hab, hb, e0, e1⟩ := HC.out 0 hl4
  subst hab
  simp only [Nat.zero_mul, Nat.add_zero] at e0 e1
  generalize (sp zs 0).1 = s0 at *
  generalize (sp zs 0).2 = s1 at *
  have KS := Lib.hid (show ∀ W, Below A.heap.size A W → W.cell? ⟨b, off, none⟩ = some (.int .i64 s0) ∧ W.cell? ⟨b, off + 1, none⟩ = some (.int .i64 s1) from fun W h => ⟨((HUP.out W h).cell (p := ⟨b, off, none⟩) hb).trans e0, ((HUP.out W h).cell (p := ⟨b, off + 1, none⟩) hb).trans e1⟩)
  clear e0 e1 c106 c103 r0 r1 r2 r3
  obtain ⟨m0, m1⟩ := KS.out _ HB1.out
  go_upto_region 6 with fail
  go_cut [5] from 14 (fun s5 wc => ∃ B, s5 = Value.pointer (some ⟨B, 0, none⟩) ∧ Bx2 wc B (.int .i64 z0) (.int .i64 z1) ∧ Below A.heap.size A wc)
  case first => as_aux_lemma =>
    refine wp_region_held_drew (S := fun w' => w'.cell? ⟨b, off, none⟩ = some (.int .i64 s0) ∧ w'.cell? ⟨b, off + 1, none⟩ = some (.int .i64 s1)) (by kernel_rfl) ⟨by simpa [go_sem] using m0, by simpa [go_sem] using m1⟩ (fun hHeld => ?_)
    refine wpAnyH_take (i := 0) (oi := _) (v := Value.slice (some ⟨b, off, none⟩) len cap) rfl (by kernel_rfl) (by kernel_rfl) (by kernel_rfl) (fun _ _ _ h => h) (Or.inl ⟨by rfl, fun w' hSw => ?_⟩) hHeld ?_
    · obtain ⟨t0, t1⟩ := hSw
      go_simp
      try simp [*]
      try (intro hh; exfalso; omega)
      try omega
    try simp only [Act.put, List.setIfInBounds_toArray, List.set_cons_zero, List.set_cons_succ, List.getElem_toArray, List.getElem_cons_succ, List.getElem_cons_zero]
    refine wpAnyH_take (i := 2) (oi := _) (v := Value.slice (some ⟨b, off, none⟩) len cap) rfl (by kernel_rfl) (by kernel_rfl) (by kernel_rfl) (fun _ _ _ h => h) (Or.inl ⟨by rfl, fun w' hSw => ?_⟩) hHeld ?_
    · obtain ⟨t0, t1⟩ := hSw
      go_simp
      try simp [*]
      try (intro hh; exfalso; omega)
      try omega
    try simp only [Act.put, List.setIfInBounds_toArray, List.set_cons_zero, List.set_cons_succ, List.getElem_toArray, List.getElem_cons_succ, List.getElem_cons_zero]
    refine wpAnyH_take (i := 3) (oi := _) (v := Value.pointer (some ⟨b, off, none⟩)) rfl (by kernel_rfl) (by kernel_rfl) (by kernel_rfl) (fun _ _ _ h => h) (Or.inl ⟨by rfl, fun w' hSw => ?_⟩) hHeld ?_
    · obtain ⟨t0, t1⟩ := hSw
      go_simp
      try simp [*]
      try (intro hh; exfalso; omega)
      try omega
    try simp only [Act.put, List.setIfInBounds_toArray, List.set_cons_zero, List.set_cons_succ, List.getElem_toArray, List.getElem_cons_succ, List.getElem_cons_zero]
    refine wpAnyH_take (i := 4) (oi := _) (v := Value.agg #[Value.int .i64 s0, Value.int .i64 s1]) rfl (by kernel_rfl) (by kernel_rfl) (by kernel_rfl) (fun _ _ _ h => h) (Or.inl ⟨by rfl, fun w' hSw => ?_⟩) hHeld ?_
    · obtain ⟨t0, t1⟩ := hSw
      go_simp
      try simp [*]
      try (intro hh; exfalso; omega)
      try omega
    try simp only [Act.put, List.setIfInBounds_toArray, List.set_cons_zero, List.set_cons_succ, List.getElem_toArray, List.getElem_cons_succ, List.getElem_cons_zero]
    refine wpAnyH_ready (rs := [1, 6]) (by kernel_rfl) (by simp) ?_
    refine AllReadyH.cons (o := _) rfl (fun K hK => ?_) (AllReadyH.cons (o := _) rfl (fun K hK => ?_) (AllReadyH.nil))
    · go_simp
      go_at_call 107
      refine Calls.mono (c107 _) ?_
      rintro e v1 ⟨rfl, hw⟩
      have hbx : Below (w1.drew).heap.size (w1.drew) v1 := by rw [hw]; exact (Below.refl _ _).alloc (Nat.le_refl _) _
      have HV1 := Lib.hid (show Below A.heap.size A v1 from Below.trans HB1.out.drew (hbx.mono (Below.size HB1.out.drew)))
      have kc := Lib.hid (show v1.cell? ⟨(w1.drew).heap.size, 0, none⟩ = some (.slice (some ⟨b, off, none⟩) len cap) by rw [hw]; simp [go_sem])
      have kl := Lib.hid (show (w1.drew).heap.size < v1.heap.size by rw [hw]; simp)
      clear hw hbx
      clear hHeld
      refine hK.out _ _ (KS.out _ HV1.out) (fun hHeld => ?_)
      clear hK K
      try simp only [Act.put, List.setIfInBounds_toArray, List.set_cons_zero, List.set_cons_succ, List.getElem_toArray, List.getElem_cons_succ, List.getElem_cons_zero]
      refine wpAnyH_ready (rs := [5, 6]) (by kernel_rfl) (by simp) ?_
      refine AllReadyH.cons (o := _) rfl (fun K hK => ?_) (AllReadyH.cons (o := _) rfl (fun K hK => ?_) (AllReadyH.nil))
      · go_simp
        go_at_call 106
        refine Calls.mono (c106b.out _ (HUP.out _ HV1.out) _ kl.out kc.out) ?_
        rintro e v2 ⟨rfl, hbx⟩
        have HV2 := Lib.hid (show Below A.heap.size A v2 from Below.trans HV1.out (hbx.mono (Below.size HV1.out)))
        clear hbx
        clear hHeld
        refine hK.out _ _ (KS.out _ HV2.out) (fun hHeld => ?_)
        clear hK K
        try simp only [Act.put, List.setIfInBounds_toArray, List.set_cons_zero, List.set_cons_succ, List.getElem_toArray, List.getElem_cons_succ, List.getElem_cons_zero]
        refine wpAnyH_ready (rs := [6]) (by kernel_rfl) (by simp) ?_
        refine AllReadyH.cons (o := _) rfl (fun K hK => ?_) AllReadyH.nil
        go_simp
        have HVa := Lib.hid (show Below A.heap.size A (v2.alloc (.cells #[.int .i64 0, .int .i64 0] 23)) from HV2.out.alloc HV2.out.size _)
        clear hHeld
        refine hK.out _ _ (KS.out _ HVa.out) (fun hHeld => ?_)
        clear hK K
        try simp only [Act.put, List.setIfInBounds_toArray, List.set_cons_zero, List.set_cons_succ, List.getElem_toArray, List.getElem_cons_succ, List.getElem_cons_zero]
        obtain ⟨Z, hZe⟩ : ∃ Z, Z = v2.alloc (.cells #[.int .i64 z0, .int .i64 z1] 23) := ⟨_, rfl⟩
        have hZ : Bx2 Z v2.heap.size (.int .i64 z0) (.int .i64 z1) := by rw [hZe]; exact Bx2.new _ _ _
        have hBZ : Below A.heap.size A Z := by rw [hZe]; exact HV2.out.alloc HV2.out.size _
        refine wpAnyH_ready (rs := [7]) (by kernel_rfl) (by simp) ?_
        refine AllReadyH.cons (o := _) rfl (fun K hK => ?_) AllReadyH.nil
        go_simp
        try rw [← hZe]
        clear hHeld
        refine hK.out _ _ (KS.out _ hBZ) (fun hHeld => ?_)
        clear hK K
        try simp only [Act.put, List.setIfInBounds_toArray, List.set_cons_zero, List.set_cons_succ, List.getElem_toArray, List.getElem_cons_succ, List.getElem_cons_zero]
        clear hZe
        refine wpAnyH_done (by kernel_rfl) ?_ _
        clear hHeld
        go_wp2_with fail
        go_meet
        case rel => exact ⟨_, rfl, hZ, hBZ⟩
      · go_simp
        have hax : Below v1.heap.size v1 (v1.alloc (.cells #[.int .i64 0, .int .i64 0] 23)) := (Below.refl _ _).alloc (Nat.le_refl _) _
        have HVa := Lib.hid (show Below A.heap.size A (v1.alloc (.cells #[.int .i64 0, .int .i64 0] 23)) from HV1.out.alloc HV1.out.size _)
        have HX0 := Lib.hid (show Bx2 (v1.alloc (.cells #[.int .i64 0, .int .i64 0] 23)) v1.heap.size (.int .i64 0) (.int .i64 0) from Bx2.new _ _ _)
        clear hHeld
        refine hK.out _ _ (KS.out _ HVa.out) (fun hHeld => ?_)
        clear hK K
        try simp only [Act.put, List.setIfInBounds_toArray, List.set_cons_zero, List.set_cons_succ, List.getElem_toArray, List.getElem_cons_succ, List.getElem_cons_zero]
        refine wpAnyH_ready (rs := [5]) (by kernel_rfl) (by simp) ?_
        refine AllReadyH.cons (o := _) rfl (fun K hK => ?_) AllReadyH.nil
        go_simp
        go_at_call 106
        refine Calls.mono (c106b.out _ (HUP.out _ HVa.out) _ (Nat.lt_of_lt_of_le kl.out (by simp)) ((hax.cell (p := ⟨_, 0, none⟩) kl.out).trans kc.out)) ?_
        rintro e v2 ⟨rfl, hbx⟩
        have HV2 := Lib.hid (show Below A.heap.size A v2 from Below.trans HVa.out (hbx.mono (Below.size HVa.out)))
        have HX2 := Lib.hid (HX0.out.keep hbx)
        clear hbx
        clear hHeld
        refine hK.out _ _ (KS.out _ HV2.out) (fun hHeld => ?_)
        clear hK K
        try simp only [Act.put, List.setIfInBounds_toArray, List.set_cons_zero, List.set_cons_succ, List.getElem_toArray, List.getElem_cons_succ, List.getElem_cons_zero]
        have r0 := HX2.out.c0
        have r1 := HX2.out.c1
        have rf0 := HX2.out.f0 0
        have rf1 := HX2.out.f0 1
        have hBl : A.heap.size ≤ v1.heap.size := HV1.out.size
        obtain ⟨Z, hZe⟩ : ∃ Z, Z = (v2.setCell ⟨v1.heap.size, 0, none⟩ (.int .i64 z0)).setCell ⟨v1.heap.size, 1, none⟩ (.int .i64 z1) := ⟨_, rfl⟩
        have hZ : Bx2 Z (v1.heap.size) (.int .i64 z0) (.int .i64 z1) := by rw [hZe]; exact HX2.out.set _ _
        have hBZ : Below A.heap.size A Z := by rw [hZe]; exact (HV2.out.setCell (p := ⟨v1.heap.size, 0, none⟩) hBl _).setCell (p := ⟨v1.heap.size, 1, none⟩) hBl _
        refine wpAnyH_ready (rs := [7]) (by kernel_rfl) (by simp) ?_
        refine AllReadyH.cons (o := _) rfl (fun K hK => ?_) AllReadyH.nil
        go_simp
        try rw [← hZe]
        clear hHeld
        refine hK.out _ _ (KS.out _ hBZ) (fun hHeld => ?_)
        clear hK K
        try simp only [Act.put, List.setIfInBounds_toArray, List.set_cons_zero, List.set_cons_succ, List.getElem_toArray, List.getElem_cons_succ, List.getElem_cons_zero]
        clear hZe r0 r1 rf0 rf1
        refine wpAnyH_done (by kernel_rfl) ?_ _
        clear hHeld
        go_wp2_with fail
        go_meet
        case rel => exact ⟨_, rfl, hZ, hBZ⟩
    · go_simp
      have HVa := Lib.hid (show Below A.heap.size A (w1.drew.alloc (.cells #[.int .i64 0, .int .i64 0] 23)) from HB1.out.drew.alloc (Below.size HB1.out.drew) _)
      have HX0 := Lib.hid (show Bx2 (w1.drew.alloc (.cells #[.int .i64 0, .int .i64 0] 23)) w1.heap.size (.int .i64 0) (.int .i64 0) from Bx2.new _ _ _)
      clear hHeld
      refine hK.out _ _ (KS.out _ HVa.out) (fun hHeld => ?_)
      clear hK K
      try simp only [Act.put, List.setIfInBounds_toArray, List.set_cons_zero, List.set_cons_succ, List.getElem_toArray, List.getElem_cons_succ, List.getElem_cons_zero]
      refine wpAnyH_ready (rs := [1]) (by kernel_rfl) (by simp) ?_
      refine AllReadyH.cons (o := _) rfl (fun K hK => ?_) AllReadyH.nil
      go_simp
      go_at_call 107
      refine Calls.mono (c107 _) ?_
      rintro e v1 ⟨rfl, hw⟩
      have hbx : Below ((w1.drew.alloc (.cells #[.int .i64 0, .int .i64 0] 23))).heap.size ((w1.drew.alloc (.cells #[.int .i64 0, .int .i64 0] 23))) v1 := by rw [hw]; exact (Below.refl _ _).alloc (Nat.le_refl _) _
      have HV1 := Lib.hid (show Below A.heap.size A v1 from Below.trans HVa.out (hbx.mono (Below.size HVa.out)))
      have kc := Lib.hid (show v1.cell? ⟨((w1.drew.alloc (.cells #[.int .i64 0, .int .i64 0] 23))).heap.size, 0, none⟩ = some (.slice (some ⟨b, off, none⟩) len cap) by rw [hw]; simp [go_sem])
      have kl := Lib.hid (show ((w1.drew.alloc (.cells #[.int .i64 0, .int .i64 0] 23))).heap.size < v1.heap.size by rw [hw]; simp)
      have HX1 := Lib.hid (HX0.out.keep hbx)
      clear hw hbx
      clear hHeld
      refine hK.out _ _ (KS.out _ HV1.out) (fun hHeld => ?_)
      clear hK K
      try simp only [Act.put, List.setIfInBounds_toArray, List.set_cons_zero, List.set_cons_succ, List.getElem_toArray, List.getElem_cons_succ, List.getElem_cons_zero]
      refine wpAnyH_ready (rs := [5]) (by kernel_rfl) (by simp) ?_
      refine AllReadyH.cons (o := _) rfl (fun K hK => ?_) AllReadyH.nil
      go_simp
      go_at_call 106
      refine Calls.mono (c106b.out _ (HUP.out _ HV1.out) _ (by simpa using kl.out) (by simpa using kc.out)) ?_
      rintro e v2 ⟨rfl, hbx⟩
      have HV2 := Lib.hid (show Below A.heap.size A v2 from Below.trans HV1.out (hbx.mono (Below.size HV1.out)))
      have HX2 := Lib.hid (HX1.out.keep hbx)
      clear hbx
      clear hHeld
      refine hK.out _ _ (KS.out _ HV2.out) (fun hHeld => ?_)
      clear hK K
      try simp only [Act.put, List.setIfInBounds_toArray, List.set_cons_zero, List.set_cons_succ, List.getElem_toArray, List.getElem_cons_succ, List.getElem_cons_zero]
      have r0 := HX2.out.c0
      have r1 := HX2.out.c1
      have rf0 := HX2.out.f0 0
      have rf1 := HX2.out.f0 1
      have hBl : A.heap.size ≤ w1.heap.size := HB1.out.size
      obtain ⟨Z, hZe⟩ : ∃ Z, Z = (v2.setCell ⟨w1.heap.size, 0, none⟩ (.int .i64 z0)).setCell ⟨w1.heap.size, 1, none⟩ (.int .i64 z1) := ⟨_, rfl⟩
      have hZ : Bx2 Z (w1.heap.size) (.int .i64 z0) (.int .i64 z1) := by rw [hZe]; exact HX2.out.set _ _
      have hBZ : Below A.heap.size A Z := by rw [hZe]; exact (HV2.out.setCell (p := ⟨w1.heap.size, 0, none⟩) hBl _).setCell (p := ⟨w1.heap.size, 1, none⟩) hBl _
      refine wpAnyH_ready (rs := [7]) (by kernel_rfl) (by simp) ?_
      refine AllReadyH.cons (o := _) rfl (fun K hK => ?_) AllReadyH.nil
      go_simp
      try rw [← hZe]
      clear hHeld
      refine hK.out _ _ (KS.out _ hBZ) (fun hHeld => ?_)
      clear hK K
      try simp only [Act.put, List.setIfInBounds_toArray, List.set_cons_zero, List.set_cons_succ, List.getElem_toArray, List.getElem_cons_succ, List.getElem_cons_zero]
      clear hZe r0 r1 rf0 rf1
      refine wpAnyH_done (by kernel_rfl) ?_ _
      clear hHeld
      go_wp2_with fail
      go_meet
      case rel => exact ⟨_, rfl, hZ, hBZ⟩
  case rest => as_aux_lemma =>
    obtain ⟨B5, rfl, hX, hW⟩ := hcut
    have HX := Lib.hid hX
    have HW := Lib.hid hW
    have cE := exists_any z0 z1 wc
    have q0 := hX.c0
    have q1 := hX.c1
    clear hX hW
    by_cases hz : z0 ≤ z1
    · rw [decide_eq_true hz] at cE
      go_wp2_with fail
      refine cE.mono ?_
      rintro e w5 ⟨rfl, hb5⟩
      have HW5 := Lib.hid (HW.out.trans (hb5.mono HW.out.size))
      have q0 := (HX.out.keep hb5).c0
      have q1 := (HX.out.keep hb5).c1
      obtain ⟨⟨r0, r1⟩, r2, r3⟩ := KR.out _ HW5.out
      clear hb5
      go_wp2_with fail
      refine bodyPost_ret (v := .tuple #[.agg #[.int .i64 z0, .int .i64 z1], .int .i64 0]) (by simp [results, Try.results48, go_sem, r0, r1]) rfl ⟨?_, HEND.out _ _ _ HW5.out⟩
      rw [HQO.out, HQ.out]; simp [hl, hz]
    · rw [decide_eq_false hz] at cE
      go_wp2_with fail
      refine cE.mono ?_
      rintro e w5 ⟨rfl, hb5⟩
      have HW5 := Lib.hid (HW.out.trans (hb5.mono HW.out.size))
      obtain ⟨⟨r0, r1⟩, r2, r3⟩ := KR.out _ HW5.out
      clear hb5
      go_wp2_with fail
      refine bodyPost_ret (v := .tuple #[.agg #[.int .i64 0, .int .i64 0], .int .i64 5]) (by simp [results, Try.results48, go_sem, r0, r1]) rfl ⟨?_, HEND.out _ _ _ HW5.out⟩
      rw [HQO.out, HQ.out]; have hz2 : ¬ z0 ≤ z1 := (by omega); simp [hl, hz2]
end Go.Proofs.Ytcchmjbedppfnaa

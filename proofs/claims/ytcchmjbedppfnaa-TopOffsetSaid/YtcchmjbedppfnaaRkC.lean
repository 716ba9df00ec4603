/-
  Clock: the reference's offset by an exchange.
-/
import Derived.Test.YtcchmjbedppfnaaRkB
import Derived.Test.YtcchmjbedppfnaaCkH
namespace Go.Proofs.Ytcchmjbedppfnaa
open Go.RowKit Go.Shelf
set_option linter.unusedSimpArgs false
set_option maxRecDepth 100000 in
set_option maxHeartbeats 4000000 in
theorem roffset_any (x : Xc) (r : Int) (hx : xcB x = true) (hr : rtB r = true) (w : World) :
    Calls Try.prog 78 #[x.val, .int .i64 r] w fun e w' => e = .returned (spv (offL r x, offH r x)) ∧ Below w.heap.size w w' := by
  obtain ⟨h1, h2, h3, h4⟩ := (xcB_iff x).1 hx
  obtain ⟨hr0, hr1⟩ := (rtB_iff r).1 hr
  have hm : max (x.ba - x.se) (-(x.ba - x.se)) = x.ba - x.se := by omega
  have c55 := fun W => rgrowth_any r (x.ba - x.se) ⟨hr0, hr1⟩ (by omega) W
  rw [hm] at c55
  have hgb := (grw_bd (r := r) (d := x.ba - x.se) ⟨hr0, hr1⟩ (by omega)).2.2
  have c133 := fun W => rgrown_any (x.he - x.se - x.fHi) (x.he - x.se - x.fLo) (grw r (x.ba - x.se)) (by omega) (by omega) (by omega) W
  have c108 := fun W => rmeet_any (x.he - x.se - x.fHi - grw r (x.ba - x.se)) (x.he - x.se - x.fLo + grw r (x.ba - x.se)) (x.an - x.ba + x.hLo) (x.an - x.ba + x.hHi) W
  have hL : max (x.he - x.se - x.fHi - grw r (x.ba - x.se)) (x.an - x.ba + x.hLo) = offL r x := rfl
  have hH : min (x.he - x.se - x.fLo + grw r (x.ba - x.se)) (x.an - x.ba + x.hHi) = offH r x := rfl
  rw [hL, hH] at c108
  unfold spv
  dsimp only
  have v1 : wrap64 (x.he - x.se) = x.he - x.se := by unfold wrap64; omega
  have v2 : wrap64 (x.he - x.se - x.fHi) = x.he - x.se - x.fHi := by unfold wrap64; omega
  have v3 : wrap64 (x.he - x.se - x.fLo) = x.he - x.se - x.fLo := by unfold wrap64; omega
  have v4 : wrap64 (x.an - x.ba) = x.an - x.ba := by unfold wrap64; omega
  have v5 : wrap64 (x.an - x.ba + x.hLo) = x.an - x.ba + x.hLo := by unfold wrap64; omega
  have v6 : wrap64 (x.an - x.ba + x.hHi) = x.an - x.ba + x.hHi := by unfold wrap64; omega
  have v7 : IntKind.i64.wrap (x.ba - x.se) = x.ba - x.se := by rw [IntKind.wrap_i64]; omega
  clear hL hH h1 h2 h3 h4 hr0 hr1 hr hx hm hgb
  generalize offL r x = oL at *
  generalize offH r x = oH at *
  generalize x.he - x.se - x.fHi - grw r (x.ba - x.se) = m0 at *
  generalize x.he - x.se - x.fLo + grw r (x.ba - x.se) = m1 at *
  generalize grw r (x.ba - x.se) = g at *
  unfold Xc.val at *
  obtain ⟨A, hA⟩ : ∃ A, A = (((w.alloc (.cells #[.int .i64 x.se, .int .i64 x.he, .int .i64 x.an, .int .i64 x.ba, .int .i64 x.fLo, .int .i64 x.fHi, .int .i64 x.hLo, .int .i64 x.hHi] 25)).alloc (.cells #[.int .i64 0, .int .i64 0] 23)).alloc (.cells #[.int .i64 (x.he - x.se - x.fHi), .int .i64 (x.he - x.se - x.fLo)] 23)).alloc (.cells #[.int .i64 (x.an - x.ba + x.hLo), .int .i64 (x.an - x.ba + x.hHi)] 23) := ⟨_, rfl⟩
  have hzA : A.heap.size = w.heap.size + 4 := by rw [hA]; simp
  have hBA : Below w.heap.size w A := by rw [hA]; exact ((((Below.refl _ _).alloc (Nat.le_refl _) _).alloc (by simp) _).alloc (by simp; omega) _).alloc (by simp; omega) _
  have k0 : A.cell? ⟨w.heap.size, 0, none⟩ = some (.int .i64 x.se) := by rw [hA]; simp [go_sem]
  have k3 : A.cell? ⟨w.heap.size, 3, none⟩ = some (.int .i64 x.ba) := by rw [hA]; simp [go_sem]
  have l0 : A.cell? ⟨w.heap.size + 2, 0, none⟩ = some (.int .i64 (x.he - x.se - x.fHi)) := by rw [hA]; simp [go_sem]
  have l1 : A.cell? ⟨w.heap.size + 2, 1, none⟩ = some (.int .i64 (x.he - x.se - x.fLo)) := by rw [hA]; simp [go_sem]
  have m0' : A.cell? ⟨w.heap.size + 3, 0, none⟩ = some (.int .i64 (x.an - x.ba + x.hLo)) := by rw [hA]; simp [go_sem]
  have m1' : A.cell? ⟨w.heap.size + 3, 1, none⟩ = some (.int .i64 (x.an - x.ba + x.hHi)) := by rw [hA]; simp [go_sem]
  have hR : Bx2 A (w.heap.size + 1) (.int .i64 0) (.int .i64 0) := by
    rw [hA]
    have q := ((Bx2.new (w.alloc (.cells #[.int .i64 x.se, .int .i64 x.he, .int .i64 x.an, .int .i64 x.ba, .int .i64 x.fLo, .int .i64 x.fHi, .int .i64 x.hLo, .int .i64 x.hHi] 25)) (.int .i64 0) (.int .i64 0)).keep ((Below.refl _ _).alloc (Nat.le_refl _) (.cells #[.int .i64 (x.he - x.se - x.fHi), .int .i64 (x.he - x.se - x.fLo)] 23))).keep ((Below.refl _ _).alloc (Nat.le_refl _) (.cells #[.int .i64 (x.an - x.ba + x.hLo), .int .i64 (x.an - x.ba + x.hHi)] 23))
    rwa [World.size_alloc] at q
  have HR := Lib.hid hR
  have HBA := Lib.hid hBA
  have KK := Lib.hid (show ∀ W, Below A.heap.size A W → W.cell? ⟨w.heap.size, 0, none⟩ = some (.int .i64 x.se) ∧ W.cell? ⟨w.heap.size, 3, none⟩ = some (.int .i64 x.ba) ∧ W.cell? ⟨w.heap.size + 2, 0, none⟩ = some (.int .i64 (x.he - x.se - x.fHi)) ∧ W.cell? ⟨w.heap.size + 2, 1, none⟩ = some (.int .i64 (x.he - x.se - x.fLo)) ∧ W.cell? ⟨w.heap.size + 3, 0, none⟩ = some (.int .i64 (x.an - x.ba + x.hLo)) ∧ W.cell? ⟨w.heap.size + 3, 1, none⟩ = some (.int .i64 (x.an - x.ba + x.hHi)) from fun W h => ⟨(h.cell (p := ⟨w.heap.size, 0, none⟩) (by show w.heap.size < A.heap.size; omega)).trans k0, (h.cell (p := ⟨w.heap.size, 3, none⟩) (by show w.heap.size < A.heap.size; omega)).trans k3, (h.cell (p := ⟨w.heap.size + 2, 0, none⟩) (by show w.heap.size + 2 < A.heap.size; omega)).trans l0, (h.cell (p := ⟨w.heap.size + 2, 1, none⟩) (by show w.heap.size + 2 < A.heap.size; omega)).trans l1, (h.cell (p := ⟨w.heap.size + 3, 0, none⟩) (by show w.heap.size + 3 < A.heap.size; omega)).trans m0', (h.cell (p := ⟨w.heap.size + 3, 1, none⟩) (by show w.heap.size + 3 < A.heap.size; omega)).trans m1'⟩)
  have HZA := Lib.hid hzA
  clear hzA hR hBA
  go_enter Try.func78, Try.ntmps78
  go_wp2_with fail
  try rw [← hA]
  clear hA
  refine wp_region_held_drew (S := fun w' => w'.cell? ⟨w.heap.size, 0, none⟩ = some (.int .i64 x.se) ∧ w'.cell? ⟨w.heap.size, 3, none⟩ = some (.int .i64 x.ba) ∧ w'.cell? ⟨w.heap.size + 2, 0, none⟩ = some (.int .i64 (x.he - x.se - x.fHi)) ∧ w'.cell? ⟨w.heap.size + 2, 1, none⟩ = some (.int .i64 (x.he - x.se - x.fLo)) ∧ w'.cell? ⟨w.heap.size + 3, 0, none⟩ = some (.int .i64 (x.an - x.ba + x.hLo)) ∧ w'.cell? ⟨w.heap.size + 3, 1, none⟩ = some (.int .i64 (x.an - x.ba + x.hHi))) (by kernel_rfl) ⟨by simpa [go_sem] using k0, by simpa [go_sem] using k3, by simpa [go_sem] using l0, by simpa [go_sem] using l1, by simpa [go_sem] using m0', by simpa [go_sem] using m1'⟩ (fun hHeld => ?_)
  refine wpAnyH_take (i := 0) (oi := _) (v := Value.agg #[Value.int .i64 (x.he - x.se - x.fHi), Value.int .i64 (x.he - x.se - x.fLo)]) rfl (by kernel_rfl) (by kernel_rfl) (by kernel_rfl) (fun _ _ _ h => h) (Or.inl ⟨by rfl, fun w' hSw => ?_⟩) hHeld ?_
  · obtain ⟨t0, t1, t2, t3, t4, t5⟩ := hSw
    go_simp
    try simp [*]
    try (intro hh; exfalso; omega)
    try omega
  try simp only [Act.put, List.setIfInBounds_toArray, List.set_cons_zero, List.set_cons_succ, List.getElem_toArray, List.getElem_cons_succ, List.getElem_cons_zero]
  refine wpAnyH_take (i := 1) (oi := _) (v := Value.int .i64 r) rfl (by kernel_rfl) (by kernel_rfl) (by kernel_rfl) (fun _ _ _ h => h) (Or.inl ⟨by rfl, fun w' hSw => ?_⟩) hHeld ?_
  · obtain ⟨t0, t1, t2, t3, t4, t5⟩ := hSw
    go_simp
    try simp [*]
    try (intro hh; exfalso; omega)
    try omega
  try simp only [Act.put, List.setIfInBounds_toArray, List.set_cons_zero, List.set_cons_succ, List.getElem_toArray, List.getElem_cons_succ, List.getElem_cons_zero]
  refine wpAnyH_take (i := 2) (oi := _) (v := Value.pointer (some ⟨w.heap.size, 3, none⟩)) rfl (by kernel_rfl) (by kernel_rfl) (by kernel_rfl) (fun _ _ _ h => h) (Or.inl ⟨by rfl, fun w' hSw => ?_⟩) hHeld ?_
  · obtain ⟨t0, t1, t2, t3, t4, t5⟩ := hSw
    go_simp
    try simp [*]
    try (intro hh; exfalso; omega)
    try omega
  try simp only [Act.put, List.setIfInBounds_toArray, List.set_cons_zero, List.set_cons_succ, List.getElem_toArray, List.getElem_cons_succ, List.getElem_cons_zero]
  refine wpAnyH_take (i := 3) (oi := _) (v := Value.int .i64 x.ba) rfl (by kernel_rfl) (by kernel_rfl) (by kernel_rfl) (fun _ _ _ h => h) (Or.inl ⟨by rfl, fun w' hSw => ?_⟩) hHeld ?_
  · obtain ⟨t0, t1, t2, t3, t4, t5⟩ := hSw
    go_simp
    try simp [*]
    try (intro hh; exfalso; omega)
    try omega
  try simp only [Act.put, List.setIfInBounds_toArray, List.set_cons_zero, List.set_cons_succ, List.getElem_toArray, List.getElem_cons_succ, List.getElem_cons_zero]
  refine wpAnyH_take (i := 4) (oi := _) (v := Value.pointer (some ⟨w.heap.size, 0, none⟩)) rfl (by kernel_rfl) (by kernel_rfl) (by kernel_rfl) (fun _ _ _ h => h) (Or.inl ⟨by rfl, fun w' hSw => ?_⟩) hHeld ?_
  · obtain ⟨t0, t1, t2, t3, t4, t5⟩ := hSw
    go_simp
    try simp [*]
    try (intro hh; exfalso; omega)
    try omega
  try simp only [Act.put, List.setIfInBounds_toArray, List.set_cons_zero, List.set_cons_succ, List.getElem_toArray, List.getElem_cons_succ, List.getElem_cons_zero]
  refine wpAnyH_take (i := 5) (oi := _) (v := Value.int .i64 x.se) rfl (by kernel_rfl) (by kernel_rfl) (by kernel_rfl) (fun _ _ _ h => h) (Or.inl ⟨by rfl, fun w' hSw => ?_⟩) hHeld ?_
  · obtain ⟨t0, t1, t2, t3, t4, t5⟩ := hSw
    go_simp
    try simp [*]
    try (intro hh; exfalso; omega)
    try omega
  try simp only [Act.put, List.setIfInBounds_toArray, List.set_cons_zero, List.set_cons_succ, List.getElem_toArray, List.getElem_cons_succ, List.getElem_cons_zero]
  refine wpAnyH_take (i := 6) (oi := _) (v := Value.int .i64 (x.ba - x.se)) rfl (by kernel_rfl) (by kernel_rfl) (by kernel_rfl) (fun _ _ _ h => h) (Or.inl ⟨by rfl, fun w' hSw => ?_⟩) hHeld ?_
  · obtain ⟨t0, t1, t2, t3, t4, t5⟩ := hSw
    go_simp
    try simp [*]
    try (intro hh; exfalso; omega)
    try omega
  try simp only [Act.put, List.setIfInBounds_toArray, List.set_cons_zero, List.set_cons_succ, List.getElem_toArray, List.getElem_cons_succ, List.getElem_cons_zero]
  refine wpAnyH_take (i := 9) (oi := _) (v := Value.agg #[Value.int .i64 (x.an - x.ba + x.hLo), Value.int .i64 (x.an - x.ba + x.hHi)]) rfl (by kernel_rfl) (by kernel_rfl) (by kernel_rfl) (fun _ _ _ h => h) (Or.inl ⟨by rfl, fun w' hSw => ?_⟩) hHeld ?_
  · obtain ⟨t0, t1, t2, t3, t4, t5⟩ := hSw
    go_simp
    try simp [*]
    try (intro hh; exfalso; omega)
    try omega
  try simp only [Act.put, List.setIfInBounds_toArray, List.set_cons_zero, List.set_cons_succ, List.getElem_toArray, List.getElem_cons_succ, List.getElem_cons_zero]
  refine wpAnyH_ready (rs := [7]) (by kernel_rfl) (by simp) ?_
  refine AllReadyH.cons (o := _) rfl (fun K hK => ?_) AllReadyH.nil
  go_simp
  go_at_call 55
  refine Calls.mono (c55 _) ?_
  rintro e v1 ⟨rfl, rfl⟩
  have HV1 := Lib.hid (show Below A.heap.size A A.drew from (Below.refl A.heap.size A).drew)
  clear hHeld
  refine hK.out _ _ (KK.out _ HV1.out) (fun hHeld => ?_)
  clear hK K
  try simp only [Act.put, List.setIfInBounds_toArray, List.set_cons_zero, List.set_cons_succ, List.getElem_toArray, List.getElem_cons_succ, List.getElem_cons_zero]
  refine wpAnyH_ready (rs := [8]) (by kernel_rfl) (by simp) ?_
  refine AllReadyH.cons (o := _) rfl (fun K hK => ?_) AllReadyH.nil
  go_simp
  go_at_call 133
  refine Calls.mono (c133 _) ?_
  rintro e v2 ⟨rfl, hb⟩
  have HV2 := Lib.hid (show Below A.heap.size A v2 from Below.trans HV1.out (hb.mono HV1.out.size))
  clear hb
  clear hHeld
  refine hK.out _ _ (KK.out _ HV2.out) (fun hHeld => ?_)
  clear hK K
  try simp only [Act.put, List.setIfInBounds_toArray, List.set_cons_zero, List.set_cons_succ, List.getElem_toArray, List.getElem_cons_succ, List.getElem_cons_zero]
  refine wpAnyH_ready (rs := [10]) (by kernel_rfl) (by simp) ?_
  refine AllReadyH.cons (o := _) rfl (fun K hK => ?_) AllReadyH.nil
  go_simp
  go_at_call 108
  refine Calls.mono (c108 _) ?_
  rintro e v3 ⟨rfl, hb⟩
  have HV3 := Lib.hid (show Below A.heap.size A v3 from Below.trans HV2.out (hb.mono HV2.out.size))
  clear hb
  clear hHeld
  refine hK.out _ _ (KK.out _ HV3.out) (fun hHeld => ?_)
  clear hK K
  try simp only [Act.put, List.setIfInBounds_toArray, List.set_cons_zero, List.set_cons_succ, List.getElem_toArray, List.getElem_cons_succ, List.getElem_cons_zero]
  have hR2 := HR.out.keep HV3.out
  have r0 := hR2.c0
  have r1 := hR2.c1
  have rf0 := hR2.f0 0
  have rf1 := hR2.f0 1
  have HR2 := Lib.hid hR2
  clear hR2
  obtain ⟨V, hV⟩ : ∃ V, V = (v3.setCell ⟨w.heap.size + 1, 0, none⟩ (.int .i64 oL)).setCell ⟨w.heap.size + 1, 1, none⟩ (.int .i64 oH) := ⟨_, rfl⟩
  have q9 : V.cell? ⟨w.heap.size, 0, none⟩ = some (.int .i64 x.se) ∧ V.cell? ⟨w.heap.size, 3, none⟩ = some (.int .i64 x.ba) ∧ V.cell? ⟨w.heap.size + 2, 0, none⟩ = some (.int .i64 (x.he - x.se - x.fHi)) ∧ V.cell? ⟨w.heap.size + 2, 1, none⟩ = some (.int .i64 (x.he - x.se - x.fLo)) ∧ V.cell? ⟨w.heap.size + 3, 0, none⟩ = some (.int .i64 (x.an - x.ba + x.hLo)) ∧ V.cell? ⟨w.heap.size + 3, 1, none⟩ = some (.int .i64 (x.an - x.ba + x.hHi)) := by
    obtain ⟨q0, q1, q2, q3, q4, q5⟩ := KK.out _ HV3.out
    rw [hV]
    refine ⟨?_, ?_, ?_, ?_, ?_, ?_⟩ <;> simp [go_sem, q0, q1, q2, q3, q4, q5]
  refine wpAnyH_ready (rs := [11]) (by kernel_rfl) (by simp) ?_
  refine AllReadyH.cons (o := _) rfl (fun K hK => ?_) AllReadyH.nil
  go_simp
  try rw [← hV]
  clear hHeld
  refine hK.out _ _ q9 (fun hHeld => ?_)
  clear hK K
  try simp only [Act.put, List.setIfInBounds_toArray, List.set_cons_zero, List.set_cons_succ, List.getElem_toArray, List.getElem_cons_succ, List.getElem_cons_zero]
  refine wpAnyH_done (by kernel_rfl) ?_ _
  clear hHeld
  have hZ : Bx2 V (w.heap.size + 1) (.int .i64 oL) (.int .i64 oH) := by rw [hV]; exact HR2.out.set _ _
  have hBV : Below w.heap.size w V := by rw [hV]; exact ((HBA.out.trans (HV3.out.mono HBA.out.size)).setCell (p := ⟨w.heap.size + 1, 0, none⟩) (by show w.heap.size ≤ w.heap.size + 1; omega) _).setCell (p := ⟨w.heap.size + 1, 1, none⟩) (by show w.heap.size ≤ w.heap.size + 1; omega) _
  have s0 := hZ.c0
  have s1 := hZ.c1
  have HBV := Lib.hid hBV
  clear hV hZ hBV k0 k3 l0 l1 m0' m1' q9 r0 r1 rf0 rf1
  go_wp2_with fail
  refine bodyPost_ret (v := .agg #[.int .i64 oL, .int .i64 oH]) (by simp [results, Try.results78, go_sem, s0, s1]) rfl ⟨rfl, HBV.out⟩
end Go.Proofs.Ytcchmjbedppfnaa

/-
  Clock: the walk of ClockPairs.
-/
import Derived.Test.YtcchmjbedppfnaaRkJ
import Derived.Test.YtcchmjbedppfnaaLawCtr
namespace Go.Proofs.Ytcchmjbedppfnaa
open Go.RowKit Go.Shelf
set_option linter.unusedSimpArgs false
set_option maxRecDepth 100000 in
set_option maxHeartbeats 8000000 in
theorem law_pairs (p r i k limit : Int) (sv : Value) (xs : List Xc) (w : World) (hX : Xcs w.heap.size w sv xs) :
    Calls Try.prog 4 #[.agg #[.int .i64 p, .int .i64 r, sv], .int .i64 i, .int .i64 k, .int .i64 limit] w fun e w' => e = .returned (.bool true) ∧ Below w.heap.size w w' := by
  have c20 := Lib.hid (fun W (hb : Below w.heap.size w W) => long_any p r sv xs W (hX.at hb))
  have c21 := fun W => works_any W
  have c30 := Lib.hid (fun W (hb : Below w.heap.size w W) => contra30_any p r sv xs W (hX.at hb))
  have c31 := Lib.hid (fun W (hb : Below w.heap.size w W) => rcontra31_any p r sv xs W (hX.at hb))
  have c32 := Lib.hid (fun W (hb : Below w.heap.size w W) => due_any p r limit sv xs W (hX.at hb))
  have c33 := Lib.hid (fun W (hb : Below w.heap.size w W) => rdue_any p r limit sv xs W (hX.at hb))
  have c34 := Lib.hid (fun W (hb : Below w.heap.size w W) => cck_any p r i k sv xs W (hX.at hb))
  have c35 := Lib.hid (fun W (hb : Below w.heap.size w W) => rcck_any p r i k sv xs W (hX.at hb))
  have HC1 := Lib.hid (fun i k e i' k' e' (h : CtrP p r xs i k e) (g : CtrP p r xs i' k' e') => h.one g)
  have HD1 := Lib.hid (fun m e m' e' (h : DueP p r xs limit m e) (g : DueP p r xs limit m' e') => h.one g)
  obtain ⟨a, cap, hsv⟩ := hX.form
  subst hsv
  clear hX
  generalize lngB xs.length = lng at *
  generalize CtrP p r xs = CP at *
  generalize DueP p r xs limit = DP at *
  generalize cckE p r xs i k = ec at *
  generalize xs.length = len at *
  obtain ⟨A, hA⟩ : ∃ A, A = w.alloc (.cells #[.int .i64 p, .int .i64 r, .slice a len cap] 28) := ⟨_, rfl⟩
  have hzA : A.heap.size = w.heap.size + 1 := by rw [hA]; simp
  have HBA := Lib.hid (show Below w.heap.size w A by rw [hA]; exact (Below.refl _ _).alloc (Nat.le_refl _) _)
  have kc0 : A.cell? ⟨w.heap.size, 0, none⟩ = some (.int .i64 p) := by rw [hA]; simp [go_sem]
  have kc1 : A.cell? ⟨w.heap.size, 1, none⟩ = some (.int .i64 r) := by rw [hA]; simp [go_sem]
  have kc2 : A.cell? ⟨w.heap.size, 2, none⟩ = some (.slice a len cap) := by rw [hA]; simp [go_sem]
  have KK := Lib.hid (show ∀ W, Below A.heap.size A W → W.cell? ⟨w.heap.size, 0, none⟩ = some (.int .i64 p) ∧ W.cell? ⟨w.heap.size, 1, none⟩ = some (.int .i64 r) ∧ W.cell? ⟨w.heap.size, 2, none⟩ = some (.slice a len cap) from fun W h => ⟨(h.cell (p := ⟨w.heap.size, 0, none⟩) (by show w.heap.size < A.heap.size; omega)).trans kc0, (h.cell (p := ⟨w.heap.size, 1, none⟩) (by show w.heap.size < A.heap.size; omega)).trans kc1, (h.cell (p := ⟨w.heap.size, 2, none⟩) (by show w.heap.size < A.heap.size; omega)).trans kc2⟩)
  have HUP := Lib.hid (show ∀ W, Below A.heap.size A W → Below w.heap.size w W from fun W h => HBA.out.trans (h.mono HBA.out.size))
  have HLT := Lib.hid (show w.heap.size < A.heap.size by omega)
  clear kc0 kc1 kc2 hzA
  go_enter Try.func4, Try.ntmps4
  go_wp2_with fail
  try rw [← hA]
  clear hA
  refine (c20.out _ HBA.out).mono ?_
  rintro e w1 ⟨rfl, hb⟩
  have HB1 := Lib.hid hb
  clear hb
  obtain ⟨g0, g1, g2⟩ := KK.out _ HB1.out
  cases lng
  rotate_left
  · go_wp2_with fail
    refine (c21 _).mono ?_
    rintro e wz ⟨rfl, hbz⟩
    have HBZ := Lib.hid (show Below A.heap.size A wz from HB1.out.trans (hbz.mono HB1.out.size))
    clear hbz
    go_wp2_with fail
    go_ret
    exact ⟨rfl, HUP.out _ HBZ.out⟩
  go_wp2_with fail
  refine (c30.out _ (HUP.out _ HB1.out)).mono ?_
  rintro e w2 ⟨i1, k1, e1, rfl, hP, hb⟩
  have HB2 := Lib.hid (HB1.out.trans (hb.mono HB1.out.size))
  clear hb g0 g1 g2
  obtain ⟨g0, g1, g2⟩ := KK.out _ HB2.out
  have HP := Lib.hid hP
  clear hP
  go_wp2_with fail
  refine (c31.out _ (HUP.out _ HB2.out)).mono ?_
  rintro e w3 ⟨i2, k2, e2, rfl, hQ, hb⟩
  have HB3 := Lib.hid (HB2.out.trans (hb.mono HB2.out.size))
  clear hb g0 g1 g2
  obtain ⟨g0, g1, g2⟩ := KK.out _ HB3.out
  obtain ⟨rfl, rfl, rfl⟩ := HC1.out _ _ _ _ _ _ HP.out hQ
  clear hQ
  go_wp2_with fail
  refine (c32.out _ (HUP.out _ HB3.out)).mono ?_
  rintro e w4 ⟨m1, f1, rfl, hP2, hb⟩
  have HB4 := Lib.hid (HB3.out.trans (hb.mono HB3.out.size))
  clear hb g0 g1 g2
  obtain ⟨g0, g1, g2⟩ := KK.out _ HB4.out
  have HP2 := Lib.hid hP2
  clear hP2
  go_wp2_with fail
  refine (c33.out _ (HUP.out _ HB4.out)).mono ?_
  rintro e w5 ⟨m2, f2, rfl, hQ, hb⟩
  have HB5 := Lib.hid (HB4.out.trans (hb.mono HB4.out.size))
  clear hb g0 g1 g2
  obtain ⟨g0, g1, g2⟩ := KK.out _ HB5.out
  obtain ⟨rfl, rfl⟩ := HD1.out _ _ _ _ HP2.out hQ
  clear hQ
  go_wp2_with fail
  have hlV : w.heap.size < w5.heap.size := by have h1 := HB5.out.size; have h2 := HLT.out; omega
  have K2V := Lib.hid (show ∀ W, Below w5.heap.size w5 W → W.cell? ⟨w.heap.size, 0, none⟩ = some (.int .i64 p) ∧ W.cell? ⟨w.heap.size, 1, none⟩ = some (.int .i64 r) ∧ W.cell? ⟨w.heap.size, 2, none⟩ = some (.slice a len cap) from fun W h => KK.out _ (HB5.out.trans (h.mono HB5.out.size)))
  refine wp_region_held_drew (S := fun w' => w'.cell? ⟨w.heap.size, 0, none⟩ = some (.int .i64 p) ∧ w'.cell? ⟨w.heap.size, 1, none⟩ = some (.int .i64 r) ∧ w'.cell? ⟨w.heap.size, 2, none⟩ = some (.slice a len cap)) (by kernel_rfl) ⟨by simpa [go_sem] using g0, by simpa [go_sem] using g1, by simpa [go_sem] using g2⟩ (fun hHeld => ?_)
  refine wpAnyH_take (i := 0) (oi := _) (v := Value.int .i64 i1) rfl (by kernel_rfl) (by kernel_rfl) (by kernel_rfl) (fun _ _ _ h => h) (Or.inl ⟨by rfl, fun w' hSw => ?_⟩) hHeld ?_
  · obtain ⟨t0, t1, t2⟩ := hSw
    go_simp
    try simp [*]
    try (intro hh; exfalso; omega)
    try omega
  try simp only [Act.put, List.setIfInBounds_toArray, List.set_cons_zero, List.set_cons_succ, List.getElem_toArray, List.getElem_cons_succ, List.getElem_cons_zero]
  refine wpAnyH_take (i := 1) (oi := _) (v := Value.int .i64 i1) rfl (by kernel_rfl) (by kernel_rfl) (by kernel_rfl) (fun _ _ _ h => h) (Or.inl ⟨by rfl, fun w' hSw => ?_⟩) hHeld ?_
  · obtain ⟨t0, t1, t2⟩ := hSw
    go_simp
    try simp [*]
    try (intro hh; exfalso; omega)
    try omega
  try simp only [Act.put, List.setIfInBounds_toArray, List.set_cons_zero, List.set_cons_succ, List.getElem_toArray, List.getElem_cons_succ, List.getElem_cons_zero]
  refine wpAnyH_take (i := 2) (oi := _) (v := Value.bool true) rfl (by kernel_rfl) (by kernel_rfl) (by kernel_rfl) (fun _ _ _ h => h) (Or.inl ⟨by rfl, fun w' hSw => ?_⟩) hHeld ?_
  · obtain ⟨t0, t1, t2⟩ := hSw
    go_simp
    try simp [*]
    try (intro hh; exfalso; omega)
    try omega
  try simp only [Act.put, List.setIfInBounds_toArray, List.set_cons_zero, List.set_cons_succ, List.getElem_toArray, List.getElem_cons_succ, List.getElem_cons_zero]
  refine wpAnyH_take (i := 3) (oi := _) (v := Value.bool true) rfl (by kernel_rfl) (by kernel_rfl) (by kernel_rfl) (fun _ _ _ h => h) (Or.inl ⟨by rfl, fun w' hSw => ?_⟩) hHeld ?_
  · obtain ⟨t0, t1, t2⟩ := hSw
    go_simp
    try simp [*]
    try (intro hh; exfalso; omega)
    try omega
  try simp only [Act.put, List.setIfInBounds_toArray, List.set_cons_zero, List.set_cons_succ, List.getElem_toArray, List.getElem_cons_succ, List.getElem_cons_zero]
  refine wpAnyH_take (i := 4) (oi := _) (v := Value.int .i64 k1) rfl (by kernel_rfl) (by kernel_rfl) (by kernel_rfl) (fun _ _ _ h => h) (Or.inl ⟨by rfl, fun w' hSw => ?_⟩) hHeld ?_
  · obtain ⟨t0, t1, t2⟩ := hSw
    go_simp
    try simp [*]
    try (intro hh; exfalso; omega)
    try omega
  try simp only [Act.put, List.setIfInBounds_toArray, List.set_cons_zero, List.set_cons_succ, List.getElem_toArray, List.getElem_cons_succ, List.getElem_cons_zero]
  refine wpAnyH_take (i := 5) (oi := _) (v := Value.int .i64 k1) rfl (by kernel_rfl) (by kernel_rfl) (by kernel_rfl) (fun _ _ _ h => h) (Or.inl ⟨by rfl, fun w' hSw => ?_⟩) hHeld ?_
  · obtain ⟨t0, t1, t2⟩ := hSw
    go_simp
    try simp [*]
    try (intro hh; exfalso; omega)
    try omega
  try simp only [Act.put, List.setIfInBounds_toArray, List.set_cons_zero, List.set_cons_succ, List.getElem_toArray, List.getElem_cons_succ, List.getElem_cons_zero]
  refine wpAnyH_take (i := 6) (oi := _) (v := Value.bool true) rfl (by kernel_rfl) (by kernel_rfl) (by kernel_rfl) (fun _ _ _ h => h) (Or.inl ⟨by rfl, fun w' hSw => ?_⟩) hHeld ?_
  · obtain ⟨t0, t1, t2⟩ := hSw
    go_simp
    try simp [*]
    try (intro hh; exfalso; omega)
    try omega
  try simp only [Act.put, List.setIfInBounds_toArray, List.set_cons_zero, List.set_cons_succ, List.getElem_toArray, List.getElem_cons_succ, List.getElem_cons_zero]
  refine wpAnyH_take (i := 7) (oi := _) (v := Value.bool true) rfl (by kernel_rfl) (by kernel_rfl) (by kernel_rfl) (fun _ _ _ h => h) (Or.inl ⟨by rfl, fun w' hSw => ?_⟩) hHeld ?_
  · obtain ⟨t0, t1, t2⟩ := hSw
    go_simp
    try simp [*]
    try (intro hh; exfalso; omega)
    try omega
  try simp only [Act.put, List.setIfInBounds_toArray, List.set_cons_zero, List.set_cons_succ, List.getElem_toArray, List.getElem_cons_succ, List.getElem_cons_zero]
  refine wpAnyH_take (i := 8) (oi := _) (v := Value.bool true) rfl (by kernel_rfl) (by kernel_rfl) (by kernel_rfl) (fun _ _ _ h => h) (Or.inl ⟨by rfl, fun w' hSw => ?_⟩) hHeld ?_
  · obtain ⟨t0, t1, t2⟩ := hSw
    go_simp
    try simp [*]
    try (intro hh; exfalso; omega)
    try omega
  try simp only [Act.put, List.setIfInBounds_toArray, List.set_cons_zero, List.set_cons_succ, List.getElem_toArray, List.getElem_cons_succ, List.getElem_cons_zero]
  refine wpAnyH_take (i := 9) (oi := _) (v := Value.int .i64 e1) rfl (by kernel_rfl) (by kernel_rfl) (by kernel_rfl) (fun _ _ _ h => h) (Or.inl ⟨by rfl, fun w' hSw => ?_⟩) hHeld ?_
  · obtain ⟨t0, t1, t2⟩ := hSw
    go_simp
    try simp [*]
    try (intro hh; exfalso; omega)
    try omega
  try simp only [Act.put, List.setIfInBounds_toArray, List.set_cons_zero, List.set_cons_succ, List.getElem_toArray, List.getElem_cons_succ, List.getElem_cons_zero]
  refine wpAnyH_take (i := 10) (oi := _) (v := Value.int .i64 e1) rfl (by kernel_rfl) (by kernel_rfl) (by kernel_rfl) (fun _ _ _ h => h) (Or.inl ⟨by rfl, fun w' hSw => ?_⟩) hHeld ?_
  · obtain ⟨t0, t1, t2⟩ := hSw
    go_simp
    try simp [*]
    try (intro hh; exfalso; omega)
    try omega
  try simp only [Act.put, List.setIfInBounds_toArray, List.set_cons_zero, List.set_cons_succ, List.getElem_toArray, List.getElem_cons_succ, List.getElem_cons_zero]
  refine wpAnyH_take (i := 11) (oi := _) (v := Value.bool true) rfl (by kernel_rfl) (by kernel_rfl) (by kernel_rfl) (fun _ _ _ h => h) (Or.inl ⟨by rfl, fun w' hSw => ?_⟩) hHeld ?_
  · obtain ⟨t0, t1, t2⟩ := hSw
    go_simp
    try simp [*]
    try (intro hh; exfalso; omega)
    try omega
  try simp only [Act.put, List.setIfInBounds_toArray, List.set_cons_zero, List.set_cons_succ, List.getElem_toArray, List.getElem_cons_succ, List.getElem_cons_zero]
  refine wpAnyH_take (i := 12) (oi := _) (v := Value.bool true) rfl (by kernel_rfl) (by kernel_rfl) (by kernel_rfl) (fun _ _ _ h => h) (Or.inl ⟨by rfl, fun w' hSw => ?_⟩) hHeld ?_
  · obtain ⟨t0, t1, t2⟩ := hSw
    go_simp
    try simp [*]
    try (intro hh; exfalso; omega)
    try omega
  try simp only [Act.put, List.setIfInBounds_toArray, List.set_cons_zero, List.set_cons_succ, List.getElem_toArray, List.getElem_cons_succ, List.getElem_cons_zero]
  refine wpAnyH_take (i := 13) (oi := _) (v := Value.bool true) rfl (by kernel_rfl) (by kernel_rfl) (by kernel_rfl) (fun _ _ _ h => h) (Or.inl ⟨by rfl, fun w' hSw => ?_⟩) hHeld ?_
  · obtain ⟨t0, t1, t2⟩ := hSw
    go_simp
    try simp [*]
    try (intro hh; exfalso; omega)
    try omega
  try simp only [Act.put, List.setIfInBounds_toArray, List.set_cons_zero, List.set_cons_succ, List.getElem_toArray, List.getElem_cons_succ, List.getElem_cons_zero]
  refine wpAnyH_take (i := 14) (oi := _) (v := Value.int .i64 m1) rfl (by kernel_rfl) (by kernel_rfl) (by kernel_rfl) (fun _ _ _ h => h) (Or.inl ⟨by rfl, fun w' hSw => ?_⟩) hHeld ?_
  · obtain ⟨t0, t1, t2⟩ := hSw
    go_simp
    try simp [*]
    try (intro hh; exfalso; omega)
    try omega
  try simp only [Act.put, List.setIfInBounds_toArray, List.set_cons_zero, List.set_cons_succ, List.getElem_toArray, List.getElem_cons_succ, List.getElem_cons_zero]
  refine wpAnyH_take (i := 15) (oi := _) (v := Value.int .i64 m1) rfl (by kernel_rfl) (by kernel_rfl) (by kernel_rfl) (fun _ _ _ h => h) (Or.inl ⟨by rfl, fun w' hSw => ?_⟩) hHeld ?_
  · obtain ⟨t0, t1, t2⟩ := hSw
    go_simp
    try simp [*]
    try (intro hh; exfalso; omega)
    try omega
  try simp only [Act.put, List.setIfInBounds_toArray, List.set_cons_zero, List.set_cons_succ, List.getElem_toArray, List.getElem_cons_succ, List.getElem_cons_zero]
  refine wpAnyH_take (i := 16) (oi := _) (v := Value.bool true) rfl (by kernel_rfl) (by kernel_rfl) (by kernel_rfl) (fun _ _ _ h => h) (Or.inl ⟨by rfl, fun w' hSw => ?_⟩) hHeld ?_
  · obtain ⟨t0, t1, t2⟩ := hSw
    go_simp
    try simp [*]
    try (intro hh; exfalso; omega)
    try omega
  try simp only [Act.put, List.setIfInBounds_toArray, List.set_cons_zero, List.set_cons_succ, List.getElem_toArray, List.getElem_cons_succ, List.getElem_cons_zero]
  refine wpAnyH_take (i := 17) (oi := _) (v := Value.bool true) rfl (by kernel_rfl) (by kernel_rfl) (by kernel_rfl) (fun _ _ _ h => h) (Or.inl ⟨by rfl, fun w' hSw => ?_⟩) hHeld ?_
  · obtain ⟨t0, t1, t2⟩ := hSw
    go_simp
    try simp [*]
    try (intro hh; exfalso; omega)
    try omega
  try simp only [Act.put, List.setIfInBounds_toArray, List.set_cons_zero, List.set_cons_succ, List.getElem_toArray, List.getElem_cons_succ, List.getElem_cons_zero]
  refine wpAnyH_take (i := 18) (oi := _) (v := Value.bool true) rfl (by kernel_rfl) (by kernel_rfl) (by kernel_rfl) (fun _ _ _ h => h) (Or.inl ⟨by rfl, fun w' hSw => ?_⟩) hHeld ?_
  · obtain ⟨t0, t1, t2⟩ := hSw
    go_simp
    try simp [*]
    try (intro hh; exfalso; omega)
    try omega
  try simp only [Act.put, List.setIfInBounds_toArray, List.set_cons_zero, List.set_cons_succ, List.getElem_toArray, List.getElem_cons_succ, List.getElem_cons_zero]
  refine wpAnyH_take (i := 19) (oi := _) (v := Value.int .i64 f1) rfl (by kernel_rfl) (by kernel_rfl) (by kernel_rfl) (fun _ _ _ h => h) (Or.inl ⟨by rfl, fun w' hSw => ?_⟩) hHeld ?_
  · obtain ⟨t0, t1, t2⟩ := hSw
    go_simp
    try simp [*]
    try (intro hh; exfalso; omega)
    try omega
  try simp only [Act.put, List.setIfInBounds_toArray, List.set_cons_zero, List.set_cons_succ, List.getElem_toArray, List.getElem_cons_succ, List.getElem_cons_zero]
  refine wpAnyH_take (i := 20) (oi := _) (v := Value.int .i64 f1) rfl (by kernel_rfl) (by kernel_rfl) (by kernel_rfl) (fun _ _ _ h => h) (Or.inl ⟨by rfl, fun w' hSw => ?_⟩) hHeld ?_
  · obtain ⟨t0, t1, t2⟩ := hSw
    go_simp
    try simp [*]
    try (intro hh; exfalso; omega)
    try omega
  try simp only [Act.put, List.setIfInBounds_toArray, List.set_cons_zero, List.set_cons_succ, List.getElem_toArray, List.getElem_cons_succ, List.getElem_cons_zero]
  refine wpAnyH_take (i := 21) (oi := _) (v := Value.bool true) rfl (by kernel_rfl) (by kernel_rfl) (by kernel_rfl) (fun _ _ _ h => h) (Or.inl ⟨by rfl, fun w' hSw => ?_⟩) hHeld ?_
  · obtain ⟨t0, t1, t2⟩ := hSw
    go_simp
    try simp [*]
    try (intro hh; exfalso; omega)
    try omega
  try simp only [Act.put, List.setIfInBounds_toArray, List.set_cons_zero, List.set_cons_succ, List.getElem_toArray, List.getElem_cons_succ, List.getElem_cons_zero]
  refine wpAnyH_take (i := 22) (oi := _) (v := Value.bool true) rfl (by kernel_rfl) (by kernel_rfl) (by kernel_rfl) (fun _ _ _ h => h) (Or.inl ⟨by rfl, fun w' hSw => ?_⟩) hHeld ?_
  · obtain ⟨t0, t1, t2⟩ := hSw
    go_simp
    try simp [*]
    try (intro hh; exfalso; omega)
    try omega
  try simp only [Act.put, List.setIfInBounds_toArray, List.set_cons_zero, List.set_cons_succ, List.getElem_toArray, List.getElem_cons_succ, List.getElem_cons_zero]
  refine wpAnyH_take (i := 23) (oi := _) (v := Value.bool true) rfl (by kernel_rfl) (by kernel_rfl) (by kernel_rfl) (fun _ _ _ h => h) (Or.inl ⟨by rfl, fun w' hSw => ?_⟩) hHeld ?_
  · obtain ⟨t0, t1, t2⟩ := hSw
    go_simp
    try simp [*]
    try (intro hh; exfalso; omega)
    try omega
  try simp only [Act.put, List.setIfInBounds_toArray, List.set_cons_zero, List.set_cons_succ, List.getElem_toArray, List.getElem_cons_succ, List.getElem_cons_zero]
  refine wpAnyH_take (i := 24) (oi := _) (v := Value.agg #[Value.int .i64 p, Value.int .i64 r, Value.slice a len cap]) rfl (by kernel_rfl) (by kernel_rfl) (by kernel_rfl) (fun _ _ _ h => h) (Or.inl ⟨by rfl, fun w' hSw => ?_⟩) hHeld ?_
  · obtain ⟨t0, t1, t2⟩ := hSw
    go_simp
    try simp [*]
    try (intro hh; exfalso; omega)
    try omega
  try simp only [Act.put, List.setIfInBounds_toArray, List.set_cons_zero, List.set_cons_succ, List.getElem_toArray, List.getElem_cons_succ, List.getElem_cons_zero]
  refine wpAnyH_take (i := 25) (oi := _) (v := Value.int .i64 i) rfl (by kernel_rfl) (by kernel_rfl) (by kernel_rfl) (fun _ _ _ h => h) (Or.inl ⟨by rfl, fun w' hSw => ?_⟩) hHeld ?_
  · obtain ⟨t0, t1, t2⟩ := hSw
    go_simp
    try simp [*]
    try (intro hh; exfalso; omega)
    try omega
  try simp only [Act.put, List.setIfInBounds_toArray, List.set_cons_zero, List.set_cons_succ, List.getElem_toArray, List.getElem_cons_succ, List.getElem_cons_zero]
  refine wpAnyH_take (i := 26) (oi := _) (v := Value.int .i64 k) rfl (by kernel_rfl) (by kernel_rfl) (by kernel_rfl) (fun _ _ _ h => h) (Or.inl ⟨by rfl, fun w' hSw => ?_⟩) hHeld ?_
  · obtain ⟨t0, t1, t2⟩ := hSw
    go_simp
    try simp [*]
    try (intro hh; exfalso; omega)
    try omega
  try simp only [Act.put, List.setIfInBounds_toArray, List.set_cons_zero, List.set_cons_succ, List.getElem_toArray, List.getElem_cons_succ, List.getElem_cons_zero]
  refine wpAnyH_take (i := 28) (oi := _) (v := Value.agg #[Value.int .i64 p, Value.int .i64 r, Value.slice a len cap]) rfl (by kernel_rfl) (by kernel_rfl) (by kernel_rfl) (fun _ _ _ h => h) (Or.inl ⟨by rfl, fun w' hSw => ?_⟩) hHeld ?_
  · obtain ⟨t0, t1, t2⟩ := hSw
    go_simp
    try simp [*]
    try (intro hh; exfalso; omega)
    try omega
  try simp only [Act.put, List.setIfInBounds_toArray, List.set_cons_zero, List.set_cons_succ, List.getElem_toArray, List.getElem_cons_succ, List.getElem_cons_zero]
  refine wpAnyH_take (i := 29) (oi := _) (v := Value.int .i64 i) rfl (by kernel_rfl) (by kernel_rfl) (by kernel_rfl) (fun _ _ _ h => h) (Or.inl ⟨by rfl, fun w' hSw => ?_⟩) hHeld ?_
  · obtain ⟨t0, t1, t2⟩ := hSw
    go_simp
    try simp [*]
    try (intro hh; exfalso; omega)
    try omega
  try simp only [Act.put, List.setIfInBounds_toArray, List.set_cons_zero, List.set_cons_succ, List.getElem_toArray, List.getElem_cons_succ, List.getElem_cons_zero]
  refine wpAnyH_take (i := 30) (oi := _) (v := Value.int .i64 k) rfl (by kernel_rfl) (by kernel_rfl) (by kernel_rfl) (fun _ _ _ h => h) (Or.inl ⟨by rfl, fun w' hSw => ?_⟩) hHeld ?_
  · obtain ⟨t0, t1, t2⟩ := hSw
    go_simp
    try simp [*]
    try (intro hh; exfalso; omega)
    try omega
  try simp only [Act.put, List.setIfInBounds_toArray, List.set_cons_zero, List.set_cons_succ, List.getElem_toArray, List.getElem_cons_succ, List.getElem_cons_zero]
  refine wpAnyH_ready (rs := [27]) (by kernel_rfl) (by simp) ?_
  refine AllReadyH.cons (o := _) rfl (fun K hK => ?_) AllReadyH.nil
  go_simp
  go_at_call 34
  refine Calls.mono (c34.out _ (HUP.out _ (HB5.out.trans (((Below.refl w5.heap.size w5).drew).mono HB5.out.size)))) ?_
  rintro e v1 ⟨rfl, hb⟩
  have HV1 := Lib.hid (show Below w5.heap.size w5 v1 from Below.trans ((Below.refl w5.heap.size w5).drew) hb)
  clear hb
  clear hHeld
  refine hK.out _ _ (K2V.out _ HV1.out) (fun hHeld => ?_)
  clear hK K
  try simp only [Act.put, List.setIfInBounds_toArray, List.set_cons_zero, List.set_cons_succ, List.getElem_toArray, List.getElem_cons_succ, List.getElem_cons_zero]
  refine wpAnyH_ready (rs := [31]) (by kernel_rfl) (by simp) ?_
  refine AllReadyH.cons (o := _) rfl (fun K hK => ?_) AllReadyH.nil
  go_simp
  go_at_call 35
  refine Calls.mono (c35.out _ (HUP.out _ (HB5.out.trans (HV1.out.mono HB5.out.size)))) ?_
  rintro e v2 ⟨rfl, hb⟩
  have HV2 := Lib.hid (show Below w5.heap.size w5 v2 from HV1.out.trans (hb.mono HV1.out.size))
  clear hb
  clear hHeld
  refine hK.out _ _ (K2V.out _ HV2.out) (fun hHeld => ?_)
  clear hK K
  try simp only [Act.put, List.setIfInBounds_toArray, List.set_cons_zero, List.set_cons_succ, List.getElem_toArray, List.getElem_cons_succ, List.getElem_cons_zero]
  refine wpAnyH_take (i := 32) (oi := _) (v := Value.bool true) rfl (by kernel_rfl) (by kernel_rfl) (by kernel_rfl) (fun _ _ _ h => h) (Or.inl ⟨by rfl, fun w' hSw => ?_⟩) hHeld ?_
  · obtain ⟨t0, t1, t2⟩ := hSw
    go_simp
    try simp [*]
    try (intro hh; exfalso; omega)
    try omega
  try simp only [Act.put, List.setIfInBounds_toArray, List.set_cons_zero, List.set_cons_succ, List.getElem_toArray, List.getElem_cons_succ, List.getElem_cons_zero]
  refine wpAnyH_take (i := 33) (oi := _) (v := Value.bool true) rfl (by kernel_rfl) (by kernel_rfl) (by kernel_rfl) (fun _ _ _ h => h) (Or.inl ⟨by rfl, fun w' hSw => ?_⟩) hHeld ?_
  · obtain ⟨t0, t1, t2⟩ := hSw
    go_simp
    try simp [*]
    try (intro hh; exfalso; omega)
    try omega
  try simp only [Act.put, List.setIfInBounds_toArray, List.set_cons_zero, List.set_cons_succ, List.getElem_toArray, List.getElem_cons_succ, List.getElem_cons_zero]
  refine wpAnyH_take (i := 34) (oi := _) (v := Value.bool true) rfl (by kernel_rfl) (by kernel_rfl) (by kernel_rfl) (fun _ _ _ h => h) (Or.inl ⟨by rfl, fun w' hSw => ?_⟩) hHeld ?_
  · obtain ⟨t0, t1, t2⟩ := hSw
    go_simp
    try simp [*]
    try (intro hh; exfalso; omega)
    try omega
  try simp only [Act.put, List.setIfInBounds_toArray, List.set_cons_zero, List.set_cons_succ, List.getElem_toArray, List.getElem_cons_succ, List.getElem_cons_zero]
  refine wpAnyH_ready (rs := [35]) (by kernel_rfl) (by simp) ?_
  refine AllReadyH.cons (o := _) rfl (fun K hK => ?_) AllReadyH.nil
  go_simp
  go_at_call 21
  refine Calls.mono (c21 _) ?_
  rintro e v3 ⟨rfl, hb⟩
  have HV3 := Lib.hid (show Below w5.heap.size w5 v3 from HV2.out.trans (hb.mono HV2.out.size))
  clear hb
  clear hHeld
  refine hK.out _ _ (K2V.out _ HV3.out) (fun hHeld => ?_)
  clear hK K
  try simp only [Act.put, List.setIfInBounds_toArray, List.set_cons_zero, List.set_cons_succ, List.getElem_toArray, List.getElem_cons_succ, List.getElem_cons_zero]
  refine wpAnyH_take (i := 36) (oi := _) (v := Value.bool true) rfl (by kernel_rfl) (by kernel_rfl) (by kernel_rfl) (fun _ _ _ h => h) (Or.inl ⟨by rfl, fun w' hSw => ?_⟩) hHeld ?_
  · obtain ⟨t0, t1, t2⟩ := hSw
    go_simp
    try simp [*]
    try (intro hh; exfalso; omega)
    try omega
  try simp only [Act.put, List.setIfInBounds_toArray, List.set_cons_zero, List.set_cons_succ, List.getElem_toArray, List.getElem_cons_succ, List.getElem_cons_zero]
  refine wpAnyH_take (i := 37) (oi := _) (v := Value.bool true) rfl (by kernel_rfl) (by kernel_rfl) (by kernel_rfl) (fun _ _ _ h => h) (Or.inl ⟨by rfl, fun w' hSw => ?_⟩) hHeld ?_
  · obtain ⟨t0, t1, t2⟩ := hSw
    go_simp
    try simp [*]
    try (intro hh; exfalso; omega)
    try omega
  try simp only [Act.put, List.setIfInBounds_toArray, List.set_cons_zero, List.set_cons_succ, List.getElem_toArray, List.getElem_cons_succ, List.getElem_cons_zero]
  refine wpAnyH_done (by kernel_rfl) ?_ _
  clear hHeld
  go_wp2_with fail
  go_ret
  exact ⟨rfl, HUP.out _ (HB5.out.trans (HV3.out.mono HB5.out.size))⟩
end Go.Proofs.Ytcchmjbedppfnaa

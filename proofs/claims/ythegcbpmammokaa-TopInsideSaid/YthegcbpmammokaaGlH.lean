/-
  Glider in this seat: Fetched, Visited.
-/
import Derived.Test.YthegcbpmammokaaGlG
import Derived.Deep.RegionHeld3
namespace Go.Proofs.Ythegcbpmammokaa
open Go.RowKit
set_option linter.unusedSimpArgs false
set_option maxHeartbeats 4000000
set_option maxRecDepth 100000
/-- four errors -/
def four (a b c d : Int) (k : Nat) : Int := if k = 0 then a else if k = 1 then b else if k = 2 then c else d
theorem four_zero {a b c d : Int} (h : fstE (four a b c d) 4 = 0) : a = 0 ∧ b = 0 ∧ c = 0 ∧ d = 0 :=
  ⟨fstE_zero h 0 (by decide), fstE_zero h 1 (by decide), fstE_zero h 2 (by decide), fstE_zero h 3 (by decide)⟩
def tmE (t : Int) : Int := if decide (0 ≤ t ∧ t ≤ 1073741824) = true then 0 else 3
theorem tmE_get {t : Int} (h : tmE t = 0) : 0 ≤ t ∧ t ≤ 1073741824 := by
  unfold tmE at h
  by_cases q : decide (0 ≤ t ∧ t ≤ 1073741824) = true
  · exact of_decide_eq_true q
  · rw [if_neg q] at h; exact absurd h (by decide)
theorem vehE_get {s d u0 u1 t0 t1 r : Int} (h : vehE s d u0 u1 t0 t1 r = 0) : (0 ≤ s ∧ s ≤ 5000) ∧ 1 ≤ d ∧ d ≤ 131072 := by
  unfold vehE at h
  by_cases q : vehB s d u0 u1 t0 t1 r = true
  · unfold vehB at q
    simp only [Bool.and_eq_true, decide_eq_true_eq] at q
    exact ⟨q.1, q.2.1⟩
  · rw [if_neg q] at h; exact absurd h (by decide)
def fedE (vs vd v0 v1 v2 v3 vr t pf pu : Int) (y : Q4) (zs : List Q4) : Int := fstE (four (vehE vs vd v0 v1 v2 v3 vr) (tmE t) (boxE zs) (pkE y.a y.b y.c y.d pf pu)) 4
def fedV (vs vd v0 v1 v2 v3 vr t pf pu : Int) (y : Q4) (zs : List Q4) : Int := if fedE vs vd v0 v1 v2 v3 vr t pf pu y zs = 0 then fetV t vd pf pu zs y else 0
theorem fetched11_any (vs vd v0 v1 v2 v3 vr t pf pu : Int) (y : Q4) (sv : Value) (zs : List Q4) (w : World) (hZ : Q4s w.heap.size w sv zs) :
    Calls Try.prog 11 #[.agg #[.int .i64 vs, .int .i64 vd, .int .i64 v0, .int .i64 v1, .int .i64 v2, .int .i64 v3, .int .i64 vr], .int .i64 t, sv, .agg #[.int .i64 y.a, .int .i64 y.b, .int .i64 y.c, .int .i64 y.d, .int .i64 pf, .int .i64 pu]] w fun e w' => e = .returned (.tuple #[.int .i64 (fedV vs vd v0 v1 v2 v3 vr t pf pu y zs), .int .i64 (fedE vs vd v0 v1 v2 v3 vr t pf pu y zs)]) ∧ Below w.heap.size w w' := by
  have c1 := fun W => vehicle_any vs vd v0 v1 v2 v3 vr W
  have c2 : ∀ W, Calls Try.prog 33 #[.int .i64 t] W fun e w' => e = .returned (.int .i64 (tmE t)) ∧ w' = W := fun W => checkTime_any t W
  have c3 := Lib.hid (fun W (hb : Below w.heap.size w W) => checkBoxes_any sv zs W (hZ.at hb))
  have c4 := fun W => pickup_any y.a y.b y.c y.d pf pu W
  have c6 := Lib.hid (fun (h : fedE vs vd v0 v1 v2 v3 vr t pf pu y zs = 0) W (hb : Below w.heap.size w W) => fetched_any vs vd v0 v1 v2 v3 vr t pf pu y sv zs (tmE_get (four_zero h).2.1) (vehE_get (four_zero h).1).2 (boxE_get (four_zero h).2.2.1).1 W (hZ.at hb))
  have HFV := Lib.hid (show fedV vs vd v0 v1 v2 v3 vr t pf pu y zs = if fedE vs vd v0 v1 v2 v3 vr t pf pu y zs = 0 then fetV t vd pf pu zs y else 0 from rfl)
  have HFE := Lib.hid (show fedE vs vd v0 v1 v2 v3 vr t pf pu y zs = fstE (four (vehE vs vd v0 v1 v2 v3 vr) (tmE t) (boxE zs) (pkE y.a y.b y.c y.d pf pu)) 4 from rfl)
  have c5 := Lib.hid (fun b W hc => first_any b 4 4 (four (vehE vs vd v0 v1 v2 v3 vr) (tmE t) (boxE zs) (pkE y.a y.b y.c y.d pf pu)) (by decide) W hc)
  rw [← HFE.out] at c5
  obtain ⟨a, cap, rfl⟩ := hZ.form
  clear hZ HFE
  generalize fedV vs vd v0 v1 v2 v3 vr t pf pu y zs = fv at *
  generalize fedE vs vd v0 v1 v2 v3 vr t pf pu y zs = fe at *
  generalize vehE vs vd v0 v1 v2 v3 vr = e1 at *
  generalize tmE t = e2 at *
  generalize boxE zs = e3 at *
  generalize pkE y.a y.b y.c y.d pf pu = e4 at *
  generalize fetV t vd pf pu zs y = xv at *
  generalize y.a = ya at *
  generalize y.b = yb at *
  generalize y.c = yc at *
  generalize y.d = yd at *
  generalize zs.length = len at *
  obtain ⟨A, hA⟩ : ∃ A, A = (w.alloc (.cells #[.int .i64 vs, .int .i64 vd, .int .i64 v0, .int .i64 v1, .int .i64 v2, .int .i64 v3, .int .i64 vr] 41)).alloc (.cells #[.int .i64 ya, .int .i64 yb, .int .i64 yc, .int .i64 yd, .int .i64 pf, .int .i64 pu] 44) := ⟨_, rfl⟩
  obtain ⟨k, j, hzA, hBA⟩ := boxed_two w #[.int .i64 vs, .int .i64 vd, .int .i64 v0, .int .i64 v1, .int .i64 v2, .int .i64 v3, .int .i64 vr] #[.int .i64 ya, .int .i64 yb, .int .i64 yc, .int .i64 yd, .int .i64 pf, .int .i64 pu] 41 44
  rw [← hA] at k j hzA hBA
  have HBA := Lib.hid hBA
  have HBW := Lib.hid (show ∀ W, Below A.heap.size A W → Below w.heap.size w W from fun W h => hBA.trans (h.mono hBA.size))
  have KK := Lib.hid (show ∀ W, Below A.heap.size A W → W.cell? ⟨w.heap.size, 0, none⟩ = some (.int .i64 vs) ∧ W.cell? ⟨w.heap.size, 1, none⟩ = some (.int .i64 vd) ∧ W.cell? ⟨w.heap.size, 2, none⟩ = some (.int .i64 v0) ∧ W.cell? ⟨w.heap.size, 3, none⟩ = some (.int .i64 v1) ∧ W.cell? ⟨w.heap.size, 4, none⟩ = some (.int .i64 v2) ∧ W.cell? ⟨w.heap.size, 5, none⟩ = some (.int .i64 v3) ∧ W.cell? ⟨w.heap.size, 6, none⟩ = some (.int .i64 vr) ∧ W.cell? ⟨w.heap.size + 1, 0, none⟩ = some (.int .i64 ya) ∧ W.cell? ⟨w.heap.size + 1, 1, none⟩ = some (.int .i64 yb) ∧ W.cell? ⟨w.heap.size + 1, 2, none⟩ = some (.int .i64 yc) ∧ W.cell? ⟨w.heap.size + 1, 3, none⟩ = some (.int .i64 yd) ∧ W.cell? ⟨w.heap.size + 1, 4, none⟩ = some (.int .i64 pf) ∧ W.cell? ⟨w.heap.size + 1, 5, none⟩ = some (.int .i64 pu) from fun W h => ⟨(h.cell (p := ⟨w.heap.size, 0, none⟩) (by show w.heap.size < A.heap.size; omega)).trans (k 0), (h.cell (p := ⟨w.heap.size, 1, none⟩) (by show w.heap.size < A.heap.size; omega)).trans (k 1), (h.cell (p := ⟨w.heap.size, 2, none⟩) (by show w.heap.size < A.heap.size; omega)).trans (k 2), (h.cell (p := ⟨w.heap.size, 3, none⟩) (by show w.heap.size < A.heap.size; omega)).trans (k 3), (h.cell (p := ⟨w.heap.size, 4, none⟩) (by show w.heap.size < A.heap.size; omega)).trans (k 4), (h.cell (p := ⟨w.heap.size, 5, none⟩) (by show w.heap.size < A.heap.size; omega)).trans (k 5), (h.cell (p := ⟨w.heap.size, 6, none⟩) (by show w.heap.size < A.heap.size; omega)).trans (k 6), (h.cell (p := ⟨w.heap.size + 1, 0, none⟩) (by show w.heap.size + 1 < A.heap.size; omega)).trans (j 0), (h.cell (p := ⟨w.heap.size + 1, 1, none⟩) (by show w.heap.size + 1 < A.heap.size; omega)).trans (j 1), (h.cell (p := ⟨w.heap.size + 1, 2, none⟩) (by show w.heap.size + 1 < A.heap.size; omega)).trans (j 2), (h.cell (p := ⟨w.heap.size + 1, 3, none⟩) (by show w.heap.size + 1 < A.heap.size; omega)).trans (j 3), (h.cell (p := ⟨w.heap.size + 1, 4, none⟩) (by show w.heap.size + 1 < A.heap.size; omega)).trans (j 4), (h.cell (p := ⟨w.heap.size + 1, 5, none⟩) (by show w.heap.size + 1 < A.heap.size; omega)).trans (j 5)⟩)
  clear k j hzA hBA
  obtain ⟨k0, k1, k2, k3, k4, k5, k6, j0, j1, j2, j3, j4, j5⟩ := KK.out _ (Below.refl _ _)
  go_enter Try.func11, Try.ntmps11
  go_upto_region 1 with fail
  rw [← hA]
  clear hA
  refine wp_region_held_drew (S := fun w' => w'.cell? ⟨w.heap.size, 0, none⟩ = some (.int .i64 vs) ∧ w'.cell? ⟨w.heap.size, 1, none⟩ = some (.int .i64 vd) ∧ w'.cell? ⟨w.heap.size, 2, none⟩ = some (.int .i64 v0) ∧ w'.cell? ⟨w.heap.size, 3, none⟩ = some (.int .i64 v1) ∧ w'.cell? ⟨w.heap.size, 4, none⟩ = some (.int .i64 v2) ∧ w'.cell? ⟨w.heap.size, 5, none⟩ = some (.int .i64 v3) ∧ w'.cell? ⟨w.heap.size, 6, none⟩ = some (.int .i64 vr) ∧ w'.cell? ⟨w.heap.size + 1, 0, none⟩ = some (.int .i64 ya) ∧ w'.cell? ⟨w.heap.size + 1, 1, none⟩ = some (.int .i64 yb) ∧ w'.cell? ⟨w.heap.size + 1, 2, none⟩ = some (.int .i64 yc) ∧ w'.cell? ⟨w.heap.size + 1, 3, none⟩ = some (.int .i64 yd) ∧ w'.cell? ⟨w.heap.size + 1, 4, none⟩ = some (.int .i64 pf) ∧ w'.cell? ⟨w.heap.size + 1, 5, none⟩ = some (.int .i64 pu)) (by kernel_rfl) ⟨by simpa [go_sem] using k0, by simpa [go_sem] using k1, by simpa [go_sem] using k2, by simpa [go_sem] using k3, by simpa [go_sem] using k4, by simpa [go_sem] using k5, by simpa [go_sem] using k6, by simpa [go_sem] using j0, by simpa [go_sem] using j1, by simpa [go_sem] using j2, by simpa [go_sem] using j3, by simpa [go_sem] using j4, by simpa [go_sem] using j5⟩ (fun hHeld => ?_)
  refine wpAnyH_take (i := 0) (oi := _) (v := Value.agg #[Value.int .i64 vs, Value.int .i64 vd, Value.int .i64 v0, Value.int .i64 v1, Value.int .i64 v2, Value.int .i64 v3, Value.int .i64 vr]) rfl (by kernel_rfl) (by kernel_rfl) (by kernel_rfl) (fun _ _ _ h => h) (Or.inl ⟨by rfl, fun w' hSw => ?_⟩) hHeld ?_
  · obtain ⟨t0, t1, t2, t3, t4, t5, t6, t7, t8, t9, t10, t11, t12⟩ := hSw
    go_simp
    try simp [*]
    try (intro hh; exfalso; omega)
    try omega
  try simp only [Act.put, List.setIfInBounds_toArray, List.set_cons_zero, List.set_cons_succ, List.getElem_toArray, List.getElem_cons_succ, List.getElem_cons_zero]
  refine wpAnyH_take (i := 2) (oi := _) (v := Value.int .i64 t) rfl (by kernel_rfl) (by kernel_rfl) (by kernel_rfl) (fun _ _ _ h => h) (Or.inl ⟨by rfl, fun w' hSw => ?_⟩) hHeld ?_
  · obtain ⟨t0, t1, t2, t3, t4, t5, t6, t7, t8, t9, t10, t11, t12⟩ := hSw
    go_simp
    try simp [*]
    try (intro hh; exfalso; omega)
    try omega
  try simp only [Act.put, List.setIfInBounds_toArray, List.set_cons_zero, List.set_cons_succ, List.getElem_toArray, List.getElem_cons_succ, List.getElem_cons_zero]
  refine wpAnyH_take (i := 4) (oi := _) (v := Value.slice a len cap) rfl (by kernel_rfl) (by kernel_rfl) (by kernel_rfl) (fun _ _ _ h => h) (Or.inl ⟨by rfl, fun w' hSw => ?_⟩) hHeld ?_
  · obtain ⟨t0, t1, t2, t3, t4, t5, t6, t7, t8, t9, t10, t11, t12⟩ := hSw
    go_simp
    try simp [*]
    try (intro hh; exfalso; omega)
    try omega
  try simp only [Act.put, List.setIfInBounds_toArray, List.set_cons_zero, List.set_cons_succ, List.getElem_toArray, List.getElem_cons_succ, List.getElem_cons_zero]
  refine wpAnyH_take (i := 6) (oi := _) (v := Value.agg #[Value.int .i64 ya, Value.int .i64 yb, Value.int .i64 yc, Value.int .i64 yd, Value.int .i64 pf, Value.int .i64 pu]) rfl (by kernel_rfl) (by kernel_rfl) (by kernel_rfl) (fun _ _ _ h => h) (Or.inl ⟨by rfl, fun w' hSw => ?_⟩) hHeld ?_
  · obtain ⟨t0, t1, t2, t3, t4, t5, t6, t7, t8, t9, t10, t11, t12⟩ := hSw
    go_simp
    try simp [*]
    try (intro hh; exfalso; omega)
    try omega
  try simp only [Act.put, List.setIfInBounds_toArray, List.set_cons_zero, List.set_cons_succ, List.getElem_toArray, List.getElem_cons_succ, List.getElem_cons_zero]
  have HD := Lib.hid (show Below A.heap.size A A.drew from (Below.refl _ _).drew)
  refine wpAnyH_ready (rs := [1]) (by kernel_rfl) (by simp) ?_
  refine AllReadyH.cons (o := _) rfl (fun K hK => ?_) AllReadyH.nil
  go_simp
  go_at_call 32
  refine Calls.mono (c1 _) ?_
  rintro e v1' ⟨rfl, hb⟩
  have HV1 := Lib.hid (show Below A.heap.size A v1' from HD.out.trans (hb.mono (Below.size HD.out)))
  clear hb
  clear hHeld
  refine hK.out _ _ (KK.out _ HV1.out) (fun hHeld => ?_)
  clear hK K
  try simp only [Act.put, List.setIfInBounds_toArray, List.set_cons_zero, List.set_cons_succ, List.getElem_toArray, List.getElem_cons_succ, List.getElem_cons_zero]
  refine wpAnyH_ready (rs := [3]) (by kernel_rfl) (by simp) ?_
  refine AllReadyH.cons (o := _) rfl (fun K hK => ?_) AllReadyH.nil
  go_simp
  go_at_call 33
  refine Calls.mono (c2 _) ?_
  rintro e v2' ⟨rfl, hw⟩
  subst hw
  clear hHeld
  refine hK.out _ _ (KK.out _ HV1.out) (fun hHeld => ?_)
  clear hK K
  try simp only [Act.put, List.setIfInBounds_toArray, List.set_cons_zero, List.set_cons_succ, List.getElem_toArray, List.getElem_cons_succ, List.getElem_cons_zero]
  refine wpAnyH_ready (rs := [5]) (by kernel_rfl) (by simp) ?_
  refine AllReadyH.cons (o := _) rfl (fun K hK => ?_) AllReadyH.nil
  go_simp
  go_at_call 34
  refine Calls.mono (c3.out _ (HBW.out _ HV1.out)) ?_
  rintro e v3' ⟨rfl, hb⟩
  have HV3 := Lib.hid (show Below A.heap.size A v3' from HV1.out.trans (hb.mono (Below.size HV1.out)))
  clear hb
  clear hHeld
  refine hK.out _ _ (KK.out _ HV3.out) (fun hHeld => ?_)
  clear hK K
  try simp only [Act.put, List.setIfInBounds_toArray, List.set_cons_zero, List.set_cons_succ, List.getElem_toArray, List.getElem_cons_succ, List.getElem_cons_zero]
  refine wpAnyH_ready (rs := [7]) (by kernel_rfl) (by simp) ?_
  refine AllReadyH.cons (o := _) rfl (fun K hK => ?_) AllReadyH.nil
  go_simp
  go_at_call 35
  refine Calls.mono (c4 _) ?_
  rintro e v4' ⟨rfl, hb⟩
  have HV4 := Lib.hid (show Below A.heap.size A v4' from HV3.out.trans (hb.mono (Below.size HV3.out)))
  clear hb
  clear hHeld
  refine hK.out _ _ (KK.out _ HV4.out) (fun hHeld => ?_)
  clear hK K
  try simp only [Act.put, List.setIfInBounds_toArray, List.set_cons_zero, List.set_cons_succ, List.getElem_toArray, List.getElem_cons_succ, List.getElem_cons_zero]
  refine wpAnyH_ready (rs := [8]) (by kernel_rfl) (by simp) ?_
  refine AllReadyH.cons (o := _) rfl (fun K hK => ?_) AllReadyH.nil
  go_simp
  have HV5 := Lib.hid (show Below A.heap.size A (v4'.alloc (.cells #[.int .i64 e1, .int .i64 e2, .int .i64 e3, .int .i64 e4] 34)) from HV4.out.alloc HV4.out.size _)
  clear hHeld
  refine hK.out _ _ (KK.out _ HV5.out) (fun hHeld => ?_)
  clear hK K
  try simp only [Act.put, List.setIfInBounds_toArray, List.set_cons_zero, List.set_cons_succ, List.getElem_toArray, List.getElem_cons_succ, List.getElem_cons_zero]
  have d5 := c5.out v4'.heap.size (v4'.alloc (.cells #[.int .i64 e1, .int .i64 e2, .int .i64 e3, .int .i64 e4] 34)) (fun k hk => by
    rw [cellHB (World.alloc_heap_new v4' _) _]
    match k, hk with
    | 0, _ => rfl
    | 1, _ => rfl
    | 2, _ => rfl
    | 3, _ => rfl)
  refine wpAnyH_ready (rs := [9]) (by kernel_rfl) (by simp) ?_
  refine AllReadyH.cons (o := _) rfl (fun K hK => ?_) AllReadyH.nil
  go_simp
  go_at_call 18
  refine Calls.mono d5 ?_
  rintro e v6 ⟨rfl, hw6⟩
  have hw7 := hw6.symm
  subst hw7
  clear hHeld
  refine hK.out _ _ (KK.out _ HV5.out) (fun hHeld => ?_)
  clear hK K
  try simp only [Act.put, List.setIfInBounds_toArray, List.set_cons_zero, List.set_cons_succ, List.getElem_toArray, List.getElem_cons_succ, List.getElem_cons_zero]
  refine wpAnyH_take (i := 10) (oi := _) (v := Value.int .i64 fe) rfl (by kernel_rfl) (by kernel_rfl) (by kernel_rfl) (fun _ _ _ h => h) (Or.inl ⟨by rfl, fun w' hSw => ?_⟩) hHeld ?_
  · obtain ⟨t0, t1, t2, t3, t4, t5, t6, t7, t8, t9, t10, t11, t12⟩ := hSw
    go_simp
    try simp [*]
    try (intro hh; exfalso; omega)
    try omega
  try simp only [Act.put, List.setIfInBounds_toArray, List.set_cons_zero, List.set_cons_succ, List.getElem_toArray, List.getElem_cons_succ, List.getElem_cons_zero]
  refine wpAnyH_done (by kernel_rfl) ?_ _
  clear hHeld
  clear d5 c5 k0 k1 k2 k3 k4 k5 k6 j0 j1 j2 j3 j4 j5
  obtain ⟨k0, k1, k2, k3, k4, k5, k6, j0, j1, j2, j3, j4, j5⟩ := KK.out _ HV5.out
  by_cases hz : fe = 0
  · subst hz
    have hfv := HFV.out
    rw [if_pos rfl] at hfv
    have HX := Lib.hid hfv
    clear hfv HFV
    go_wp2_with fail
    refine (c6.out (by trivial) _ (HBW.out _ HV5.out)).mono ?_
    rintro e v8 ⟨rfl, hb⟩
    have HV8 := Lib.hid (HV5.out.trans (hb.mono HV5.out.size))
    clear hb c6
    go_wp2_with fail
    go_ret2
    exact ⟨by rw [HX.out]; rfl, HBW.out _ HV8.out⟩
  · have hne : (fe != 0) = true := by simpa using hz
    have hfv := HFV.out
    rw [if_neg hz] at hfv
    have HX := Lib.hid hfv
    clear hfv HFV hz c6
    go_wp2_with fail
    go_ret2
    exact ⟨by rw [HX.out]; rfl, HBW.out _ HV5.out⟩
end Go.Proofs.Ythegcbpmammokaa

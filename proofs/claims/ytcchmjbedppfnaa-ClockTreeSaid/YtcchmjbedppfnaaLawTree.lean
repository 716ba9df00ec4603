/-
  Clock: the walk of ClockTree.
-/
import Derived.Test.YtcchmjbedppfnaaLawHold
namespace Go.Proofs.Ytcchmjbedppfnaa
open Go.RowKit Go.Shelf
set_option linter.unusedSimpArgs false
theorem cls_two (W : World) (p r q s : Int) (u v : Value) (xs ys : List Xc) (hX : Xcs W.heap.size W u xs) (hY : Xcs W.heap.size W v ys) : Cls (W.alloc (.cells #[.int .i64 p, .int .i64 r, u, .int .i64 q, .int .i64 s, v] 28)).heap.size (W.alloc (.cells #[.int .i64 p, .int .i64 r, u, .int .i64 q, .int .i64 s, v] 28)) (.slice (some ⟨W.heap.size, 0, none⟩) 2 2) [⟨p, r, xs⟩, ⟨q, s, ys⟩] := by
  refine ⟨_, 2, rfl, Nat.le_refl _, fun k hk => ?_⟩
  have hk2 : k < 2 := hk
  rcases (show k = 0 ∨ k = 1 by omega) with rfl | rfl
  · refine ⟨W.heap.size, 0, u, rfl, by simp, ?_, ?_, ?_, hX.at ((Below.refl _ _).alloc (Nat.le_refl _) _)⟩ <;> simp [go_sem, cl]
  · refine ⟨W.heap.size, 0, v, rfl, by simp, ?_, ?_, ?_, hY.at ((Below.refl _ _).alloc (Nat.le_refl _) _)⟩ <;> simp [go_sem, cl]
/-- what the law wants of the mathematics -/
theorem tree_all {r s n : Int} {xs ys : List Xc} {T U : Int → Int} (hr : 0 ≤ r ∧ r ≤ 1000000) (hn : 0 ≤ n ∧ n ≤ 14999999) (h0 : lrnE (-1) r xs = 0) (h1 : lrnE 0 s ys = 0)
    (hL : Lip r T) (hM : Lip s U) (hx : ∀ x ∈ xs, InX r T x ∧ (0 ≤ x.ba ∧ x.ba ≤ 20000000)) (hy : ∀ x ∈ ys, InX s U x ∧ (0 ≤ x.ba ∧ x.ba ≤ 20000000))
    (hT : ∀ z, -2147503648000000000 ≤ T z ∧ T z ≤ 2147503648000000000) (hU : ∀ z, -2147503648000000000 ≤ U z ∧ U z ≤ 2147503648000000000) :
    ∃ a b, timeR [⟨-1, r, xs⟩, ⟨0, s, ys⟩] 1 n = ⟨a, b, 0⟩ ∧ (-9000000000 ≤ a ∧ a ≤ 9000000000) ∧ (-9000000000 ≤ b ∧ b ≤ 9000000000) ∧
      a * 1000000000 ≤ dnG (n * 1000000000 + U n) * 1000000000 + T (dnG (n * 1000000000 + U n)) ∧ upG (n * 1000000000 + U n) * 1000000000 + T (upG (n * 1000000000 + U n)) ≤ b * 1000000000 := by
  have hx1 : ∀ x ∈ xs, InX r T x := fun x h => (hx x h).1
  have hy1 : ∀ x ∈ ys, InX s U x := fun x h => (hy x h).1
  have tm := time_two (t := n) h0 h1 (sd_in h0 hL hx1) (sd_in h1 hM hy1) rfl (by omega)
  have q1 := at_in (t := n) hM hy1 (by have := hU n; omega)
  have q2 := at_near (t := n) h1 (fun x h => (hy x h).2) (by omega)
  have b1 := hU n
  have tr := tree_in (n := n) (un := U n) (a := atS s n (ofA s ys)) hr hL hx1 (fun z => by have := hT z; omega) q1
  have z1 := at_near (t := n + (atS s n (ofA s ys)).1) h0 (fun x h => (hx x h).2) (by omega)
  have z2 := at_near (t := n + (atS s n (ofA s ys)).2) h0 (fun x h => (hx x h).2) (by omega)
  refine ⟨_, _, tm, ?_, ?_, tr.1, tr.2⟩
  · have t1 := hT (dnG (n * 1000000000 + U n))
    have t2 := tr.1
    have t3 : dnG (n * 1000000000 + U n) ≤ 2200000000 := by unfold dnG; omega
    unfold upS
    dsimp only at *
    omega
  · have t1 := hT (upG (n * 1000000000 + U n))
    have t2 := tr.2
    have t3 : -2200000000 ≤ upG (n * 1000000000 + U n) := by unfold upG; omega
    unfold upS
    dsimp only at *
    omega
set_option maxRecDepth 100000 in
set_option maxHeartbeats 8000000 in
theorem law_tree (st su q0 q1 at_ : Int) (sv tv lv mv : Value) (sl tl : List Int) (ks ms : List Tk) (hst : -2147483648 ≤ st ∧ st ≤ 2147483647) (hsu : -2147483648 ≤ su ∧ su ≤ 2147483647) (hq0 : 0 ≤ q0 ∧ q0 ≤ 4294967295) (hq1 : 0 ≤ q1 ∧ q1 ≤ 4294967295) (ha : 0 ≤ at_ ∧ at_ ≤ 4294967295) (w : World) (hS : I8s w.heap.size w sv sl) (hT : I8s w.heap.size w tv tl) (hK : Tks w.heap.size w lv ks) (hM : Tks w.heap.size w mv ms) :
    Calls Try.prog 8 #[.agg #[.int .i32 st, sv], .agg #[.int .i32 su, tv], .agg #[.int .u32 q0, .int .u32 q1], lv, mv, .int .u32 at_] w fun e w' => e = .returned (.bool true) ∧ Below w.heap.size w w' := by
  have c21 := fun W => works_any W
  obtain ⟨r, hr⟩ : ∃ r, r = q0 % 1000001 := ⟨_, rfl⟩
  obtain ⟨s, hs⟩ : ∃ s, s = q1 % 1000001 := ⟨_, rfl⟩
  obtain ⟨n, hn⟩ : ∃ n, n = at_ % 15000000 := ⟨_, rfl⟩
  have hrb : 0 ≤ r ∧ r ≤ 1000000 := by omega
  have hsb : 0 ≤ s ∧ s ≤ 1000000 := by omega
  have hnb : 0 ≤ n ∧ n ≤ 14999999 := by omega
  have hm1 : q0.tmod 1000001 = r := by rw [hr]; exact Int.tmod_eq_emod_of_nonneg hq0.1
  have hm3 : q1.tmod 1000001 = s := by rw [hs]; exact Int.tmod_eq_emod_of_nonneg hq1.1
  have hm2 : at_.tmod 15000000 = n := by rw [hn]; exact Int.tmod_eq_emod_of_nonneg ha.1
  have wq : wrap64 q0 = q0 := wrap64_id (by omega) (by omega)
  have wq1 : wrap64 q1 = q1 := wrap64_id (by omega) (by omega)
  have wa : wrap64 at_ = at_ := wrap64_id (by omega) (by omega)
  have wr : wrap64 r = r := wrap64_id (by omega) (by omega)
  have ws : wrap64 s = s := wrap64_id (by omega) (by omega)
  have wn : wrap64 n = n := wrap64_id (by omega) (by omega)
  have xq : IntKind.i64.wrap q0 = q0 := wrapI_id wq
  have xq1 : IntKind.i64.wrap q1 = q1 := wrapI_id wq1
  have xr : IntKind.i64.wrap r = r := wrapI_id wr
  have xs' : IntKind.i64.wrap s = s := wrapI_id ws
  have HL := Lib.hid (truO_lip (st := st) (r := r) (sl := sl) hrb.1 hS.slow)
  have HM := Lib.hid (truO_lip (st := su) (r := s) (sl := tl) hsb.1 hT.slow)
  have HTB := Lib.hid (fun z => truO_bd (a := z) (st := st) (r := r) (sl := sl) hrb hS.slow hst)
  have HUB := Lib.hid (fun z => truO_bd (a := z) (st := su) (r := s) (sl := tl) hsb hT.slow hsu)
  have c50 := Lib.hid (fun W (hb : Below w.heap.size w W) => made_any st (-1) r sv lv sl ks hst hrb W (hS.at hb) (hK.at hb))
  have d50 := Lib.hid (fun W (hb : Below w.heap.size w W) => made_any su 0 s tv mv tl ms hsu hsb W (hT.at hb) (hM.at hb))
  have c51 := Lib.hid (fun z (hz : -10000000000 ≤ z ∧ z ≤ 10000000000) W (hb : Below w.heap.size w W) => truth_any st r z sv sl hst hrb hz W (hS.at hb))
  have d51 := Lib.hid (fun z (hz : -10000000000 ≤ z ∧ z ≤ 10000000000) W (hb : Below w.heap.size w W) => truth_any su s z tv tl hsu hsb hz W (hT.at hb))
  obtain ⟨sa, sc, hsv⟩ := hS.form
  subst hsv
  obtain ⟨ta, tc, htv⟩ := hT.form
  subst htv
  obtain ⟨ka, kc, hlv⟩ := hK.form
  subst hlv
  obtain ⟨ma, mc, hmv⟩ := hM.form
  subst hmv
  clear hS hT hK hM hr hs hn hq0 hq1 ha
  unfold MadR at c50 d50
  generalize truO st r sl = T at *
  generalize truO su s tl = U at *
  generalize sl.length = ns at *
  generalize tl.length = nt at *
  generalize ks.length = nk at *
  generalize ms.length = nm at *
  obtain ⟨A, hA⟩ : ∃ A, A = ((w.alloc (.cells #[.int .i32 st, .slice sa ns sc] 67)).alloc (.cells #[.int .i32 su, .slice ta nt tc] 67)).alloc (.cells #[.int .u32 q0, .int .u32 q1] 74) := ⟨_, rfl⟩
  have HBA := Lib.hid (show Below w.heap.size w A by rw [hA]; exact (((Below.refl _ _).alloc (Nat.le_refl _) _).alloc (by simp) _).alloc (by simp; omega) _)
  have hzA : A.heap.size = w.heap.size + 3 := by rw [hA]; simp
  have k0 : A.cell? ⟨w.heap.size, 0, none⟩ = some (.int .i32 st) := by rw [hA]; simp [go_sem]
  have k1 : A.cell? ⟨w.heap.size, 1, none⟩ = some (.slice sa ns sc) := by rw [hA]; simp [go_sem]
  have k2 : A.cell? ⟨w.heap.size + 1, 0, none⟩ = some (.int .i32 su) := by rw [hA]; simp [go_sem]
  have k3 : A.cell? ⟨w.heap.size + 1, 1, none⟩ = some (.slice ta nt tc) := by rw [hA]; simp [go_sem]
  have k4 : A.cell? ⟨w.heap.size + 2, 0, none⟩ = some (.int .u32 q0) := by rw [hA]; simp [go_sem]
  have k5 : A.cell? ⟨w.heap.size + 2, 1, none⟩ = some (.int .u32 q1) := by rw [hA]; simp [go_sem]
  have KK := Lib.hid (show ∀ W, Below A.heap.size A W → W.cell? ⟨w.heap.size, 0, none⟩ = some (.int .i32 st) ∧ W.cell? ⟨w.heap.size, 1, none⟩ = some (.slice sa ns sc) ∧ W.cell? ⟨w.heap.size + 1, 0, none⟩ = some (.int .i32 su) ∧ W.cell? ⟨w.heap.size + 1, 1, none⟩ = some (.slice ta nt tc) ∧ W.cell? ⟨w.heap.size + 2, 0, none⟩ = some (.int .u32 q0) ∧ W.cell? ⟨w.heap.size + 2, 1, none⟩ = some (.int .u32 q1) from fun W h => ⟨(h.cell (p := ⟨w.heap.size, 0, none⟩) (by show w.heap.size < A.heap.size; omega)).trans k0, (h.cell (p := ⟨w.heap.size, 1, none⟩) (by show w.heap.size < A.heap.size; omega)).trans k1, (h.cell (p := ⟨w.heap.size + 1, 0, none⟩) (by show w.heap.size + 1 < A.heap.size; omega)).trans k2, (h.cell (p := ⟨w.heap.size + 1, 1, none⟩) (by show w.heap.size + 1 < A.heap.size; omega)).trans k3, (h.cell (p := ⟨w.heap.size + 2, 0, none⟩) (by show w.heap.size + 2 < A.heap.size; omega)).trans k4, (h.cell (p := ⟨w.heap.size + 2, 1, none⟩) (by show w.heap.size + 2 < A.heap.size; omega)).trans k5⟩)
  have HUP := Lib.hid (show ∀ W, Below A.heap.size A W → Below w.heap.size w W from fun W h => HBA.out.trans (h.mono HBA.out.size))
  clear hzA
  go_enter Try.func8, Try.ntmps8
  go_upto_region 1 with fail
  rw [← hA]
  clear hA
  refine wp_region_held_drew (S := fun w' => w'.cell? ⟨w.heap.size, 0, none⟩ = some (.int .i32 st) ∧ w'.cell? ⟨w.heap.size, 1, none⟩ = some (.slice sa ns sc) ∧ w'.cell? ⟨w.heap.size + 1, 0, none⟩ = some (.int .i32 su) ∧ w'.cell? ⟨w.heap.size + 1, 1, none⟩ = some (.slice ta nt tc) ∧ w'.cell? ⟨w.heap.size + 2, 0, none⟩ = some (.int .u32 q0) ∧ w'.cell? ⟨w.heap.size + 2, 1, none⟩ = some (.int .u32 q1)) (by kernel_rfl) ⟨by simpa [go_sem] using k0, by simpa [go_sem] using k1, by simpa [go_sem] using k2, by simpa [go_sem] using k3, by simpa [go_sem] using k4, by simpa [go_sem] using k5⟩ (fun hHeld => ?_)
  refine wpAnyH_take (i := 0) (oi := _) (v := Value.pointer (some ⟨w.heap.size + 2, 0, none⟩)) rfl (by kernel_rfl) (by kernel_rfl) (by kernel_rfl) (fun _ _ _ h => h) (Or.inl ⟨by rfl, fun w' hSw => ?_⟩) hHeld ?_
  · obtain ⟨t0, t1, t2, t3, t4, t5⟩ := hSw
    go_simp
    try simp [*]
    try (intro hh; exfalso; omega)
    try omega
  try simp only [Act.put, List.setIfInBounds_toArray, List.set_cons_zero, List.set_cons_succ, List.getElem_toArray, List.getElem_cons_succ, List.getElem_cons_zero]
  refine wpAnyH_take (i := 1) (oi := _) (v := Value.int .u32 q0) rfl (by kernel_rfl) (by kernel_rfl) (by kernel_rfl) (fun _ _ _ h => h) (Or.inl ⟨by rfl, fun w' hSw => ?_⟩) hHeld ?_
  · obtain ⟨t0, t1, t2, t3, t4, t5⟩ := hSw
    go_simp
    try simp [*]
    try (intro hh; exfalso; omega)
    try omega
  try simp only [Act.put, List.setIfInBounds_toArray, List.set_cons_zero, List.set_cons_succ, List.getElem_toArray, List.getElem_cons_succ, List.getElem_cons_zero]
  refine wpAnyH_take (i := 2) (oi := _) (v := Value.int .i64 q0) rfl (by kernel_rfl) (by kernel_rfl) (by kernel_rfl) (fun _ _ _ h => h) (Or.inl ⟨by rfl, fun w' hSw => ?_⟩) hHeld ?_
  · obtain ⟨t0, t1, t2, t3, t4, t5⟩ := hSw
    go_simp
    try simp [*]
    try (intro hh; exfalso; omega)
    try omega
  try simp only [Act.put, List.setIfInBounds_toArray, List.set_cons_zero, List.set_cons_succ, List.getElem_toArray, List.getElem_cons_succ, List.getElem_cons_zero]
  refine wpAnyH_take (i := 3) (oi := _) (v := Value.int .i64 r) rfl (by kernel_rfl) (by kernel_rfl) (by kernel_rfl) (fun _ _ _ h => h) (Or.inl ⟨by rfl, fun w' hSw => ?_⟩) hHeld ?_
  · obtain ⟨t0, t1, t2, t3, t4, t5⟩ := hSw
    go_simp
    try simp [*]
    try (intro hh; exfalso; omega)
    try omega
  try simp only [Act.put, List.setIfInBounds_toArray, List.set_cons_zero, List.set_cons_succ, List.getElem_toArray, List.getElem_cons_succ, List.getElem_cons_zero]
  refine wpAnyH_take (i := 4) (oi := _) (v := Value.pointer (some ⟨w.heap.size + 2, 1, none⟩)) rfl (by kernel_rfl) (by kernel_rfl) (by kernel_rfl) (fun _ _ _ h => h) (Or.inl ⟨by rfl, fun w' hSw => ?_⟩) hHeld ?_
  · obtain ⟨t0, t1, t2, t3, t4, t5⟩ := hSw
    go_simp
    try simp [*]
    try (intro hh; exfalso; omega)
    try omega
  try simp only [Act.put, List.setIfInBounds_toArray, List.set_cons_zero, List.set_cons_succ, List.getElem_toArray, List.getElem_cons_succ, List.getElem_cons_zero]
  refine wpAnyH_take (i := 5) (oi := _) (v := Value.int .u32 q1) rfl (by kernel_rfl) (by kernel_rfl) (by kernel_rfl) (fun _ _ _ h => h) (Or.inl ⟨by rfl, fun w' hSw => ?_⟩) hHeld ?_
  · obtain ⟨t0, t1, t2, t3, t4, t5⟩ := hSw
    go_simp
    try simp [*]
    try (intro hh; exfalso; omega)
    try omega
  try simp only [Act.put, List.setIfInBounds_toArray, List.set_cons_zero, List.set_cons_succ, List.getElem_toArray, List.getElem_cons_succ, List.getElem_cons_zero]
  refine wpAnyH_take (i := 6) (oi := _) (v := Value.int .i64 q1) rfl (by kernel_rfl) (by kernel_rfl) (by kernel_rfl) (fun _ _ _ h => h) (Or.inl ⟨by rfl, fun w' hSw => ?_⟩) hHeld ?_
  · obtain ⟨t0, t1, t2, t3, t4, t5⟩ := hSw
    go_simp
    try simp [*]
    try (intro hh; exfalso; omega)
    try omega
  try simp only [Act.put, List.setIfInBounds_toArray, List.set_cons_zero, List.set_cons_succ, List.getElem_toArray, List.getElem_cons_succ, List.getElem_cons_zero]
  refine wpAnyH_take (i := 7) (oi := _) (v := Value.int .i64 s) rfl (by kernel_rfl) (by kernel_rfl) (by kernel_rfl) (fun _ _ _ h => h) (Or.inl ⟨by rfl, fun w' hSw => ?_⟩) hHeld ?_
  · obtain ⟨t0, t1, t2, t3, t4, t5⟩ := hSw
    go_simp
    try simp [*]
    try (intro hh; exfalso; omega)
    try omega
  try simp only [Act.put, List.setIfInBounds_toArray, List.set_cons_zero, List.set_cons_succ, List.getElem_toArray, List.getElem_cons_succ, List.getElem_cons_zero]
  refine wpAnyH_take (i := 8) (oi := _) (v := Value.int .i64 r) rfl (by kernel_rfl) (by kernel_rfl) (by kernel_rfl) (fun _ _ _ h => h) (Or.inl ⟨by rfl, fun w' hSw => ?_⟩) hHeld ?_
  · obtain ⟨t0, t1, t2, t3, t4, t5⟩ := hSw
    go_simp
    try simp [*]
    try (intro hh; exfalso; omega)
    try omega
  try simp only [Act.put, List.setIfInBounds_toArray, List.set_cons_zero, List.set_cons_succ, List.getElem_toArray, List.getElem_cons_succ, List.getElem_cons_zero]
  refine wpAnyH_take (i := 9) (oi := _) (v := Value.int .i64 s) rfl (by kernel_rfl) (by kernel_rfl) (by kernel_rfl) (fun _ _ _ h => h) (Or.inl ⟨by rfl, fun w' hSw => ?_⟩) hHeld ?_
  · obtain ⟨t0, t1, t2, t3, t4, t5⟩ := hSw
    go_simp
    try simp [*]
    try (intro hh; exfalso; omega)
    try omega
  try simp only [Act.put, List.setIfInBounds_toArray, List.set_cons_zero, List.set_cons_succ, List.getElem_toArray, List.getElem_cons_succ, List.getElem_cons_zero]
  refine wpAnyH_done (by kernel_rfl) ?_ _
  clear hHeld
  have HD := Lib.hid (show Below A.heap.size A A.drew from (Below.refl _ _).drew)
  clear hm1 hm3 wq wq1 xq xq1 xr xs' wr ws k0 k1 k2 k3 k4 k5
  obtain ⟨k0, k1, k2, k3, -, -⟩ := KK.out _ HD.out
  go_wp2_with fail
  refine (c50.out _ (HUP.out _ HD.out)).mono ?_
  rintro e w1 ⟨v1, xs, rfl, hX, hinX, hlenX, hb⟩
  have HB1 := Lib.hid (HD.out.trans (hb.mono HD.out.size))
  obtain ⟨va, vc, hvv⟩ := hX.form
  subst hvv
  have HX := Lib.hid hX
  have HINX := Lib.hid hinX
  clear hX hinX hb k0 k1 k2 k3
  go_upto_region 3 with fail
  obtain ⟨V1, hV⟩ : ∃ V, V = w1.alloc (.cells #[.int .i64 (-1), .int .i64 r, .slice va xs.length vc] 28) := ⟨_, rfl⟩
  try rw [← hV]
  have hbV : Below w1.heap.size w1 V1 := by rw [hV]; exact (Below.refl _ _).alloc (Nat.le_refl _) _
  have HVB1 := Lib.hid (show V1.heap[w1.heap.size]? = some (.cells #[.int .i64 (-1), .int .i64 r, .slice va xs.length vc] 28 (0, 0)) by rw [hV]; exact World.alloc_heap_new _ _)
  have HBV1 := Lib.hid (HB1.out.trans (hbV.mono HB1.out.size))
  have HXV := Lib.hid (HX.out.at hbV)
  clear hV hbV HX
  obtain ⟨k0, k1, k2, k3, -, -⟩ := KK.out _ HBV1.out
  go_wp2_with fail
  refine (d50.out _ (HUP.out _ HBV1.out)).mono ?_
  rintro e w2 ⟨v2, ys, rfl, hY, hinY, hlenY, hb⟩
  have HB2 := Lib.hid (HBV1.out.trans (hb.mono HBV1.out.size))
  obtain ⟨vb, vd, hvv⟩ := hY.form
  subst hvv
  have HY := Lib.hid hY
  have HINY := Lib.hid hinY
  have HX2 := Lib.hid (HXV.out.at hb)
  have HVB2 := Lib.hid ((hb.block _ (Array.getElem?_eq_some_iff.1 HVB1.out).1).trans HVB1.out)
  clear hY hinY hb k0 k1 k2 k3 HXV HVB1
  go_upto_region 4 with fail
  obtain ⟨V2, hV⟩ : ∃ V, V = w2.alloc (.cells #[.int .i64 0, .int .i64 s, .slice vb ys.length vd] 28) := ⟨_, rfl⟩
  try rw [← hV]
  have hbV : Below w2.heap.size w2 V2 := by rw [hV]; exact (Below.refl _ _).alloc (Nat.le_refl _) _
  have HVC := Lib.hid (show V2.heap[w2.heap.size]? = some (.cells #[.int .i64 0, .int .i64 s, .slice vb ys.length vd] 28 (0, 0)) by rw [hV]; exact World.alloc_heap_new _ _)
  have HVB := Lib.hid ((hbV.block _ (Array.getElem?_eq_some_iff.1 HVB2.out).1).trans HVB2.out)
  have HBV2 := Lib.hid (HB2.out.trans (hbV.mono HB2.out.size))
  have HXV := Lib.hid (HX2.out.at hbV)
  have HYV := Lib.hid (HY.out.at hbV)
  clear hV hbV HX2 HY HVB2
  have hfin : ∀ b0 b1 : Bool, decide (lrnE (-1) r xs = 0) = b0 → decide (lrnE 0 s ys = 0) = b1 → ¬ (b0 = true ∧ b1 = true) → True := fun _ _ _ _ _ => trivial
  clear hfin
  by_cases h0 : lrnE (-1) r xs = 0
  rotate_left
  · have hd : decide (lrnE (-1) r xs = 0) = false := decide_eq_false h0
    rw [hd]
    generalize decide (lrnE 0 s ys = 0) = bb at *
    clear hd h0 c50 d50 c51 d51
    go_wp2_with fail
    refine (c21 _).mono ?_
    rintro e wz ⟨rfl, hbz⟩
    have HBZ := Lib.hid (HBV2.out.trans (hbz.mono HBV2.out.size))
    clear hbz
    go_wp2_with fail
    go_ret
    exact ⟨rfl, HUP.out _ HBZ.out⟩
  have hd : decide (lrnE (-1) r xs = 0) = true := decide_eq_true h0
  rw [hd]
  clear hd
  by_cases h1 : lrnE 0 s ys = 0
  rotate_left
  · have hd : decide (lrnE 0 s ys = 0) = false := decide_eq_false h1
    rw [hd]
    clear hd h0 h1 c50 d50 c51 d51
    go_wp2_with fail
    refine (c21 _).mono ?_
    rintro e wz ⟨rfl, hbz⟩
    have HBZ := Lib.hid (HBV2.out.trans (hbz.mono HBV2.out.size))
    clear hbz
    go_wp2_with fail
    go_ret
    exact ⟨rfl, HUP.out _ HBZ.out⟩
  have hd : decide (lrnE 0 s ys = 0) = true := decide_eq_true h1
  rw [hd]
  clear hd
  obtain ⟨a, b, htm, hab, hbb, hlo, hhi⟩ := tree_all hrb hnb h0 h1 HL.out HM.out HINX.out HINY.out HTB.out HUB.out
  have c37 := Lib.hid (fun W (hX : Xcs W.heap.size W (.slice va xs.length vc) xs) (hY : Xcs W.heap.size W (.slice vb ys.length vd) ys) => time37_any (.slice (some ⟨W.heap.size, 0, none⟩) 2 2) [⟨-1, r, xs⟩, ⟨0, s, ys⟩] 1 n (W.alloc (.cells #[.int .i64 (-1), .int .i64 r, .slice va xs.length vc, .int .i64 0, .int .i64 s, .slice vb ys.length vd] 28)) (cls_two W (-1) r 0 s (.slice va xs.length vc) (.slice vb ys.length vd) xs ys hX hY))
  rw [htm] at c37
  unfold R3.out at c37
  dsimp only at c37
  have c37' := Lib.hid (c37.out _ HXV.out HYV.out)
  have hUn := HUB.out n
  have hlo2 : -2200000000 ≤ dnG (n * 1000000000 + U n) ∧ dnG (n * 1000000000 + U n) ≤ 2200000000 := by unfold dnG; omega
  have hhi2 : -2200000000 ≤ upG (n * 1000000000 + U n) ∧ upG (n * 1000000000 + U n) ≤ 2200000000 := by unfold upG; omega
  have hTl := HTB.out (dnG (n * 1000000000 + U n))
  have hTh := HTB.out (upG (n * 1000000000 + U n))
  have c52 := Lib.hid (fun W => down_any (n * 1000000000 + U n) ⟨by omega, by omega⟩ W)
  have c53 := Lib.hid (fun W => up53_any (n * 1000000000 + U n) ⟨by omega, by omega⟩ W)
  have d51n := Lib.hid (fun W hb => d51.out n ⟨by omega, by omega⟩ W hb)
  have c51l := Lib.hid (fun W hb => c51.out (dnG (n * 1000000000 + U n)) ⟨by omega, by omega⟩ W hb)
  have c51h := Lib.hid (fun W hb => c51.out (upG (n * 1000000000 + U n)) ⟨by omega, by omega⟩ W hb)
  clear h0 h1 htm c37 c51 d51 HXV HYV HL HM HINX HINY HTB HUB c50 d50
  generalize dnG (n * 1000000000 + U n) = lo at *
  generalize upG (n * 1000000000 + U n) = hi at *
  generalize T lo = Tl at *
  generalize T hi = Th at *
  generalize U n = Un at *
  generalize xs.length = nx at *
  generalize ys.length = ny at *
  have m1 : wrap64 (n * 1000000000) = n * 1000000000 := wrap64_id (by omega) (by omega)
  have m2 : wrap64 (n * 1000000000 + Un) = n * 1000000000 + Un := wrap64_id (by omega) (by omega)
  have m3 : wrap64 (lo * 1000000000) = lo * 1000000000 := wrap64_id (by omega) (by omega)
  have m4 : wrap64 (lo * 1000000000 + Tl) = lo * 1000000000 + Tl := wrap64_id (by omega) (by omega)
  have m5 : wrap64 (hi * 1000000000) = hi * 1000000000 := wrap64_id (by omega) (by omega)
  have m6 : wrap64 (hi * 1000000000 + Th) = hi * 1000000000 + Th := wrap64_id (by omega) (by omega)
  have m7 : wrap64 (a * 1000000000) = a * 1000000000 := wrap64_id (by omega) (by omega)
  have m8 : wrap64 (b * 1000000000) = b * 1000000000 := wrap64_id (by omega) (by omega)
  have y3 : IntKind.i64.wrap (lo * 1000000000) = lo * 1000000000 := wrapI_id m3
  have y4 : IntKind.i64.wrap (lo * 1000000000 + Tl) = lo * 1000000000 + Tl := wrapI_id m4
  have y5 : IntKind.i64.wrap (hi * 1000000000) = hi * 1000000000 := wrapI_id m5
  have y6 : IntKind.i64.wrap (hi * 1000000000 + Th) = hi * 1000000000 + Th := wrapI_id m6
  clear hab hbb hUn hlo2 hhi2 hTl hTh hrb hsb hnb hst hsu hlenX hlenY
  have g0 : V2.cell? ⟨w1.heap.size, 0, none⟩ = some (.int .i64 (-1)) := cellH HVB.out 0
  have g1 : V2.cell? ⟨w1.heap.size, 1, none⟩ = some (.int .i64 r) := cellH HVB.out 1
  have g2 : V2.cell? ⟨w1.heap.size, 2, none⟩ = some (.slice va nx vc) := cellH HVB.out 2
  have g3 : V2.cell? ⟨w2.heap.size, 0, none⟩ = some (.int .i64 0) := cellH HVC.out 0
  have g4 : V2.cell? ⟨w2.heap.size, 1, none⟩ = some (.int .i64 s) := cellH HVC.out 1
  have g5 : V2.cell? ⟨w2.heap.size, 2, none⟩ = some (.slice vb ny vd) := cellH HVC.out 2
  go_wp2_with fail
  refine c37'.out.mono ?_
  rintro e w4 ⟨rfl, hb⟩
  have hbq : Below V2.heap.size V2 w4 := ((Below.refl _ _).alloc (Nat.le_refl _) (.cells #[.int .i64 (-1), .int .i64 r, .slice va nx vc, .int .i64 0, .int .i64 s, .slice vb ny vd] 28)).trans (hb.mono (by simp))
  have HB4 := Lib.hid (HBV2.out.trans (hbq.mono HBV2.out.size))
  clear hb hbq g0 g1 g2 g3 g4 g5
  go_upto_region 8 with fail
  obtain ⟨V4, hV4⟩ : ∃ V4, V4 = w4.alloc (.cells #[.int .i64 a, .int .i64 b] 23) := ⟨_, rfl⟩
  try rw [← hV4]
  have hb4 : Below w4.heap.size w4 V4 := by rw [hV4]; exact (Below.refl _ _).alloc (Nat.le_refl _) _
  have HX5 := Lib.hid (show Bx2 V4 w4.heap.size (.int .i64 a) (.int .i64 b) by rw [hV4]; exact Bx2.new _ _ _)
  have HB4a := Lib.hid (HB4.out.trans (hb4.mono HB4.out.size))
  clear hb4 hV4
  obtain ⟨k0, k1, k2, k3, -, -⟩ := KK.out _ HB4a.out
  go_wp2_with fail
  refine (d51n.out _ (HUP.out _ HB4a.out)).mono ?_
  rintro e w5 ⟨rfl, hb⟩
  have HB5 := Lib.hid (HB4a.out.trans (hb.mono HB4a.out.size))
  have HX6 := Lib.hid (HX5.out.keep hb)
  clear hb k0 k1 k2 k3
  go_wp2_with fail
  refine (c52.out _).mono ?_
  rintro e w6 ⟨rfl, rfl⟩
  go_wp2_with fail
  refine (c53.out _).mono ?_
  rintro e w7 ⟨rfl, rfl⟩
  go_upto_region 12 with fail
  obtain ⟨k0, k1, -, -, -, -⟩ := KK.out _ HB5.out
  refine wp_region_held_drew (S := fun w' => w'.cell? ⟨w.heap.size, 0, none⟩ = some (.int .i32 st) ∧ w'.cell? ⟨w.heap.size, 1, none⟩ = some (.slice sa ns sc)) (by kernel_rfl) ⟨by simpa [go_sem] using k0, by simpa [go_sem] using k1⟩ (fun hHeld => ?_)
  refine wpAnyH_take (i := 0) (oi := _) (v := Value.int .i64 lo) rfl (by kernel_rfl) (by kernel_rfl) (by kernel_rfl) (fun _ _ _ h => h) (Or.inl ⟨by rfl, fun w' hSw => ?_⟩) hHeld ?_
  · obtain ⟨t0, t1⟩ := hSw
    go_simp
    try simp [*]
    try (intro hh; exfalso; omega)
    try omega
  try simp only [Act.put, List.setIfInBounds_toArray, List.set_cons_zero, List.set_cons_succ, List.getElem_toArray, List.getElem_cons_succ, List.getElem_cons_zero]
  refine wpAnyH_take (i := 1) (oi := _) (v := Value.int .i64 (lo * 1000000000)) rfl (by kernel_rfl) (by kernel_rfl) (by kernel_rfl) (fun _ _ _ h => h) (Or.inl ⟨by rfl, fun w' hSw => ?_⟩) hHeld ?_
  · obtain ⟨t0, t1⟩ := hSw
    go_simp
    try simp [*]
    try (intro hh; exfalso; omega)
    try omega
  try simp only [Act.put, List.setIfInBounds_toArray, List.set_cons_zero, List.set_cons_succ, List.getElem_toArray, List.getElem_cons_succ, List.getElem_cons_zero]
  refine wpAnyH_take (i := 2) (oi := _) (v := Value.agg #[Value.int .i32 st, Value.slice sa ns sc]) rfl (by kernel_rfl) (by kernel_rfl) (by kernel_rfl) (fun _ _ _ h => h) (Or.inl ⟨by rfl, fun w' hSw => ?_⟩) hHeld ?_
  · obtain ⟨t0, t1⟩ := hSw
    go_simp
    try simp [*]
    try (intro hh; exfalso; omega)
    try omega
  try simp only [Act.put, List.setIfInBounds_toArray, List.set_cons_zero, List.set_cons_succ, List.getElem_toArray, List.getElem_cons_succ, List.getElem_cons_zero]
  refine wpAnyH_take (i := 3) (oi := _) (v := Value.int .i64 r) rfl (by kernel_rfl) (by kernel_rfl) (by kernel_rfl) (fun _ _ _ h => h) (Or.inl ⟨by rfl, fun w' hSw => ?_⟩) hHeld ?_
  · obtain ⟨t0, t1⟩ := hSw
    go_simp
    try simp [*]
    try (intro hh; exfalso; omega)
    try omega
  try simp only [Act.put, List.setIfInBounds_toArray, List.set_cons_zero, List.set_cons_succ, List.getElem_toArray, List.getElem_cons_succ, List.getElem_cons_zero]
  refine wpAnyH_take (i := 4) (oi := _) (v := Value.int .i64 lo) rfl (by kernel_rfl) (by kernel_rfl) (by kernel_rfl) (fun _ _ _ h => h) (Or.inl ⟨by rfl, fun w' hSw => ?_⟩) hHeld ?_
  · obtain ⟨t0, t1⟩ := hSw
    go_simp
    try simp [*]
    try (intro hh; exfalso; omega)
    try omega
  try simp only [Act.put, List.setIfInBounds_toArray, List.set_cons_zero, List.set_cons_succ, List.getElem_toArray, List.getElem_cons_succ, List.getElem_cons_zero]
  refine wpAnyH_take (i := 7) (oi := _) (v := Value.int .i64 hi) rfl (by kernel_rfl) (by kernel_rfl) (by kernel_rfl) (fun _ _ _ h => h) (Or.inl ⟨by rfl, fun w' hSw => ?_⟩) hHeld ?_
  · obtain ⟨t0, t1⟩ := hSw
    go_simp
    try simp [*]
    try (intro hh; exfalso; omega)
    try omega
  try simp only [Act.put, List.setIfInBounds_toArray, List.set_cons_zero, List.set_cons_succ, List.getElem_toArray, List.getElem_cons_succ, List.getElem_cons_zero]
  refine wpAnyH_take (i := 8) (oi := _) (v := Value.int .i64 (hi * 1000000000)) rfl (by kernel_rfl) (by kernel_rfl) (by kernel_rfl) (fun _ _ _ h => h) (Or.inl ⟨by rfl, fun w' hSw => ?_⟩) hHeld ?_
  · obtain ⟨t0, t1⟩ := hSw
    go_simp
    try simp [*]
    try (intro hh; exfalso; omega)
    try omega
  try simp only [Act.put, List.setIfInBounds_toArray, List.set_cons_zero, List.set_cons_succ, List.getElem_toArray, List.getElem_cons_succ, List.getElem_cons_zero]
  refine wpAnyH_take (i := 9) (oi := _) (v := Value.agg #[Value.int .i32 st, Value.slice sa ns sc]) rfl (by kernel_rfl) (by kernel_rfl) (by kernel_rfl) (fun _ _ _ h => h) (Or.inl ⟨by rfl, fun w' hSw => ?_⟩) hHeld ?_
  · obtain ⟨t0, t1⟩ := hSw
    go_simp
    try simp [*]
    try (intro hh; exfalso; omega)
    try omega
  try simp only [Act.put, List.setIfInBounds_toArray, List.set_cons_zero, List.set_cons_succ, List.getElem_toArray, List.getElem_cons_succ, List.getElem_cons_zero]
  refine wpAnyH_take (i := 10) (oi := _) (v := Value.int .i64 r) rfl (by kernel_rfl) (by kernel_rfl) (by kernel_rfl) (fun _ _ _ h => h) (Or.inl ⟨by rfl, fun w' hSw => ?_⟩) hHeld ?_
  · obtain ⟨t0, t1⟩ := hSw
    go_simp
    try simp [*]
    try (intro hh; exfalso; omega)
    try omega
  try simp only [Act.put, List.setIfInBounds_toArray, List.set_cons_zero, List.set_cons_succ, List.getElem_toArray, List.getElem_cons_succ, List.getElem_cons_zero]
  refine wpAnyH_take (i := 11) (oi := _) (v := Value.int .i64 hi) rfl (by kernel_rfl) (by kernel_rfl) (by kernel_rfl) (fun _ _ _ h => h) (Or.inl ⟨by rfl, fun w' hSw => ?_⟩) hHeld ?_
  · obtain ⟨t0, t1⟩ := hSw
    go_simp
    try simp [*]
    try (intro hh; exfalso; omega)
    try omega
  try simp only [Act.put, List.setIfInBounds_toArray, List.set_cons_zero, List.set_cons_succ, List.getElem_toArray, List.getElem_cons_succ, List.getElem_cons_zero]
  have HD5 := Lib.hid (show Below A.heap.size A w7.drew from HB5.out.drew)
  refine wpAnyH_ready (rs := [5]) (by kernel_rfl) (by simp) ?_
  refine AllReadyH.cons (o := _) rfl (fun K hK => ?_) AllReadyH.nil
  go_simp
  go_at_call 51
  refine Calls.mono (c51l.out _ (HUP.out _ HD5.out)) ?_
  rintro e v1 ⟨rfl, hb⟩
  have hbx : Below w7.heap.size w7 v1 := Below.trans ((Below.refl _ _).drew) (hb.mono (Below.size ((Below.refl w7.heap.size w7).drew)))
  have HV1 := Lib.hid (show Below A.heap.size A v1 from HB5.out.trans (hbx.mono HB5.out.size))
  have HX7 := Lib.hid (HX6.out.keep hbx)
  clear hb hbx
  clear hHeld
  refine hK.out _ _ ⟨(KK.out _ HV1.out).1, (KK.out _ HV1.out).2.1⟩ (fun hHeld => ?_)
  clear hK K
  try simp only [Act.put, List.setIfInBounds_toArray, List.set_cons_zero, List.set_cons_succ, List.getElem_toArray, List.getElem_cons_succ, List.getElem_cons_zero]
  refine wpAnyH_take (i := 6) (oi := _) (v := Value.int .i64 (lo * 1000000000 + Tl)) rfl (by kernel_rfl) (by kernel_rfl) (by kernel_rfl) (fun _ _ _ h => h) (Or.inl ⟨by rfl, fun w' hSw => ?_⟩) hHeld ?_
  · obtain ⟨t0, t1⟩ := hSw
    go_simp
    try simp [*]
    try (intro hh; exfalso; omega)
    try omega
  try simp only [Act.put, List.setIfInBounds_toArray, List.set_cons_zero, List.set_cons_succ, List.getElem_toArray, List.getElem_cons_succ, List.getElem_cons_zero]
  refine wpAnyH_ready (rs := [12]) (by kernel_rfl) (by simp) ?_
  refine AllReadyH.cons (o := _) rfl (fun K hK => ?_) AllReadyH.nil
  go_simp
  go_at_call 51
  refine Calls.mono (c51h.out _ (HUP.out _ HV1.out)) ?_
  rintro e v2 ⟨rfl, hb⟩
  have HV2 := Lib.hid (show Below A.heap.size A v2 from HV1.out.trans (hb.mono HV1.out.size))
  have HX8 := Lib.hid (HX7.out.keep hb)
  clear hb
  clear hHeld
  refine hK.out _ _ ⟨(KK.out _ HV2.out).1, (KK.out _ HV2.out).2.1⟩ (fun hHeld => ?_)
  clear hK K
  try simp only [Act.put, List.setIfInBounds_toArray, List.set_cons_zero, List.set_cons_succ, List.getElem_toArray, List.getElem_cons_succ, List.getElem_cons_zero]
  refine wpAnyH_take (i := 13) (oi := _) (v := Value.int .i64 (hi * 1000000000 + Th)) rfl (by kernel_rfl) (by kernel_rfl) (by kernel_rfl) (fun _ _ _ h => h) (Or.inl ⟨by rfl, fun w' hSw => ?_⟩) hHeld ?_
  · obtain ⟨t0, t1⟩ := hSw
    go_simp
    try simp [*]
    try (intro hh; exfalso; omega)
    try omega
  try simp only [Act.put, List.setIfInBounds_toArray, List.set_cons_zero, List.set_cons_succ, List.getElem_toArray, List.getElem_cons_succ, List.getElem_cons_zero]
  refine wpAnyH_take (i := 14) (oi := _) (v := Value.int .i64 (lo * 1000000000 + Tl)) rfl (by kernel_rfl) (by kernel_rfl) (by kernel_rfl) (fun _ _ _ h => h) (Or.inl ⟨by rfl, fun w' hSw => ?_⟩) hHeld ?_
  · obtain ⟨t0, t1⟩ := hSw
    go_simp
    try simp [*]
    try (intro hh; exfalso; omega)
    try omega
  try simp only [Act.put, List.setIfInBounds_toArray, List.set_cons_zero, List.set_cons_succ, List.getElem_toArray, List.getElem_cons_succ, List.getElem_cons_zero]
  refine wpAnyH_take (i := 15) (oi := _) (v := Value.int .i64 (hi * 1000000000 + Th)) rfl (by kernel_rfl) (by kernel_rfl) (by kernel_rfl) (fun _ _ _ h => h) (Or.inl ⟨by rfl, fun w' hSw => ?_⟩) hHeld ?_
  · obtain ⟨t0, t1⟩ := hSw
    go_simp
    try simp [*]
    try (intro hh; exfalso; omega)
    try omega
  try simp only [Act.put, List.setIfInBounds_toArray, List.set_cons_zero, List.set_cons_succ, List.getElem_toArray, List.getElem_cons_succ, List.getElem_cons_zero]
  refine wpAnyH_done (by kernel_rfl) ?_ _
  clear hHeld
  have z0 := HX8.out.c0
  have z1 := HX8.out.c1
  clear k0 k1
  go_wp2_with fail
  refine (c21 _).mono ?_
  rintro e wz ⟨rfl, hbz⟩
  have HBZ := Lib.hid (HV2.out.trans (hbz.mono HV2.out.size))
  clear hbz
  go_wp2_with fail
  go_ret
  exact ⟨rfl, HUP.out _ HBZ.out⟩
end Go.Proofs.Ytcchmjbedppfnaa

/-
  Cable: distances of echoes.
-/
import Derived.Test.YtcchmjbedppfnaaTbF
namespace Go.Proofs.Ytcchmjbedppfnaa
open Go.RowKit Go.Shelf
set_option linter.unusedSimpArgs false
section
set_option maxRecDepth 100000
set_option maxHeartbeats 4000000
theorem down165 (n : Int) (h1 : 0 ≤ n) (h2 : n ≤ 4611686018427387904) (w : World) :
    Calls Try.prog 165 #[.agg #[.int .i64 n, .int .i64 2000000]] w fun e w' => e = .returned (.int .i64 (n / 2000000)) ∧ Below w.heap.size w w' := by
  have HA := Lib.hid (show Below w.heap.size w (w.alloc (.cells #[.int .i64 n, .int .i64 2000000] 204)) from (Below.refl _ _).alloc (Nat.le_refl _) _)
  have hq : n.tdiv 2000000 = n / 2000000 := Int.tdiv_eq_ediv_of_nonneg h1
  obtain ⟨q, hqq⟩ : ∃ q, q = n / 2000000 := ⟨_, rfl⟩
  have hq1 : 0 ≤ q ∧ q ≤ 4611686018427387904 := by omega
  rw [← hqq] at hq ⊢
  clear hqq
  have w1 : IntKind.wrap .i64 q = q := by rw [IntKind.wrap_i64]; omega
  go_enter Try.func165, Try.ntmps165
  go_wp2_with fail
  go_ret
  exact ⟨by first | rfl | (simp [hq, w1]; done), HA.out⟩
theorem up166 (n : Int) (h1 : 0 ≤ n) (h2 : n ≤ 4611686018427387904) (w : World) :
    Calls Try.prog 166 #[.agg #[.int .i64 n, .int .i64 2000000]] w fun e w' => e = .returned (.int .i64 ((n + 1999999) / 2000000)) ∧ Below w.heap.size w w' := by
  have HA := Lib.hid (show Below w.heap.size w (w.alloc (.cells #[.int .i64 n, .int .i64 2000000] 204)) from (Below.refl _ _).alloc (Nat.le_refl _) _)
  have hq : (n + 2000000 - 1).tdiv 2000000 = (n + 1999999) / 2000000 := by rw [Int.tdiv_eq_ediv_of_nonneg (by omega)]; congr 1; omega
  obtain ⟨q, hqq⟩ : ∃ q, q = (n + 1999999) / 2000000 := ⟨_, rfl⟩
  have hq1 : 0 ≤ q ∧ q ≤ 4611686018427387904 := by omega
  rw [← hqq] at hq ⊢
  clear hqq
  have w1 : IntKind.wrap .i64 q = q := by rw [IntKind.wrap_i64]; omega
  go_enter Try.func166, Try.ntmps166
  go_wp2_with fail
  go_ret
  exact ⟨by first | rfl | (simp [hq, w1]; done), HA.out⟩
/-- outward, over two million -/
theorem outward164 (n m : Int) (h1 : 0 ≤ n) (h2 : n ≤ 4611686018427387904) (h3 : 0 ≤ m) (h4 : m ≤ 4611686018427387904) (w : World) :
    Calls Try.prog 164 #[.agg #[.int .i64 n, .int .i64 2000000], .agg #[.int .i64 m, .int .i64 2000000]] w fun e w' => e = .returned (.agg #[.int .i64 (n / 2000000), .int .i64 ((m + 1999999) / 2000000)]) ∧ Below w.heap.size w w' := by
  have c1 := fun W => down165 n h1 h2 W
  have c2 := fun W => up166 m h3 h4 W
  generalize n / 2000000 = q1 at *
  generalize (m + 1999999) / 2000000 = q2 at *
  obtain ⟨A, hA⟩ : ∃ A, A = ((w.alloc (.cells #[.int .i64 n, .int .i64 2000000] 204)).alloc (.cells #[.int .i64 m, .int .i64 2000000] 204)).alloc (.cells #[.int .i64 0, .int .i64 0] 23) := ⟨_, rfl⟩
  have hzA : A.heap.size = w.heap.size + 3 := by rw [hA]; simp
  have HBA := Lib.hid (show Below w.heap.size w A by rw [hA]; exact (((Below.refl _ _).alloc (Nat.le_refl _) _).alloc (by simp) _).alloc (by simp; omega) _)
  have k0 : A.cell? ⟨w.heap.size, 0, none⟩ = some (.int .i64 n) := by rw [hA]; simp [go_sem]
  have k1 : A.cell? ⟨w.heap.size, 1, none⟩ = some (.int .i64 2000000) := by rw [hA]; simp [go_sem]
  have k2 : A.cell? ⟨w.heap.size + 1, 0, none⟩ = some (.int .i64 m) := by rw [hA]; simp [go_sem]
  have k3 : A.cell? ⟨w.heap.size + 1, 1, none⟩ = some (.int .i64 2000000) := by rw [hA]; simp [go_sem]
  have KK := Lib.hid (show ∀ W, Below A.heap.size A W → W.cell? ⟨w.heap.size, 0, none⟩ = some (.int .i64 n) ∧ W.cell? ⟨w.heap.size, 1, none⟩ = some (.int .i64 2000000) ∧ W.cell? ⟨w.heap.size + 1, 0, none⟩ = some (.int .i64 m) ∧ W.cell? ⟨w.heap.size + 1, 1, none⟩ = some (.int .i64 2000000) from fun W h => ⟨(h.cell (p := ⟨w.heap.size, 0, none⟩) (by show w.heap.size < A.heap.size; omega)).trans k0, (h.cell (p := ⟨w.heap.size, 1, none⟩) (by show w.heap.size < A.heap.size; omega)).trans k1, (h.cell (p := ⟨w.heap.size + 1, 0, none⟩) (by show w.heap.size + 1 < A.heap.size; omega)).trans k2, (h.cell (p := ⟨w.heap.size + 1, 1, none⟩) (by show w.heap.size + 1 < A.heap.size; omega)).trans k3⟩)
  have hRA : Bx2 A (w.heap.size + 2) (.int .i64 0) (.int .i64 0) := by
    rw [hA]
    have q := Bx2.new ((w.alloc (.cells #[.int .i64 n, .int .i64 2000000] 204)).alloc (.cells #[.int .i64 m, .int .i64 2000000] 204)) (.int .i64 0) (.int .i64 0)
    rwa [show ((w.alloc (.cells #[.int .i64 n, .int .i64 2000000] 204)).alloc (.cells #[.int .i64 m, .int .i64 2000000] 204)).heap.size = w.heap.size + 2 by simp] at q
  have HRA := Lib.hid hRA
  have HEND := Lib.hid (show ∀ W v0 v1, Below A.heap.size A W → Below w.heap.size w ((W.setCell ⟨w.heap.size + 2, 0, none⟩ v0).setCell ⟨w.heap.size + 2, 1, none⟩ v1) from fun W v0 v1 h =>
    ((HBA.out.trans (h.mono HBA.out.size)).setCell (p := ⟨w.heap.size + 2, 0, none⟩) (by show w.heap.size ≤ w.heap.size + 2; omega) _).setCell (p := ⟨w.heap.size + 2, 1, none⟩) (by show w.heap.size ≤ w.heap.size + 2; omega) _)
  clear hzA hRA
  have ne0 : ¬ w.heap.size = w.heap.size + 2 := by omega
  have ne1 : ¬ w.heap.size + 1 = w.heap.size + 2 := by omega
  go_enter Try.func164, Try.ntmps164
  go_upto_region 1 with fail
  try rw [← hA]
  clear hA
  generalize w.heap.size + 2 = B2 at *
  generalize w.heap.size + 1 = B1 at *
  refine wp_region_held_drew (S := fun w' => w'.cell? ⟨w.heap.size, 0, none⟩ = some (Value.int .i64 n) ∧ w'.cell? ⟨w.heap.size, 1, none⟩ = some (Value.int .i64 2000000) ∧ w'.cell? ⟨B1, 0, none⟩ = some (Value.int .i64 m) ∧ w'.cell? ⟨B1, 1, none⟩ = some (Value.int .i64 2000000)) (by kernel_rfl) ⟨by simpa [go_sem] using k0, by simpa [go_sem] using k1, by simpa [go_sem] using k2, by simpa [go_sem] using k3⟩ (fun hHeld => ?_)
  have HD := Lib.hid (show Below A.heap.size A _ from (Below.refl A.heap.size A).drew)
  refine wpAnyH_take (i := 0) (oi := _) (v := Value.agg #[Value.int .i64 n, Value.int .i64 2000000]) rfl (by kernel_rfl) (by kernel_rfl) (by kernel_rfl) (fun _ _ _ h => h) (Or.inl ⟨by rfl, fun w' hSw => ?_⟩) hHeld ?_
  · obtain ⟨t0, t1, t2, t3⟩ := hSw
    go_simp
    try simp [*]
    try (intro hh; exfalso; omega)
    try omega
  try simp only [Act.put, List.setIfInBounds_toArray, List.set_cons_zero, List.set_cons_succ, List.getElem_toArray, List.getElem_cons_succ, List.getElem_cons_zero]
  refine wpAnyH_take (i := 2) (oi := _) (v := Value.agg #[Value.int .i64 m, Value.int .i64 2000000]) rfl (by kernel_rfl) (by kernel_rfl) (by kernel_rfl) (fun _ _ _ h => h) (Or.inl ⟨by rfl, fun w' hSw => ?_⟩) hHeld ?_
  · obtain ⟨t0, t1, t2, t3⟩ := hSw
    go_simp
    try simp [*]
    try (intro hh; exfalso; omega)
    try omega
  try simp only [Act.put, List.setIfInBounds_toArray, List.set_cons_zero, List.set_cons_succ, List.getElem_toArray, List.getElem_cons_succ, List.getElem_cons_zero]
  refine wpAnyH_ready (rs := [1]) (by kernel_rfl) (by simp) ?_
  refine AllReadyH.cons (o := _) rfl (fun K hK => ?_) AllReadyH.nil
  go_simp
  go_at_call 165
  refine Calls.mono (c1 _) ?_
  rintro e v1 ⟨rfl, hb⟩
  have HD1 := Lib.hid (HD.out.trans (hb.mono HD.out.size))
  clear hb
  clear hHeld
  refine hK.out _ _ (KK.out _ HD1.out) (fun hHeld => ?_)
  clear hK K
  try simp only [Act.put, List.setIfInBounds_toArray, List.set_cons_zero, List.set_cons_succ, List.getElem_toArray, List.getElem_cons_succ, List.getElem_cons_zero]
  refine wpAnyH_ready (rs := [3]) (by kernel_rfl) (by simp) ?_
  refine AllReadyH.cons (o := _) rfl (fun K hK => ?_) AllReadyH.nil
  go_simp
  go_at_call 166
  refine Calls.mono (c2 _) ?_
  rintro e v2 ⟨rfl, hb⟩
  have HD2 := Lib.hid (HD1.out.trans (hb.mono HD1.out.size))
  clear hb
  clear hHeld
  refine hK.out _ _ (KK.out _ HD2.out) (fun hHeld => ?_)
  clear hK K
  try simp only [Act.put, List.setIfInBounds_toArray, List.set_cons_zero, List.set_cons_succ, List.getElem_toArray, List.getElem_cons_succ, List.getElem_cons_zero]
  refine wpAnyH_take (i := 4) (oi := _) (v := Value.agg #[Value.int .i64 q1, Value.int .i64 q2]) rfl (by kernel_rfl) (by kernel_rfl) (by kernel_rfl) (fun _ _ _ h => h) (Or.inl ⟨by rfl, fun w' hSw => ?_⟩) hHeld ?_
  · obtain ⟨t0, t1, t2, t3⟩ := hSw
    go_simp
    try simp [*]
    try (intro hh; exfalso; omega)
    try omega
  try simp only [Act.put, List.setIfInBounds_toArray, List.set_cons_zero, List.set_cons_succ, List.getElem_toArray, List.getElem_cons_succ, List.getElem_cons_zero]
  obtain ⟨x0, x1⟩ := And.intro (HRA.out.keep HD2.out).c0 (HRA.out.keep HD2.out).c1
  obtain ⟨f0, f1⟩ := And.intro ((HRA.out.keep HD2.out).f0 0) ((HRA.out.keep HD2.out).f0 1)
  obtain ⟨u0, u1, u2, u3⟩ := KK.out _ HD2.out
  refine wpAnyH_ready (rs := [5]) (by kernel_rfl) (by simp) ?_
  refine AllReadyH.cons (o := _) rfl (fun K hK => ?_) AllReadyH.nil
  go_simp
  clear hHeld
  refine hK.out _ _ ⟨by simpa [go_sem, ne0, ne1] using u0, by simpa [go_sem, ne0, ne1] using u1, by simpa [go_sem, ne0, ne1] using u2, by simpa [go_sem, ne0, ne1] using u3⟩ (fun hHeld => ?_)
  clear hK K
  try simp only [Act.put, List.setIfInBounds_toArray, List.set_cons_zero, List.set_cons_succ, List.getElem_toArray, List.getElem_cons_succ, List.getElem_cons_zero]
  refine wpAnyH_done (by kernel_rfl) ?_ _
  clear hHeld
  go_wp2_with fail
  refine bodyPost_ret (v := .agg #[.int .i64 q1, .int .i64 q2]) (by simp [results, Try.results164, go_sem, ((HRA.out.keep HD2.out).set (.int .i64 q1) (.int .i64 q2)).c0, ((HRA.out.keep HD2.out).set (.int .i64 q1) (.int .i64 q2)).c1]) rfl ⟨rfl, HEND.out _ _ _ HD2.out⟩
theorem echo162 (v0 v1 b0 b1 : Int) (h1 : 0 ≤ v0) (h2 : v0 ≤ v1) (h3 : v1 ≤ 67108864) (h4 : 0 ≤ b0) (h5 : b0 ≤ b1) (h6 : b1 ≤ 300000) (w : World) :
    Calls Try.prog 162 #[.agg #[.int .i64 2, .int .i64 v0, .int .i64 v1, .int .i64 b0, .int .i64 b1]] w fun e w' => e = .returned (.agg #[.int .i64 (v0 * b0 / 2000000), .int .i64 ((v1 * b1 + 1999999) / 2000000)]) ∧ Below w.heap.size w w' := by
  have n1 : 0 ≤ v0 * b0 := Int.mul_nonneg h1 h4
  have n2 : v0 * b0 ≤ 67108864 * 300000 := Int.mul_le_mul (by omega) (by omega) h4 (by omega)
  have n3 : 0 ≤ v1 * b1 := Int.mul_nonneg (by omega) (by omega)
  have n4 : v1 * b1 ≤ 67108864 * 300000 := Int.mul_le_mul (by omega) (by omega) (by omega) (by omega)
  have c := fun W => outward164 (v0 * b0) (v1 * b1) n1 (by omega) n3 (by omega) W
  have w1 : IntKind.wrap .i64 (v0 * b0) = v0 * b0 := by rw [IntKind.wrap_i64]; omega
  have w2 : IntKind.wrap .i64 (v1 * b1) = v1 * b1 := by rw [IntKind.wrap_i64]; omega
  generalize v0 * b0 / 2000000 = q1 at *
  generalize (v1 * b1 + 1999999) / 2000000 = q2 at *
  clear n1 n2 n3 n4 h1 h2 h3 h4 h5 h6
  obtain ⟨A, hA⟩ : ∃ A, A = (w.alloc (.cells #[.int .i64 2, .int .i64 v0, .int .i64 v1, .int .i64 b0, .int .i64 b1] 197)).alloc (.cells #[.int .i64 0, .int .i64 0] 23) := ⟨_, rfl⟩
  have HBA := Lib.hid (show Below w.heap.size w A by rw [hA]; exact ((Below.refl _ _).alloc (Nat.le_refl _) _).alloc (by simp) _)
  have hRA : Bx2 A (w.heap.size + 1) (.int .i64 0) (.int .i64 0) := by
    rw [hA]
    have q := Bx2.new (w.alloc (.cells #[.int .i64 2, .int .i64 v0, .int .i64 v1, .int .i64 b0, .int .i64 b1] 197)) (.int .i64 0) (.int .i64 0)
    rwa [World.size_alloc] at q
  have HRA := Lib.hid hRA
  have k1 : A.cell? ⟨w.heap.size, 1, none⟩ = some (.int .i64 v0) := by rw [hA]; simp [go_sem]
  have k2 : A.cell? ⟨w.heap.size, 2, none⟩ = some (.int .i64 v1) := by rw [hA]; simp [go_sem]
  have k3 : A.cell? ⟨w.heap.size, 3, none⟩ = some (.int .i64 b0) := by rw [hA]; simp [go_sem]
  have k4 : A.cell? ⟨w.heap.size, 4, none⟩ = some (.int .i64 b1) := by rw [hA]; simp [go_sem]
  have HEND := Lib.hid (show ∀ W v0 v1, Below A.heap.size A W → Below w.heap.size w ((W.setCell ⟨w.heap.size + 1, 0, none⟩ v0).setCell ⟨w.heap.size + 1, 1, none⟩ v1) from fun W v0 v1 h =>
    ((HBA.out.trans (h.mono HBA.out.size)).setCell (p := ⟨w.heap.size + 1, 0, none⟩) (by show w.heap.size ≤ w.heap.size + 1; omega) _).setCell (p := ⟨w.heap.size + 1, 1, none⟩) (by show w.heap.size ≤ w.heap.size + 1; omega) _)
  clear hRA
  go_enter Try.func162, Try.ntmps162
  go_upto_region 1 with fail
  try rw [← hA]
  clear hA
  generalize w.heap.size + 1 = B1 at *
  go_wp2_with fail
  refine (c _).mono ?_
  rintro e w1 ⟨rfl, hb⟩
  have HB := Lib.hid hb
  obtain ⟨x0, x1⟩ := And.intro (HRA.out.keep hb).c0 (HRA.out.keep hb).c1
  obtain ⟨f0, f1⟩ := And.intro ((HRA.out.keep hb).f0 0) ((HRA.out.keep hb).f0 1)
  clear hb
  go_wp2_with fail
  refine bodyPost_ret (v := .agg #[.int .i64 q1, .int .i64 q2]) (by simp [results, Try.results162, go_sem, ((HRA.out.keep HB.out).set (.int .i64 q1) (.int .i64 q2)).c0, ((HRA.out.keep HB.out).set (.int .i64 q1) (.int .i64 q2)).c1]) rfl ⟨rfl, HEND.out _ _ _ HB.out⟩
end
end Go.Proofs.Ytcchmjbedppfnaa

/-
  Cable: the distance of an echo.
-/
import Derived.Test.YtcchmjbedppfnaaEcA
import Derived.Test.YtcchmjbedppfnaaTbB
namespace Go.Proofs.Ytcchmjbedppfnaa
open Go.RowKit Go.Shelf
set_option linter.unusedSimpArgs false
section
set_option maxRecDepth 100000
set_option maxHeartbeats 4000000
theorem dist157 (v0 v1 b0 b1 : Int) (h1 : 0 ≤ v0) (h2 : v0 ≤ v1) (h3 : v1 ≤ 67108864) (h4 : 0 ≤ b0) (h5 : b0 ≤ b1) (h6 : b1 ≤ 300000) (w : World) :
    Calls Try.prog 157 #[.agg #[.int .i64 2, .int .i64 v0, .int .i64 v1, .int .i64 b0, .int .i64 b1]] w fun e w' => e = .returned (.agg #[.int .i64 (v0 * b0 / 2000000), .int .i64 ((v1 * b1 + 1999999) / 2000000)]) ∧ Below w.heap.size w w' := by
  have c := fun W => echo162 v0 v1 b0 b1 h1 h2 h3 h4 h5 h6 W
  generalize v0 * b0 / 2000000 = q1 at *
  generalize (v1 * b1 + 1999999) / 2000000 = q2 at *
  clear h1 h2 h3 h4 h5 h6
  obtain ⟨A0, hA0⟩ : ∃ A, A = (w.alloc (.cells #[.int .i64 2, .int .i64 v0, .int .i64 v1, .int .i64 b0, .int .i64 b1] 197)).alloc (.cells #[.int .i64 0, .int .i64 0] 23) := ⟨_, rfl⟩
  have hz0 : A0.heap.size = w.heap.size + 1 + 1 := by rw [hA0]; simp
  have HB0 := Lib.hid (show Below w.heap.size w A0 by rw [hA0]; exact ((Below.refl _ _).alloc (Nat.le_refl _) _).alloc (by simp) _)
  have hR0 : Bx2 A0 (w.heap.size + 1) (.int .i64 0) (.int .i64 0) := by
    rw [hA0]
    have q := Bx2.new (w.alloc (.cells #[.int .i64 2, .int .i64 v0, .int .i64 v1, .int .i64 b0, .int .i64 b1] 197)) (.int .i64 0) (.int .i64 0)
    rwa [World.size_alloc] at q
  have j0 : A0.cell? ⟨w.heap.size, 0, none⟩ = some (.int .i64 2) := by rw [hA0]; simp [go_sem]
  have j1 : A0.cell? ⟨w.heap.size, 1, none⟩ = some (.int .i64 v0) := by rw [hA0]; simp [go_sem]
  have j2 : A0.cell? ⟨w.heap.size, 2, none⟩ = some (.int .i64 v1) := by rw [hA0]; simp [go_sem]
  have j3 : A0.cell? ⟨w.heap.size, 3, none⟩ = some (.int .i64 b0) := by rw [hA0]; simp [go_sem]
  have j4 : A0.cell? ⟨w.heap.size, 4, none⟩ = some (.int .i64 b1) := by rw [hA0]; simp [go_sem]
  obtain ⟨A, hA⟩ : ∃ A, A = A0.alloc (.cells #[.nilFunc, .func (.func 161) #[] #[], .func (.func 162) #[] #[], .func (.func 163) #[] #[]] 201) := ⟨_, rfl⟩
  have HA1 := Lib.hid (show Below A0.heap.size A0 A by rw [hA]; exact (Below.refl _ _).alloc (Nat.le_refl _) _)
  have HBA := Lib.hid (HB0.out.trans (HA1.out.mono HB0.out.size))
  have HRA := Lib.hid (hR0.keep HA1.out)
  have hzA : A.heap.size = A0.heap.size + 1 := by rw [hA]; simp
  have k5 : A.cell? ⟨A0.heap.size, 2, none⟩ = some (.func (.func 162) #[] #[]) := by rw [hA]; simp [go_sem]
  have k0 := (HA1.out.cell (p := ⟨w.heap.size, 0, none⟩) (by show w.heap.size < A0.heap.size; omega)).trans j0
  have k1 := (HA1.out.cell (p := ⟨w.heap.size, 1, none⟩) (by show w.heap.size < A0.heap.size; omega)).trans j1
  have k2 := (HA1.out.cell (p := ⟨w.heap.size, 2, none⟩) (by show w.heap.size < A0.heap.size; omega)).trans j2
  have k3 := (HA1.out.cell (p := ⟨w.heap.size, 3, none⟩) (by show w.heap.size < A0.heap.size; omega)).trans j3
  have k4 := (HA1.out.cell (p := ⟨w.heap.size, 4, none⟩) (by show w.heap.size < A0.heap.size; omega)).trans j4
  have HEND := Lib.hid (show ∀ W v0 v1, Below A.heap.size A W → Below w.heap.size w ((W.setCell ⟨w.heap.size + 1, 0, none⟩ v0).setCell ⟨w.heap.size + 1, 1, none⟩ v1) from fun W v0 v1 h =>
    ((HBA.out.trans (h.mono HBA.out.size)).setCell (p := ⟨w.heap.size + 1, 0, none⟩) (by show w.heap.size ≤ w.heap.size + 1; omega) _).setCell (p := ⟨w.heap.size + 1, 1, none⟩) (by show w.heap.size ≤ w.heap.size + 1; omega) _)
  have ne0 : ¬ w.heap.size = w.heap.size + 1 := by omega
  have ne1 : ¬ A0.heap.size = w.heap.size + 1 := by omega
  have HK := Lib.hid (show ∀ W, Below A.heap.size A W → W.cell? ⟨w.heap.size, 0, none⟩ = some (.int .i64 2) ∧ W.cell? ⟨w.heap.size, 1, none⟩ = some (.int .i64 v0) ∧ W.cell? ⟨w.heap.size, 2, none⟩ = some (.int .i64 v1) ∧ W.cell? ⟨w.heap.size, 3, none⟩ = some (.int .i64 b0) ∧ W.cell? ⟨w.heap.size, 4, none⟩ = some (.int .i64 b1) ∧ W.cell? ⟨A0.heap.size, 2, none⟩ = some (.func (.func 162) #[] #[]) from fun W h => ⟨(h.cell (p := ⟨w.heap.size, 0, none⟩) (by show w.heap.size < A.heap.size; omega)).trans k0, (h.cell (p := ⟨w.heap.size, 1, none⟩) (by show w.heap.size < A.heap.size; omega)).trans k1, (h.cell (p := ⟨w.heap.size, 2, none⟩) (by show w.heap.size < A.heap.size; omega)).trans k2, (h.cell (p := ⟨w.heap.size, 3, none⟩) (by show w.heap.size < A.heap.size; omega)).trans k3, (h.cell (p := ⟨w.heap.size, 4, none⟩) (by show w.heap.size < A.heap.size; omega)).trans k4, (h.cell (p := ⟨A0.heap.size, 2, none⟩) (by show A0.heap.size < A.heap.size; omega)).trans k5⟩)
  clear j0 j1 j2 j3 j4 hR0 HB0 HA1 hzA
  go_enter Try.func157, Try.ntmps157
  go_upto_region 2 with fail
  try rw [← hA0]
  try rw [← hz0]
  try rw [← hA]
  clear hA hA0 hz0
  generalize A0.heap.size = BF at *
  generalize w.heap.size + 1 = B1 at *
  refine wp_region_held_drew (S := fun w' => w'.cell? ⟨w.heap.size, 0, none⟩ = some (Value.int .i64 2) ∧ w'.cell? ⟨w.heap.size, 1, none⟩ = some (Value.int .i64 v0) ∧ w'.cell? ⟨w.heap.size, 2, none⟩ = some (Value.int .i64 v1) ∧ w'.cell? ⟨w.heap.size, 3, none⟩ = some (Value.int .i64 b0) ∧ w'.cell? ⟨w.heap.size, 4, none⟩ = some (Value.int .i64 b1) ∧ w'.cell? ⟨BF, 2, none⟩ = some (Value.func (.func 162) #[] #[])) (by kernel_rfl) ⟨by simpa [go_sem] using k0, by simpa [go_sem] using k1, by simpa [go_sem] using k2, by simpa [go_sem] using k3, by simpa [go_sem] using k4, by simpa [go_sem] using k5⟩ (fun hHeld => ?_)
  have HD := Lib.hid (show Below A.heap.size A _ from (Below.refl A.heap.size A).drew)
  refine wpAnyH_take (i := 0) (oi := _) (v := Value.pointer (some ⟨w.heap.size, 0, none⟩)) rfl (by kernel_rfl) (by kernel_rfl) (by kernel_rfl) (fun _ _ _ h => h) (Or.inl ⟨by rfl, fun w' hSw => ?_⟩) hHeld ?_
  · obtain ⟨t0, t1, t2, t3, t4, t5⟩ := hSw
    go_simp
    try simp [*]
    try (intro hh; exfalso; omega)
    try omega
  try simp only [Act.put, List.setIfInBounds_toArray, List.set_cons_zero, List.set_cons_succ, List.getElem_toArray, List.getElem_cons_succ, List.getElem_cons_zero]
  refine wpAnyH_take (i := 1) (oi := _) (v := Value.int .i64 2) rfl (by kernel_rfl) (by kernel_rfl) (by kernel_rfl) (fun _ _ _ h => h) (Or.inl ⟨by rfl, fun w' hSw => ?_⟩) hHeld ?_
  · obtain ⟨t0, t1, t2, t3, t4, t5⟩ := hSw
    go_simp
    try simp [*]
    try (intro hh; exfalso; omega)
    try omega
  try simp only [Act.put, List.setIfInBounds_toArray, List.set_cons_zero, List.set_cons_succ, List.getElem_toArray, List.getElem_cons_succ, List.getElem_cons_zero]
  refine wpAnyH_take (i := 2) (oi := _) (v := Value.pointer (some ⟨BF, 2, none⟩)) rfl (by kernel_rfl) (by kernel_rfl) (by kernel_rfl) (fun _ _ _ h => h) (Or.inl ⟨by rfl, fun w' hSw => ?_⟩) hHeld ?_
  · obtain ⟨t0, t1, t2, t3, t4, t5⟩ := hSw
    go_simp
    try simp [*]
    try (intro hh; exfalso; omega)
    try omega
  try simp only [Act.put, List.setIfInBounds_toArray, List.set_cons_zero, List.set_cons_succ, List.getElem_toArray, List.getElem_cons_succ, List.getElem_cons_zero]
  refine wpAnyH_take (i := 3) (oi := _) (v := Value.func (.func 162) #[] #[]) rfl (by kernel_rfl) (by kernel_rfl) (by kernel_rfl) (fun _ _ _ h => h) (Or.inl ⟨by rfl, fun w' hSw => ?_⟩) hHeld ?_
  · obtain ⟨t0, t1, t2, t3, t4, t5⟩ := hSw
    go_simp
    try simp [*]
    try (intro hh; exfalso; omega)
    try omega
  try simp only [Act.put, List.setIfInBounds_toArray, List.set_cons_zero, List.set_cons_succ, List.getElem_toArray, List.getElem_cons_succ, List.getElem_cons_zero]
  refine wpAnyH_take (i := 4) (oi := _) (v := Value.agg #[Value.int .i64 2, Value.int .i64 v0, Value.int .i64 v1, Value.int .i64 b0, Value.int .i64 b1]) rfl (by kernel_rfl) (by kernel_rfl) (by kernel_rfl) (fun _ _ _ h => h) (Or.inl ⟨by rfl, fun w' hSw => ?_⟩) hHeld ?_
  · obtain ⟨t0, t1, t2, t3, t4, t5⟩ := hSw
    go_simp
    try simp [*]
    try (intro hh; exfalso; omega)
    try omega
  try simp only [Act.put, List.setIfInBounds_toArray, List.set_cons_zero, List.set_cons_succ, List.getElem_toArray, List.getElem_cons_succ, List.getElem_cons_zero]
  refine wpAnyH_ready (rs := [5]) (by kernel_rfl) (by simp) ?_
  refine AllReadyH.cons (o := _) rfl (fun K hK => ?_) AllReadyH.nil
  go_simp
  go_at_call 162
  refine Calls.mono (c _) ?_
  rintro e v1 ⟨rfl, hb⟩
  have HD1 := Lib.hid (HD.out.trans (hb.mono HD.out.size))
  clear hb
  clear hHeld
  refine hK.out _ _ (HK.out _ HD1.out) (fun hHeld => ?_)
  clear hK K
  try simp only [Act.put, List.setIfInBounds_toArray, List.set_cons_zero, List.set_cons_succ, List.getElem_toArray, List.getElem_cons_succ, List.getElem_cons_zero]
  obtain ⟨x0, x1⟩ := And.intro (HRA.out.keep HD1.out).c0 (HRA.out.keep HD1.out).c1
  obtain ⟨f0, f1⟩ := And.intro ((HRA.out.keep HD1.out).f0 0) ((HRA.out.keep HD1.out).f0 1)
  obtain ⟨u0, u1, u2, u3, u4, u5⟩ := HK.out _ HD1.out
  refine wpAnyH_ready (rs := [6]) (by kernel_rfl) (by simp) ?_
  refine AllReadyH.cons (o := _) rfl (fun K hK => ?_) AllReadyH.nil
  go_simp
  clear hHeld
  refine hK.out _ _ ⟨by simpa [go_sem, ne0, ne1] using u0, by simpa [go_sem, ne0, ne1] using u1, by simpa [go_sem, ne0, ne1] using u2, by simpa [go_sem, ne0, ne1] using u3, by simpa [go_sem, ne0, ne1] using u4, by simpa [go_sem, ne0, ne1] using u5⟩ (fun hHeld => ?_)
  clear hK K
  try simp only [Act.put, List.setIfInBounds_toArray, List.set_cons_zero, List.set_cons_succ, List.getElem_toArray, List.getElem_cons_succ, List.getElem_cons_zero]
  refine wpAnyH_done (by kernel_rfl) ?_ _
  clear hHeld
  go_wp2_with fail
  refine bodyPost_ret (v := .agg #[.int .i64 q1, .int .i64 q2]) (by simp [results, Try.results157, go_sem, ((HRA.out.keep HD1.out).set (.int .i64 q1) (.int .i64 q2)).c0, ((HRA.out.keep HD1.out).set (.int .i64 q1) (.int .i64 q2)).c1]) rfl ⟨rfl, HEND.out _ _ _ HD1.out⟩
end
end Go.Proofs.Ytcchmjbedppfnaa

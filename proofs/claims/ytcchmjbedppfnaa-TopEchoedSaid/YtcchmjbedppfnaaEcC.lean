/-
  Cable: an echo is valid; its distance; the common part of one span.
-/
import Derived.Test.YtcchmjbedppfnaaEcB
namespace Go.Proofs.Ytcchmjbedppfnaa
open Go.RowKit Go.Shelf
set_option linter.unusedSimpArgs false
section
set_option maxRecDepth 100000
set_option maxHeartbeats 4000000
theorem fits156 (v0 v1 b0 b1 : Int) (h1 : 0 ≤ v0) (h2 : v0 ≤ v1) (h3 : v1 ≤ 67108864) (h4 : 1 ≤ b0) (h5 : b0 ≤ b1) (h6 : b1 ≤ 300000) (w : World) :
    Calls Try.prog 156 #[.agg #[.int .i64 2, .int .i64 v0, .int .i64 v1, .int .i64 b0, .int .i64 b1]] w fun e w' => e = .returned (.bool true) ∧ Below w.heap.size w w' := by
  have c1 := fun W => isPart117 v0 v1 0 67108864 ((vB_iff _ _).2 (by omega)) h1 h3 W
  have c2 := fun W => isPart117 b0 b1 1 300000 ((vB_iff _ _).2 (by omega)) h4 h6 W
  clear h1 h2 h3 h4 h5 h6
  obtain ⟨A, hA⟩ : ∃ A, A = w.alloc (.cells #[.int .i64 2, .int .i64 v0, .int .i64 v1, .int .i64 b0, .int .i64 b1] 113) := ⟨_, rfl⟩
  have hzA : A.heap.size = w.heap.size + 1 := by rw [hA]; simp
  have HBA := Lib.hid (show Below w.heap.size w A by rw [hA]; exact (Below.refl _ _).alloc (Nat.le_refl _) _)
  have k0 : A.cell? ⟨w.heap.size, 0, none⟩ = some (.int .i64 2) := by rw [hA]; simp [go_sem]
  have k1 : A.cell? ⟨w.heap.size, 1, none⟩ = some (.int .i64 v0) := by rw [hA]; simp [go_sem]
  have k2 : A.cell? ⟨w.heap.size, 2, none⟩ = some (.int .i64 v1) := by rw [hA]; simp [go_sem]
  have k3 : A.cell? ⟨w.heap.size, 3, none⟩ = some (.int .i64 b0) := by rw [hA]; simp [go_sem]
  have k4 : A.cell? ⟨w.heap.size, 4, none⟩ = some (.int .i64 b1) := by rw [hA]; simp [go_sem]
  have KB := Lib.hid (show ∀ W, Below A.heap.size A W → W.cell? ⟨w.heap.size, 3, none⟩ = some (.int .i64 b0) ∧ W.cell? ⟨w.heap.size, 4, none⟩ = some (.int .i64 b1) from fun W h => ⟨(h.cell (p := ⟨w.heap.size, 3, none⟩) (by show w.heap.size < A.heap.size; omega)).trans k3, (h.cell (p := ⟨w.heap.size, 4, none⟩) (by show w.heap.size < A.heap.size; omega)).trans k4⟩)
  clear hzA
  go_enter Try.func156, Try.ntmps156
  go_upto_region 1 with fail
  try rw [← hA]
  clear hA
  go_wp2_with fail
  refine (c1 _).mono ?_
  rintro e w1 ⟨rfl, hb⟩
  have HB1 := Lib.hid hb
  obtain ⟨g3, g4⟩ := KB.out _ hb
  clear hb k0 k1 k2 k3 k4
  go_wp2_with fail
  refine (c2 _).mono ?_
  rintro e w2 ⟨rfl, hb⟩
  have HB2 := Lib.hid (HB1.out.trans (hb.mono HB1.out.size))
  clear hb g3 g4
  go_wp2_with fail
  go_ret
  exact ⟨rfl, HBA.out.trans (HB2.out.mono HBA.out.size)⟩
theorem dist129 (v0 v1 b0 b1 : Int) (h1 : 0 ≤ v0) (h2 : v0 ≤ v1) (h3 : v1 ≤ 67108864) (h4 : 1 ≤ b0) (h5 : b0 ≤ b1) (h6 : b1 ≤ 300000) (w : World) :
    Calls Try.prog 129 #[.agg #[.int .i64 2, .int .i64 v0, .int .i64 v1, .int .i64 b0, .int .i64 b1]] w fun e w' => e = .returned (.tuple #[.agg #[.int .i64 (v0 * b0 / 2000000), .int .i64 ((v1 * b1 + 1999999) / 2000000)], .int .i64 0]) ∧ Below w.heap.size w w' := by
  have c1 := fun W => fits156 v0 v1 b0 b1 h1 h2 h3 h4 h5 h6 W
  have c2 := fun W => dist157 v0 v1 b0 b1 h1 h2 h3 (by omega) h5 h6 W
  have n1 : 0 ≤ v0 * b0 := Int.mul_nonneg h1 (by omega)
  have n2 : v0 * b0 ≤ v1 * b1 := Int.mul_le_mul h2 h5 (by omega) (by omega)
  have n4 : v1 * b1 ≤ 67108864 * 300000 := Int.mul_le_mul (by omega) (by omega) (by omega) (by omega)
  have hv : vB (v0 * b0 / 2000000) ((v1 * b1 + 1999999) / 2000000) = true := (vB_iff _ _).2 (by omega)
  have c3 := fun W => check_ok _ _ hv W
  clear hv n1 n2 n4 h1 h2 h3 h4 h5 h6
  generalize v0 * b0 / 2000000 = q1 at *
  generalize (v1 * b1 + 1999999) / 2000000 = q2 at *
  obtain ⟨A, hA⟩ : ∃ A, A = (w.alloc (.cells #[.int .i64 2, .int .i64 v0, .int .i64 v1, .int .i64 b0, .int .i64 b1] 113)).alloc (.cells #[.int .i64 0, .int .i64 0] 23) := ⟨_, rfl⟩
  have hzA : A.heap.size = w.heap.size + 1 + 1 := by rw [hA]; simp
  have HBA := Lib.hid (show Below w.heap.size w A by rw [hA]; exact ((Below.refl _ _).alloc (Nat.le_refl _) _).alloc (by simp) _)
  have hRA : Bx2 A (w.heap.size + 1) (.int .i64 0) (.int .i64 0) := by
    rw [hA]
    have q := Bx2.new (w.alloc (.cells #[.int .i64 2, .int .i64 v0, .int .i64 v1, .int .i64 b0, .int .i64 b1] 113)) (.int .i64 0) (.int .i64 0)
    rwa [World.size_alloc] at q
  have HRA := Lib.hid hRA
  have k0 : A.cell? ⟨w.heap.size, 0, none⟩ = some (.int .i64 2) := by rw [hA]; simp [go_sem]
  have k1 : A.cell? ⟨w.heap.size, 1, none⟩ = some (.int .i64 v0) := by rw [hA]; simp [go_sem]
  have k2 : A.cell? ⟨w.heap.size, 2, none⟩ = some (.int .i64 v1) := by rw [hA]; simp [go_sem]
  have k3 : A.cell? ⟨w.heap.size, 3, none⟩ = some (.int .i64 b0) := by rw [hA]; simp [go_sem]
  have k4 : A.cell? ⟨w.heap.size, 4, none⟩ = some (.int .i64 b1) := by rw [hA]; simp [go_sem]
  have KB := Lib.hid (show ∀ W, Below A.heap.size A W → W.cell? ⟨w.heap.size, 0, none⟩ = some (.int .i64 2) ∧ W.cell? ⟨w.heap.size, 1, none⟩ = some (.int .i64 v0) ∧ W.cell? ⟨w.heap.size, 2, none⟩ = some (.int .i64 v1) ∧ W.cell? ⟨w.heap.size, 3, none⟩ = some (.int .i64 b0) ∧ W.cell? ⟨w.heap.size, 4, none⟩ = some (.int .i64 b1) from fun W h => ⟨(h.cell (p := ⟨w.heap.size, 0, none⟩) (by show w.heap.size < A.heap.size; omega)).trans k0, (h.cell (p := ⟨w.heap.size, 1, none⟩) (by show w.heap.size < A.heap.size; omega)).trans k1, (h.cell (p := ⟨w.heap.size, 2, none⟩) (by show w.heap.size < A.heap.size; omega)).trans k2, (h.cell (p := ⟨w.heap.size, 3, none⟩) (by show w.heap.size < A.heap.size; omega)).trans k3, (h.cell (p := ⟨w.heap.size, 4, none⟩) (by show w.heap.size < A.heap.size; omega)).trans k4⟩)
  have HEND := Lib.hid (show ∀ W v0 v1, Below A.heap.size A W → Below w.heap.size w ((W.setCell ⟨w.heap.size + 1, 0, none⟩ v0).setCell ⟨w.heap.size + 1, 1, none⟩ v1) from fun W v0 v1 h =>
    ((HBA.out.trans (h.mono HBA.out.size)).setCell (p := ⟨w.heap.size + 1, 0, none⟩) (by show w.heap.size ≤ w.heap.size + 1; omega) _).setCell (p := ⟨w.heap.size + 1, 1, none⟩) (by show w.heap.size ≤ w.heap.size + 1; omega) _)
  clear hzA hRA
  go_enter Try.func129, Try.ntmps129
  go_upto_region 1 with fail
  try rw [← hA]
  clear hA
  generalize w.heap.size + 1 = B1 at *
  go_wp2_with fail
  refine (c1 _).mono ?_
  rintro e w1 ⟨rfl, hb⟩
  have HB1 := Lib.hid hb
  obtain ⟨g0, g1, g2, g3, g4⟩ := KB.out _ hb
  clear hb k0 k1 k2 k3 k4
  go_wp2_with fail
  refine (c2 _).mono ?_
  rintro e w2 ⟨rfl, hb⟩
  have HB2 := Lib.hid (HB1.out.trans (hb.mono HB1.out.size))
  clear hb g0 g1 g2 g3 g4
  go_upto_region 4 with fail
  obtain ⟨V, hV⟩ : ∃ V, V = w2.alloc (.cells #[.int .i64 q1, .int .i64 q2] 23) := ⟨_, rfl⟩
  try rw [← hV]
  have HX := Lib.hid (show Bx2 V w2.heap.size (.int .i64 q1) (.int .i64 q2) by rw [hV]; exact Bx2.new _ _ _)
  have HV := Lib.hid (show Below A.heap.size A V by rw [hV]; exact HB2.out.alloc HB2.out.size _)
  clear hV
  generalize w2.heap.size = B4 at *
  obtain ⟨g0, g1⟩ := And.intro HX.out.c0 HX.out.c1
  go_wp2_with fail
  refine (c3 _).mono ?_
  rintro e w3 ⟨rfl, hb⟩
  have HB3 := Lib.hid (HV.out.trans (hb.mono HV.out.size))
  obtain ⟨e0, e1⟩ := And.intro (HX.out.keep hb).c0 (HX.out.keep hb).c1
  obtain ⟨x0, x1⟩ := And.intro (HRA.out.keep HB3.out).c0 (HRA.out.keep HB3.out).c1
  obtain ⟨f0, f1⟩ := And.intro ((HRA.out.keep HB3.out).f0 0) ((HRA.out.keep HB3.out).f0 1)
  clear hb g0 g1
  go_wp2_with fail
  refine bodyPost_ret (v := .tuple #[.agg #[.int .i64 q1, .int .i64 q2], .int .i64 0]) (by simp [results, Try.results129, go_sem, ((HRA.out.keep HB3.out).set (.int .i64 q1) (.int .i64 q2)).c0, ((HRA.out.keep HB3.out).set (.int .i64 q1) (.int .i64 q2)).c1]) rfl ⟨rfl, HEND.out _ _ _ HB3.out⟩
/-- the common part of one span -/
theorem common130 (b off c : Nat) (q1 q2 : Int) (w : World) (hb0 : b < w.heap.size) (hc : 1 ≤ c) (k0 : w.cell? ⟨b, off, none⟩ = some (.int .i64 q1)) (k1 : w.cell? ⟨b, off + 1, none⟩ = some (.int .i64 q2)) :
    Calls Try.prog 130 #[.slice (some ⟨b, off, none⟩) 1 c] w fun e w' => e = .returned (.tuple #[.agg #[.int .i64 q1, .int .i64 q2], .int .i64 0]) ∧ Below w.heap.size w w' := by
  obtain ⟨A, hA⟩ : ∃ A, A = w.alloc (.cells #[.int .i64 0, .int .i64 0] 23) := ⟨_, rfl⟩
  have hzA : A.heap.size = w.heap.size + 1 := by rw [hA]; simp
  have HBA := Lib.hid (show Below w.heap.size w A by rw [hA]; exact (Below.refl _ _).alloc (Nat.le_refl _) _)
  have hRA : Bx2 A w.heap.size (.int .i64 0) (.int .i64 0) := by rw [hA]; exact Bx2.new _ _ _
  have HKR := Lib.hid (show ∀ W, Below A.heap.size A W → Bx2 W w.heap.size (.int .i64 0) (.int .i64 0) from fun W h => hRA.keep h)
  replace k0 := (HBA.out.cell (p := ⟨b, off, none⟩) hb0).trans k0
  replace k1 := (HBA.out.cell (p := ⟨b, off + 1, none⟩) hb0).trans k1
  have HEND := Lib.hid (show ∀ W v0 v1, Below A.heap.size A W → Below w.heap.size w ((W.setCell ⟨w.heap.size, 0, none⟩ v0).setCell ⟨w.heap.size, 1, none⟩ v1) from fun W v0 v1 h =>
    ((HBA.out.trans (h.mono HBA.out.size)).setCell (p := ⟨w.heap.size, 0, none⟩) (Nat.le_refl _) _).setCell (p := ⟨w.heap.size, 1, none⟩) (Nat.le_refl _) _)
  clear hzA hRA
  go_enter Try.func130, Try.ntmps130
  go_upto_region 1 with fail
  try rw [← hA]
  clear hA
  go_upto_region 2 with fail
  obtain ⟨V, hV⟩ : ∃ V, V = A.alloc (.cells #[.int .i64 q1, .int .i64 q2] 23) := ⟨_, rfl⟩
  try rw [← hV]
  have HX := Lib.hid (show Bx2 V A.heap.size (.int .i64 q1) (.int .i64 q2) by rw [hV]; exact Bx2.new _ _ _)
  have HV := Lib.hid (show Below A.heap.size A V by rw [hV]; exact (Below.refl _ _).alloc (Nat.le_refl _) _)
  clear hV k0 k1
  generalize A.heap.size = B4 at *
  have hc' : (1 : Int) ≤ (c : Int) := by omega
  obtain ⟨e0, e1⟩ := And.intro HX.out.c0 HX.out.c1
  obtain ⟨x0, x1⟩ := And.intro (HKR.out _ HV.out).c0 (HKR.out _ HV.out).c1
  obtain ⟨f0, f1⟩ := And.intro ((HKR.out _ HV.out).f0 0) ((HKR.out _ HV.out).f0 1)
  by_cases hc1 : c = 1
  · subst hc1
    go_wp2_with fail
    go_loopw [15] (fun iv wr => iv = .int .i64 0 ∧ wr = V) (fun _ _ => 0)
    case atStart => exact ⟨rfl, rfl⟩
    case round =>
      obtain ⟨rfl, rfl⟩ := hrel
      go_wp2_with fail
      refine bodyPost_ret (v := .tuple #[.agg #[.int .i64 q1, .int .i64 q2], .int .i64 0]) (by simp [results, Try.results130, go_sem, ((HKR.out _ HV.out).set (.int .i64 q1) (.int .i64 q2)).c0, ((HKR.out _ HV.out).set (.int .i64 q1) (.int .i64 q2)).c1]) rfl ⟨rfl, HEND.out _ _ _ HV.out⟩
  · go_wp2_with fail
    go_loopw [15] (fun iv wr => iv = .int .i64 0 ∧ wr = V) (fun _ _ => 0)
    case atStart => exact ⟨rfl, rfl⟩
    case round =>
      obtain ⟨rfl, rfl⟩ := hrel
      go_wp2_with fail
      refine bodyPost_ret (v := .tuple #[.agg #[.int .i64 q1, .int .i64 q2], .int .i64 0]) (by simp [results, Try.results130, go_sem, ((HKR.out _ HV.out).set (.int .i64 q1) (.int .i64 q2)).c0, ((HKR.out _ HV.out).set (.int .i64 q1) (.int .i64 q2)).c1]) rfl ⟨rfl, HEND.out _ _ _ HV.out⟩
end
end Go.Proofs.Ytcchmjbedppfnaa

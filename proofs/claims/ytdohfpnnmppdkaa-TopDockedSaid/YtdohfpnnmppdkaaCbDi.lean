/-
  Cables: Distance.
-/
import Derived.Test.YtdohfpnnmppdkaaCbZ
namespace Go.Proofs.Ytdohfpnnmppdkaa
open Go.RowKit Go.Shelf
set_option linter.unusedSimpArgs false
/-- the distance, before it is checked -/
def dsQ (kd v0 v1 b0 b1 : Int) : Int × Int := if kd = 1 then (1000 * v0 / b1, (1000 * v1 + b0 - 1) / b0) else if kd = 2 then (v0 * b0 / 2000000, (v1 * b1 + 2000000 - 1) / 2000000) else (b0 - v1, b1 - v0)
open Classical in
/-- the distance of a measurement -/
noncomputable def dsS (kd v0 v1 b0 b1 : Int) : R3 := if fitB kd v0 v1 b0 b1 = true then fit (dsQ kd v0 v1 b0 b1).1 (dsQ kd v0 v1 b0 b1).2 else ⟨0, 0, 2⟩
theorem fitB_cases {kd v0 v1 b0 b1 : Int} (h : fitB kd v0 v1 b0 b1 = true) : (kd = 1 ∧ 0 ≤ v0 ∧ v0 ≤ v1 ∧ v1 ≤ 16777216 ∧ 1 ≤ b0 ∧ b0 ≤ b1 ∧ b1 ≤ 16777216) ∨ (kd = 2 ∧ 0 ≤ v0 ∧ v0 ≤ v1 ∧ v1 ≤ 67108864 ∧ 1 ≤ b0 ∧ b0 ≤ b1 ∧ b1 ≤ 300000) ∨ (kd = 3 ∧ 0 ≤ v0 ∧ v0 ≤ v1 ∧ v1 ≤ 1073741824 ∧ 0 ≤ b0 ∧ b0 ≤ b1 ∧ b1 ≤ 1073741824) := by
  unfold fitB at h
  by_cases h1 : kd = 1
  · rw [if_pos h1, Bool.and_eq_true, partB_iff, partB_iff] at h
    exact .inl ⟨h1, by omega⟩
  · rw [if_neg h1] at h
    by_cases h2 : kd = 2
    · rw [if_pos h2, Bool.and_eq_true, partB_iff, partB_iff] at h
      exact .inr (.inl ⟨h2, by omega⟩)
    · rw [if_neg h2] at h
      by_cases h3 : kd = 3
      · rw [if_pos h3, Bool.and_eq_true, partB_iff, partB_iff] at h
        exact .inr (.inr ⟨h3, by omega⟩)
      · rw [if_neg h3] at h
        cases h
theorem mdist_all {kd v0 v1 b0 b1 : Int} (h : fitB kd v0 v1 b0 b1 = true) (w : World) :
    Calls Try.prog 109 #[.agg #[.int .i64 kd, .int .i64 v0, .int .i64 v1, .int .i64 b0, .int .i64 b1]] w fun e w' => e = .returned (.agg #[.int .i64 (dsQ kd v0 v1 b0 b1).1, .int .i64 (dsQ kd v0 v1 b0 b1).2]) ∧ Below w.heap.size w w' := by
  rcases fitB_cases h with ⟨rfl, h1, h2, h3, h4, h5, h6⟩ | ⟨rfl, h1, h2, h3, h4, h5, h6⟩ | ⟨rfl, h1, h2, h3, h4, h5, h6⟩
  · exact mdist_any 1 159 v0 v1 b0 b1 _ _ (.inl ⟨rfl, rfl⟩) (fun W => byOhms_any v0 v1 b0 b1 h1 h2 h3 h4 h5 h6 W) w
  · exact mdist_any 2 160 v0 v1 b0 b1 _ _ (.inr (.inl ⟨rfl, rfl⟩)) (fun W => byEcho_any v0 v1 b0 b1 h1 h2 h3 h4 h5 h6 W) w
  · exact mdist_any 3 161 v0 v1 b0 b1 _ _ (.inr (.inr ⟨rfl, rfl⟩)) (fun W => fromFar_any v0 v1 b0 b1 h1 h2 h3 h4 h5 h6 W) w
section
set_option maxRecDepth 100000
set_option maxHeartbeats 8000000
theorem distance_any (kd v0 v1 b0 b1 : Int) (w : World) :
    Calls Try.prog 44 #[.agg #[.int .i64 kd, .int .i64 v0, .int .i64 v1, .int .i64 b0, .int .i64 b1]] w fun e w' => e = .returned (.tuple #[.agg #[.int .i64 (dsS kd v0 v1 b0 b1).lo, .int .i64 (dsS kd v0 v1 b0 b1).hi], .int .i64 (dsS kd v0 v1 b0 b1).e]) ∧ Below w.heap.size w w' := by
  have c1 := fun W => fits_any kd v0 v1 b0 b1 W
  obtain ⟨A, hA⟩ : ∃ A, A = (w.alloc (.cells #[.int .i64 kd, .int .i64 v0, .int .i64 v1, .int .i64 b0, .int .i64 b1] 52)).alloc (.cells #[.int .i64 0, .int .i64 0] 23) := ⟨_, rfl⟩
  have HBA := Lib.hid (show Below w.heap.size w A by rw [hA]; exact ((Below.refl _ _).alloc (Nat.le_refl _) _).alloc (by simp) _)
  have hzA : A.heap.size = w.heap.size + 2 := by rw [hA]; simp
  have hRA : Bx2 A (w.heap.size + 1) (.int .i64 0) (.int .i64 0) := by
    rw [hA]
    have q := Bx2.new (w.alloc (.cells #[.int .i64 kd, .int .i64 v0, .int .i64 v1, .int .i64 b0, .int .i64 b1] 52)) (.int .i64 0) (.int .i64 0)
    rwa [World.size_alloc] at q
  have HRA := Lib.hid hRA
  have k0 : A.cell? ⟨w.heap.size, 0, none⟩ = some (.int .i64 kd) := by rw [hA]; simp [go_sem]
  have k1 : A.cell? ⟨w.heap.size, 1, none⟩ = some (.int .i64 v0) := by rw [hA]; simp [go_sem]
  have k2 : A.cell? ⟨w.heap.size, 2, none⟩ = some (.int .i64 v1) := by rw [hA]; simp [go_sem]
  have k3 : A.cell? ⟨w.heap.size, 3, none⟩ = some (.int .i64 b0) := by rw [hA]; simp [go_sem]
  have k4 : A.cell? ⟨w.heap.size, 4, none⟩ = some (.int .i64 b1) := by rw [hA]; simp [go_sem]
  have KK := Lib.hid (show ∀ W, Below A.heap.size A W → W.cell? ⟨w.heap.size, 0, none⟩ = some (.int .i64 kd) ∧ W.cell? ⟨w.heap.size, 1, none⟩ = some (.int .i64 v0) ∧ W.cell? ⟨w.heap.size, 2, none⟩ = some (.int .i64 v1) ∧ W.cell? ⟨w.heap.size, 3, none⟩ = some (.int .i64 b0) ∧ W.cell? ⟨w.heap.size, 4, none⟩ = some (.int .i64 b1) from fun W h => ⟨(h.cell (p := ⟨w.heap.size, 0, none⟩) (by show w.heap.size < A.heap.size; omega)).trans k0, (h.cell (p := ⟨w.heap.size, 1, none⟩) (by show w.heap.size < A.heap.size; omega)).trans k1, (h.cell (p := ⟨w.heap.size, 2, none⟩) (by show w.heap.size < A.heap.size; omega)).trans k2, (h.cell (p := ⟨w.heap.size, 3, none⟩) (by show w.heap.size < A.heap.size; omega)).trans k3, (h.cell (p := ⟨w.heap.size, 4, none⟩) (by show w.heap.size < A.heap.size; omega)).trans k4⟩)
  have HEND := Lib.hid (show ∀ W v0 v1, Below A.heap.size A W → Below w.heap.size w ((W.setCell ⟨w.heap.size + 1, 0, none⟩ v0).setCell ⟨w.heap.size + 1, 1, none⟩ v1) from fun W v0 v1 h =>
    ((HBA.out.trans (h.mono HBA.out.size)).setCell (p := ⟨w.heap.size + 1, 0, none⟩) (by show w.heap.size ≤ w.heap.size + 1; omega) _).setCell (p := ⟨w.heap.size + 1, 1, none⟩) (by show w.heap.size ≤ w.heap.size + 1; omega) _)
  clear hRA hzA
  by_cases hf : fitB kd v0 v1 b0 b1 = true
  rotate_left
  · rw [show dsS kd v0 v1 b0 b1 = ⟨0, 0, 2⟩ from if_neg hf]
    rw [Bool.not_eq_true] at hf
    rw [hf] at c1
    clear hf
    go_enter Try.func44, Try.ntmps44
    go_upto_region 1 with fail
    try rw [← hA]
    clear hA
    generalize hB1 : w.heap.size + 1 = B1 at *
    clear hB1
    go_wp2_with fail
    refine (c1 _).mono ?_
    rintro e w1 ⟨rfl, hb⟩
    have HB1 := Lib.hid hb
    clear hb k0 k1 k2 k3 k4
    obtain ⟨k0, k1, k2, k3, k4⟩ := KK.out _ HB1.out
    obtain ⟨x0, x1⟩ := And.intro (HRA.out.keep HB1.out).c0 (HRA.out.keep HB1.out).c1
    obtain ⟨f0, f1⟩ := And.intro ((HRA.out.keep HB1.out).f0 0) ((HRA.out.keep HB1.out).f0 1)
    go_wp2_with fail
    refine bodyPost_ret (v := .tuple #[.agg #[.int .i64 0, .int .i64 0], .int .i64 2]) (by simp [results, Try.results44, go_sem, ((HRA.out.keep HB1.out).set (.int .i64 0) (.int .i64 0)).c0, ((HRA.out.keep HB1.out).set (.int .i64 0) (.int .i64 0)).c1]) rfl ⟨rfl, HEND.out _ _ _ HB1.out⟩
  rw [show dsS kd v0 v1 b0 b1 = fit (dsQ kd v0 v1 b0 b1).1 (dsQ kd v0 v1 b0 b1).2 from if_pos hf]
  have c2 := fun W => mdist_all hf W
  rw [hf] at c1
  clear hf
  generalize (dsQ kd v0 v1 b0 b1).1 = q1 at *
  generalize (dsQ kd v0 v1 b0 b1).2 = q2 at *
  by_cases hv : vB q1 q2 = true
  · rw [show fit q1 q2 = ⟨q1, q2, 0⟩ from if_pos hv]
    have c3 := fun W => check_ok q1 q2 hv W
    clear hv
    go_enter Try.func44, Try.ntmps44
    go_upto_region 1 with fail
    try rw [← hA]
    clear hA
    generalize hB1 : w.heap.size + 1 = B1 at *
    clear hB1
    go_wp2_with fail
    refine (c1 _).mono ?_
    rintro e w1 ⟨rfl, hb⟩
    have HB1 := Lib.hid hb
    clear hb k0 k1 k2 k3 k4
    obtain ⟨k0, k1, k2, k3, k4⟩ := KK.out _ HB1.out
    go_wp2_with fail
    refine (c2 _).mono ?_
    rintro e w2 ⟨rfl, hb⟩
    have HB2 := Lib.hid (HB1.out.trans (hb.mono HB1.out.size))
    obtain ⟨V, hV⟩ : ∃ V, V = w2.alloc (.cells #[.int .i64 q1, .int .i64 q2] 23) := ⟨_, rfl⟩
    have hbV : Below w2.heap.size w2 V := by rw [hV]; exact (Below.refl _ _).alloc (Nat.le_refl _) _
    have hXV : V.heap[w2.heap.size]? = some (.cells #[.int .i64 q1, .int .i64 q2] 23 (0, 0)) := by rw [hV]; exact World.alloc_heap_new _ _
    have HX := Lib.hid hXV
    have HBV := Lib.hid (HB2.out.trans (hbV.mono HB2.out.size))
    have y0 := cellHB hXV 0
    have y1 := cellHB hXV 1
    have hlt : B1 < w2.heap.size := by have h1 := HB2.out.size; have h2 := HRA.out.lt; omega
    have hne : ¬ w2.heap.size = B1 := by omega
    clear hb hbV hXV hlt k0 k1 k2 k3 k4
    go_upto_region 4 with fail
    rw [← hV]
    clear hV
    go_wp2_with fail
    refine (c3 _).mono ?_
    rintro e w3 ⟨rfl, hb⟩
    have HB3 := Lib.hid (HBV.out.trans (hb.mono HBV.out.size))
    have hX3 := (hb.block _ (Array.getElem?_eq_some_iff.1 HX.out).1).trans HX.out
    clear y0 y1
    have y0 := cellHB hX3 0
    have y1 := cellHB hX3 1
    clear hb hX3
    obtain ⟨x0, x1⟩ := And.intro (HRA.out.keep HB3.out).c0 (HRA.out.keep HB3.out).c1
    obtain ⟨f0, f1⟩ := And.intro ((HRA.out.keep HB3.out).f0 0) ((HRA.out.keep HB3.out).f0 1)
    go_wp2_with fail
    refine bodyPost_ret (v := .tuple #[.agg #[.int .i64 q1, .int .i64 q2], .int .i64 0]) (by simp [results, Try.results44, go_sem, ((HRA.out.keep HB3.out).set (.int .i64 q1) (.int .i64 q2)).c0, ((HRA.out.keep HB3.out).set (.int .i64 q1) (.int .i64 q2)).c1]) rfl ⟨rfl, HEND.out _ _ _ HB3.out⟩
  · rw [show fit q1 q2 = ⟨0, 0, 4⟩ from if_neg hv]
    have c3 := fun W => check_bad q1 q2 hv W
    clear hv
    go_enter Try.func44, Try.ntmps44
    go_upto_region 1 with fail
    try rw [← hA]
    clear hA
    generalize hB1 : w.heap.size + 1 = B1 at *
    clear hB1
    go_wp2_with fail
    refine (c1 _).mono ?_
    rintro e w1 ⟨rfl, hb⟩
    have HB1 := Lib.hid hb
    clear hb k0 k1 k2 k3 k4
    obtain ⟨k0, k1, k2, k3, k4⟩ := KK.out _ HB1.out
    go_wp2_with fail
    refine (c2 _).mono ?_
    rintro e w2 ⟨rfl, hb⟩
    have HB2 := Lib.hid (HB1.out.trans (hb.mono HB1.out.size))
    obtain ⟨V, hV⟩ : ∃ V, V = w2.alloc (.cells #[.int .i64 q1, .int .i64 q2] 23) := ⟨_, rfl⟩
    have hbV : Below w2.heap.size w2 V := by rw [hV]; exact (Below.refl _ _).alloc (Nat.le_refl _) _
    have hXV : V.heap[w2.heap.size]? = some (.cells #[.int .i64 q1, .int .i64 q2] 23 (0, 0)) := by rw [hV]; exact World.alloc_heap_new _ _
    have HX := Lib.hid hXV
    have HBV := Lib.hid (HB2.out.trans (hbV.mono HB2.out.size))
    have y0 := cellHB hXV 0
    have y1 := cellHB hXV 1
    have hlt : B1 < w2.heap.size := by have h1 := HB2.out.size; have h2 := HRA.out.lt; omega
    have hne : ¬ w2.heap.size = B1 := by omega
    clear hb hbV hXV hlt k0 k1 k2 k3 k4
    go_upto_region 4 with fail
    rw [← hV]
    clear hV
    go_wp2_with fail
    refine (c3 _).mono ?_
    rintro e w3 ⟨rfl, hb⟩
    have HB3 := Lib.hid (HBV.out.trans (hb.mono HBV.out.size))
    have hX3 := (hb.block _ (Array.getElem?_eq_some_iff.1 HX.out).1).trans HX.out
    clear y0 y1
    have y0 := cellHB hX3 0
    have y1 := cellHB hX3 1
    clear hb hX3
    obtain ⟨x0, x1⟩ := And.intro (HRA.out.keep HB3.out).c0 (HRA.out.keep HB3.out).c1
    obtain ⟨f0, f1⟩ := And.intro ((HRA.out.keep HB3.out).f0 0) ((HRA.out.keep HB3.out).f0 1)
    go_wp2_with fail
    refine bodyPost_ret (v := .tuple #[.agg #[.int .i64 0, .int .i64 0], .int .i64 4]) (by simp [results, Try.results44, go_sem, ((HRA.out.keep HB3.out).set (.int .i64 0) (.int .i64 0)).c0, ((HRA.out.keep HB3.out).set (.int .i64 0) (.int .i64 0)).c1]) rfl ⟨rfl, HEND.out _ _ _ HB3.out⟩
end
end Go.Proofs.Ytdohfpnnmppdkaa

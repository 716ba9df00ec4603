/-
  Cable: the place of a fault by one echo.
-/
import Derived.Test.YtcchmjbedppfnaaEcC
import Derived.Test.YtcchmjbedppfnaaHtE
namespace Go.Proofs.Ytcchmjbedppfnaa
open Go.RowKit Go.Shelf
set_option linter.unusedSimpArgs false
section
set_option maxRecDepth 100000
set_option maxHeartbeats 4000000
theorem locate69 (b c : Nat) (v0 v1 b0 b1 : Int) (h1 : 0 ≤ v0) (h2 : v0 ≤ v1) (h3 : v1 ≤ 67108864) (h4 : 1 ≤ b0) (h5 : b0 ≤ b1) (h6 : b1 ≤ 300000) (w : World) (hbl : b < w.heap.size)
    (k0 : w.cell? ⟨b, 0, none⟩ = some (.int .i64 2)) (k1 : w.cell? ⟨b, 1, none⟩ = some (.int .i64 v0)) (k2 : w.cell? ⟨b, 2, none⟩ = some (.int .i64 v1)) (k3 : w.cell? ⟨b, 3, none⟩ = some (.int .i64 b0)) (k4 : w.cell? ⟨b, 4, none⟩ = some (.int .i64 b1)) :
    Calls Try.prog 69 #[.slice (some ⟨b, 0, none⟩) 1 c] w fun e w' => e = .returned (.tuple #[.agg #[.int .i64 (v0 * b0 / 2000000), .int .i64 ((v1 * b1 + 1999999) / 2000000)], .int .i64 0]) ∧ Below w.heap.size w w' := by
  have c1 := fun W => dist129 v0 v1 b0 b1 h1 h2 h3 h4 h5 h6 W
  clear h1 h2 h3 h4 h5 h6
  generalize v0 * b0 / 2000000 = q1 at *
  generalize (v1 * b1 + 1999999) / 2000000 = q2 at *
  have c2 := Lib.hid (fun b off c W h0 h1 x y => common130 b off c q1 q2 W h0 h1 x y)
  obtain ⟨i0, hi0, hz0, hz1, hz2⟩ := info_parts infoS
  obtain ⟨A, hA⟩ : ∃ A, A = w.alloc (.cells #[.int .i64 0, .int .i64 0] 23) := ⟨_, rfl⟩
  have hzA : A.heap.size = w.heap.size + 1 := by rw [hA]; simp
  have HBA := Lib.hid (show Below w.heap.size w A by rw [hA]; exact (Below.refl _ _).alloc (Nat.le_refl _) _)
  have hRA : Bx2 A w.heap.size (.int .i64 0) (.int .i64 0) := by rw [hA]; exact Bx2.new _ _ _
  have HKR := Lib.hid (show ∀ W, Below A.heap.size A W → Bx2 W w.heap.size (.int .i64 0) (.int .i64 0) from fun W h => hRA.keep h)
  replace k0 := (HBA.out.cell (p := ⟨b, 0, none⟩) hbl).trans k0
  replace k1 := (HBA.out.cell (p := ⟨b, 1, none⟩) hbl).trans k1
  replace k2 := (HBA.out.cell (p := ⟨b, 2, none⟩) hbl).trans k2
  replace k3 := (HBA.out.cell (p := ⟨b, 3, none⟩) hbl).trans k3
  replace k4 := (HBA.out.cell (p := ⟨b, 4, none⟩) hbl).trans k4
  have KB := Lib.hid (show ∀ W, Below A.heap.size A W → W.cell? ⟨b, 0, none⟩ = some (.int .i64 2) ∧ W.cell? ⟨b, 1, none⟩ = some (.int .i64 v0) ∧ W.cell? ⟨b, 2, none⟩ = some (.int .i64 v1) ∧ W.cell? ⟨b, 3, none⟩ = some (.int .i64 b0) ∧ W.cell? ⟨b, 4, none⟩ = some (.int .i64 b1) from fun W h => ⟨(h.cell (p := ⟨b, 0, none⟩) (by show b < A.heap.size; omega)).trans k0, (h.cell (p := ⟨b, 1, none⟩) (by show b < A.heap.size; omega)).trans k1, (h.cell (p := ⟨b, 2, none⟩) (by show b < A.heap.size; omega)).trans k2, (h.cell (p := ⟨b, 3, none⟩) (by show b < A.heap.size; omega)).trans k3, (h.cell (p := ⟨b, 4, none⟩) (by show b < A.heap.size; omega)).trans k4⟩)
  have HEND := Lib.hid (show ∀ W v0 v1, Below A.heap.size A W → Below w.heap.size w ((W.setCell ⟨w.heap.size, 0, none⟩ v0).setCell ⟨w.heap.size, 1, none⟩ v1) from fun W v0 v1 h =>
    ((HBA.out.trans (h.mono HBA.out.size)).setCell (p := ⟨w.heap.size, 0, none⟩) (Nat.le_refl _) _).setCell (p := ⟨w.heap.size, 1, none⟩) (Nat.le_refl _) _)
  clear hzA hRA k0 k1 k2 k3 k4
  go_enter Try.func69, Try.ntmps69
  go_upto_region 1 with fail
  try rw [← hA]
  clear hA
  go_wp2_with fail
  go_loopw [4, 19] (fun dv iv wr => (iv = .int .i64 0 ∧ dv = .slice none 0 0 ∧ Below A.heap.size A wr) ∨ (iv = .int .i64 1 ∧ wr.ownsRow A.heap.size 23 2 dv 1 [.int .i64 q1, .int .i64 q2] ∧ Below A.heap.size A wr)) (fun _ iv _ => 1 - (intOf iv).toNat)
  case atStart => exact .inl ⟨rfl, rfl, Below.refl _ _⟩
  case round =>
    rcases hrel with ⟨rfl, rfl, hB⟩ | ⟨rfl, hrow, hB⟩
    · have HB := Lib.hid hB
      obtain ⟨m0, m1, m2, m3, m4⟩ := KB.out _ hB
      clear hB
      go_upto_region 9 with fail
      obtain ⟨V, hV⟩ : ∃ V, V = wr.alloc (.cells #[.int .i64 2, .int .i64 v0, .int .i64 v1, .int .i64 b0, .int .i64 b1] 113) := ⟨_, rfl⟩
      try rw [← hV]
      have HV := Lib.hid (show Below A.heap.size A V by rw [hV]; exact HB.out.alloc HB.out.size _)
      have e0 : V.cell? ⟨wr.heap.size, 0, none⟩ = some (.int .i64 2) := by rw [hV]; simp [go_sem]
      have e1 : V.cell? ⟨wr.heap.size, 1, none⟩ = some (.int .i64 v0) := by rw [hV]; simp [go_sem]
      have e2 : V.cell? ⟨wr.heap.size, 2, none⟩ = some (.int .i64 v1) := by rw [hV]; simp [go_sem]
      have e3 : V.cell? ⟨wr.heap.size, 3, none⟩ = some (.int .i64 b0) := by rw [hV]; simp [go_sem]
      have e4 : V.cell? ⟨wr.heap.size, 4, none⟩ = some (.int .i64 b1) := by rw [hV]; simp [go_sem]
      clear hV m0 m1 m2 m3 m4
      generalize wr.heap.size = B6 at *
      go_wp2_with fail
      refine (c1 _).mono ?_
      rintro e w2 ⟨rfl, hb⟩
      have HB2 := Lib.hid (HV.out.trans (hb.mono HV.out.size))
      clear hb e0 e1 e2 e3 e4
      go_upto_region 10 with fail
      obtain ⟨V2, hV2⟩ : ∃ V2, V2 = w2.alloc (.cells #[.int .i64 q1, .int .i64 q2] 23) := ⟨_, rfl⟩
      try rw [← hV2]
      have HV2 := Lib.hid (show Below A.heap.size A V2 by rw [hV2]; exact HB2.out.alloc HB2.out.size _)
      have kx : Bx2 V2 w2.heap.size (.int .i64 q1) (.int .i64 q2) := by rw [hV2]; exact Bx2.new _ _ _
      clear hV2
      generalize w2.heap.size = B7 at *
      have d0 := kx.c0
      have d1 := kx.c1
      have HROW := Lib.hid (World.ownsRow_nil (V2.alloc (.cells #[.int .i64 q1, .int .i64 q2] 23)) A.heap.size 23 2)
      have HB3 := Lib.hid (HV2.out.alloc HV2.out.size (.cells #[.int .i64 q1, .int .i64 q2] 23))
      go_upto_region 12 with fail
      iterate 10 go_step
      have hzz := HV2.out.size
      refine wpList_append_own _ rfl _ _ 50 rfl A.heap.size 23 i0 (.agg #[.int .i64 0, .int .i64 0]) 2 16 Try.underlying50 hi0 hz0 hz1 hz2 rfl (by decide) _ _ _ rfl HROW.out ⟨V2.heap.size, 0, none⟩ 1 1 [.int .i64 q1, .int .i64 q2] rfl rfl (two_newS _ _ _) (by simp [Value.oneCell']) (by unfold maxLen; omega) (by omega) (by simp; omega) ?_
      intro v' w5 hrow' hgrow _
      have HG := Lib.hid hgrow
      have HROW5 := Lib.hid (show w5.ownsRow A.heap.size 23 2 v' 1 [.int .i64 q1, .int .i64 q2] by simpa using hrow')
      obtain ⟨a6, c6, rfl⟩ := own_form HROW5.out
      clear hrow' hgrow
      have HB5 := Lib.hid (HB3.out.grown HG.out (by simp; omega) (fun j hj => (HROW.out.lt j hj).1))
      go_wp2_with fail
      go_roundw
      case rel => exact .inr ⟨rfl, HROW5.out, HB5.out⟩
      case measure => simp [intOf]
    · obtain ⟨a0, c0, rfl⟩ := own_form hrow
      have hsp : Sps wr.heap.size wr (.slice a0 1 c0) [(q1, q2)] := sps_of_owns (t := 23) (base := A.heap.size) hrow
      obtain ⟨a1, cc, e1, hl, hc⟩ := hsp
      obtain ⟨b2, off2, h1, h2, e2, e3⟩ := hc 0 (by simp)
      simp only [Value.slice.injEq] at e1
      obtain ⟨rfl, -, rfl⟩ := e1
      subst h1
      have HB := Lib.hid hB
      have C2 := Lib.hid (c2.out b2 off2 c0 wr h2 (by simpa using hl) (by simpa [sp] using e2) (by simpa [sp] using e3))
      clear hB hrow hc hl e2 e3 h2
      go_wp2_with fail
      refine C2.out.mono ?_
      rintro e w9 ⟨rfl, hb⟩
      have HB9 := Lib.hid (HB.out.trans (hb.mono HB.out.size))
      obtain ⟨x0, x1⟩ := And.intro (HKR.out _ HB9.out).c0 (HKR.out _ HB9.out).c1
      obtain ⟨f0, f1⟩ := And.intro ((HKR.out _ HB9.out).f0 0) ((HKR.out _ HB9.out).f0 1)
      clear hb
      go_wp2_with fail
      refine bodyPost_ret (v := .tuple #[.agg #[.int .i64 q1, .int .i64 q2], .int .i64 0]) (by simp [results, Try.results69, go_sem, ((HKR.out _ HB9.out).set (.int .i64 q1) (.int .i64 q2)).c0, ((HKR.out _ HB9.out).set (.int .i64 q1) (.int .i64 q2)).c1]) rfl ⟨rfl, HEND.out _ _ _ HB9.out⟩
end
end Go.Proofs.Ytcchmjbedppfnaa

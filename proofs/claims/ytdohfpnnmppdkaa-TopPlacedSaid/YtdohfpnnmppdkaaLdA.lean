/-
  Cables: what a probe measures.
-/
import Derived.Test.YtdohfpnnmppdkaaLcC
namespace Go.Proofs.Ytdohfpnnmppdkaa
open Go.RowKit Go.Shelf
set_option linter.unusedSimpArgs false
open Go.RowKit Go.Shelf
set_option linter.unusedSimpArgs false
attribute [local go_sem] Oper.semAt_some
theorem set52 {W : World} {b : Nat} {x0 x1 x2 x3 x4 : Value} {t : TypeId} (h : W.heap[b]? = some (.cells #[x0, x1, x2, x3, x4] t (0, 0))) (u v : Value) : ((W.setCell ⟨b, 1, none⟩ u).setCell ⟨b, 2, none⟩ v).heap[b]? = some (.cells #[x0, u, v, x3, x4] t (0, 0)) := by
  simp [World.setCell, Array.getElem?_modify, h]
theorem set54 {W : World} {b : Nat} {x0 x1 x2 x3 x4 : Value} {t : TypeId} (h : W.heap[b]? = some (.cells #[x0, x1, x2, x3, x4] t (0, 0))) (u v : Value) : ((W.setCell ⟨b, 3, none⟩ u).setCell ⟨b, 4, none⟩ v).heap[b]? = some (.cells #[x0, x1, x2, u, v] t (0, 0)) := by
  simp [World.setCell, Array.getElem?_modify, h]
theorem set55 {W : World} {b : Nat} {x0 x1 x2 x3 x4 : Value} {t : TypeId} (h : W.heap[b]? = some (.cells #[x0, x1, x2, x3, x4] t (0, 0))) (a0 a1 a2 a3 a4 : Value) : (((((W.setCell ⟨b, 0, none⟩ a0).setCell ⟨b, 1, none⟩ a1).setCell ⟨b, 2, none⟩ a2).setCell ⟨b, 3, none⟩ a3).setCell ⟨b, 4, none⟩ a4).heap[b]? = some (.cells #[a0, a1, a2, a3, a4] t (0, 0)) := by
  simp [World.setCell, Array.getElem?_modify, h]
theorem setOther {W : World} {b c o : Nat} {x : Obj} (h : W.heap[b]? = some x) (hn : b ≠ c) (u : Value) : (W.setCell ⟨c, o, none⟩ u).heap[b]? = some x := by
  exact (Below.heap_setCell W ⟨c, o, none⟩ u b hn).trans h
theorem allocKeep {W : World} {b : Nat} {x : Obj} (h : W.heap[b]? = some x) (o : Obj) : (W.alloc o).heap[b]? = some x := by
  have hb := (Array.getElem?_eq_some_iff.1 h).1
  exact (Below.heap_alloc W o b hb).trans h
set_option maxRecDepth 100000 in
set_option maxHeartbeats 8000000 in
theorem measure0 (kd p e0 e1 e2 e3 m : Int) (hk : 0 ≤ kd ∧ kd ≤ 255) (hp : 0 ≤ p ∧ p ≤ 65535) (h0 : 0 ≤ e0 ∧ e0 ≤ 65535) (h1 : 0 ≤ e1 ∧ e1 ≤ 65535) (h2 : 0 ≤ e2 ∧ e2 ≤ 65535) (h3 : 0 ≤ e3 ∧ e3 ≤ 65535) (hm : 0 ≤ m ∧ m ≤ 1000) (hc : kd % 3 = 0) (w : World) :
    Calls Try.prog 61 #[.agg #[.int .u8 kd, .int .u16 p, .int .u16 e0, .int .u16 e1, .int .u16 e2, .int .u16 e3], .int .i64 m] w fun e w' => e = .returned (.agg #[.int .i64 (prMs kd p e0 e1 e2 e3 m).kd, .int .i64 (prMs kd p e0 e1 e2 e3 m).v0, .int .i64 (prMs kd p e0 e1 e2 e3 m).v1, .int .i64 (prMs kd p e0 e1 e2 e3 m).b0, .int .i64 (prMs kd p e0 e1 e2 e3 m).b1]) ∧ Below w.heap.size w w' := by
  have hr : kd.tmod 3 = 0 := by rw [Int.tmod_eq_emod_of_nonneg hk.1]; exact hc
  have HEQ := Lib.hid (show ∀ V Y : Int, prVal kd p m = V → prBy kd p m = Y → prMs kd p e0 e1 e2 e3 m = ⟨1, max 0 (V - e0), V + e1, max 1 (Y - e2), Y + e3⟩ from fun V Y hV hY => by
    unfold prMs
    rw [hV, hY, show prK kd = 1 by unfold prK; omega, show prLe kd = 1 by unfold prLe; first | rw [if_pos (by omega)] | rw [if_neg (by omega)]])
  obtain ⟨q, hq⟩ : ∃ q, q = p % 16 := ⟨_, rfl⟩
  have hq1 : p.tmod 16 = q := by rw [Int.tmod_eq_emod_of_nonneg hp.1, hq]
  have hq2 : 0 ≤ q ∧ q ≤ 15 := by omega
  obtain ⟨Y, hY⟩ : ∃ Y, Y = 1000 * (1 + q) := ⟨_, rfl⟩
  obtain ⟨M, hM⟩ : ∃ M, M = m * Y := ⟨_, rfl⟩
  obtain ⟨V, hV⟩ : ∃ V, V = M / 1000 := ⟨_, rfl⟩
  have HY := Lib.hid (show prBy kd p m = Y by unfold prBy; rw [if_pos hc, hY, hq])
  have HV := Lib.hid (show prVal kd p m = V by unfold prVal; rw [if_pos hc, HY.out, hV, hM])
  have hMb : 0 ≤ M ∧ M ≤ 16000000 := by
    rw [hM]
    have a := Int.mul_le_mul hm.2 (show Y ≤ 16000 by omega) (by omega) (by omega)
    have b := Int.mul_nonneg hm.1 (show 0 ≤ Y by omega)
    omega
  have HYE := Lib.hid hY.symm
  have hw1 : wrap64 (m * Y) = M := by rw [← hM]; unfold wrap64; omega
  have hw2 : M.tdiv 1000 = V := by rw [Int.tdiv_eq_ediv_of_nonneg hMb.1, hV]
  have hVb : 0 ≤ V ∧ V ≤ 16000 := by omega
  have hYb : 0 ≤ Y ∧ Y ≤ 16000 := by omega
  have hw3 : wrap64 V = V := by unfold wrap64; omega
  clear hq hY hM hV
  have HRES := Lib.hid (HEQ.out V Y HV.out HY.out)
  clear HEQ HV HY hc
  generalize prMs kd p e0 e1 e2 e3 m = R at *
  obtain ⟨A, hA⟩ : ∃ A, A = (w.alloc (.cells #[.int .u8 kd, .int .u16 p, .int .u16 e0, .int .u16 e1, .int .u16 e2, .int .u16 e3] 83)).alloc (.cells #[.int .i64 0, .int .i64 0, .int .i64 0, .int .i64 0, .int .i64 0] 52) := ⟨_, rfl⟩
  have HP := Lib.hid (show A.heap[w.heap.size]? = some (.cells #[.int .u8 kd, .int .u16 p, .int .u16 e0, .int .u16 e1, .int .u16 e2, .int .u16 e3] 83 (0, 0)) by rw [hA]; exact allocKeep (World.alloc_heap_new _ _) _)
  have HZ := Lib.hid (show A.heap[w.heap.size + 1]? = some (.cells #[.int .i64 0, .int .i64 0, .int .i64 0, .int .i64 0, .int .i64 0] 52 (0, 0)) by rw [hA]; have q := World.alloc_heap_new (w.alloc (.cells #[.int .u8 kd, .int .u16 p, .int .u16 e0, .int .u16 e1, .int .u16 e2, .int .u16 e3] 83)) (.cells #[.int .i64 0, .int .i64 0, .int .i64 0, .int .i64 0, .int .i64 0] 52); simpa using q)
  have HB := Lib.hid (show Below w.heap.size w A by rw [hA]; exact ((Below.refl _ _).alloc (Nat.le_refl _) _).alloc (by simp) _)
  have HSZ := Lib.hid (show A.heap.size = w.heap.size + 2 by rw [hA]; simp)
  have c0 := cellH HP.out 0
  have c1 := cellH HP.out 1
  go_enter Try.func61, Try.ntmps61
  go_upto_region 1 with fail
  rw [← hA]
  clear hA
  obtain ⟨V1, hV1⟩ : ∃ V1, V1 = A.alloc (.cells #[.int .i64 1, .int .i64 0, .int .i64 0, .int .i64 0, .int .i64 0] 52) := ⟨_, rfl⟩
  have HP1 := Lib.hid (show V1.heap[w.heap.size]? = some (.cells #[.int .u8 kd, .int .u16 p, .int .u16 e0, .int .u16 e1, .int .u16 e2, .int .u16 e3] 83 (0, 0)) by rw [hV1]; exact allocKeep HP.out _)
  have HZ1 := Lib.hid (show V1.heap[w.heap.size + 1]? = some (.cells #[.int .i64 0, .int .i64 0, .int .i64 0, .int .i64 0, .int .i64 0] 52 (0, 0)) by rw [hV1]; exact allocKeep HZ.out _)
  have HX1 := Lib.hid (show V1.heap[A.heap.size]? = some (.cells #[.int .i64 1, .int .i64 0, .int .i64 0, .int .i64 0, .int .i64 0] 52 (0, 0)) by rw [hV1]; exact World.alloc_heap_new _ _)
  have HB1 := Lib.hid (show Below w.heap.size w V1 by rw [hV1]; exact HB.out.alloc HB.out.size _)
  have HS1 := Lib.hid (show V1.heap.size = w.heap.size + 3 by rw [hV1]; simp; have := HSZ.out; omega)
  go_upto_region 3 with fail
  try rw [← hV1]
  clear hV1 HP HZ HB c0 c1
  generalize A.heap.size = Q1 at *
  have c2 := cellH HP1.out 2
  have c3 := cellH HP1.out 3
  have c4 := cellH HP1.out 4
  have c5 := cellH HP1.out 5
  obtain ⟨V2, hV2⟩ : ∃ V2, V2 = V1.alloc (.cells #[.int .i64 e0, .int .i64 e1, .int .i64 e2, .int .i64 e3] 159) := ⟨_, rfl⟩
  have HP2 := Lib.hid (show V2.heap[w.heap.size]? = some (.cells #[.int .u8 kd, .int .u16 p, .int .u16 e0, .int .u16 e1, .int .u16 e2, .int .u16 e3] 83 (0, 0)) by rw [hV2]; exact allocKeep HP1.out _)
  have HZ2 := Lib.hid (show V2.heap[w.heap.size + 1]? = some (.cells #[.int .i64 0, .int .i64 0, .int .i64 0, .int .i64 0, .int .i64 0] 52 (0, 0)) by rw [hV2]; exact allocKeep HZ1.out _)
  have HX2 := Lib.hid (show V2.heap[Q1]? = some (.cells #[.int .i64 1, .int .i64 0, .int .i64 0, .int .i64 0, .int .i64 0] 52 (0, 0)) by rw [hV2]; exact allocKeep HX1.out _)
  have HE2 := Lib.hid (show V2.heap[V1.heap.size]? = some (.cells #[.int .i64 e0, .int .i64 e1, .int .i64 e2, .int .i64 e3] 159 (0, 0)) by rw [hV2]; exact World.alloc_heap_new _ _)
  have HB2 := Lib.hid (show Below w.heap.size w V2 by rw [hV2]; exact HB1.out.alloc HB1.out.size _)
  go_upto_region 4 with fail
  try rw [← hV2]
  clear hV2 HP1 HZ1 HX1 HB1 c2 c3 c4 c5
  generalize V1.heap.size = Q2 at *
  have c1 := cellH HP2.out 1
  have x0 := cellH HX2.out 0
  go_upto_region 12 with fail
  rw [HYE.out]
  go_upto_region 16 with fail
  clear c1 x0
  have HQ1 : Q1 = w.heap.size + 2 := HSZ.out
  have HQ2 : Q2 = w.heap.size + 3 := HS1.out
  have hn1 : Q2 ≠ Q1 := by omega
  have hn2 : w.heap.size + 1 ≠ Q1 := by omega
  have hge : w.heap.size ≤ Q1 := by omega
  clear HQ1 HQ2 HSZ HS1
  have y0 := cellH HE2.out 0
  have y1 := cellH HE2.out 1
  have x1 := cellH HX2.out 1
  have x2 := cellH HX2.out 2
  have xf1 := frozH HX2.out 1
  have xf2 := frozH HX2.out 2
  obtain ⟨W1, hW1⟩ : ∃ W1, W1 = (V2.setCell ⟨Q1, 1, none⟩ (.int .i64 (max 0 (V - e0)))).setCell ⟨Q1, 2, none⟩ (.int .i64 (V + e1)) := ⟨_, rfl⟩
  have HX3 := Lib.hid (show W1.heap[Q1]? = some (.cells #[.int .i64 1, .int .i64 (max 0 (V - e0)), .int .i64 (V + e1), .int .i64 0, .int .i64 0] 52 (0, 0)) by rw [hW1]; exact set52 HX2.out (.int .i64 (max 0 (V - e0))) (.int .i64 (V + e1)))
  have HE3 := Lib.hid (show W1.heap[Q2]? = some (.cells #[.int .i64 e0, .int .i64 e1, .int .i64 e2, .int .i64 e3] 159 (0, 0)) by rw [hW1]; exact setOther (setOther HE2.out hn1 _) hn1 _)
  have HZ3 := Lib.hid (show W1.heap[w.heap.size + 1]? = some (.cells #[.int .i64 0, .int .i64 0, .int .i64 0, .int .i64 0, .int .i64 0] 52 (0, 0)) by rw [hW1]; exact setOther (setOther HZ2.out hn2 _) hn2 _)
  have HB3 := Lib.hid (show Below w.heap.size w W1 by rw [hW1]; exact (HB2.out.setCell (p := ⟨Q1, 1, none⟩) hge _).setCell (p := ⟨Q1, 2, none⟩) hge _)
  go_upto_region 17 with fail
  try rw [← hW1]
  clear hW1 HX2 HE2 HZ2 HB2 HP2 y0 y1 x1 x2 xf1 xf2
  have y2 := cellH HE3.out 2
  have y3 := cellH HE3.out 3
  have x3 := cellH HX3.out 3
  have x4 := cellH HX3.out 4
  have xf3 := frozH HX3.out 3
  have xf4 := frozH HX3.out 4
  obtain ⟨W2, hW2⟩ : ∃ W2, W2 = (W1.setCell ⟨Q1, 3, none⟩ (.int .i64 (max 1 (Y - e2)))).setCell ⟨Q1, 4, none⟩ (.int .i64 (Y + e3)) := ⟨_, rfl⟩
  have HX4 := Lib.hid (show W2.heap[Q1]? = some (.cells #[.int .i64 1, .int .i64 (max 0 (V - e0)), .int .i64 (V + e1), .int .i64 (max 1 (Y - e2)), .int .i64 (Y + e3)] 52 (0, 0)) by rw [hW2]; exact set54 HX3.out (.int .i64 (max 1 (Y - e2))) (.int .i64 (Y + e3)))
  have HZ4 := Lib.hid (show W2.heap[w.heap.size + 1]? = some (.cells #[.int .i64 0, .int .i64 0, .int .i64 0, .int .i64 0, .int .i64 0] 52 (0, 0)) by rw [hW2]; exact setOther (setOther HZ3.out hn2 _) hn2 _)
  have HB4 := Lib.hid (show Below w.heap.size w W2 by rw [hW2]; exact (HB3.out.setCell (p := ⟨Q1, 3, none⟩) hge _).setCell (p := ⟨Q1, 4, none⟩) hge _)
  go_upto_region 18 with fail
  try rw [← hW2]
  clear hW2 HX3 HE3 HZ3 HB3 y2 y3 x3 x4 xf3 xf4 hn1 hn2 hge
  have x0 := cellH HX4.out 0
  have x1 := cellH HX4.out 1
  have x2 := cellH HX4.out 2
  have x3 := cellH HX4.out 3
  have x4 := cellH HX4.out 4
  have z0 := cellH HZ4.out 0
  have z1 := cellH HZ4.out 1
  have z2 := cellH HZ4.out 2
  have z3 := cellH HZ4.out 3
  have z4 := cellH HZ4.out 4
  have zf0 := frozH HZ4.out 0
  have zf1 := frozH HZ4.out 1
  have zf2 := frozH HZ4.out 2
  have zf3 := frozH HZ4.out 3
  have zf4 := frozH HZ4.out 4
  generalize max 0 (V - e0) = a0 at *
  generalize V + e1 = a1 at *
  generalize max 1 (Y - e2) = a2 at *
  generalize Y + e3 = a3 at *
  have HF := Lib.hid (set55 HZ4.out (.int .i64 1) (.int .i64 a0) (.int .i64 a1) (.int .i64 a2) (.int .i64 a3))
  go_wp2_with fail
  refine bodyPost_ret (v := .agg #[.int .i64 1, .int .i64 a0, .int .i64 a1, .int .i64 a2, .int .i64 a3]) (by simp [results, Try.results61, go_sem, cellH HF.out 0, cellH HF.out 1, cellH HF.out 2, cellH HF.out 3, cellH HF.out 4]) rfl ⟨by rw [HRES.out], (((((HB4.out.setCell (p := ⟨w.heap.size + 1, 0, none⟩) (Nat.le_succ _) _).setCell (p := ⟨w.heap.size + 1, 1, none⟩) (Nat.le_succ _) _).setCell (p := ⟨w.heap.size + 1, 2, none⟩) (Nat.le_succ _) _).setCell (p := ⟨w.heap.size + 1, 3, none⟩) (Nat.le_succ _) _).setCell (p := ⟨w.heap.size + 1, 4, none⟩) (Nat.le_succ _) _)⟩
set_option maxRecDepth 100000 in
set_option maxHeartbeats 8000000 in
theorem measure1 (kd p e0 e1 e2 e3 m : Int) (hk : 0 ≤ kd ∧ kd ≤ 255) (hp : 0 ≤ p ∧ p ≤ 65535) (h0 : 0 ≤ e0 ∧ e0 ≤ 65535) (h1 : 0 ≤ e1 ∧ e1 ≤ 65535) (h2 : 0 ≤ e2 ∧ e2 ≤ 65535) (h3 : 0 ≤ e3 ∧ e3 ≤ 65535) (hm : 0 ≤ m ∧ m ≤ 1000) (hc : kd % 3 = 1) (w : World) :
    Calls Try.prog 61 #[.agg #[.int .u8 kd, .int .u16 p, .int .u16 e0, .int .u16 e1, .int .u16 e2, .int .u16 e3], .int .i64 m] w fun e w' => e = .returned (.agg #[.int .i64 (prMs kd p e0 e1 e2 e3 m).kd, .int .i64 (prMs kd p e0 e1 e2 e3 m).v0, .int .i64 (prMs kd p e0 e1 e2 e3 m).v1, .int .i64 (prMs kd p e0 e1 e2 e3 m).b0, .int .i64 (prMs kd p e0 e1 e2 e3 m).b1]) ∧ Below w.heap.size w w' := by
  have hr : kd.tmod 3 = 1 := by rw [Int.tmod_eq_emod_of_nonneg hk.1]; exact hc
  have HEQ := Lib.hid (show ∀ V Y : Int, prVal kd p m = V → prBy kd p m = Y → prMs kd p e0 e1 e2 e3 m = ⟨2, max 0 (V - e0), V + e1, max 1 (Y - e2), Y + e3⟩ from fun V Y hV hY => by
    unfold prMs
    rw [hV, hY, show prK kd = 2 by unfold prK; omega, show prLe kd = 1 by unfold prLe; first | rw [if_pos (by omega)] | rw [if_neg (by omega)]])
  obtain ⟨q, hq⟩ : ∃ q, q = p % 2 := ⟨_, rfl⟩
  have hq1 : p.tmod 2 = q := by rw [Int.tmod_eq_emod_of_nonneg hp.1, hq]
  have hq2 : 0 ≤ q ∧ q ≤ 1 := by omega
  obtain ⟨Y, hY⟩ : ∃ Y, Y = 100 * (1 + q) := ⟨_, rfl⟩
  obtain ⟨M, hM⟩ : ∃ M, M = m * 2000000 := ⟨_, rfl⟩
  obtain ⟨V, hV⟩ : ∃ V, V = M / Y := ⟨_, rfl⟩
  have HY := Lib.hid (show prBy kd p m = Y by unfold prBy; rw [if_neg (by omega), if_pos hc, hY, hq])
  have HV := Lib.hid (show prVal kd p m = V by unfold prVal; rw [if_neg (by omega), if_pos hc, HY.out, hV, hM])
  have hMb : 0 ≤ M ∧ M ≤ 2000000000 := by omega
  have HYE := Lib.hid hY.symm
  have hYb : 1 ≤ Y ∧ Y ≤ 200 := by omega
  have hw2 : (m * 2000000).tdiv Y = V := by rw [← hM, Int.tdiv_eq_ediv_of_nonneg hMb.1, hV]
  have hVb : 0 ≤ V ∧ V ≤ 2000000000 := by
    rw [hV]
    exact ⟨Int.ediv_nonneg hMb.1 (by omega), Int.le_trans (Int.ediv_le_self _ hMb.1) hMb.2⟩
  have hYz : (Y == 0) = false := beq_eq_false_iff_ne.2 (by omega)
  have hYz2 : Y ≠ 0 := by omega
  have hw3 : wrap64 V = V := by unfold wrap64; omega
  clear hq hY hM hV
  have HRES := Lib.hid (HEQ.out V Y HV.out HY.out)
  clear HEQ HV HY hc
  generalize prMs kd p e0 e1 e2 e3 m = R at *
  obtain ⟨A, hA⟩ : ∃ A, A = (w.alloc (.cells #[.int .u8 kd, .int .u16 p, .int .u16 e0, .int .u16 e1, .int .u16 e2, .int .u16 e3] 83)).alloc (.cells #[.int .i64 0, .int .i64 0, .int .i64 0, .int .i64 0, .int .i64 0] 52) := ⟨_, rfl⟩
  have HP := Lib.hid (show A.heap[w.heap.size]? = some (.cells #[.int .u8 kd, .int .u16 p, .int .u16 e0, .int .u16 e1, .int .u16 e2, .int .u16 e3] 83 (0, 0)) by rw [hA]; exact allocKeep (World.alloc_heap_new _ _) _)
  have HZ := Lib.hid (show A.heap[w.heap.size + 1]? = some (.cells #[.int .i64 0, .int .i64 0, .int .i64 0, .int .i64 0, .int .i64 0] 52 (0, 0)) by rw [hA]; have q := World.alloc_heap_new (w.alloc (.cells #[.int .u8 kd, .int .u16 p, .int .u16 e0, .int .u16 e1, .int .u16 e2, .int .u16 e3] 83)) (.cells #[.int .i64 0, .int .i64 0, .int .i64 0, .int .i64 0, .int .i64 0] 52); simpa using q)
  have HB := Lib.hid (show Below w.heap.size w A by rw [hA]; exact ((Below.refl _ _).alloc (Nat.le_refl _) _).alloc (by simp) _)
  have HSZ := Lib.hid (show A.heap.size = w.heap.size + 2 by rw [hA]; simp)
  have c0 := cellH HP.out 0
  have c1 := cellH HP.out 1
  go_enter Try.func61, Try.ntmps61
  go_upto_region 1 with fail
  rw [← hA]
  clear hA
  obtain ⟨V1, hV1⟩ : ∃ V1, V1 = A.alloc (.cells #[.int .i64 2, .int .i64 0, .int .i64 0, .int .i64 0, .int .i64 0] 52) := ⟨_, rfl⟩
  have HP1 := Lib.hid (show V1.heap[w.heap.size]? = some (.cells #[.int .u8 kd, .int .u16 p, .int .u16 e0, .int .u16 e1, .int .u16 e2, .int .u16 e3] 83 (0, 0)) by rw [hV1]; exact allocKeep HP.out _)
  have HZ1 := Lib.hid (show V1.heap[w.heap.size + 1]? = some (.cells #[.int .i64 0, .int .i64 0, .int .i64 0, .int .i64 0, .int .i64 0] 52 (0, 0)) by rw [hV1]; exact allocKeep HZ.out _)
  have HX1 := Lib.hid (show V1.heap[A.heap.size]? = some (.cells #[.int .i64 2, .int .i64 0, .int .i64 0, .int .i64 0, .int .i64 0] 52 (0, 0)) by rw [hV1]; exact World.alloc_heap_new _ _)
  have HB1 := Lib.hid (show Below w.heap.size w V1 by rw [hV1]; exact HB.out.alloc HB.out.size _)
  have HS1 := Lib.hid (show V1.heap.size = w.heap.size + 3 by rw [hV1]; simp; have := HSZ.out; omega)
  go_upto_region 3 with fail
  try rw [← hV1]
  clear hV1 HP HZ HB c0 c1
  generalize A.heap.size = Q1 at *
  have c2 := cellH HP1.out 2
  have c3 := cellH HP1.out 3
  have c4 := cellH HP1.out 4
  have c5 := cellH HP1.out 5
  obtain ⟨V2, hV2⟩ : ∃ V2, V2 = V1.alloc (.cells #[.int .i64 e0, .int .i64 e1, .int .i64 e2, .int .i64 e3] 159) := ⟨_, rfl⟩
  have HP2 := Lib.hid (show V2.heap[w.heap.size]? = some (.cells #[.int .u8 kd, .int .u16 p, .int .u16 e0, .int .u16 e1, .int .u16 e2, .int .u16 e3] 83 (0, 0)) by rw [hV2]; exact allocKeep HP1.out _)
  have HZ2 := Lib.hid (show V2.heap[w.heap.size + 1]? = some (.cells #[.int .i64 0, .int .i64 0, .int .i64 0, .int .i64 0, .int .i64 0] 52 (0, 0)) by rw [hV2]; exact allocKeep HZ1.out _)
  have HX2 := Lib.hid (show V2.heap[Q1]? = some (.cells #[.int .i64 2, .int .i64 0, .int .i64 0, .int .i64 0, .int .i64 0] 52 (0, 0)) by rw [hV2]; exact allocKeep HX1.out _)
  have HE2 := Lib.hid (show V2.heap[V1.heap.size]? = some (.cells #[.int .i64 e0, .int .i64 e1, .int .i64 e2, .int .i64 e3] 159 (0, 0)) by rw [hV2]; exact World.alloc_heap_new _ _)
  have HB2 := Lib.hid (show Below w.heap.size w V2 by rw [hV2]; exact HB1.out.alloc HB1.out.size _)
  go_upto_region 4 with fail
  try rw [← hV2]
  clear hV2 HP1 HZ1 HX1 HB1 c2 c3 c4 c5
  generalize V1.heap.size = Q2 at *
  have c1 := cellH HP2.out 1
  have x0 := cellH HX2.out 0
  go_upto_region 15 with fail
  rw [HYE.out]
  go_upto_region 16 with fail
  clear c1 x0
  have HQ1 : Q1 = w.heap.size + 2 := HSZ.out
  have HQ2 : Q2 = w.heap.size + 3 := HS1.out
  have hn1 : Q2 ≠ Q1 := by omega
  have hn2 : w.heap.size + 1 ≠ Q1 := by omega
  have hge : w.heap.size ≤ Q1 := by omega
  clear HQ1 HQ2 HSZ HS1
  have y0 := cellH HE2.out 0
  have y1 := cellH HE2.out 1
  have x1 := cellH HX2.out 1
  have x2 := cellH HX2.out 2
  have xf1 := frozH HX2.out 1
  have xf2 := frozH HX2.out 2
  obtain ⟨W1, hW1⟩ : ∃ W1, W1 = (V2.setCell ⟨Q1, 1, none⟩ (.int .i64 (max 0 (V - e0)))).setCell ⟨Q1, 2, none⟩ (.int .i64 (V + e1)) := ⟨_, rfl⟩
  have HX3 := Lib.hid (show W1.heap[Q1]? = some (.cells #[.int .i64 2, .int .i64 (max 0 (V - e0)), .int .i64 (V + e1), .int .i64 0, .int .i64 0] 52 (0, 0)) by rw [hW1]; exact set52 HX2.out (.int .i64 (max 0 (V - e0))) (.int .i64 (V + e1)))
  have HE3 := Lib.hid (show W1.heap[Q2]? = some (.cells #[.int .i64 e0, .int .i64 e1, .int .i64 e2, .int .i64 e3] 159 (0, 0)) by rw [hW1]; exact setOther (setOther HE2.out hn1 _) hn1 _)
  have HZ3 := Lib.hid (show W1.heap[w.heap.size + 1]? = some (.cells #[.int .i64 0, .int .i64 0, .int .i64 0, .int .i64 0, .int .i64 0] 52 (0, 0)) by rw [hW1]; exact setOther (setOther HZ2.out hn2 _) hn2 _)
  have HB3 := Lib.hid (show Below w.heap.size w W1 by rw [hW1]; exact (HB2.out.setCell (p := ⟨Q1, 1, none⟩) hge _).setCell (p := ⟨Q1, 2, none⟩) hge _)
  go_upto_region 17 with fail
  try rw [← hW1]
  clear hW1 HX2 HE2 HZ2 HB2 HP2 y0 y1 x1 x2 xf1 xf2
  have y2 := cellH HE3.out 2
  have y3 := cellH HE3.out 3
  have x3 := cellH HX3.out 3
  have x4 := cellH HX3.out 4
  have xf3 := frozH HX3.out 3
  have xf4 := frozH HX3.out 4
  obtain ⟨W2, hW2⟩ : ∃ W2, W2 = (W1.setCell ⟨Q1, 3, none⟩ (.int .i64 (max 1 (Y - e2)))).setCell ⟨Q1, 4, none⟩ (.int .i64 (Y + e3)) := ⟨_, rfl⟩
  have HX4 := Lib.hid (show W2.heap[Q1]? = some (.cells #[.int .i64 2, .int .i64 (max 0 (V - e0)), .int .i64 (V + e1), .int .i64 (max 1 (Y - e2)), .int .i64 (Y + e3)] 52 (0, 0)) by rw [hW2]; exact set54 HX3.out (.int .i64 (max 1 (Y - e2))) (.int .i64 (Y + e3)))
  have HZ4 := Lib.hid (show W2.heap[w.heap.size + 1]? = some (.cells #[.int .i64 0, .int .i64 0, .int .i64 0, .int .i64 0, .int .i64 0] 52 (0, 0)) by rw [hW2]; exact setOther (setOther HZ3.out hn2 _) hn2 _)
  have HB4 := Lib.hid (show Below w.heap.size w W2 by rw [hW2]; exact (HB3.out.setCell (p := ⟨Q1, 3, none⟩) hge _).setCell (p := ⟨Q1, 4, none⟩) hge _)
  go_upto_region 18 with fail
  try rw [← hW2]
  clear hW2 HX3 HE3 HZ3 HB3 y2 y3 x3 x4 xf3 xf4 hn1 hn2 hge
  have x0 := cellH HX4.out 0
  have x1 := cellH HX4.out 1
  have x2 := cellH HX4.out 2
  have x3 := cellH HX4.out 3
  have x4 := cellH HX4.out 4
  have z0 := cellH HZ4.out 0
  have z1 := cellH HZ4.out 1
  have z2 := cellH HZ4.out 2
  have z3 := cellH HZ4.out 3
  have z4 := cellH HZ4.out 4
  have zf0 := frozH HZ4.out 0
  have zf1 := frozH HZ4.out 1
  have zf2 := frozH HZ4.out 2
  have zf3 := frozH HZ4.out 3
  have zf4 := frozH HZ4.out 4
  generalize max 0 (V - e0) = a0 at *
  generalize V + e1 = a1 at *
  generalize max 1 (Y - e2) = a2 at *
  generalize Y + e3 = a3 at *
  have HF := Lib.hid (set55 HZ4.out (.int .i64 2) (.int .i64 a0) (.int .i64 a1) (.int .i64 a2) (.int .i64 a3))
  go_wp2_with fail
  refine bodyPost_ret (v := .agg #[.int .i64 2, .int .i64 a0, .int .i64 a1, .int .i64 a2, .int .i64 a3]) (by simp [results, Try.results61, go_sem, cellH HF.out 0, cellH HF.out 1, cellH HF.out 2, cellH HF.out 3, cellH HF.out 4]) rfl ⟨by rw [HRES.out], (((((HB4.out.setCell (p := ⟨w.heap.size + 1, 0, none⟩) (Nat.le_succ _) _).setCell (p := ⟨w.heap.size + 1, 1, none⟩) (Nat.le_succ _) _).setCell (p := ⟨w.heap.size + 1, 2, none⟩) (Nat.le_succ _) _).setCell (p := ⟨w.heap.size + 1, 3, none⟩) (Nat.le_succ _) _).setCell (p := ⟨w.heap.size + 1, 4, none⟩) (Nat.le_succ _) _)⟩
set_option maxRecDepth 100000 in
set_option maxHeartbeats 8000000 in
theorem measure2 (kd p e0 e1 e2 e3 m : Int) (hk : 0 ≤ kd ∧ kd ≤ 255) (hp : 0 ≤ p ∧ p ≤ 65535) (h0 : 0 ≤ e0 ∧ e0 ≤ 65535) (h1 : 0 ≤ e1 ∧ e1 ≤ 65535) (h2 : 0 ≤ e2 ∧ e2 ≤ 65535) (h3 : 0 ≤ e3 ∧ e3 ≤ 65535) (hm : 0 ≤ m ∧ m ≤ 1000) (hc : kd % 3 = 2) (w : World) :
    Calls Try.prog 61 #[.agg #[.int .u8 kd, .int .u16 p, .int .u16 e0, .int .u16 e1, .int .u16 e2, .int .u16 e3], .int .i64 m] w fun e w' => e = .returned (.agg #[.int .i64 (prMs kd p e0 e1 e2 e3 m).kd, .int .i64 (prMs kd p e0 e1 e2 e3 m).v0, .int .i64 (prMs kd p e0 e1 e2 e3 m).v1, .int .i64 (prMs kd p e0 e1 e2 e3 m).b0, .int .i64 (prMs kd p e0 e1 e2 e3 m).b1]) ∧ Below w.heap.size w w' := by
  have hr : kd.tmod 3 = 2 := by rw [Int.tmod_eq_emod_of_nonneg hk.1]; exact hc
  have HEQ := Lib.hid (show ∀ V Y : Int, prVal kd p m = V → prBy kd p m = Y → prMs kd p e0 e1 e2 e3 m = ⟨3, max 0 (V - e0), V + e1, max 0 (Y - e2), Y + e3⟩ from fun V Y hV hY => by
    unfold prMs
    rw [hV, hY, show prK kd = 3 by unfold prK; omega, show prLe kd = 0 by unfold prLe; first | rw [if_pos (by omega)] | rw [if_neg (by omega)]])
  obtain ⟨Y, hY⟩ : ∃ Y, Y = m + p := ⟨_, rfl⟩
  obtain ⟨V, hV⟩ : ∃ V, V = p := ⟨_, rfl⟩
  have HY := Lib.hid (show prBy kd p m = Y by unfold prBy; rw [if_neg (by omega), if_neg (by omega), hY])
  have HV := Lib.hid (show prVal kd p m = V by unfold prVal; rw [if_neg (by omega), if_neg (by omega), hV])
  have HYE := Lib.hid hY.symm
  have HVE := Lib.hid (show Y - m = V by omega)
  have hVb : 0 ≤ V ∧ V ≤ 65535 := by omega
  have hYb : 0 ≤ Y ∧ Y ≤ 66535 := by omega
  clear hY hV
  have HRES := Lib.hid (HEQ.out V Y HV.out HY.out)
  clear HEQ HV HY hc
  generalize prMs kd p e0 e1 e2 e3 m = R at *
  obtain ⟨A, hA⟩ : ∃ A, A = (w.alloc (.cells #[.int .u8 kd, .int .u16 p, .int .u16 e0, .int .u16 e1, .int .u16 e2, .int .u16 e3] 83)).alloc (.cells #[.int .i64 0, .int .i64 0, .int .i64 0, .int .i64 0, .int .i64 0] 52) := ⟨_, rfl⟩
  have HP := Lib.hid (show A.heap[w.heap.size]? = some (.cells #[.int .u8 kd, .int .u16 p, .int .u16 e0, .int .u16 e1, .int .u16 e2, .int .u16 e3] 83 (0, 0)) by rw [hA]; exact allocKeep (World.alloc_heap_new _ _) _)
  have HZ := Lib.hid (show A.heap[w.heap.size + 1]? = some (.cells #[.int .i64 0, .int .i64 0, .int .i64 0, .int .i64 0, .int .i64 0] 52 (0, 0)) by rw [hA]; have q := World.alloc_heap_new (w.alloc (.cells #[.int .u8 kd, .int .u16 p, .int .u16 e0, .int .u16 e1, .int .u16 e2, .int .u16 e3] 83)) (.cells #[.int .i64 0, .int .i64 0, .int .i64 0, .int .i64 0, .int .i64 0] 52); simpa using q)
  have HB := Lib.hid (show Below w.heap.size w A by rw [hA]; exact ((Below.refl _ _).alloc (Nat.le_refl _) _).alloc (by simp) _)
  have HSZ := Lib.hid (show A.heap.size = w.heap.size + 2 by rw [hA]; simp)
  have c0 := cellH HP.out 0
  have c1 := cellH HP.out 1
  go_enter Try.func61, Try.ntmps61
  go_upto_region 1 with fail
  rw [← hA]
  clear hA
  obtain ⟨V1, hV1⟩ : ∃ V1, V1 = A.alloc (.cells #[.int .i64 3, .int .i64 0, .int .i64 0, .int .i64 0, .int .i64 0] 52) := ⟨_, rfl⟩
  have HP1 := Lib.hid (show V1.heap[w.heap.size]? = some (.cells #[.int .u8 kd, .int .u16 p, .int .u16 e0, .int .u16 e1, .int .u16 e2, .int .u16 e3] 83 (0, 0)) by rw [hV1]; exact allocKeep HP.out _)
  have HZ1 := Lib.hid (show V1.heap[w.heap.size + 1]? = some (.cells #[.int .i64 0, .int .i64 0, .int .i64 0, .int .i64 0, .int .i64 0] 52 (0, 0)) by rw [hV1]; exact allocKeep HZ.out _)
  have HX1 := Lib.hid (show V1.heap[A.heap.size]? = some (.cells #[.int .i64 3, .int .i64 0, .int .i64 0, .int .i64 0, .int .i64 0] 52 (0, 0)) by rw [hV1]; exact World.alloc_heap_new _ _)
  have HB1 := Lib.hid (show Below w.heap.size w V1 by rw [hV1]; exact HB.out.alloc HB.out.size _)
  have HS1 := Lib.hid (show V1.heap.size = w.heap.size + 3 by rw [hV1]; simp; have := HSZ.out; omega)
  go_upto_region 3 with fail
  try rw [← hV1]
  clear hV1 HP HZ HB c0 c1
  generalize A.heap.size = Q1 at *
  have c2 := cellH HP1.out 2
  have c3 := cellH HP1.out 3
  have c4 := cellH HP1.out 4
  have c5 := cellH HP1.out 5
  obtain ⟨V2, hV2⟩ : ∃ V2, V2 = V1.alloc (.cells #[.int .i64 e0, .int .i64 e1, .int .i64 e2, .int .i64 e3] 159) := ⟨_, rfl⟩
  have HP2 := Lib.hid (show V2.heap[w.heap.size]? = some (.cells #[.int .u8 kd, .int .u16 p, .int .u16 e0, .int .u16 e1, .int .u16 e2, .int .u16 e3] 83 (0, 0)) by rw [hV2]; exact allocKeep HP1.out _)
  have HZ2 := Lib.hid (show V2.heap[w.heap.size + 1]? = some (.cells #[.int .i64 0, .int .i64 0, .int .i64 0, .int .i64 0, .int .i64 0] 52 (0, 0)) by rw [hV2]; exact allocKeep HZ1.out _)
  have HX2 := Lib.hid (show V2.heap[Q1]? = some (.cells #[.int .i64 3, .int .i64 0, .int .i64 0, .int .i64 0, .int .i64 0] 52 (0, 0)) by rw [hV2]; exact allocKeep HX1.out _)
  have HE2 := Lib.hid (show V2.heap[V1.heap.size]? = some (.cells #[.int .i64 e0, .int .i64 e1, .int .i64 e2, .int .i64 e3] 159 (0, 0)) by rw [hV2]; exact World.alloc_heap_new _ _)
  have HB2 := Lib.hid (show Below w.heap.size w V2 by rw [hV2]; exact HB1.out.alloc HB1.out.size _)
  go_upto_region 4 with fail
  try rw [← hV2]
  clear hV2 HP1 HZ1 HX1 HB1 c2 c3 c4 c5
  generalize V1.heap.size = Q2 at *
  have c1 := cellH HP2.out 1
  have x0 := cellH HX2.out 0
  go_upto_region 8 with fail
  rw [HYE.out]
  go_upto_region 9 with fail
  rw [HVE.out]
  go_upto_region 16 with fail
  clear c1 x0
  have HQ1 : Q1 = w.heap.size + 2 := HSZ.out
  have HQ2 : Q2 = w.heap.size + 3 := HS1.out
  have hn1 : Q2 ≠ Q1 := by omega
  have hn2 : w.heap.size + 1 ≠ Q1 := by omega
  have hge : w.heap.size ≤ Q1 := by omega
  clear HQ1 HQ2 HSZ HS1
  have y0 := cellH HE2.out 0
  have y1 := cellH HE2.out 1
  have x1 := cellH HX2.out 1
  have x2 := cellH HX2.out 2
  have xf1 := frozH HX2.out 1
  have xf2 := frozH HX2.out 2
  obtain ⟨W1, hW1⟩ : ∃ W1, W1 = (V2.setCell ⟨Q1, 1, none⟩ (.int .i64 (max 0 (V - e0)))).setCell ⟨Q1, 2, none⟩ (.int .i64 (V + e1)) := ⟨_, rfl⟩
  have HX3 := Lib.hid (show W1.heap[Q1]? = some (.cells #[.int .i64 3, .int .i64 (max 0 (V - e0)), .int .i64 (V + e1), .int .i64 0, .int .i64 0] 52 (0, 0)) by rw [hW1]; exact set52 HX2.out (.int .i64 (max 0 (V - e0))) (.int .i64 (V + e1)))
  have HE3 := Lib.hid (show W1.heap[Q2]? = some (.cells #[.int .i64 e0, .int .i64 e1, .int .i64 e2, .int .i64 e3] 159 (0, 0)) by rw [hW1]; exact setOther (setOther HE2.out hn1 _) hn1 _)
  have HZ3 := Lib.hid (show W1.heap[w.heap.size + 1]? = some (.cells #[.int .i64 0, .int .i64 0, .int .i64 0, .int .i64 0, .int .i64 0] 52 (0, 0)) by rw [hW1]; exact setOther (setOther HZ2.out hn2 _) hn2 _)
  have HB3 := Lib.hid (show Below w.heap.size w W1 by rw [hW1]; exact (HB2.out.setCell (p := ⟨Q1, 1, none⟩) hge _).setCell (p := ⟨Q1, 2, none⟩) hge _)
  go_upto_region 17 with fail
  try rw [← hW1]
  clear hW1 HX2 HE2 HZ2 HB2 HP2 y0 y1 x1 x2 xf1 xf2
  have y2 := cellH HE3.out 2
  have y3 := cellH HE3.out 3
  have x3 := cellH HX3.out 3
  have x4 := cellH HX3.out 4
  have xf3 := frozH HX3.out 3
  have xf4 := frozH HX3.out 4
  obtain ⟨W2, hW2⟩ : ∃ W2, W2 = (W1.setCell ⟨Q1, 3, none⟩ (.int .i64 (max 0 (Y - e2)))).setCell ⟨Q1, 4, none⟩ (.int .i64 (Y + e3)) := ⟨_, rfl⟩
  have HX4 := Lib.hid (show W2.heap[Q1]? = some (.cells #[.int .i64 3, .int .i64 (max 0 (V - e0)), .int .i64 (V + e1), .int .i64 (max 0 (Y - e2)), .int .i64 (Y + e3)] 52 (0, 0)) by rw [hW2]; exact set54 HX3.out (.int .i64 (max 0 (Y - e2))) (.int .i64 (Y + e3)))
  have HZ4 := Lib.hid (show W2.heap[w.heap.size + 1]? = some (.cells #[.int .i64 0, .int .i64 0, .int .i64 0, .int .i64 0, .int .i64 0] 52 (0, 0)) by rw [hW2]; exact setOther (setOther HZ3.out hn2 _) hn2 _)
  have HB4 := Lib.hid (show Below w.heap.size w W2 by rw [hW2]; exact (HB3.out.setCell (p := ⟨Q1, 3, none⟩) hge _).setCell (p := ⟨Q1, 4, none⟩) hge _)
  go_upto_region 18 with fail
  try rw [← hW2]
  clear hW2 HX3 HE3 HZ3 HB3 y2 y3 x3 x4 xf3 xf4 hn1 hn2 hge
  have x0 := cellH HX4.out 0
  have x1 := cellH HX4.out 1
  have x2 := cellH HX4.out 2
  have x3 := cellH HX4.out 3
  have x4 := cellH HX4.out 4
  have z0 := cellH HZ4.out 0
  have z1 := cellH HZ4.out 1
  have z2 := cellH HZ4.out 2
  have z3 := cellH HZ4.out 3
  have z4 := cellH HZ4.out 4
  have zf0 := frozH HZ4.out 0
  have zf1 := frozH HZ4.out 1
  have zf2 := frozH HZ4.out 2
  have zf3 := frozH HZ4.out 3
  have zf4 := frozH HZ4.out 4
  generalize max 0 (V - e0) = a0 at *
  generalize V + e1 = a1 at *
  generalize max 0 (Y - e2) = a2 at *
  generalize Y + e3 = a3 at *
  have HF := Lib.hid (set55 HZ4.out (.int .i64 3) (.int .i64 a0) (.int .i64 a1) (.int .i64 a2) (.int .i64 a3))
  go_wp2_with fail
  refine bodyPost_ret (v := .agg #[.int .i64 3, .int .i64 a0, .int .i64 a1, .int .i64 a2, .int .i64 a3]) (by simp [results, Try.results61, go_sem, cellH HF.out 0, cellH HF.out 1, cellH HF.out 2, cellH HF.out 3, cellH HF.out 4]) rfl ⟨by rw [HRES.out], (((((HB4.out.setCell (p := ⟨w.heap.size + 1, 0, none⟩) (Nat.le_succ _) _).setCell (p := ⟨w.heap.size + 1, 1, none⟩) (Nat.le_succ _) _).setCell (p := ⟨w.heap.size + 1, 2, none⟩) (Nat.le_succ _) _).setCell (p := ⟨w.heap.size + 1, 3, none⟩) (Nat.le_succ _) _).setCell (p := ⟨w.heap.size + 1, 4, none⟩) (Nat.le_succ _) _)⟩
theorem measure_any (kd p e0 e1 e2 e3 m : Int) (hk : 0 ≤ kd ∧ kd ≤ 255) (hp : 0 ≤ p ∧ p ≤ 65535) (h0 : 0 ≤ e0 ∧ e0 ≤ 65535) (h1 : 0 ≤ e1 ∧ e1 ≤ 65535) (h2 : 0 ≤ e2 ∧ e2 ≤ 65535) (h3 : 0 ≤ e3 ∧ e3 ≤ 65535) (hm : 0 ≤ m ∧ m ≤ 1000) (w : World) :
    Calls Try.prog 61 #[.agg #[.int .u8 kd, .int .u16 p, .int .u16 e0, .int .u16 e1, .int .u16 e2, .int .u16 e3], .int .i64 m] w fun e w' => e = .returned (.agg #[.int .i64 (prMs kd p e0 e1 e2 e3 m).kd, .int .i64 (prMs kd p e0 e1 e2 e3 m).v0, .int .i64 (prMs kd p e0 e1 e2 e3 m).v1, .int .i64 (prMs kd p e0 e1 e2 e3 m).b0, .int .i64 (prMs kd p e0 e1 e2 e3 m).b1]) ∧ Below w.heap.size w w' := by
  rcases (show kd % 3 = 0 ∨ kd % 3 = 1 ∨ kd % 3 = 2 by omega) with h | h | h
  · exact measure0 kd p e0 e1 e2 e3 m hk hp h0 h1 h2 h3 hm h w
  · exact measure1 kd p e0 e1 e2 e3 m hk hp h0 h1 h2 h3 hm h w
  · exact measure2 kd p e0 e1 e2 e3 m hk hp h0 h1 h2 h3 hm h w
end Go.Proofs.Ytdohfpnnmppdkaa

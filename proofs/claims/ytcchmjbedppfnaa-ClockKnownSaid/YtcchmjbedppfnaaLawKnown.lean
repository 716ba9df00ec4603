/-
  Clock: the walk of ClockKnown.
-/
import Derived.Test.YtcchmjbedppfnaaEvC
namespace Go.Proofs.Ytcchmjbedppfnaa
open Go.RowKit Go.Shelf
set_option linter.unusedSimpArgs false
theorem ex_off0 : offR 1000 ⟨1000, 2010, 2020, 1030, 5, 15, 5, 15⟩ = ⟨995, 1005, 0⟩ := by rfl
theorem ex_off1 : offR 1000 ⟨2000000, 2001020, 2001030, 2000060, 5, 40, 5, 40⟩ = ⟨979, 1010, 0⟩ := by rfl
theorem ex_at1 : atR (-1) 1000 exX 1030 = ⟨995, 1005, 0⟩ := by
  unfold atR
  rw [if_pos ex_lrn, if_pos (by rfl), ex_ofs, if_pos ex_sd]
  rfl
theorem ex_at2 : atR (-1) 1000 exX 1001030 = ⟨994, 1006, 0⟩ := by
  unfold atR
  rw [if_pos ex_lrn, if_pos (by rfl), ex_ofs, if_pos ex_sd]
  rfl
theorem ex_wd12 {t : Int} (h : 2000060 ≤ t ∧ t ≤ 1125899906842624) : wdB 1000 exO 12 t = true := by
  unfold wdB
  rw [decide_eq_true_iff]
  have e : atS 1000 t exO = (max (max (-9223372036854775808) (995 - grw 1000 (gap t 1030))) (979 - grw 1000 (gap t 2000060)), min (min 9223372036854775807 (1005 + grw 1000 (gap t 1030))) (1010 + grw 1000 (gap t 2000060))) := rfl
  rw [e, gap_le (by omega), gap_le (by omega)]
  dsimp only
  unfold grw
  omega
theorem ex_due12 {m f : Int} (h : DueP (-1) 1000 exX 12 m f) : m = 2000060 ∧ f = 0 := by
  unfold DueP at h
  rw [ex_ofs] at h
  have hl : lstA exO = 2000060 := by rfl
  rcases h with ⟨h, -⟩ | ⟨-, ⟨h, -⟩ | ⟨-, ⟨h, -⟩ | ⟨-, ⟨h, -⟩ | ⟨h1, h2, h3, h4, h5⟩⟩⟩⟩
  · exact absurd ex_lrn h
  · exact absurd (by decide) h
  · rw [ex_sd] at h; exact absurd h (by decide)
  · rw [ex_wd12 (by decide)] at h; exact absurd h (by decide)
  · rw [hl] at h1 h4
    refine ⟨?_, h5⟩
    rcases h4 with h4 | h4
    · exact h4
    · by_cases h7 : 2000060 ≤ m - 1
      · rw [ex_wd12 ⟨by omega, by omega⟩] at h4; exact absurd h4 (by decide)
      · omega
def exE : List (Int × Int) := [(1, 3), (2, 4), (5, 6)]
theorem ex_evE : evE exE = 0 := by rfl
theorem ex_rk : rkTo exE 3 = [(0, 1), (0, 1), (2, 2)] := by rfl
@[go_sem] theorem eq63a (w : World) : (Op.equalIn 10000 63 (.agg #[.int .i64 0, .int .i64 1]) (.agg #[.int .i64 0, .int .i64 1])).run Try.prog w = .ok true w := by kernel_rfl
@[go_sem] theorem eq63b (w : World) : (Op.equalIn 10000 63 (.agg #[.int .i64 2, .int .i64 2]) (.agg #[.int .i64 2, .int .i64 2])).run Try.prog w = .ok true w := by kernel_rfl
theorem build50 (w : World) : (Instr.buildSlice 50 3 #[(0, .agg #[.int .i64 1, .int .i64 3]), (1, .agg #[.int .i64 2, .int .i64 4]), (2, .agg #[.int .i64 5, .int .i64 6])]).run Try.prog w = .ok (.slice (some ⟨w.heap.size, 0, none⟩) 3 3) (w.alloc (.cells #[.int .i64 1, .int .i64 3, .int .i64 2, .int .i64 4, .int .i64 5, .int .i64 6] 23)) := by kernel_rfl
theorem wp_build3 {o : Oper} {a : Act} {K : Act → World → Prop} {Q : Exit → Act → World → Prop} (w : World) (x y z : Operand) (ho : o.op = .buildSlice 50 3 #[(0, x), (1, y), (2, z)])
    (hx : a.eval x = .agg #[.int .i64 1, .int .i64 3]) (hy : a.eval y = .agg #[.int .i64 2, .int .i64 4]) (hz : a.eval z = .agg #[.int .i64 5, .int .i64 6])
    (h : K (a.put o.dst (.slice (some ⟨w.heap.size, 0, none⟩) 3 3)) (w.alloc (.cells #[.int .i64 1, .int .i64 3, .int .i64 2, .int .i64 4, .int .i64 5, .int .i64 6] 23))) : o.wp Try.prog a w K Q := by
  unfold Oper.wp execOp
  simp only [ho, List.map_toArray, List.map_cons, List.map_nil, hx, hy, hz, Sem.run_bind, Sem.run_pure, build50, Result.andThen_ok]
  exact h
set_option maxRecDepth 100000 in
set_option maxHeartbeats 8000000 in
theorem law_known (w : World) : Calls Try.prog 14 #[] w fun e w' => e = .returned (.bool true) ∧ Below w.heap.size w w' := by
  have c57 := fun W => example_any W
  have c21 := fun W => works_any W
  have c22a := fun W => offset_any ⟨1000, 2010, 2020, 1030, 5, 15, 5, 15⟩ 1000 W
  have c22b := fun W => offset_any ⟨2000000, 2001020, 2001030, 2000060, 5, 40, 5, 40⟩ 1000 W
  have c24a := Lib.hid (fun v W (hX : Xcs W.heap.size W v exX) => at24_any (-1) 1000 1030 v exX W hX)
  have c24b := Lib.hid (fun v W (hX : Xcs W.heap.size W v exX) => at24_any (-1) 1000 1001030 v exX W hX)
  have c32 := Lib.hid (fun v W (hX : Xcs W.heap.size W v exX) => due_any (-1) 1000 12 v exX W hX)
  have c44a := fun W => before44_any (1, 3) (3, 5) W
  have c44b := fun W => before44_any (1, 3) (4, 5) W
  have c46 := Lib.hid (fun v W (hZ : Sps W.heap.size W v exE) => ranks46_any v exE W hZ)
  rw [ex_off0] at c22a
  rw [ex_off1] at c22b
  rw [ex_at1] at c24a
  rw [ex_at2] at c24b
  rw [show BefR (1, 3) (3, 5) = (1, 0) from rfl] at c44a
  rw [show BefR (1, 3) (4, 5) = (2, 0) from rfl] at c44b
  unfold R3.out Xc.val spv at *
  dsimp only at *
  go_enter Try.func14, Try.ntmps14
  go_wp2_with fail
  refine (c57 _).mono ?_
  rintro e w1 ⟨v, rfl, hX, hb1⟩
  have HB1 := Lib.hid hb1
  have HX1 := Lib.hid hX
  obtain ⟨a, cap, rfl, -, hcc⟩ := hX
  have hl2 : exX.length = 2 := rfl
  rw [hl2] at HX1 hcc
  obtain ⟨b, off, rfl, hbl, n0, n1, n2, n3, n4, n5, n6, n7⟩ := hcc 0 (by decide)
  obtain ⟨b', off', hab, -, p0, p1, p2, p3, p4, p5, p6, p7⟩ := hcc 1 (by decide)
  simp only [Option.some.injEq, Addr.mk.injEq] at hab
  obtain ⟨rfl, rfl, -⟩ := hab
  rw [hl2]
  clear hb1 hcc hl2
  simp only [Nat.zero_mul, Nat.add_zero] at n0 n1 n2 n3 n4 n5 n6 n7
  obtain ⟨V, hV⟩ : ∃ V, V = w1.alloc (.cells #[.int .i64 (-1), .int .i64 1000, .slice (some ⟨b, off, none⟩) 2 cap] 28) := ⟨_, rfl⟩
  have hBV : Below w1.heap.size w1 V := by rw [hV]; exact (Below.refl _ _).alloc (Nat.le_refl _) _
  have HBV := Lib.hid (HB1.out.trans (hBV.mono HB1.out.size))
  have HXV := Lib.hid (HX1.out.at hBV)
  have k0 : V.cell? ⟨w1.heap.size, 0, none⟩ = some (.int .i64 (-1)) := by rw [hV]; simp [go_sem]
  have k1 : V.cell? ⟨w1.heap.size, 1, none⟩ = some (.int .i64 1000) := by rw [hV]; simp [go_sem]
  have k2 : V.cell? ⟨w1.heap.size, 2, none⟩ = some (.slice (some ⟨b, off, none⟩) 2 cap) := by rw [hV]; simp [go_sem]
  have hzV : w1.heap.size < V.heap.size := by rw [hV]; simp
  have x0 : V.cell? ⟨b, off, none⟩ = some (.int .i64 1000) := (hBV.cell (p := ⟨b, off, none⟩) hbl).trans n0
  have y0 : V.cell? ⟨b, off + 1 * 8, none⟩ = some (.int .i64 2000000) := (hBV.cell (p := ⟨b, off + 1 * 8, none⟩) hbl).trans p0
  have x1 : V.cell? ⟨b, off + 1, none⟩ = some (.int .i64 2010) := (hBV.cell (p := ⟨b, off + 1, none⟩) hbl).trans n1
  have y1 : V.cell? ⟨b, off + 1 * 8 + 1, none⟩ = some (.int .i64 2001020) := (hBV.cell (p := ⟨b, off + 1 * 8 + 1, none⟩) hbl).trans p1
  have x2 : V.cell? ⟨b, off + 2, none⟩ = some (.int .i64 2020) := (hBV.cell (p := ⟨b, off + 2, none⟩) hbl).trans n2
  have y2 : V.cell? ⟨b, off + 1 * 8 + 2, none⟩ = some (.int .i64 2001030) := (hBV.cell (p := ⟨b, off + 1 * 8 + 2, none⟩) hbl).trans p2
  have x3 : V.cell? ⟨b, off + 3, none⟩ = some (.int .i64 1030) := (hBV.cell (p := ⟨b, off + 3, none⟩) hbl).trans n3
  have y3 : V.cell? ⟨b, off + 1 * 8 + 3, none⟩ = some (.int .i64 2000060) := (hBV.cell (p := ⟨b, off + 1 * 8 + 3, none⟩) hbl).trans p3
  have x4 : V.cell? ⟨b, off + 4, none⟩ = some (.int .i64 5) := (hBV.cell (p := ⟨b, off + 4, none⟩) hbl).trans n4
  have y4 : V.cell? ⟨b, off + 1 * 8 + 4, none⟩ = some (.int .i64 5) := (hBV.cell (p := ⟨b, off + 1 * 8 + 4, none⟩) hbl).trans p4
  have x5 : V.cell? ⟨b, off + 5, none⟩ = some (.int .i64 15) := (hBV.cell (p := ⟨b, off + 5, none⟩) hbl).trans n5
  have y5 : V.cell? ⟨b, off + 1 * 8 + 5, none⟩ = some (.int .i64 40) := (hBV.cell (p := ⟨b, off + 1 * 8 + 5, none⟩) hbl).trans p5
  have x6 : V.cell? ⟨b, off + 6, none⟩ = some (.int .i64 5) := (hBV.cell (p := ⟨b, off + 6, none⟩) hbl).trans n6
  have y6 : V.cell? ⟨b, off + 1 * 8 + 6, none⟩ = some (.int .i64 5) := (hBV.cell (p := ⟨b, off + 1 * 8 + 6, none⟩) hbl).trans p6
  have x7 : V.cell? ⟨b, off + 7, none⟩ = some (.int .i64 15) := (hBV.cell (p := ⟨b, off + 7, none⟩) hbl).trans n7
  have y7 : V.cell? ⟨b, off + 1 * 8 + 7, none⟩ = some (.int .i64 40) := (hBV.cell (p := ⟨b, off + 1 * 8 + 7, none⟩) hbl).trans p7
  have hbV : b < V.heap.size := by have := hBV.size; omega
  have KA := Lib.hid (show ∀ W, Below V.heap.size V W → W.cell? ⟨w1.heap.size, 0, none⟩ = some (.int .i64 (-1)) ∧ W.cell? ⟨w1.heap.size, 1, none⟩ = some (.int .i64 1000) ∧ W.cell? ⟨w1.heap.size, 2, none⟩ = some (.slice (some ⟨b, off, none⟩) 2 cap) ∧ W.cell? ⟨b, off, none⟩ = some (.int .i64 1000) ∧ W.cell? ⟨b, off + 1, none⟩ = some (.int .i64 2010) ∧ W.cell? ⟨b, off + 2, none⟩ = some (.int .i64 2020) ∧ W.cell? ⟨b, off + 3, none⟩ = some (.int .i64 1030) ∧ W.cell? ⟨b, off + 4, none⟩ = some (.int .i64 5) ∧ W.cell? ⟨b, off + 5, none⟩ = some (.int .i64 15) ∧ W.cell? ⟨b, off + 6, none⟩ = some (.int .i64 5) ∧ W.cell? ⟨b, off + 7, none⟩ = some (.int .i64 15) from fun W h => ⟨(h.cell (p := ⟨w1.heap.size, 0, none⟩) (by show w1.heap.size < V.heap.size; omega)).trans k0, (h.cell (p := ⟨w1.heap.size, 1, none⟩) (by show w1.heap.size < V.heap.size; omega)).trans k1, (h.cell (p := ⟨w1.heap.size, 2, none⟩) (by show w1.heap.size < V.heap.size; omega)).trans k2, (h.cell (p := ⟨b, off, none⟩) (by show b < V.heap.size; omega)).trans x0, (h.cell (p := ⟨b, off + 1, none⟩) (by show b < V.heap.size; omega)).trans x1, (h.cell (p := ⟨b, off + 2, none⟩) (by show b < V.heap.size; omega)).trans x2, (h.cell (p := ⟨b, off + 3, none⟩) (by show b < V.heap.size; omega)).trans x3, (h.cell (p := ⟨b, off + 4, none⟩) (by show b < V.heap.size; omega)).trans x4, (h.cell (p := ⟨b, off + 5, none⟩) (by show b < V.heap.size; omega)).trans x5, (h.cell (p := ⟨b, off + 6, none⟩) (by show b < V.heap.size; omega)).trans x6, (h.cell (p := ⟨b, off + 7, none⟩) (by show b < V.heap.size; omega)).trans x7⟩)
  have KB := Lib.hid (show ∀ W, Below V.heap.size V W → W.cell? ⟨w1.heap.size, 0, none⟩ = some (.int .i64 (-1)) ∧ W.cell? ⟨w1.heap.size, 1, none⟩ = some (.int .i64 1000) ∧ W.cell? ⟨w1.heap.size, 2, none⟩ = some (.slice (some ⟨b, off, none⟩) 2 cap) ∧ W.cell? ⟨b, off + 1 * 8, none⟩ = some (.int .i64 2000000) ∧ W.cell? ⟨b, off + 1 * 8 + 1, none⟩ = some (.int .i64 2001020) ∧ W.cell? ⟨b, off + 1 * 8 + 2, none⟩ = some (.int .i64 2001030) ∧ W.cell? ⟨b, off + 1 * 8 + 3, none⟩ = some (.int .i64 2000060) ∧ W.cell? ⟨b, off + 1 * 8 + 4, none⟩ = some (.int .i64 5) ∧ W.cell? ⟨b, off + 1 * 8 + 5, none⟩ = some (.int .i64 40) ∧ W.cell? ⟨b, off + 1 * 8 + 6, none⟩ = some (.int .i64 5) ∧ W.cell? ⟨b, off + 1 * 8 + 7, none⟩ = some (.int .i64 40) from fun W h => ⟨(h.cell (p := ⟨w1.heap.size, 0, none⟩) (by show w1.heap.size < V.heap.size; omega)).trans k0, (h.cell (p := ⟨w1.heap.size, 1, none⟩) (by show w1.heap.size < V.heap.size; omega)).trans k1, (h.cell (p := ⟨w1.heap.size, 2, none⟩) (by show w1.heap.size < V.heap.size; omega)).trans k2, (h.cell (p := ⟨b, off + 1 * 8, none⟩) (by show b < V.heap.size; omega)).trans y0, (h.cell (p := ⟨b, off + 1 * 8 + 1, none⟩) (by show b < V.heap.size; omega)).trans y1, (h.cell (p := ⟨b, off + 1 * 8 + 2, none⟩) (by show b < V.heap.size; omega)).trans y2, (h.cell (p := ⟨b, off + 1 * 8 + 3, none⟩) (by show b < V.heap.size; omega)).trans y3, (h.cell (p := ⟨b, off + 1 * 8 + 4, none⟩) (by show b < V.heap.size; omega)).trans y4, (h.cell (p := ⟨b, off + 1 * 8 + 5, none⟩) (by show b < V.heap.size; omega)).trans y5, (h.cell (p := ⟨b, off + 1 * 8 + 6, none⟩) (by show b < V.heap.size; omega)).trans y6, (h.cell (p := ⟨b, off + 1 * 8 + 7, none⟩) (by show b < V.heap.size; omega)).trans y7⟩)
  have KC := Lib.hid (show ∀ W, Below V.heap.size V W → W.cell? ⟨w1.heap.size, 0, none⟩ = some (.int .i64 (-1)) ∧ W.cell? ⟨w1.heap.size, 1, none⟩ = some (.int .i64 1000) ∧ W.cell? ⟨w1.heap.size, 2, none⟩ = some (.slice (some ⟨b, off, none⟩) 2 cap) from fun W h => ⟨(h.cell (p := ⟨w1.heap.size, 0, none⟩) (by show w1.heap.size < V.heap.size; omega)).trans k0, (h.cell (p := ⟨w1.heap.size, 1, none⟩) (by show w1.heap.size < V.heap.size; omega)).trans k1, (h.cell (p := ⟨w1.heap.size, 2, none⟩) (by show w1.heap.size < V.heap.size; omega)).trans k2⟩)
  clear n0 n1 n2 n3 n4 n5 n6 n7 p0 p1 p2 p3 p4 p5 p6 p7 k0 k1 k2 hBV x0 y0 x1 y1 x2 y2 x3 y3 x4 y4 x5 y5 x6 y6 x7 y7
  have HZV := Lib.hid hzV
  have HW0 := Lib.hid (Below.refl V.heap.size V)
  go_upto_region 2 with fail
  try rw [← hV]
  clear hV
  go_cut [2, 3] from 16 (fun s2 s3 wc => ∃ B, s2 = Value.pointer (some ⟨B, 0, none⟩) ∧ s3 = Value.int .i64 0 ∧ Bx2 wc B (.int .i64 995) (.int .i64 1005) ∧ Below V.heap.size V wc)
  case first => as_aux_lemma =>
    obtain ⟨g0, g1, g2, g3, g4, g5, g6, g7, g8, g9, g10⟩ := KA.out _ HW0.out
    refine wp_region_held_drew (S := fun w' => w'.cell? ⟨w1.heap.size, 0, none⟩ = some (.int .i64 (-1)) ∧ w'.cell? ⟨w1.heap.size, 1, none⟩ = some (.int .i64 1000) ∧ w'.cell? ⟨w1.heap.size, 2, none⟩ = some (.slice (some ⟨b, off, none⟩) 2 cap) ∧ w'.cell? ⟨b, off, none⟩ = some (.int .i64 1000) ∧ w'.cell? ⟨b, off + 1, none⟩ = some (.int .i64 2010) ∧ w'.cell? ⟨b, off + 2, none⟩ = some (.int .i64 2020) ∧ w'.cell? ⟨b, off + 3, none⟩ = some (.int .i64 1030) ∧ w'.cell? ⟨b, off + 4, none⟩ = some (.int .i64 5) ∧ w'.cell? ⟨b, off + 5, none⟩ = some (.int .i64 15) ∧ w'.cell? ⟨b, off + 6, none⟩ = some (.int .i64 5) ∧ w'.cell? ⟨b, off + 7, none⟩ = some (.int .i64 15)) (by kernel_rfl) ⟨by simpa [go_sem] using g0, by simpa [go_sem] using g1, by simpa [go_sem] using g2, by simpa [go_sem] using g3, by simpa [go_sem] using g4, by simpa [go_sem] using g5, by simpa [go_sem] using g6, by simpa [go_sem] using g7, by simpa [go_sem] using g8, by simpa [go_sem] using g9, by simpa [go_sem] using g10⟩ (fun hHeld => ?_)
    refine wpAnyH_take (i := 0) (oi := _) (v := Value.pointer (some ⟨w1.heap.size, 2, none⟩)) rfl (by kernel_rfl) (by kernel_rfl) (by kernel_rfl) (fun _ _ _ h => h) (Or.inl ⟨by rfl, fun w' hSw => ?_⟩) hHeld ?_
    · obtain ⟨t0, t1, t2, t3, t4, t5, t6, t7, t8, t9, t10⟩ := hSw
      go_simp
      try simp [*]
      try (intro hh; exfalso; omega)
      try omega
    try simp only [Act.put, List.setIfInBounds_toArray, List.set_cons_zero, List.set_cons_succ, List.getElem_toArray, List.getElem_cons_succ, List.getElem_cons_zero]
    refine wpAnyH_take (i := 1) (oi := _) (v := Value.slice (some ⟨b, off, none⟩) 2 cap) rfl (by kernel_rfl) (by kernel_rfl) (by kernel_rfl) (fun _ _ _ h => h) (Or.inl ⟨by rfl, fun w' hSw => ?_⟩) hHeld ?_
    · obtain ⟨t0, t1, t2, t3, t4, t5, t6, t7, t8, t9, t10⟩ := hSw
      go_simp
      try simp [*]
      try (intro hh; exfalso; omega)
      try omega
    try simp only [Act.put, List.setIfInBounds_toArray, List.set_cons_zero, List.set_cons_succ, List.getElem_toArray, List.getElem_cons_succ, List.getElem_cons_zero]
    refine wpAnyH_take (i := 2) (oi := _) (v := Value.pointer (some ⟨b, off, none⟩)) rfl (by kernel_rfl) (by kernel_rfl) (by kernel_rfl) (fun _ _ _ h => h) (Or.inl ⟨by rfl, fun w' hSw => ?_⟩) hHeld ?_
    · obtain ⟨t0, t1, t2, t3, t4, t5, t6, t7, t8, t9, t10⟩ := hSw
      go_simp
      try simp [*]
      try (intro hh; exfalso; omega)
      try omega
    try simp only [Act.put, List.setIfInBounds_toArray, List.set_cons_zero, List.set_cons_succ, List.getElem_toArray, List.getElem_cons_succ, List.getElem_cons_zero]
    refine wpAnyH_take (i := 3) (oi := _) (v := Value.agg #[Value.int .i64 1000, Value.int .i64 2010, Value.int .i64 2020, Value.int .i64 1030, Value.int .i64 5, Value.int .i64 15, Value.int .i64 5, Value.int .i64 15]) rfl (by kernel_rfl) (by kernel_rfl) (by kernel_rfl) (fun _ _ _ h => h) (Or.inl ⟨by rfl, fun w' hSw => ?_⟩) hHeld ?_
    · obtain ⟨t0, t1, t2, t3, t4, t5, t6, t7, t8, t9, t10⟩ := hSw
      go_simp
      try simp [*]
      try (intro hh; exfalso; omega)
      try omega
    try simp only [Act.put, List.setIfInBounds_toArray, List.set_cons_zero, List.set_cons_succ, List.getElem_toArray, List.getElem_cons_succ, List.getElem_cons_zero]
    refine wpAnyH_take (i := 4) (oi := _) (v := Value.pointer (some ⟨w1.heap.size, 1, none⟩)) rfl (by kernel_rfl) (by kernel_rfl) (by kernel_rfl) (fun _ _ _ h => h) (Or.inl ⟨by rfl, fun w' hSw => ?_⟩) hHeld ?_
    · obtain ⟨t0, t1, t2, t3, t4, t5, t6, t7, t8, t9, t10⟩ := hSw
      go_simp
      try simp [*]
      try (intro hh; exfalso; omega)
      try omega
    try simp only [Act.put, List.setIfInBounds_toArray, List.set_cons_zero, List.set_cons_succ, List.getElem_toArray, List.getElem_cons_succ, List.getElem_cons_zero]
    refine wpAnyH_take (i := 5) (oi := _) (v := Value.int .i64 1000) rfl (by kernel_rfl) (by kernel_rfl) (by kernel_rfl) (fun _ _ _ h => h) (Or.inl ⟨by rfl, fun w' hSw => ?_⟩) hHeld ?_
    · obtain ⟨t0, t1, t2, t3, t4, t5, t6, t7, t8, t9, t10⟩ := hSw
      go_simp
      try simp [*]
      try (intro hh; exfalso; omega)
      try omega
    try simp only [Act.put, List.setIfInBounds_toArray, List.set_cons_zero, List.set_cons_succ, List.getElem_toArray, List.getElem_cons_succ, List.getElem_cons_zero]
    refine wpAnyH_ready (rs := [6, 10]) (by kernel_rfl) (by simp) ?_
    refine AllReadyH.cons (o := _) rfl (fun K hK => ?_) (AllReadyH.cons (o := _) rfl (fun K hK => ?_) (AllReadyH.nil))
    · go_simp
      go_at_call 22
      refine Calls.mono (c22a _) ?_
      rintro e v1 ⟨rfl, hb⟩
      have HV1 := Lib.hid (show Below V.heap.size V v1 from Below.trans HW0.out.drew (hb.mono (Below.size HW0.out.drew)))
      clear hb
      clear hHeld
      refine hK.out _ _ (KA.out _ HV1.out) (fun hHeld => ?_)
      clear hK K
      try simp only [Act.put, List.setIfInBounds_toArray, List.set_cons_zero, List.set_cons_succ, List.getElem_toArray, List.getElem_cons_succ, List.getElem_cons_zero]
      refine wpAnyH_take (i := 7) (oi := _) (v := Value.tuple #[Value.agg #[Value.int .i64 995, Value.int .i64 1005], Value.int .i64 0]) rfl (by kernel_rfl) (by kernel_rfl) (by kernel_rfl) (fun _ _ _ h => h) (Or.inl ⟨by rfl, fun w' hSw => ?_⟩) hHeld ?_
      · obtain ⟨t0, t1, t2, t3, t4, t5, t6, t7, t8, t9, t10⟩ := hSw
        go_simp
        try simp [*]
        try (intro hh; exfalso; omega)
        try omega
      try simp only [Act.put, List.setIfInBounds_toArray, List.set_cons_zero, List.set_cons_succ, List.getElem_toArray, List.getElem_cons_succ, List.getElem_cons_zero]
      refine wpAnyH_take (i := 8) (oi := _) (v := Value.agg #[Value.int .i64 995, Value.int .i64 1005]) rfl (by kernel_rfl) (by kernel_rfl) (by kernel_rfl) (fun _ _ _ h => h) (Or.inl ⟨by rfl, fun w' hSw => ?_⟩) hHeld ?_
      · obtain ⟨t0, t1, t2, t3, t4, t5, t6, t7, t8, t9, t10⟩ := hSw
        go_simp
        try simp [*]
        try (intro hh; exfalso; omega)
        try omega
      try simp only [Act.put, List.setIfInBounds_toArray, List.set_cons_zero, List.set_cons_succ, List.getElem_toArray, List.getElem_cons_succ, List.getElem_cons_zero]
      refine wpAnyH_take (i := 9) (oi := _) (v := Value.int .i64 0) rfl (by kernel_rfl) (by kernel_rfl) (by kernel_rfl) (fun _ _ _ h => h) (Or.inl ⟨by rfl, fun w' hSw => ?_⟩) hHeld ?_
      · obtain ⟨t0, t1, t2, t3, t4, t5, t6, t7, t8, t9, t10⟩ := hSw
        go_simp
        try simp [*]
        try (intro hh; exfalso; omega)
        try omega
      try simp only [Act.put, List.setIfInBounds_toArray, List.set_cons_zero, List.set_cons_succ, List.getElem_toArray, List.getElem_cons_succ, List.getElem_cons_zero]
      refine wpAnyH_ready (rs := [10]) (by kernel_rfl) (by simp) ?_
      refine AllReadyH.cons (o := _) rfl (fun K hK => ?_) AllReadyH.nil
      go_simp
      have HVa := Lib.hid (show Below V.heap.size V (v1.alloc (.cells #[.int .i64 0, .int .i64 0] 23)) from HV1.out.alloc HV1.out.size _)
      clear hHeld
      refine hK.out _ _ (KA.out _ HVa.out) (fun hHeld => ?_)
      clear hK K
      try simp only [Act.put, List.setIfInBounds_toArray, List.set_cons_zero, List.set_cons_succ, List.getElem_toArray, List.getElem_cons_succ, List.getElem_cons_zero]
      obtain ⟨Z, hZe⟩ : ∃ Z, Z = v1.alloc (.cells #[.int .i64 995, .int .i64 1005] 23) := ⟨_, rfl⟩
      have hZ : Bx2 Z v1.heap.size (.int .i64 995) (.int .i64 1005) := by rw [hZe]; exact Bx2.new _ _ _
      have hBZ : Below V.heap.size V Z := by rw [hZe]; exact HV1.out.alloc HV1.out.size _
      refine wpAnyH_ready (rs := [11]) (by kernel_rfl) (by simp) ?_
      refine AllReadyH.cons (o := _) rfl (fun K hK => ?_) AllReadyH.nil
      go_simp
      try rw [← hZe]
      clear hHeld
      refine hK.out _ _ (KA.out _ hBZ) (fun hHeld => ?_)
      clear hK K
      try simp only [Act.put, List.setIfInBounds_toArray, List.set_cons_zero, List.set_cons_succ, List.getElem_toArray, List.getElem_cons_succ, List.getElem_cons_zero]
      clear hZe
      refine wpAnyH_take (i := 12) (oi := _) (v := Value.int .i64 0) rfl (by kernel_rfl) (by kernel_rfl) (by kernel_rfl) (fun _ _ _ h => h) (Or.inl ⟨by rfl, fun w' hSw => ?_⟩) hHeld ?_
      · obtain ⟨t0, t1, t2, t3, t4, t5, t6, t7, t8, t9, t10⟩ := hSw
        go_simp
        try simp [*]
        try (intro hh; exfalso; omega)
        try omega
      try simp only [Act.put, List.setIfInBounds_toArray, List.set_cons_zero, List.set_cons_succ, List.getElem_toArray, List.getElem_cons_succ, List.getElem_cons_zero]
      refine wpAnyH_done (by kernel_rfl) ?_ _
      clear hHeld
      go_wp2_with fail
      go_meet
      case rel => exact ⟨_, rfl, by first | rfl | trivial, hZ, hBZ⟩
    · go_simp
      have HVa := Lib.hid (show Below V.heap.size V (V.drew.alloc (.cells #[.int .i64 0, .int .i64 0] 23)) from HW0.out.drew.alloc (Below.size HW0.out.drew) _)
      have HX0 := Lib.hid (show Bx2 (V.drew.alloc (.cells #[.int .i64 0, .int .i64 0] 23)) V.heap.size (.int .i64 0) (.int .i64 0) from Bx2.new _ _ _)
      clear hHeld
      refine hK.out _ _ (KA.out _ HVa.out) (fun hHeld => ?_)
      clear hK K
      try simp only [Act.put, List.setIfInBounds_toArray, List.set_cons_zero, List.set_cons_succ, List.getElem_toArray, List.getElem_cons_succ, List.getElem_cons_zero]
      refine wpAnyH_ready (rs := [6]) (by kernel_rfl) (by simp) ?_
      refine AllReadyH.cons (o := _) rfl (fun K hK => ?_) AllReadyH.nil
      go_simp
      go_at_call 22
      refine Calls.mono (c22a _) ?_
      rintro e v1 ⟨rfl, hb⟩
      have HV1 := Lib.hid (show Below V.heap.size V v1 from Below.trans HVa.out (hb.mono (Below.size HVa.out)))
      have HX := Lib.hid (HX0.out.keep hb)
      clear hb
      clear hHeld
      refine hK.out _ _ (KA.out _ HV1.out) (fun hHeld => ?_)
      clear hK K
      try simp only [Act.put, List.setIfInBounds_toArray, List.set_cons_zero, List.set_cons_succ, List.getElem_toArray, List.getElem_cons_succ, List.getElem_cons_zero]
      refine wpAnyH_take (i := 7) (oi := _) (v := Value.tuple #[Value.agg #[Value.int .i64 995, Value.int .i64 1005], Value.int .i64 0]) rfl (by kernel_rfl) (by kernel_rfl) (by kernel_rfl) (fun _ _ _ h => h) (Or.inl ⟨by rfl, fun w' hSw => ?_⟩) hHeld ?_
      · obtain ⟨t0, t1, t2, t3, t4, t5, t6, t7, t8, t9, t10⟩ := hSw
        go_simp
        try simp [*]
        try (intro hh; exfalso; omega)
        try omega
      try simp only [Act.put, List.setIfInBounds_toArray, List.set_cons_zero, List.set_cons_succ, List.getElem_toArray, List.getElem_cons_succ, List.getElem_cons_zero]
      refine wpAnyH_take (i := 8) (oi := _) (v := Value.agg #[Value.int .i64 995, Value.int .i64 1005]) rfl (by kernel_rfl) (by kernel_rfl) (by kernel_rfl) (fun _ _ _ h => h) (Or.inl ⟨by rfl, fun w' hSw => ?_⟩) hHeld ?_
      · obtain ⟨t0, t1, t2, t3, t4, t5, t6, t7, t8, t9, t10⟩ := hSw
        go_simp
        try simp [*]
        try (intro hh; exfalso; omega)
        try omega
      try simp only [Act.put, List.setIfInBounds_toArray, List.set_cons_zero, List.set_cons_succ, List.getElem_toArray, List.getElem_cons_succ, List.getElem_cons_zero]
      refine wpAnyH_take (i := 9) (oi := _) (v := Value.int .i64 0) rfl (by kernel_rfl) (by kernel_rfl) (by kernel_rfl) (fun _ _ _ h => h) (Or.inl ⟨by rfl, fun w' hSw => ?_⟩) hHeld ?_
      · obtain ⟨t0, t1, t2, t3, t4, t5, t6, t7, t8, t9, t10⟩ := hSw
        go_simp
        try simp [*]
        try (intro hh; exfalso; omega)
        try omega
      try simp only [Act.put, List.setIfInBounds_toArray, List.set_cons_zero, List.set_cons_succ, List.getElem_toArray, List.getElem_cons_succ, List.getElem_cons_zero]
      have r0 := HX.out.c0
      have r1 := HX.out.c1
      have rf0 := HX.out.f0 0
      have rf1 := HX.out.f0 1
      have hBl : V.heap.size ≤ V.heap.size := HW0.out.size
      obtain ⟨Z, hZe⟩ : ∃ Z, Z = (v1.setCell ⟨V.heap.size, 0, none⟩ (.int .i64 995)).setCell ⟨V.heap.size, 1, none⟩ (.int .i64 1005) := ⟨_, rfl⟩
      have hZ : Bx2 Z (V.heap.size) (.int .i64 995) (.int .i64 1005) := by rw [hZe]; exact HX.out.set _ _
      have hBZ : Below V.heap.size V Z := by rw [hZe]; exact (HV1.out.setCell (p := ⟨V.heap.size, 0, none⟩) hBl _).setCell (p := ⟨V.heap.size, 1, none⟩) hBl _
      refine wpAnyH_ready (rs := [11]) (by kernel_rfl) (by simp) ?_
      refine AllReadyH.cons (o := _) rfl (fun K hK => ?_) AllReadyH.nil
      go_simp
      try rw [← hZe]
      clear hHeld
      refine hK.out _ _ (KA.out _ hBZ) (fun hHeld => ?_)
      clear hK K
      try simp only [Act.put, List.setIfInBounds_toArray, List.set_cons_zero, List.set_cons_succ, List.getElem_toArray, List.getElem_cons_succ, List.getElem_cons_zero]
      clear hZe r0 r1 rf0 rf1
      refine wpAnyH_take (i := 12) (oi := _) (v := Value.int .i64 0) rfl (by kernel_rfl) (by kernel_rfl) (by kernel_rfl) (fun _ _ _ h => h) (Or.inl ⟨by rfl, fun w' hSw => ?_⟩) hHeld ?_
      · obtain ⟨t0, t1, t2, t3, t4, t5, t6, t7, t8, t9, t10⟩ := hSw
        go_simp
        try simp [*]
        try (intro hh; exfalso; omega)
        try omega
      try simp only [Act.put, List.setIfInBounds_toArray, List.set_cons_zero, List.set_cons_succ, List.getElem_toArray, List.getElem_cons_succ, List.getElem_cons_zero]
      refine wpAnyH_done (by kernel_rfl) ?_ _
      clear hHeld
      go_wp2_with fail
      go_meet
      case rel => exact ⟨_, rfl, by first | rfl | trivial, hZ, hBZ⟩
  case rest => as_aux_lemma =>
    obtain ⟨B2, rfl, rfl, hB2, hW2⟩ := hcut
    have HX2 := Lib.hid hB2
    have HW2 := Lib.hid hW2
    clear hB2 hW2 KA
    obtain ⟨w2, hw2⟩ : ∃ w2, w2 = wc := ⟨_, rfl⟩
    subst hw2
    have KB2 := Lib.hid (show ∀ W, Below w2.heap.size w2 W → W.cell? ⟨w1.heap.size, 0, none⟩ = some (.int .i64 (-1)) ∧ W.cell? ⟨w1.heap.size, 1, none⟩ = some (.int .i64 1000) ∧ W.cell? ⟨w1.heap.size, 2, none⟩ = some (.slice (some ⟨b, off, none⟩) 2 cap) ∧ W.cell? ⟨b, off + 1 * 8, none⟩ = some (.int .i64 2000000) ∧ W.cell? ⟨b, off + 1 * 8 + 1, none⟩ = some (.int .i64 2001020) ∧ W.cell? ⟨b, off + 1 * 8 + 2, none⟩ = some (.int .i64 2001030) ∧ W.cell? ⟨b, off + 1 * 8 + 3, none⟩ = some (.int .i64 2000060) ∧ W.cell? ⟨b, off + 1 * 8 + 4, none⟩ = some (.int .i64 5) ∧ W.cell? ⟨b, off + 1 * 8 + 5, none⟩ = some (.int .i64 40) ∧ W.cell? ⟨b, off + 1 * 8 + 6, none⟩ = some (.int .i64 5) ∧ W.cell? ⟨b, off + 1 * 8 + 7, none⟩ = some (.int .i64 40) from fun W h => KB.out _ (HW2.out.trans (h.mono HW2.out.size)))
    have HW3 := Lib.hid (Below.refl w2.heap.size w2)
    go_upto_region 3 with fail
    go_cut [4, 5] from 16 (fun s4 s5 wc => ∃ B, s4 = Value.pointer (some ⟨B, 0, none⟩) ∧ s5 = Value.int .i64 0 ∧ Bx2 wc B (.int .i64 979) (.int .i64 1010) ∧ Below w2.heap.size w2 wc)
    case first => as_aux_lemma =>
      obtain ⟨g0, g1, g2, g3, g4, g5, g6, g7, g8, g9, g10⟩ := KB2.out _ HW3.out
      refine wp_region_held_drew (S := fun w' => w'.cell? ⟨w1.heap.size, 0, none⟩ = some (.int .i64 (-1)) ∧ w'.cell? ⟨w1.heap.size, 1, none⟩ = some (.int .i64 1000) ∧ w'.cell? ⟨w1.heap.size, 2, none⟩ = some (.slice (some ⟨b, off, none⟩) 2 cap) ∧ w'.cell? ⟨b, off + 1 * 8, none⟩ = some (.int .i64 2000000) ∧ w'.cell? ⟨b, off + 1 * 8 + 1, none⟩ = some (.int .i64 2001020) ∧ w'.cell? ⟨b, off + 1 * 8 + 2, none⟩ = some (.int .i64 2001030) ∧ w'.cell? ⟨b, off + 1 * 8 + 3, none⟩ = some (.int .i64 2000060) ∧ w'.cell? ⟨b, off + 1 * 8 + 4, none⟩ = some (.int .i64 5) ∧ w'.cell? ⟨b, off + 1 * 8 + 5, none⟩ = some (.int .i64 40) ∧ w'.cell? ⟨b, off + 1 * 8 + 6, none⟩ = some (.int .i64 5) ∧ w'.cell? ⟨b, off + 1 * 8 + 7, none⟩ = some (.int .i64 40)) (by kernel_rfl) ⟨by simpa [go_sem] using g0, by simpa [go_sem] using g1, by simpa [go_sem] using g2, by simpa [go_sem] using g3, by simpa [go_sem] using g4, by simpa [go_sem] using g5, by simpa [go_sem] using g6, by simpa [go_sem] using g7, by simpa [go_sem] using g8, by simpa [go_sem] using g9, by simpa [go_sem] using g10⟩ (fun hHeld => ?_)
      refine wpAnyH_take (i := 0) (oi := _) (v := Value.pointer (some ⟨w1.heap.size, 2, none⟩)) rfl (by kernel_rfl) (by kernel_rfl) (by kernel_rfl) (fun _ _ _ h => h) (Or.inl ⟨by rfl, fun w' hSw => ?_⟩) hHeld ?_
      · obtain ⟨t0, t1, t2, t3, t4, t5, t6, t7, t8, t9, t10⟩ := hSw
        go_simp
        try simp [*]
        try (intro hh; exfalso; omega)
        try omega
      try simp only [Act.put, List.setIfInBounds_toArray, List.set_cons_zero, List.set_cons_succ, List.getElem_toArray, List.getElem_cons_succ, List.getElem_cons_zero]
      refine wpAnyH_take (i := 1) (oi := _) (v := Value.slice (some ⟨b, off, none⟩) 2 cap) rfl (by kernel_rfl) (by kernel_rfl) (by kernel_rfl) (fun _ _ _ h => h) (Or.inl ⟨by rfl, fun w' hSw => ?_⟩) hHeld ?_
      · obtain ⟨t0, t1, t2, t3, t4, t5, t6, t7, t8, t9, t10⟩ := hSw
        go_simp
        try simp [*]
        try (intro hh; exfalso; omega)
        try omega
      try simp only [Act.put, List.setIfInBounds_toArray, List.set_cons_zero, List.set_cons_succ, List.getElem_toArray, List.getElem_cons_succ, List.getElem_cons_zero]
      refine wpAnyH_take (i := 2) (oi := _) (v := Value.pointer (some ⟨b, off + 1 * 8, none⟩)) rfl (by kernel_rfl) (by kernel_rfl) (by kernel_rfl) (fun _ _ _ h => h) (Or.inl ⟨by rfl, fun w' hSw => ?_⟩) hHeld ?_
      · obtain ⟨t0, t1, t2, t3, t4, t5, t6, t7, t8, t9, t10⟩ := hSw
        go_simp
        try simp [*]
        try (intro hh; exfalso; omega)
        try omega
      try simp only [Act.put, List.setIfInBounds_toArray, List.set_cons_zero, List.set_cons_succ, List.getElem_toArray, List.getElem_cons_succ, List.getElem_cons_zero]
      refine wpAnyH_take (i := 3) (oi := _) (v := Value.agg #[Value.int .i64 2000000, Value.int .i64 2001020, Value.int .i64 2001030, Value.int .i64 2000060, Value.int .i64 5, Value.int .i64 40, Value.int .i64 5, Value.int .i64 40]) rfl (by kernel_rfl) (by kernel_rfl) (by kernel_rfl) (fun _ _ _ h => h) (Or.inl ⟨by rfl, fun w' hSw => ?_⟩) hHeld ?_
      · obtain ⟨t0, t1, t2, t3, t4, t5, t6, t7, t8, t9, t10⟩ := hSw
        go_simp
        try simp [*]
        try (intro hh; exfalso; omega)
        try omega
      try simp only [Act.put, List.setIfInBounds_toArray, List.set_cons_zero, List.set_cons_succ, List.getElem_toArray, List.getElem_cons_succ, List.getElem_cons_zero]
      refine wpAnyH_take (i := 4) (oi := _) (v := Value.pointer (some ⟨w1.heap.size, 1, none⟩)) rfl (by kernel_rfl) (by kernel_rfl) (by kernel_rfl) (fun _ _ _ h => h) (Or.inl ⟨by rfl, fun w' hSw => ?_⟩) hHeld ?_
      · obtain ⟨t0, t1, t2, t3, t4, t5, t6, t7, t8, t9, t10⟩ := hSw
        go_simp
        try simp [*]
        try (intro hh; exfalso; omega)
        try omega
      try simp only [Act.put, List.setIfInBounds_toArray, List.set_cons_zero, List.set_cons_succ, List.getElem_toArray, List.getElem_cons_succ, List.getElem_cons_zero]
      refine wpAnyH_take (i := 5) (oi := _) (v := Value.int .i64 1000) rfl (by kernel_rfl) (by kernel_rfl) (by kernel_rfl) (fun _ _ _ h => h) (Or.inl ⟨by rfl, fun w' hSw => ?_⟩) hHeld ?_
      · obtain ⟨t0, t1, t2, t3, t4, t5, t6, t7, t8, t9, t10⟩ := hSw
        go_simp
        try simp [*]
        try (intro hh; exfalso; omega)
        try omega
      try simp only [Act.put, List.setIfInBounds_toArray, List.set_cons_zero, List.set_cons_succ, List.getElem_toArray, List.getElem_cons_succ, List.getElem_cons_zero]
      refine wpAnyH_ready (rs := [6, 10]) (by kernel_rfl) (by simp) ?_
      refine AllReadyH.cons (o := _) rfl (fun K hK => ?_) (AllReadyH.cons (o := _) rfl (fun K hK => ?_) (AllReadyH.nil))
      · go_simp
        go_at_call 22
        refine Calls.mono (c22b _) ?_
        rintro e v1 ⟨rfl, hb⟩
        have HV1 := Lib.hid (show Below w2.heap.size w2 v1 from Below.trans HW3.out.drew (hb.mono (Below.size HW3.out.drew)))
        clear hb
        clear hHeld
        refine hK.out _ _ (KB2.out _ HV1.out) (fun hHeld => ?_)
        clear hK K
        try simp only [Act.put, List.setIfInBounds_toArray, List.set_cons_zero, List.set_cons_succ, List.getElem_toArray, List.getElem_cons_succ, List.getElem_cons_zero]
        refine wpAnyH_take (i := 7) (oi := _) (v := Value.tuple #[Value.agg #[Value.int .i64 979, Value.int .i64 1010], Value.int .i64 0]) rfl (by kernel_rfl) (by kernel_rfl) (by kernel_rfl) (fun _ _ _ h => h) (Or.inl ⟨by rfl, fun w' hSw => ?_⟩) hHeld ?_
        · obtain ⟨t0, t1, t2, t3, t4, t5, t6, t7, t8, t9, t10⟩ := hSw
          go_simp
          try simp [*]
          try (intro hh; exfalso; omega)
          try omega
        try simp only [Act.put, List.setIfInBounds_toArray, List.set_cons_zero, List.set_cons_succ, List.getElem_toArray, List.getElem_cons_succ, List.getElem_cons_zero]
        refine wpAnyH_take (i := 8) (oi := _) (v := Value.agg #[Value.int .i64 979, Value.int .i64 1010]) rfl (by kernel_rfl) (by kernel_rfl) (by kernel_rfl) (fun _ _ _ h => h) (Or.inl ⟨by rfl, fun w' hSw => ?_⟩) hHeld ?_
        · obtain ⟨t0, t1, t2, t3, t4, t5, t6, t7, t8, t9, t10⟩ := hSw
          go_simp
          try simp [*]
          try (intro hh; exfalso; omega)
          try omega
        try simp only [Act.put, List.setIfInBounds_toArray, List.set_cons_zero, List.set_cons_succ, List.getElem_toArray, List.getElem_cons_succ, List.getElem_cons_zero]
        refine wpAnyH_take (i := 9) (oi := _) (v := Value.int .i64 0) rfl (by kernel_rfl) (by kernel_rfl) (by kernel_rfl) (fun _ _ _ h => h) (Or.inl ⟨by rfl, fun w' hSw => ?_⟩) hHeld ?_
        · obtain ⟨t0, t1, t2, t3, t4, t5, t6, t7, t8, t9, t10⟩ := hSw
          go_simp
          try simp [*]
          try (intro hh; exfalso; omega)
          try omega
        try simp only [Act.put, List.setIfInBounds_toArray, List.set_cons_zero, List.set_cons_succ, List.getElem_toArray, List.getElem_cons_succ, List.getElem_cons_zero]
        refine wpAnyH_ready (rs := [10]) (by kernel_rfl) (by simp) ?_
        refine AllReadyH.cons (o := _) rfl (fun K hK => ?_) AllReadyH.nil
        go_simp
        have HVa := Lib.hid (show Below w2.heap.size w2 (v1.alloc (.cells #[.int .i64 0, .int .i64 0] 23)) from HV1.out.alloc HV1.out.size _)
        clear hHeld
        refine hK.out _ _ (KB2.out _ HVa.out) (fun hHeld => ?_)
        clear hK K
        try simp only [Act.put, List.setIfInBounds_toArray, List.set_cons_zero, List.set_cons_succ, List.getElem_toArray, List.getElem_cons_succ, List.getElem_cons_zero]
        obtain ⟨Z, hZe⟩ : ∃ Z, Z = v1.alloc (.cells #[.int .i64 979, .int .i64 1010] 23) := ⟨_, rfl⟩
        have hZ : Bx2 Z v1.heap.size (.int .i64 979) (.int .i64 1010) := by rw [hZe]; exact Bx2.new _ _ _
        have hBZ : Below w2.heap.size w2 Z := by rw [hZe]; exact HV1.out.alloc HV1.out.size _
        refine wpAnyH_ready (rs := [11]) (by kernel_rfl) (by simp) ?_
        refine AllReadyH.cons (o := _) rfl (fun K hK => ?_) AllReadyH.nil
        go_simp
        try rw [← hZe]
        clear hHeld
        refine hK.out _ _ (KB2.out _ hBZ) (fun hHeld => ?_)
        clear hK K
        try simp only [Act.put, List.setIfInBounds_toArray, List.set_cons_zero, List.set_cons_succ, List.getElem_toArray, List.getElem_cons_succ, List.getElem_cons_zero]
        clear hZe
        refine wpAnyH_take (i := 12) (oi := _) (v := Value.int .i64 0) rfl (by kernel_rfl) (by kernel_rfl) (by kernel_rfl) (fun _ _ _ h => h) (Or.inl ⟨by rfl, fun w' hSw => ?_⟩) hHeld ?_
        · obtain ⟨t0, t1, t2, t3, t4, t5, t6, t7, t8, t9, t10⟩ := hSw
          go_simp
          try simp [*]
          try (intro hh; exfalso; omega)
          try omega
        try simp only [Act.put, List.setIfInBounds_toArray, List.set_cons_zero, List.set_cons_succ, List.getElem_toArray, List.getElem_cons_succ, List.getElem_cons_zero]
        refine wpAnyH_done (by kernel_rfl) ?_ _
        clear hHeld
        go_wp2_with fail
        go_meet
        case rel => exact ⟨_, rfl, by first | rfl | trivial, hZ, hBZ⟩
      · go_simp
        have HVa := Lib.hid (show Below w2.heap.size w2 (w2.drew.alloc (.cells #[.int .i64 0, .int .i64 0] 23)) from HW3.out.drew.alloc (Below.size HW3.out.drew) _)
        have HX0 := Lib.hid (show Bx2 (w2.drew.alloc (.cells #[.int .i64 0, .int .i64 0] 23)) w2.heap.size (.int .i64 0) (.int .i64 0) from Bx2.new _ _ _)
        clear hHeld
        refine hK.out _ _ (KB2.out _ HVa.out) (fun hHeld => ?_)
        clear hK K
        try simp only [Act.put, List.setIfInBounds_toArray, List.set_cons_zero, List.set_cons_succ, List.getElem_toArray, List.getElem_cons_succ, List.getElem_cons_zero]
        refine wpAnyH_ready (rs := [6]) (by kernel_rfl) (by simp) ?_
        refine AllReadyH.cons (o := _) rfl (fun K hK => ?_) AllReadyH.nil
        go_simp
        go_at_call 22
        refine Calls.mono (c22b _) ?_
        rintro e v1 ⟨rfl, hb⟩
        have HV1 := Lib.hid (show Below w2.heap.size w2 v1 from Below.trans HVa.out (hb.mono (Below.size HVa.out)))
        have HX := Lib.hid (HX0.out.keep hb)
        clear hb
        clear hHeld
        refine hK.out _ _ (KB2.out _ HV1.out) (fun hHeld => ?_)
        clear hK K
        try simp only [Act.put, List.setIfInBounds_toArray, List.set_cons_zero, List.set_cons_succ, List.getElem_toArray, List.getElem_cons_succ, List.getElem_cons_zero]
        refine wpAnyH_take (i := 7) (oi := _) (v := Value.tuple #[Value.agg #[Value.int .i64 979, Value.int .i64 1010], Value.int .i64 0]) rfl (by kernel_rfl) (by kernel_rfl) (by kernel_rfl) (fun _ _ _ h => h) (Or.inl ⟨by rfl, fun w' hSw => ?_⟩) hHeld ?_
        · obtain ⟨t0, t1, t2, t3, t4, t5, t6, t7, t8, t9, t10⟩ := hSw
          go_simp
          try simp [*]
          try (intro hh; exfalso; omega)
          try omega
        try simp only [Act.put, List.setIfInBounds_toArray, List.set_cons_zero, List.set_cons_succ, List.getElem_toArray, List.getElem_cons_succ, List.getElem_cons_zero]
        refine wpAnyH_take (i := 8) (oi := _) (v := Value.agg #[Value.int .i64 979, Value.int .i64 1010]) rfl (by kernel_rfl) (by kernel_rfl) (by kernel_rfl) (fun _ _ _ h => h) (Or.inl ⟨by rfl, fun w' hSw => ?_⟩) hHeld ?_
        · obtain ⟨t0, t1, t2, t3, t4, t5, t6, t7, t8, t9, t10⟩ := hSw
          go_simp
          try simp [*]
          try (intro hh; exfalso; omega)
          try omega
        try simp only [Act.put, List.setIfInBounds_toArray, List.set_cons_zero, List.set_cons_succ, List.getElem_toArray, List.getElem_cons_succ, List.getElem_cons_zero]
        refine wpAnyH_take (i := 9) (oi := _) (v := Value.int .i64 0) rfl (by kernel_rfl) (by kernel_rfl) (by kernel_rfl) (fun _ _ _ h => h) (Or.inl ⟨by rfl, fun w' hSw => ?_⟩) hHeld ?_
        · obtain ⟨t0, t1, t2, t3, t4, t5, t6, t7, t8, t9, t10⟩ := hSw
          go_simp
          try simp [*]
          try (intro hh; exfalso; omega)
          try omega
        try simp only [Act.put, List.setIfInBounds_toArray, List.set_cons_zero, List.set_cons_succ, List.getElem_toArray, List.getElem_cons_succ, List.getElem_cons_zero]
        have r0 := HX.out.c0
        have r1 := HX.out.c1
        have rf0 := HX.out.f0 0
        have rf1 := HX.out.f0 1
        have hBl : w2.heap.size ≤ w2.heap.size := HW3.out.size
        obtain ⟨Z, hZe⟩ : ∃ Z, Z = (v1.setCell ⟨w2.heap.size, 0, none⟩ (.int .i64 979)).setCell ⟨w2.heap.size, 1, none⟩ (.int .i64 1010) := ⟨_, rfl⟩
        have hZ : Bx2 Z (w2.heap.size) (.int .i64 979) (.int .i64 1010) := by rw [hZe]; exact HX.out.set _ _
        have hBZ : Below w2.heap.size w2 Z := by rw [hZe]; exact (HV1.out.setCell (p := ⟨w2.heap.size, 0, none⟩) hBl _).setCell (p := ⟨w2.heap.size, 1, none⟩) hBl _
        refine wpAnyH_ready (rs := [11]) (by kernel_rfl) (by simp) ?_
        refine AllReadyH.cons (o := _) rfl (fun K hK => ?_) AllReadyH.nil
        go_simp
        try rw [← hZe]
        clear hHeld
        refine hK.out _ _ (KB2.out _ hBZ) (fun hHeld => ?_)
        clear hK K
        try simp only [Act.put, List.setIfInBounds_toArray, List.set_cons_zero, List.set_cons_succ, List.getElem_toArray, List.getElem_cons_succ, List.getElem_cons_zero]
        clear hZe r0 r1 rf0 rf1
        refine wpAnyH_take (i := 12) (oi := _) (v := Value.int .i64 0) rfl (by kernel_rfl) (by kernel_rfl) (by kernel_rfl) (fun _ _ _ h => h) (Or.inl ⟨by rfl, fun w' hSw => ?_⟩) hHeld ?_
        · obtain ⟨t0, t1, t2, t3, t4, t5, t6, t7, t8, t9, t10⟩ := hSw
          go_simp
          try simp [*]
          try (intro hh; exfalso; omega)
          try omega
        try simp only [Act.put, List.setIfInBounds_toArray, List.set_cons_zero, List.set_cons_succ, List.getElem_toArray, List.getElem_cons_succ, List.getElem_cons_zero]
        refine wpAnyH_done (by kernel_rfl) ?_ _
        clear hHeld
        go_wp2_with fail
        go_meet
        case rel => exact ⟨_, rfl, by first | rfl | trivial, hZ, hBZ⟩
    case rest => as_aux_lemma =>
      obtain ⟨B4, rfl, rfl, hB4, hW4⟩ := hcut
      have HX4 := Lib.hid hB4
      have HX2a := Lib.hid (HX2.out.keep hW4)
      have HW4 := Lib.hid (HW2.out.trans (hW4.mono HW2.out.size))
      clear hB4 hW4 KB KB2 HX2 HW3
      obtain ⟨w4, hw4⟩ : ∃ w4, w4 = wc := ⟨_, rfl⟩
      subst hw4
      obtain ⟨g0, g1, g2⟩ := KC.out _ HW4.out
      have HC := Lib.hid (c24a.out _ _ (HXV.out.mono HW4.out HW4.out.size))
      go_wp2_with fail
      refine HC.out.mono ?_
      rintro e w5 ⟨rfl, hb⟩
      have HW5 := Lib.hid (HW4.out.trans (hb.mono HW4.out.size))
      have HX25 := Lib.hid (HX2a.out.keep hb)
      have HX45 := Lib.hid (HX4.out.keep hb)
      clear hb HC HX2a HX4
      go_upto_region 5 with fail
      obtain ⟨V5, hV5⟩ : ∃ V5, V5 = w5.alloc (.cells #[.int .i64 995, .int .i64 1005] 23) := ⟨_, rfl⟩
      try rw [← hV5]
      have hbb : Below w5.heap.size w5 V5 := by rw [hV5]; exact (Below.refl _ _).alloc (Nat.le_refl _) _
      have HW5a := Lib.hid (HW5.out.trans (hbb.mono HW5.out.size))
      have HX25a := Lib.hid (HX25.out.keep hbb)
      have HX45a := Lib.hid (HX45.out.keep hbb)
      have HX6a := Lib.hid (show Bx2 V5 w5.heap.size (.int .i64 995) (.int .i64 1005) by rw [hV5]; exact Bx2.new _ _ _)
      clear hbb hV5 HX25 HX45 g0 g1 g2
      obtain ⟨g0, g1, g2⟩ := KC.out _ HW5a.out
      have HC := Lib.hid (c24b.out _ _ (HXV.out.mono HW5a.out HW5a.out.size))
      go_wp2_with fail
      refine HC.out.mono ?_
      rintro e w6 ⟨rfl, hb⟩
      have HW6 := Lib.hid (HW5a.out.trans (hb.mono HW5a.out.size))
      have HX26 := Lib.hid (HX25a.out.keep hb)
      have HX46 := Lib.hid (HX45a.out.keep hb)
      have HX66 := Lib.hid (HX6a.out.keep hb)
      clear hb HC HX25a HX45a HX6a
      go_upto_region 6 with fail
      obtain ⟨V6, hV6⟩ : ∃ V6, V6 = w6.alloc (.cells #[.int .i64 994, .int .i64 1006] 23) := ⟨_, rfl⟩
      try rw [← hV6]
      have hbb : Below w6.heap.size w6 V6 := by rw [hV6]; exact (Below.refl _ _).alloc (Nat.le_refl _) _
      have HW6a := Lib.hid (HW6.out.trans (hbb.mono HW6.out.size))
      have HX26a := Lib.hid (HX26.out.keep hbb)
      have HX46a := Lib.hid (HX46.out.keep hbb)
      have HX66a := Lib.hid (HX66.out.keep hbb)
      have HX8a := Lib.hid (show Bx2 V6 w6.heap.size (.int .i64 994) (.int .i64 1006) by rw [hV6]; exact Bx2.new _ _ _)
      clear hbb hV6 HX26 HX46 HX66 g0 g1 g2
      obtain ⟨g0, g1, g2⟩ := KC.out _ HW6a.out
      have HC := Lib.hid (c32.out _ _ (HXV.out.mono HW6a.out HW6a.out.size))
      go_wp2_with fail
      refine HC.out.mono ?_
      rintro e w7 ⟨m, f, rfl, hD, hb⟩
      obtain ⟨rfl, rfl⟩ := ex_due12 hD
      have HW7 := Lib.hid (HW6a.out.trans (hb.mono HW6a.out.size))
      have q20 := (HX26a.out.keep hb).c0
      have q21 := (HX26a.out.keep hb).c1
      have q40 := (HX46a.out.keep hb).c0
      have q41 := (HX46a.out.keep hb).c1
      have q60 := (HX66a.out.keep hb).c0
      have q61 := (HX66a.out.keep hb).c1
      have q80 := (HX8a.out.keep hb).c0
      have q81 := (HX8a.out.keep hb).c1
      clear hb HC hD g0 g1 g2
      go_wp2_with fail
      refine (c44a _).mono ?_
      rintro e w8 ⟨rfl, hb⟩
      have HW8 := Lib.hid (HW7.out.trans (hb.mono HW7.out.size))
      clear hb q20 q21 q40 q41 q60 q61 q80 q81
      go_wp2_with fail
      refine (c44b _).mono ?_
      rintro e w9 ⟨rfl, hb⟩
      have HW9 := Lib.hid (HW8.out.trans (hb.mono HW8.out.size))
      clear hb
      have hsp : Sps (w9.alloc (.cells #[.int .i64 1, .int .i64 3, .int .i64 2, .int .i64 4, .int .i64 5, .int .i64 6] 23)).heap.size (w9.alloc (.cells #[.int .i64 1, .int .i64 3, .int .i64 2, .int .i64 4, .int .i64 5, .int .i64 6] 23)) (.slice (some ⟨w9.heap.size, 0, none⟩) 3 3) exE := by
        refine ⟨_, 3, rfl, Nat.le_refl _, fun k hk => ⟨w9.heap.size, 0, rfl, by simp, ?_⟩⟩
        have hk3 : k < 3 := hk
        rcases (by omega : k = 0 ∨ k = 1 ∨ k = 2) with rfl | rfl | rfl
        · refine ⟨?_, ?_⟩ <;> simp [go_sem, sp, exE]
        · refine ⟨?_, ?_⟩ <;> simp [go_sem, sp, exE]
        · refine ⟨?_, ?_⟩ <;> simp [go_sem, sp, exE]
      have hrk := c46.out _ _ hsp
      unfold RnkR at hrk
      have HRK := Lib.hid hrk
      clear hsp hrk
      have HW9a := Lib.hid (HW9.out.alloc HW9.out.size (.cells #[.int .i64 1, .int .i64 3, .int .i64 2, .int .i64 4, .int .i64 5, .int .i64 6] 23))
      go_upto_region 11 with fail
      iterate 11 go_step
      refine wp_build3 _ (.tmp 98) (.tmp 99) (.tmp 100) rfl rfl rfl rfl ?_
      go_wp2_with fail
      refine HRK.out.mono ?_
      rintro e wA ⟨v, E, rfl, hE, hS, hb⟩
      rw [ex_evE] at hE
      subst hE
      rw [if_pos rfl, show exE.length = 3 from rfl, ex_rk] at hS
      have HWA := Lib.hid (HW9a.out.trans (hb.mono HW9a.out.size))
      obtain ⟨av, cv, rfl, -, hcv⟩ := hS
      obtain ⟨b3, off3, rfl, hb3, z0, z1⟩ := hcv 0 (by decide)
      obtain ⟨b4, off4, hab, -, z2, z3⟩ := hcv 1 (by decide)
      simp only [Option.some.injEq, Addr.mk.injEq] at hab
      obtain ⟨rfl, rfl, -⟩ := hab
      obtain ⟨b5, off5, hab, -, z4, z5⟩ := hcv 2 (by decide)
      simp only [Option.some.injEq, Addr.mk.injEq] at hab
      obtain ⟨rfl, rfl, -⟩ := hab
      simp [sp] at z0 z1 z2 z3 z4 z5
      clear hb hcv HRK
      go_wp2_with fail
      refine (c21 _).mono ?_
      rintro e wz ⟨rfl, hbz⟩
      have HBZ := Lib.hid (HBV.out.trans ((HWA.out.trans (hbz.mono HWA.out.size)).mono HBV.out.size))
      clear hbz
      go_wp2_with fail
      go_ret
      exact ⟨rfl, HBZ.out⟩
end Go.Proofs.Ytcchmjbedppfnaa

/-
  TopOhm: from spans to voltages.
-/
import Derived.Test.YtdohfpnnmppdkaaOhmR
import Derived.Test.YtdohfpnnmppdkaaWired
import Derived.Test.YtdohfpnnmppdkaaWkB
namespace Go.Proofs.Ytdohfpnnmppdkaa
open Go.RowKit Go.Shelf
set_option linter.unusedSimpArgs false
attribute [local go_sem] Oper.semAt_some
theorem ohm_vals {ws : List Wr} {N : Nat} (hN : N ≤ 10) (h : ∀ k, k < N → OkW (wr ws k)) :
    (∀ W v, Nds W.heap.size W v (wirF ws N) → Calls Try.prog 28 #[.agg #[.int .i64 20000, .int .i64 20500, v]] W fun e w' => ∃ u, e = .returned (.tuple #[u, .int .i64 0]) ∧ Sv w'.heap.size w' u (N + 1) (fun j => (curL (wirF ws N) j, curH (wirF ws N) j)) ∧ Below W.heap.size W w') ∧
    (∀ W v, Nds W.heap.size W v (wirF ws N) → Calls Try.prog 30 #[.agg #[.int .i64 20000, .int .i64 20500, v]] W fun e w' => ∃ u, e = .returned (.tuple #[u, .int .i64 0]) ∧ Sv w'.heap.size w' u (N + 1) (vol 20000 20500 (wirF ws N)) ∧ Below W.heap.size W w') ∧
    (∀ W v, Nds W.heap.size W v (wirF ws N) → Calls Try.prog 35 #[.agg #[.int .i64 20000, .int .i64 20500, v]] W fun e w' => ∃ u, e = .returned (.tuple #[u, .int .i64 0]) ∧ Il w'.heap.size w' u (fL (ansF 20000 20500 (wirF ws N)) (N + 1)) ∧ Below W.heap.size W w') := by
  have hE := wirF_cab ws N hN h
  have hl := wirF_len ws N
  refine ⟨fun W v hn => ?_, fun W v hn => ?_, fun W v hn => ?_⟩
  · refine (cur28_all 20000 20500 v _ W hn).mono fun e w' q => ?_
    obtain ⟨u, e1, e2, e3⟩ := q
    rw [hE] at e1 e2
    rw [if_pos rfl, hl] at e2
    exact ⟨u, e1, e2, e3⟩
  · refine (vol30_all 20000 20500 v _ W hn).mono fun e w' q => ?_
    obtain ⟨u, e1, e2, e3⟩ := q
    rw [hE] at e1 e2
    rw [if_pos rfl, hl] at e2
    exact ⟨u, e1, e2, e3⟩
  · refine (fed_all 20000 20500 v _ W hn).mono fun e w' q => ?_
    obtain ⟨u, e1, e2, e3⟩ := q
    rw [hE] at e1 e2
    rw [if_pos rfl, hl] at e2
    exact ⟨u, e1, e2, e3⟩
/-- spans in memory: where they begin, and their cells at every later world -/
theorem sv_open {W : World} {v : Value} {n : Nat} {f : Nat → Int × Int} (hn : 0 < n) (h : Sv W.heap.size W v n f) :
    ∃ b o c, v = .slice (some ⟨b, o, none⟩) n c ∧ b < W.heap.size ∧ ∀ Z k, Below W.heap.size W Z → k < n → Z.cell? ⟨b, o + k * 2, none⟩ = some (.int .i64 (f k).1) ∧ Z.cell? ⟨b, o + k * 2 + 1, none⟩ = some (.int .i64 (f k).2) := by
  obtain ⟨a, c, rfl, -, hc⟩ := h
  obtain ⟨b, o, rfl, hb, -⟩ := hc 0 hn
  refine ⟨b, o, c, rfl, hb, fun Z k hZ hk => ?_⟩
  obtain ⟨b', o', e, hb', c0, c1⟩ := hc k hk
  simp only [Option.some.injEq, Addr.mk.injEq] at e
  obtain ⟨rfl, rfl, -⟩ := e
  exact ⟨(hZ.cell (p := ⟨b, _, none⟩) hb).trans c0, (hZ.cell (p := ⟨b, _, none⟩) hb).trans c1⟩
theorem il_open {W : World} {v : Value} {n : Nat} {f : Nat → Int} (hn : 0 < n) (h : Il W.heap.size W v (fL f n)) :
    ∃ b o c, v = .slice (some ⟨b, o, none⟩) n c ∧ b < W.heap.size ∧ ∀ Z k, Below W.heap.size W Z → k < n → Z.cell? ⟨b, o + k, none⟩ = some (.int .i64 (f k)) := by
  obtain ⟨a, c, hv, -, hc⟩ := h
  rw [fL_len] at hv hc
  subst hv
  obtain ⟨b, o, rfl, hb, -⟩ := hc 0 hn
  refine ⟨b, o, c, rfl, hb, fun Z k hZ hk => ?_⟩
  obtain ⟨b', o', e, hb', c0⟩ := hc k hk
  simp only [Option.some.injEq, Addr.mk.injEq] at e
  obtain ⟨rfl, rfl, -⟩ := e
  rw [fL_ti _ hk] at c0
  exact (hZ.cell (p := ⟨b, _, none⟩) hb).trans c0
theorem nds_open {W : World} {v : Value} {n : Nat} {ns : List Nd} (hl : ns.length = n) (hn : 0 < n) (h : Nds W.heap.size W v ns) :
    ∃ b o c, v = .slice (some ⟨b, o, none⟩) n c ∧ b < W.heap.size ∧ ∀ Z k, Below W.heap.size W Z → k < n → Z.cell? ⟨b, o + k * 8, none⟩ = some (.int .i64 (nd ns k).par) ∧ Z.cell? ⟨b, o + k * 8 + 1, none⟩ = some (.int .i64 (nd ns k).ol) ∧ Z.cell? ⟨b, o + k * 8 + 2, none⟩ = some (.int .i64 (nd ns k).oh) ∧ Z.cell? ⟨b, o + k * 8 + 6, none⟩ = some (.int .i64 (nd ns k).lea) := by
  subst hl
  obtain ⟨a, c, rfl, -, hc⟩ := h
  obtain ⟨b, o, rfl, hb, -⟩ := hc 0 hn
  refine ⟨b, o, c, rfl, hb, fun Z k hZ hk => ?_⟩
  obtain ⟨b', o', e, hb', c0, c1, c2, c3, c4, c5, c6, c7⟩ := hc k hk
  simp only [Option.some.injEq, Addr.mk.injEq] at e
  obtain ⟨rfl, rfl, -⟩ := e
  exact ⟨(hZ.cell (p := ⟨b, _, none⟩) hb).trans c0, (hZ.cell (p := ⟨b, _, none⟩) hb).trans c1, (hZ.cell (p := ⟨b, _, none⟩) hb).trans c2, (hZ.cell (p := ⟨b, _, none⟩) hb).trans c6⟩
set_option maxRecDepth 100000 in
set_option maxHeartbeats 32000000 in
theorem ohmLaw_any (sv : Value) (ws : List Wr) (w : World) (hI : WirA w.heap.size w sv ws) :
    Calls Try.prog 15 #[sv] w fun e w' => e = .returned (.bool true) ∧ Below w.heap.size w w' := by
  have c65 := wired_any sv ws w hI
  have c69 := Lib.hid (fun W => works04_any W)
  obtain ⟨N, hN⟩ : ∃ N, N = min ws.length 10 := ⟨_, rfl⟩
  have hN10 : N ≤ 10 := by omega
  have hOk : ∀ k, k < N → OkW (wr ws k) := fun k hk => by
    obtain ⟨a, cap, -, -, hc⟩ := hI
    obtain ⟨b, off, -, -, h⟩ := hc k (by omega)
    exact h.1
  rw [← hN] at c65
  obtain ⟨q1, q2, q3⟩ := ohm_vals hN10 hOk
  have c28 := Lib.hid q1
  have c30 := Lib.hid q2
  have c35 := Lib.hid q3
  have HR := Lib.hid (fun (k : Nat) (h1 : 1 ≤ k) (h2 : k < N + 1) => ohm_round hN10 hOk h1 h2)
  have HV0 := Lib.hid (show vol 20000 20500 (wirF ws N) 0 = (20000, 20500) from vol_zero _ _ _)
  have HLEN := Lib.hid (wirF_len ws N)
  clear q1 q2 q3 hOk hN hI
  generalize wirF ws N = ns at *
  obtain ⟨n, hn⟩ : ∃ n, n = N + 1 := ⟨_, rfl⟩
  rw [← hn] at c28 c30 c35 HR HLEN
  have hn0 : 0 < n := by omega
  have hn11 : n ≤ 11 := by omega
  clear hn hN10
  go_enter Try.func15, Try.ntmps15
  go_wp2_with fail
  refine c65.mono ?_
  rintro e w0 ⟨cv, rfl, hNd, hb0⟩
  have HB0 := Lib.hid hb0
  obtain ⟨nb, no, nc, rfl, hnb, hnc⟩ := nds_open HLEN.out hn0 hNd
  have HND := Lib.hid hNd
  obtain ⟨A, hA⟩ : ∃ A, A = w0.alloc (.cells #[.int .i64 20000, .int .i64 20500, .slice (some ⟨nb, no, none⟩) n nc] 26) := ⟨_, rfl⟩
  have HBA := Lib.hid (show Below w0.heap.size w0 A by rw [hA]; exact ((Below.refl _ _).alloc (Nat.le_refl _) _))
  have HXA := Lib.hid (show A.heap[w0.heap.size]? = some (.cells #[.int .i64 20000, .int .i64 20500, .slice (some ⟨nb, no, none⟩) n nc] 26 (0, 0)) by rw [hA]; exact World.alloc_heap_new _ _)
  have KK := Lib.hid (show ∀ W, Below A.heap.size A W → W.cell? ⟨w0.heap.size, 0, none⟩ = some (.int .i64 20000) ∧ W.cell? ⟨w0.heap.size, 1, none⟩ = some (.int .i64 20500) ∧ W.cell? ⟨w0.heap.size, 2, none⟩ = some (.slice (some ⟨nb, no, none⟩) n nc) from fun W h => by
    have q := (h.block _ (Array.getElem?_eq_some_iff.1 HXA.out).1).trans HXA.out
    exact ⟨cellHB q 0, cellHB q 1, cellHB q 2⟩)
  have HNC := Lib.hid (show ∀ W k, Below A.heap.size A W → k < n → W.cell? ⟨nb, no + k * 8, none⟩ = some (.int .i64 (nd ns k).par) ∧ W.cell? ⟨nb, no + k * 8 + 1, none⟩ = some (.int .i64 (nd ns k).ol) ∧ W.cell? ⟨nb, no + k * 8 + 2, none⟩ = some (.int .i64 (nd ns k).oh) ∧ W.cell? ⟨nb, no + k * 8 + 6, none⟩ = some (.int .i64 (nd ns k).lea) from fun W k h hk => hnc W k (HBA.out.trans (h.mono HBA.out.size)) hk)
  have cI := Lib.hid (fun W (h : Below A.heap.size A W) => c28.out W _ (HND.out.at (HBA.out.trans (h.mono HBA.out.size))))
  have cV := Lib.hid (fun W (h : Below A.heap.size A W) => c30.out W _ (HND.out.at (HBA.out.trans (h.mono HBA.out.size))))
  have cF := Lib.hid (fun W (h : Below A.heap.size A W) => c35.out W _ (HND.out.at (HBA.out.trans (h.mono HBA.out.size))))
  have HUP := Lib.hid (show ∀ W, Below A.heap.size A W → Below w.heap.size w W from fun W h => HB0.out.trans ((HBA.out.trans (h.mono HBA.out.size)).mono HB0.out.size))
  clear hNd hb0 hnc hnb c28 c30 c35 c65 HXA
  obtain ⟨k0, k1, k2⟩ := KK.out _ (Below.refl _ _)
  go_upto_region 2 with fail
  rw [← hA]
  clear hA
  generalize w0.heap.size = B3 at *
  go_wp2_with fail
  refine (cI.out _ (Below.refl _ _)).mono ?_
  rintro e w1 ⟨u, rfl, hS, hb⟩
  obtain ⟨ib, io, ic, rfl, -, hic⟩ := sv_open hn0 hS
  have HB1 := Lib.hid hb
  have HIC := Lib.hid hic
  clear hb hS hic k0 k1 k2 cI
  obtain ⟨k0, k1, k2⟩ := KK.out _ HB1.out
  go_wp2_with fail
  refine (cV.out _ HB1.out).mono ?_
  rintro e w2 ⟨u, rfl, hS, hb⟩
  obtain ⟨vb, vo, vc, rfl, -, hvc⟩ := sv_open hn0 hS
  have HB2 := Lib.hid hb
  have HVC := Lib.hid hvc
  clear hb hS hvc k0 k1 k2 cV
  obtain ⟨k0, k1, k2⟩ := KK.out _ (HB1.out.trans (HB2.out.mono HB1.out.size))
  go_wp2_with fail
  refine (cF.out _ (HB1.out.trans (HB2.out.mono HB1.out.size))).mono ?_
  rintro e w3 ⟨u, rfl, hS, hb⟩
  obtain ⟨ab, ao, ac, rfl, -, hac⟩ := il_open hn0 hS
  have HB3 := Lib.hid hb
  have HAC := Lib.hid hac
  clear hb hS hac k0 k1 k2 cF
  have HW3 := Lib.hid (show ∀ W, Below w3.heap.size w3 W → Below A.heap.size A W ∧ Below w1.heap.size w1 W ∧ Below w2.heap.size w2 W from fun W h => by
    have a := HB3.out.trans (h.mono HB3.out.size)
    have b := HB2.out.trans (a.mono HB2.out.size)
    exact ⟨HB1.out.trans (b.mono HB1.out.size), b, a⟩)
  have HCELLS := Lib.hid (show ∀ W, Below w3.heap.size w3 W → (W.cell? ⟨B3, 0, none⟩ = some (.int .i64 20000) ∧ W.cell? ⟨B3, 1, none⟩ = some (.int .i64 20500) ∧ W.cell? ⟨B3, 2, none⟩ = some (.slice (some ⟨nb, no, none⟩) n nc)) from fun W h => KK.out W (HW3.out W h).1)
  have HROUND := Lib.hid (show ∀ k, 1 ≤ k → k < n → ∃ (cl ch ol oh p q dl dh vl vh ul uh x y : Int) (pn : Nat), pn < n ∧
      (∀ W, Below w3.heap.size w3 W → (W.cell? ⟨ib, io + k * 2, none⟩ = some (.int .i64 cl) ∧ W.cell? ⟨ib, io + k * 2 + 1, none⟩ = some (.int .i64 ch)) ∧ (W.cell? ⟨nb, no + k * 8, none⟩ = some (.int .i64 (pn : Int)) ∧ W.cell? ⟨nb, no + k * 8 + 1, none⟩ = some (.int .i64 ol) ∧ W.cell? ⟨nb, no + k * 8 + 2, none⟩ = some (.int .i64 oh) ∧ W.cell? ⟨nb, no + k * 8 + 6, none⟩ = some (.int .i64 19000)) ∧ (W.cell? ⟨vb, vo + pn * 2, none⟩ = some (.int .i64 ul) ∧ W.cell? ⟨vb, vo + pn * 2 + 1, none⟩ = some (.int .i64 uh)) ∧ (W.cell? ⟨vb, vo + k * 2, none⟩ = some (.int .i64 vl) ∧ W.cell? ⟨vb, vo + k * 2 + 1, none⟩ = some (.int .i64 vh)) ∧ W.cell? ⟨ab, ao + k, none⟩ = some (.int .i64 y)) ∧
      (∀ W, Calls Try.prog 66 #[.agg #[.int .i64 cl, .int .i64 ch], .agg #[.int .i64 ol, .int .i64 oh]] W fun e w' => e = .returned (.tuple #[.agg #[.int .i64 p, .int .i64 q], .int .i64 0]) ∧ Below W.heap.size W w') ∧
      (∀ W, Calls Try.prog 62 #[.agg #[.int .i64 p, .int .i64 q], .int .i64 1, .int .i64 1000] W fun e w' => e = .returned (.tuple #[.agg #[.int .i64 dl, .int .i64 dh], .int .i64 0]) ∧ Below W.heap.size W w') ∧
      (∀ W, Calls Try.prog 64 #[.agg #[.int .i64 ul, .int .i64 uh], .agg #[.int .i64 dl, .int .i64 dh]] W fun e w' => e = .returned (.tuple #[.agg #[.int .i64 vl, .int .i64 vh], .int .i64 0]) ∧ Below W.heap.size W w') ∧
      (∀ W, Calls Try.prog 67 #[.agg #[.int .i64 vl, .int .i64 vh], .agg #[.int .i64 19000, .int .i64 19000]] W fun e w' => e = .returned (.tuple #[.int .i64 x, .int .i64 0]) ∧ Below W.heap.size W w') ∧
      (∀ W, Calls Try.prog 68 #[.int .i64 x] W fun e w' => e = .returned (.tuple #[.int .i64 y, .int .i64 0]) ∧ w' = W) from fun k h1 h2 => by
    obtain ⟨cl, ch, ol, oh, p, q, dl, dh, vl, vh, ul, uh, x, y, pn, ⟨e1, e2⟩, ⟨e3, e4⟩, e5, hpn, e6, e7, e8, e9, d1, d2, d3, d4, d5⟩ := HR.out k h1 h2
    refine ⟨cl, ch, ol, oh, p, q, dl, dh, vl, vh, ul, uh, x, y, pn, hpn, fun W h => ?_, d1, d2, d3, d4, d5⟩
    obtain ⟨b1, b2, b3⟩ := HW3.out W h
    obtain ⟨i0, i1⟩ := HIC.out W k b2 h2
    obtain ⟨n0, n1, n2, n6⟩ := HNC.out W k b1 h2
    obtain ⟨u0, u1⟩ := HVC.out W pn b3 hpn
    obtain ⟨z0, z1⟩ := HVC.out W k b3 h2
    have a0 := HAC.out W k h h2
    rw [e7] at u0 u1
    rw [e8] at z0 z1
    rw [e9] at a0
    rw [e5] at n0
    rw [e3] at n1
    rw [e4] at n2
    rw [e6] at n6
    rw [e1] at i0
    rw [e2] at i1
    exact ⟨⟨i0, i1⟩, ⟨n0, n1, n2, n6⟩, ⟨u0, u1⟩, ⟨z0, z1⟩, a0⟩)
  have HZ := Lib.hid (show w3.cell? ⟨vb, vo, none⟩ = some (.int .i64 20000) ∧ w3.cell? ⟨vb, vo + 1, none⟩ = some (.int .i64 20500) by
    obtain ⟨z0, z1⟩ := HVC.out w3 0 (HW3.out w3 (Below.refl _ _)).2.2 hn0
    rw [HV0.out] at z0 z1
    exact ⟨by simpa using z0, by simpa using z1⟩)
  have HUP3 := Lib.hid (show ∀ W, Below w3.heap.size w3 W → Below w.heap.size w W from fun W h => HUP.out W (HW3.out W h).1)
  clear HR HV0 HIC HNC HVC HAC HLEN HND HB0 HBA KK HUP HB1 HB2 HB3 HW3
  obtain ⟨k0, k1, k2⟩ := HCELLS.out _ (Below.refl _ _)
  obtain ⟨z0, z1⟩ := HZ.out
  clear HZ
  have hlen1 : ((n : Int) != (n : Int)) = false := by simp
  have hz0i : (0 : Int) < (n : Int) := by omega
  go_upto_region 5 with fail
  go_upto_region 6 with fail
  refine wp_region_held_drew (S := fun w' => w'.cell? ⟨B3, 0, none⟩ = some (Value.int .i64 20000) ∧ w'.cell? ⟨B3, 1, none⟩ = some (Value.int .i64 20500) ∧ w'.cell? ⟨vb, vo, none⟩ = some (Value.int .i64 20000) ∧ w'.cell? ⟨vb, vo + 1, none⟩ = some (Value.int .i64 20500)) (by kernel_rfl) ⟨by simpa [go_sem] using k0, by simpa [go_sem] using k1, by simpa [go_sem] using z0, by simpa [go_sem] using z1⟩ (fun hHeld => ?_)
  refine wpAnyH_take (i := 0) (oi := _) (v := Value.int .i64 0) rfl (by kernel_rfl) (by kernel_rfl) (by kernel_rfl) (fun _ _ _ h => h) (Or.inl ⟨by rfl, fun w' hSw => ?_⟩) hHeld ?_
  · obtain ⟨t0, t1, t2, t3⟩ := hSw
    go_simp
    try simp [*]
    try (intro hh; exfalso; omega)
    try omega
    try rfl
  try simp only [Act.put, List.setIfInBounds_toArray, List.set_cons_zero, List.set_cons_succ, List.getElem_toArray, List.getElem_cons_succ, List.getElem_cons_zero]
  refine wpAnyH_take (i := 1) (oi := _) (v := Value.int .i64 0) rfl (by kernel_rfl) (by kernel_rfl) (by kernel_rfl) (fun _ _ _ h => h) (Or.inl ⟨by rfl, fun w' hSw => ?_⟩) hHeld ?_
  · obtain ⟨t0, t1, t2, t3⟩ := hSw
    go_simp
    try simp [*]
    try (intro hh; exfalso; omega)
    try omega
    try rfl
  try simp only [Act.put, List.setIfInBounds_toArray, List.set_cons_zero, List.set_cons_succ, List.getElem_toArray, List.getElem_cons_succ, List.getElem_cons_zero]
  refine wpAnyH_take (i := 2) (oi := _) (v := Value.int .i64 0) rfl (by kernel_rfl) (by kernel_rfl) (by kernel_rfl) (fun _ _ _ h => h) (Or.inl ⟨by rfl, fun w' hSw => ?_⟩) hHeld ?_
  · obtain ⟨t0, t1, t2, t3⟩ := hSw
    go_simp
    try simp [*]
    try (intro hh; exfalso; omega)
    try omega
    try rfl
  try simp only [Act.put, List.setIfInBounds_toArray, List.set_cons_zero, List.set_cons_succ, List.getElem_toArray, List.getElem_cons_succ, List.getElem_cons_zero]
  refine wpAnyH_take (i := 3) (oi := _) (v := Value.int .i64 0) rfl (by kernel_rfl) (by kernel_rfl) (by kernel_rfl) (fun _ _ _ h => h) (Or.inl ⟨by rfl, fun w' hSw => ?_⟩) hHeld ?_
  · obtain ⟨t0, t1, t2, t3⟩ := hSw
    go_simp
    try simp [*]
    try (intro hh; exfalso; omega)
    try omega
    try rfl
  try simp only [Act.put, List.setIfInBounds_toArray, List.set_cons_zero, List.set_cons_succ, List.getElem_toArray, List.getElem_cons_succ, List.getElem_cons_zero]
  refine wpAnyH_take (i := 4) (oi := _) (v := Value.int .i64 0) rfl (by kernel_rfl) (by kernel_rfl) (by kernel_rfl) (fun _ _ _ h => h) (Or.inl ⟨by rfl, fun w' hSw => ?_⟩) hHeld ?_
  · obtain ⟨t0, t1, t2, t3⟩ := hSw
    go_simp
    try simp [*]
    try (intro hh; exfalso; omega)
    try omega
    try rfl
  try simp only [Act.put, List.setIfInBounds_toArray, List.set_cons_zero, List.set_cons_succ, List.getElem_toArray, List.getElem_cons_succ, List.getElem_cons_zero]
  refine wpAnyH_take (i := 5) (oi := _) (v := Value.bool false) rfl (by kernel_rfl) (by kernel_rfl) (by kernel_rfl) (fun _ _ _ h => h) (Or.inl ⟨by rfl, fun w' hSw => ?_⟩) hHeld ?_
  · obtain ⟨t0, t1, t2, t3⟩ := hSw
    go_simp
    try simp [*]
    try (intro hh; exfalso; omega)
    try omega
    try rfl
  try simp only [Act.put, List.setIfInBounds_toArray, List.set_cons_zero, List.set_cons_succ, List.getElem_toArray, List.getElem_cons_succ, List.getElem_cons_zero]
  refine wpAnyH_take (i := 6) (oi := _) (v := Value.bool false) rfl (by kernel_rfl) (by kernel_rfl) (by kernel_rfl) (fun _ _ _ h => h) (Or.inl ⟨by rfl, fun w' hSw => ?_⟩) hHeld ?_
  · obtain ⟨t0, t1, t2, t3⟩ := hSw
    go_simp
    try simp [*]
    try (intro hh; exfalso; omega)
    try omega
    try rfl
  try simp only [Act.put, List.setIfInBounds_toArray, List.set_cons_zero, List.set_cons_succ, List.getElem_toArray, List.getElem_cons_succ, List.getElem_cons_zero]
  refine wpAnyH_take (i := 7) (oi := _) (v := Value.slice (some ⟨ib, io, none⟩) n ic) rfl (by kernel_rfl) (by kernel_rfl) (by kernel_rfl) (fun _ _ _ h => h) (Or.inl ⟨by rfl, fun w' hSw => ?_⟩) hHeld ?_
  · obtain ⟨t0, t1, t2, t3⟩ := hSw
    go_simp
    try simp [*]
    try (intro hh; exfalso; omega)
    try omega
    try rfl
  try simp only [Act.put, List.setIfInBounds_toArray, List.set_cons_zero, List.set_cons_succ, List.getElem_toArray, List.getElem_cons_succ, List.getElem_cons_zero]
  refine wpAnyH_take (i := 8) (oi := _) (v := Value.int .i64 (n : Int)) rfl (by kernel_rfl) (by kernel_rfl) (by kernel_rfl) (fun _ _ _ h => h) (Or.inl ⟨by rfl, fun w' hSw => ?_⟩) hHeld ?_
  · obtain ⟨t0, t1, t2, t3⟩ := hSw
    go_simp
    try simp [*]
    try (intro hh; exfalso; omega)
    try omega
    try rfl
  try simp only [Act.put, List.setIfInBounds_toArray, List.set_cons_zero, List.set_cons_succ, List.getElem_toArray, List.getElem_cons_succ, List.getElem_cons_zero]
  refine wpAnyH_take (i := 9) (oi := _) (v := Value.int .i64 (n : Int)) rfl (by kernel_rfl) (by kernel_rfl) (by kernel_rfl) (fun _ _ _ h => h) (Or.inl ⟨by rfl, fun w' hSw => ?_⟩) hHeld ?_
  · obtain ⟨t0, t1, t2, t3⟩ := hSw
    go_simp
    try simp [*]
    try (intro hh; exfalso; omega)
    try omega
    try rfl
  try simp only [Act.put, List.setIfInBounds_toArray, List.set_cons_zero, List.set_cons_succ, List.getElem_toArray, List.getElem_cons_succ, List.getElem_cons_zero]
  refine wpAnyH_take (i := 10) (oi := _) (v := Value.bool false) rfl (by kernel_rfl) (by kernel_rfl) (by kernel_rfl) (fun _ _ _ h => h) (Or.inl ⟨by rfl, fun w' hSw => ?_⟩) hHeld ?_
  · obtain ⟨t0, t1, t2, t3⟩ := hSw
    go_simp
    try simp [*]
    try (intro hh; exfalso; omega)
    try omega
    try rfl
  try simp only [Act.put, List.setIfInBounds_toArray, List.set_cons_zero, List.set_cons_succ, List.getElem_toArray, List.getElem_cons_succ, List.getElem_cons_zero]
  refine wpAnyH_take (i := 11) (oi := _) (v := Value.bool false) rfl (by kernel_rfl) (by kernel_rfl) (by kernel_rfl) (fun _ _ _ h => h) (Or.inl ⟨by rfl, fun w' hSw => ?_⟩) hHeld ?_
  · obtain ⟨t0, t1, t2, t3⟩ := hSw
    go_simp
    try simp [*]
    try (intro hh; exfalso; omega)
    try omega
    try rfl
  try simp only [Act.put, List.setIfInBounds_toArray, List.set_cons_zero, List.set_cons_succ, List.getElem_toArray, List.getElem_cons_succ, List.getElem_cons_zero]
  refine wpAnyH_take (i := 12) (oi := _) (v := Value.bool false) rfl (by kernel_rfl) (by kernel_rfl) (by kernel_rfl) (fun _ _ _ h => h) (Or.inl ⟨by rfl, fun w' hSw => ?_⟩) hHeld ?_
  · obtain ⟨t0, t1, t2, t3⟩ := hSw
    go_simp
    try simp [*]
    try (intro hh; exfalso; omega)
    try omega
    try rfl
  try simp only [Act.put, List.setIfInBounds_toArray, List.set_cons_zero, List.set_cons_succ, List.getElem_toArray, List.getElem_cons_succ, List.getElem_cons_zero]
  refine wpAnyH_take (i := 13) (oi := _) (v := Value.slice (some ⟨vb, vo, none⟩) n vc) rfl (by kernel_rfl) (by kernel_rfl) (by kernel_rfl) (fun _ _ _ h => h) (Or.inl ⟨by rfl, fun w' hSw => ?_⟩) hHeld ?_
  · obtain ⟨t0, t1, t2, t3⟩ := hSw
    go_simp
    try simp [*]
    try (intro hh; exfalso; omega)
    try omega
    try rfl
  try simp only [Act.put, List.setIfInBounds_toArray, List.set_cons_zero, List.set_cons_succ, List.getElem_toArray, List.getElem_cons_succ, List.getElem_cons_zero]
  refine wpAnyH_take (i := 14) (oi := _) (v := Value.int .i64 (n : Int)) rfl (by kernel_rfl) (by kernel_rfl) (by kernel_rfl) (fun _ _ _ h => h) (Or.inl ⟨by rfl, fun w' hSw => ?_⟩) hHeld ?_
  · obtain ⟨t0, t1, t2, t3⟩ := hSw
    go_simp
    try simp [*]
    try (intro hh; exfalso; omega)
    try omega
    try rfl
  try simp only [Act.put, List.setIfInBounds_toArray, List.set_cons_zero, List.set_cons_succ, List.getElem_toArray, List.getElem_cons_succ, List.getElem_cons_zero]
  refine wpAnyH_take (i := 15) (oi := _) (v := Value.int .i64 (n : Int)) rfl (by kernel_rfl) (by kernel_rfl) (by kernel_rfl) (fun _ _ _ h => h) (Or.inl ⟨by rfl, fun w' hSw => ?_⟩) hHeld ?_
  · obtain ⟨t0, t1, t2, t3⟩ := hSw
    go_simp
    try simp [*]
    try (intro hh; exfalso; omega)
    try omega
    try rfl
  try simp only [Act.put, List.setIfInBounds_toArray, List.set_cons_zero, List.set_cons_succ, List.getElem_toArray, List.getElem_cons_succ, List.getElem_cons_zero]
  refine wpAnyH_take (i := 16) (oi := _) (v := Value.bool false) rfl (by kernel_rfl) (by kernel_rfl) (by kernel_rfl) (fun _ _ _ h => h) (Or.inl ⟨by rfl, fun w' hSw => ?_⟩) hHeld ?_
  · obtain ⟨t0, t1, t2, t3⟩ := hSw
    go_simp
    try simp [*]
    try (intro hh; exfalso; omega)
    try omega
    try rfl
  try simp only [Act.put, List.setIfInBounds_toArray, List.set_cons_zero, List.set_cons_succ, List.getElem_toArray, List.getElem_cons_succ, List.getElem_cons_zero]
  refine wpAnyH_take (i := 17) (oi := _) (v := Value.bool false) rfl (by kernel_rfl) (by kernel_rfl) (by kernel_rfl) (fun _ _ _ h => h) (Or.inl ⟨by rfl, fun w' hSw => ?_⟩) hHeld ?_
  · obtain ⟨t0, t1, t2, t3⟩ := hSw
    go_simp
    try simp [*]
    try (intro hh; exfalso; omega)
    try omega
    try rfl
  try simp only [Act.put, List.setIfInBounds_toArray, List.set_cons_zero, List.set_cons_succ, List.getElem_toArray, List.getElem_cons_succ, List.getElem_cons_zero]
  refine wpAnyH_take (i := 18) (oi := _) (v := Value.bool false) rfl (by kernel_rfl) (by kernel_rfl) (by kernel_rfl) (fun _ _ _ h => h) (Or.inl ⟨by rfl, fun w' hSw => ?_⟩) hHeld ?_
  · obtain ⟨t0, t1, t2, t3⟩ := hSw
    go_simp
    try simp [*]
    try (intro hh; exfalso; omega)
    try omega
    try rfl
  try simp only [Act.put, List.setIfInBounds_toArray, List.set_cons_zero, List.set_cons_succ, List.getElem_toArray, List.getElem_cons_succ, List.getElem_cons_zero]
  refine wpAnyH_take (i := 19) (oi := _) (v := Value.slice (some ⟨ab, ao, none⟩) n ac) rfl (by kernel_rfl) (by kernel_rfl) (by kernel_rfl) (fun _ _ _ h => h) (Or.inl ⟨by rfl, fun w' hSw => ?_⟩) hHeld ?_
  · obtain ⟨t0, t1, t2, t3⟩ := hSw
    go_simp
    try simp [*]
    try (intro hh; exfalso; omega)
    try omega
    try rfl
  try simp only [Act.put, List.setIfInBounds_toArray, List.set_cons_zero, List.set_cons_succ, List.getElem_toArray, List.getElem_cons_succ, List.getElem_cons_zero]
  refine wpAnyH_take (i := 20) (oi := _) (v := Value.int .i64 (n : Int)) rfl (by kernel_rfl) (by kernel_rfl) (by kernel_rfl) (fun _ _ _ h => h) (Or.inl ⟨by rfl, fun w' hSw => ?_⟩) hHeld ?_
  · obtain ⟨t0, t1, t2, t3⟩ := hSw
    go_simp
    try simp [*]
    try (intro hh; exfalso; omega)
    try omega
    try rfl
  try simp only [Act.put, List.setIfInBounds_toArray, List.set_cons_zero, List.set_cons_succ, List.getElem_toArray, List.getElem_cons_succ, List.getElem_cons_zero]
  refine wpAnyH_take (i := 21) (oi := _) (v := Value.int .i64 (n : Int)) rfl (by kernel_rfl) (by kernel_rfl) (by kernel_rfl) (fun _ _ _ h => h) (Or.inl ⟨by rfl, fun w' hSw => ?_⟩) hHeld ?_
  · obtain ⟨t0, t1, t2, t3⟩ := hSw
    go_simp
    try simp [*]
    try (intro hh; exfalso; omega)
    try omega
    try rfl
  try simp only [Act.put, List.setIfInBounds_toArray, List.set_cons_zero, List.set_cons_succ, List.getElem_toArray, List.getElem_cons_succ, List.getElem_cons_zero]
  refine wpAnyH_take (i := 22) (oi := _) (v := Value.bool false) rfl (by kernel_rfl) (by kernel_rfl) (by kernel_rfl) (fun _ _ _ h => h) (Or.inl ⟨by rfl, fun w' hSw => ?_⟩) hHeld ?_
  · obtain ⟨t0, t1, t2, t3⟩ := hSw
    go_simp
    try simp [*]
    try (intro hh; exfalso; omega)
    try omega
    try rfl
  try simp only [Act.put, List.setIfInBounds_toArray, List.set_cons_zero, List.set_cons_succ, List.getElem_toArray, List.getElem_cons_succ, List.getElem_cons_zero]
  refine wpAnyH_take (i := 23) (oi := _) (v := Value.bool false) rfl (by kernel_rfl) (by kernel_rfl) (by kernel_rfl) (fun _ _ _ h => h) (Or.inl ⟨by rfl, fun w' hSw => ?_⟩) hHeld ?_
  · obtain ⟨t0, t1, t2, t3⟩ := hSw
    go_simp
    try simp [*]
    try (intro hh; exfalso; omega)
    try omega
    try rfl
  try simp only [Act.put, List.setIfInBounds_toArray, List.set_cons_zero, List.set_cons_succ, List.getElem_toArray, List.getElem_cons_succ, List.getElem_cons_zero]
  refine wpAnyH_take (i := 24) (oi := _) (v := Value.bool false) rfl (by kernel_rfl) (by kernel_rfl) (by kernel_rfl) (fun _ _ _ h => h) (Or.inl ⟨by rfl, fun w' hSw => ?_⟩) hHeld ?_
  · obtain ⟨t0, t1, t2, t3⟩ := hSw
    go_simp
    try simp [*]
    try (intro hh; exfalso; omega)
    try omega
    try rfl
  try simp only [Act.put, List.setIfInBounds_toArray, List.set_cons_zero, List.set_cons_succ, List.getElem_toArray, List.getElem_cons_succ, List.getElem_cons_zero]
  refine wpAnyH_take (i := 25) (oi := _) (v := Value.slice (some ⟨vb, vo, none⟩) n vc) rfl (by kernel_rfl) (by kernel_rfl) (by kernel_rfl) (fun _ _ _ h => h) (Or.inl ⟨by rfl, fun w' hSw => ?_⟩) hHeld ?_
  · obtain ⟨t0, t1, t2, t3⟩ := hSw
    go_simp
    try simp [*]
    try (intro hh; exfalso; omega)
    try omega
    try rfl
  try simp only [Act.put, List.setIfInBounds_toArray, List.set_cons_zero, List.set_cons_succ, List.getElem_toArray, List.getElem_cons_succ, List.getElem_cons_zero]
  refine wpAnyH_take (i := 26) (oi := _) (v := Value.pointer (some ⟨vb, vo, none⟩)) rfl (by kernel_rfl) (by kernel_rfl) (by kernel_rfl) (fun _ _ _ h => h) (Or.inl ⟨by rfl, fun w' hSw => ?_⟩) hHeld ?_
  · obtain ⟨t0, t1, t2, t3⟩ := hSw
    go_simp
    try simp [*]
    try (intro hh; exfalso; omega)
    try omega
    try rfl
  try simp only [Act.put, List.setIfInBounds_toArray, List.set_cons_zero, List.set_cons_succ, List.getElem_toArray, List.getElem_cons_succ, List.getElem_cons_zero]
  refine wpAnyH_take (i := 27) (oi := _) (v := Value.agg #[Value.int .i64 20000, Value.int .i64 20500]) rfl (by kernel_rfl) (by kernel_rfl) (by kernel_rfl) (fun _ _ _ h => h) (Or.inl ⟨by rfl, fun w' hSw => ?_⟩) hHeld ?_
  · obtain ⟨t0, t1, t2, t3⟩ := hSw
    go_simp
    try simp [*]
    try (intro hh; exfalso; omega)
    try omega
    try rfl
  try simp only [Act.put, List.setIfInBounds_toArray, List.set_cons_zero, List.set_cons_succ, List.getElem_toArray, List.getElem_cons_succ, List.getElem_cons_zero]
  refine wpAnyH_take (i := 28) (oi := _) (v := Value.pointer (some ⟨B3, 0, none⟩)) rfl (by kernel_rfl) (by kernel_rfl) (by kernel_rfl) (fun _ _ _ h => h) (Or.inl ⟨by rfl, fun w' hSw => ?_⟩) hHeld ?_
  · obtain ⟨t0, t1, t2, t3⟩ := hSw
    go_simp
    try simp [*]
    try (intro hh; exfalso; omega)
    try omega
    try rfl
  try simp only [Act.put, List.setIfInBounds_toArray, List.set_cons_zero, List.set_cons_succ, List.getElem_toArray, List.getElem_cons_succ, List.getElem_cons_zero]
  refine wpAnyH_take (i := 29) (oi := _) (v := Value.agg #[Value.int .i64 20000, Value.int .i64 20500]) rfl (by kernel_rfl) (by kernel_rfl) (by kernel_rfl) (fun _ _ _ h => h) (Or.inl ⟨by rfl, fun w' hSw => ?_⟩) hHeld ?_
  · obtain ⟨t0, t1, t2, t3⟩ := hSw
    go_simp
    try simp [*]
    try (intro hh; exfalso; omega)
    try omega
    try rfl
  try simp only [Act.put, List.setIfInBounds_toArray, List.set_cons_zero, List.set_cons_succ, List.getElem_toArray, List.getElem_cons_succ, List.getElem_cons_zero]
  refine wpAnyH_take (i := 30) (oi := _) (v := Value.bool false) rfl (by kernel_rfl) (by kernel_rfl) (by kernel_rfl) (fun _ _ _ h => h) (Or.inl ⟨by rfl, fun w' hSw => ?_⟩) hHeld ?_
  · obtain ⟨t0, t1, t2, t3⟩ := hSw
    go_simp
    try simp [*]
    try (intro hh; exfalso; omega)
    try omega
    try rfl
  try simp only [Act.put, List.setIfInBounds_toArray, List.set_cons_zero, List.set_cons_succ, List.getElem_toArray, List.getElem_cons_succ, List.getElem_cons_zero]
  refine wpAnyH_take (i := 31) (oi := _) (v := Value.bool false) rfl (by kernel_rfl) (by kernel_rfl) (by kernel_rfl) (fun _ _ _ h => h) (Or.inl ⟨by rfl, fun w' hSw => ?_⟩) hHeld ?_
  · obtain ⟨t0, t1, t2, t3⟩ := hSw
    go_simp
    try simp [*]
    try (intro hh; exfalso; omega)
    try omega
    try rfl
  try simp only [Act.put, List.setIfInBounds_toArray, List.set_cons_zero, List.set_cons_succ, List.getElem_toArray, List.getElem_cons_succ, List.getElem_cons_zero]
  refine wpAnyH_done (by kernel_rfl) ?_ _
  clear hHeld
  go_wp2_with fail
  go_loopw [11] (fun iv wr => ∃ k : Nat, 1 ≤ k ∧ k ≤ n ∧ iv = .int .i64 k ∧ Below w3.heap.size w3 wr) (fun iv _ => n - (intOf iv).toNat)
  case atStart => exact ⟨1, Nat.le_refl _, by omega, rfl, (Below.refl _ _).drew⟩
  case round =>
    obtain ⟨k, hk1, hk, rfl, hB⟩ := hrel
    have HB := Lib.hid hB
    clear hB k0 k1 k2 z0 z1
    by_cases hlt : k < n
    · have hki : (k : Int) < (n : Int) := by omega
      obtain ⟨cl, ch, ol, oh, p, q, dl, dh, vl, vh, ul, uh, x, y, pn, hpn, hC, c66, c62, c64, c67, c68⟩ := HROUND.out k hk1 hlt
      have hpi : (pn : Int) < (n : Int) := by omega
      have HC := Lib.hid hC
      clear hC HROUND
      have KE1 := Lib.hid (show ∀ W, Below wr.heap.size wr W → W.cell? ⟨ib, io + k * 2, none⟩ = some (Value.int .i64 cl) ∧ W.cell? ⟨ib, io + k * 2 + 1, none⟩ = some (Value.int .i64 ch) ∧ W.cell? ⟨B3, 2, none⟩ = some (Value.slice (some ⟨nb, no, none⟩) n nc) ∧ W.cell? ⟨nb, no + k * 8 + 1, none⟩ = some (Value.int .i64 ol) ∧ W.cell? ⟨nb, no + k * 8 + 2, none⟩ = some (Value.int .i64 oh) from fun W h => by
        have q := HC.out W (HB.out.trans (h.mono HB.out.size))
        exact ⟨q.1.1, q.1.2, (HCELLS.out W (HB.out.trans (h.mono HB.out.size))).2.2, q.2.1.2.1, q.2.1.2.2.1⟩)
      obtain ⟨a0, a1, a2, a3, a4⟩ := KE1.out _ (Below.refl _ _)
      go_upto_region 11 with fail
      go_cut [12, 13] from 78 to 92 (fun s12 s13 wc => ∃ B, s13 = Value.int .i64 0 ∧ s12 = Value.pointer (some ⟨B, 0, none⟩) ∧ Bx2 wc B (.int .i64 p) (.int .i64 q) ∧ Below wr.heap.size wr wc)
      case first => as_aux_lemma =>
        have HD := Lib.hid (show Below wr.heap.size wr wr.drew from (Below.refl _ _).drew)
        refine wp_region_held_drew (S := fun w' => w'.cell? ⟨ib, io + k * 2, none⟩ = some (Value.int .i64 cl) ∧ w'.cell? ⟨ib, io + k * 2 + 1, none⟩ = some (Value.int .i64 ch) ∧ w'.cell? ⟨B3, 2, none⟩ = some (Value.slice (some ⟨nb, no, none⟩) n nc) ∧ w'.cell? ⟨nb, no + k * 8 + 1, none⟩ = some (Value.int .i64 ol) ∧ w'.cell? ⟨nb, no + k * 8 + 2, none⟩ = some (Value.int .i64 oh)) (by kernel_rfl) ⟨by simpa [go_sem] using a0, by simpa [go_sem] using a1, by simpa [go_sem] using a2, by simpa [go_sem] using a3, by simpa [go_sem] using a4⟩ (fun hHeld => ?_)
        refine wpAnyH_take (i := 0) (oi := _) (v := Value.slice (some ⟨ib, io, none⟩) n ic) rfl (by kernel_rfl) (by kernel_rfl) (by kernel_rfl) (fun _ _ _ h => h) (Or.inl ⟨by rfl, fun w' hSw => ?_⟩) hHeld ?_
        · obtain ⟨t0, t1, t2, t3, t4⟩ := hSw
          go_simp
          try simp [*]
          try (intro hh; exfalso; omega)
          try omega
        try simp only [Act.put, List.setIfInBounds_toArray, List.set_cons_zero, List.set_cons_succ, List.getElem_toArray, List.getElem_cons_succ, List.getElem_cons_zero]
        refine wpAnyH_take (i := 1) (oi := _) (v := Value.int .i64 (k : Int)) rfl (by kernel_rfl) (by kernel_rfl) (by kernel_rfl) (fun _ _ _ h => h) (Or.inl ⟨by rfl, fun w' hSw => ?_⟩) hHeld ?_
        · obtain ⟨t0, t1, t2, t3, t4⟩ := hSw
          go_simp
          try simp [*]
          try (intro hh; exfalso; omega)
          try omega
        try simp only [Act.put, List.setIfInBounds_toArray, List.set_cons_zero, List.set_cons_succ, List.getElem_toArray, List.getElem_cons_succ, List.getElem_cons_zero]
        refine wpAnyH_take (i := 2) (oi := _) (v := Value.pointer (some ⟨ib, io + k * 2, none⟩)) rfl (by kernel_rfl) (by kernel_rfl) (by kernel_rfl) (fun _ _ _ h => h) (Or.inl ⟨by rfl, fun w' hSw => ?_⟩) hHeld ?_
        · obtain ⟨t0, t1, t2, t3, t4⟩ := hSw
          go_simp
          try simp [*]
          try (intro hh; exfalso; omega)
          try omega
        try simp only [Act.put, List.setIfInBounds_toArray, List.set_cons_zero, List.set_cons_succ, List.getElem_toArray, List.getElem_cons_succ, List.getElem_cons_zero]
        refine wpAnyH_take (i := 3) (oi := _) (v := Value.agg #[Value.int .i64 cl, Value.int .i64 ch]) rfl (by kernel_rfl) (by kernel_rfl) (by kernel_rfl) (fun _ _ _ h => h) (Or.inl ⟨by rfl, fun w' hSw => ?_⟩) hHeld ?_
        · obtain ⟨t0, t1, t2, t3, t4⟩ := hSw
          go_simp
          try simp [*]
          try (intro hh; exfalso; omega)
          try omega
        try simp only [Act.put, List.setIfInBounds_toArray, List.set_cons_zero, List.set_cons_succ, List.getElem_toArray, List.getElem_cons_succ, List.getElem_cons_zero]
        refine wpAnyH_take (i := 4) (oi := _) (v := Value.pointer (some ⟨B3, 2, none⟩)) rfl (by kernel_rfl) (by kernel_rfl) (by kernel_rfl) (fun _ _ _ h => h) (Or.inl ⟨by rfl, fun w' hSw => ?_⟩) hHeld ?_
        · obtain ⟨t0, t1, t2, t3, t4⟩ := hSw
          go_simp
          try simp [*]
          try (intro hh; exfalso; omega)
          try omega
        try simp only [Act.put, List.setIfInBounds_toArray, List.set_cons_zero, List.set_cons_succ, List.getElem_toArray, List.getElem_cons_succ, List.getElem_cons_zero]
        refine wpAnyH_take (i := 5) (oi := _) (v := Value.slice (some ⟨nb, no, none⟩) n nc) rfl (by kernel_rfl) (by kernel_rfl) (by kernel_rfl) (fun _ _ _ h => h) (Or.inl ⟨by rfl, fun w' hSw => ?_⟩) hHeld ?_
        · obtain ⟨t0, t1, t2, t3, t4⟩ := hSw
          go_simp
          try simp [*]
          try (intro hh; exfalso; omega)
          try omega
        try simp only [Act.put, List.setIfInBounds_toArray, List.set_cons_zero, List.set_cons_succ, List.getElem_toArray, List.getElem_cons_succ, List.getElem_cons_zero]
        refine wpAnyH_take (i := 6) (oi := _) (v := Value.int .i64 (k : Int)) rfl (by kernel_rfl) (by kernel_rfl) (by kernel_rfl) (fun _ _ _ h => h) (Or.inl ⟨by rfl, fun w' hSw => ?_⟩) hHeld ?_
        · obtain ⟨t0, t1, t2, t3, t4⟩ := hSw
          go_simp
          try simp [*]
          try (intro hh; exfalso; omega)
          try omega
        try simp only [Act.put, List.setIfInBounds_toArray, List.set_cons_zero, List.set_cons_succ, List.getElem_toArray, List.getElem_cons_succ, List.getElem_cons_zero]
        refine wpAnyH_take (i := 7) (oi := _) (v := Value.pointer (some ⟨nb, no + k * 8, none⟩)) rfl (by kernel_rfl) (by kernel_rfl) (by kernel_rfl) (fun _ _ _ h => h) (Or.inl ⟨by rfl, fun w' hSw => ?_⟩) hHeld ?_
        · obtain ⟨t0, t1, t2, t3, t4⟩ := hSw
          go_simp
          try simp [*]
          try (intro hh; exfalso; omega)
          try omega
        try simp only [Act.put, List.setIfInBounds_toArray, List.set_cons_zero, List.set_cons_succ, List.getElem_toArray, List.getElem_cons_succ, List.getElem_cons_zero]
        refine wpAnyH_take (i := 8) (oi := _) (v := Value.pointer (some ⟨nb, no + k * 8 + 1, none⟩)) rfl (by kernel_rfl) (by kernel_rfl) (by kernel_rfl) (fun _ _ _ h => h) (Or.inl ⟨by rfl, fun w' hSw => ?_⟩) hHeld ?_
        · obtain ⟨t0, t1, t2, t3, t4⟩ := hSw
          go_simp
          try simp [*]
          try (intro hh; exfalso; omega)
          try omega
        try simp only [Act.put, List.setIfInBounds_toArray, List.set_cons_zero, List.set_cons_succ, List.getElem_toArray, List.getElem_cons_succ, List.getElem_cons_zero]
        refine wpAnyH_take (i := 9) (oi := _) (v := Value.agg #[Value.int .i64 ol, Value.int .i64 oh]) rfl (by kernel_rfl) (by kernel_rfl) (by kernel_rfl) (fun _ _ _ h => h) (Or.inl ⟨by rfl, fun w' hSw => ?_⟩) hHeld ?_
        · obtain ⟨t0, t1, t2, t3, t4⟩ := hSw
          go_simp
          try simp [*]
          try (intro hh; exfalso; omega)
          try omega
        try simp only [Act.put, List.setIfInBounds_toArray, List.set_cons_zero, List.set_cons_succ, List.getElem_toArray, List.getElem_cons_succ, List.getElem_cons_zero]
        refine wpAnyH_ready (rs := [10, 14]) (by kernel_rfl) (by simp) ?_
        refine AllReadyH.cons (o := _) rfl (fun K hK => ?_) (AllReadyH.cons (o := _) rfl (fun K hK => ?_) (AllReadyH.nil))
        · go_simp
          go_at_call 66
          refine Calls.mono (c66 _) ?_
          rintro e v1 ⟨rfl, hbx⟩
          have HV1 := Lib.hid (show Below wr.heap.size wr v1 from Below.trans HD.out (hbx.mono (Below.size HD.out)))
          clear hbx
          clear hHeld
          refine hK.out _ _ (KE1.out _ HV1.out) (fun hHeld => ?_)
          clear hK K
          try simp only [Act.put, List.setIfInBounds_toArray, List.set_cons_zero, List.set_cons_succ, List.getElem_toArray, List.getElem_cons_succ, List.getElem_cons_zero]
          refine wpAnyH_take (i := 11) (oi := _) (v := Value.tuple #[.agg #[.int .i64 p, .int .i64 q], .int .i64 0]) rfl (by kernel_rfl) (by kernel_rfl) (by kernel_rfl) (fun _ _ _ h => h) (Or.inl ⟨by rfl, fun w' hSw => ?_⟩) hHeld ?_
          · obtain ⟨t0, t1, t2, t3, t4⟩ := hSw
            go_simp
            try simp [*]
            try (intro hh; exfalso; omega)
            try omega
          try simp only [Act.put, List.setIfInBounds_toArray, List.set_cons_zero, List.set_cons_succ, List.getElem_toArray, List.getElem_cons_succ, List.getElem_cons_zero]
          refine wpAnyH_take (i := 12) (oi := _) (v := .agg #[.int .i64 p, .int .i64 q]) rfl (by kernel_rfl) (by kernel_rfl) (by kernel_rfl) (fun _ _ _ h => h) (Or.inl ⟨by rfl, fun w' hSw => ?_⟩) hHeld ?_
          · obtain ⟨t0, t1, t2, t3, t4⟩ := hSw
            go_simp
            try simp [*]
            try (intro hh; exfalso; omega)
            try omega
          try simp only [Act.put, List.setIfInBounds_toArray, List.set_cons_zero, List.set_cons_succ, List.getElem_toArray, List.getElem_cons_succ, List.getElem_cons_zero]
          refine wpAnyH_ready (rs := [13, 14]) (by kernel_rfl) (by simp) ?_
          refine AllReadyH.cons (o := _) rfl (fun K hK => ?_) (AllReadyH.cons (o := _) rfl (fun K hK => ?_) (AllReadyH.nil))
          · go_simp
            clear hHeld
            refine hK.out _ _ (KE1.out _ HV1.out) (fun hHeld => ?_)
            clear hK K
            try simp only [Act.put, List.setIfInBounds_toArray, List.set_cons_zero, List.set_cons_succ, List.getElem_toArray, List.getElem_cons_succ, List.getElem_cons_zero]
            refine wpAnyH_ready (rs := [14]) (by kernel_rfl) (by simp) ?_
            refine AllReadyH.cons (o := _) rfl (fun K hK => ?_) (AllReadyH.nil)
            go_simp
            have HVa := Lib.hid (show Below wr.heap.size wr (v1.alloc (.cells #[.int .i64 0, .int .i64 0] 23)) from HV1.out.alloc (HV1.out.size) _)
            have HX0 := Lib.hid (show Bx2 (v1.alloc (.cells #[.int .i64 0, .int .i64 0] 23)) v1.heap.size (.int .i64 0) (.int .i64 0) from Bx2.new _ _ _)
            clear hHeld
            refine hK.out _ _ (KE1.out _ HVa.out) (fun hHeld => ?_)
            clear hK K
            try simp only [Act.put, List.setIfInBounds_toArray, List.set_cons_zero, List.set_cons_succ, List.getElem_toArray, List.getElem_cons_succ, List.getElem_cons_zero]
            obtain ⟨Z, hZe⟩ : ∃ Z, Z = v1.alloc (.cells #[.int .i64 p, .int .i64 q] 23) := ⟨_, rfl⟩
            have hZ : Bx2 Z v1.heap.size (.int .i64 p) (.int .i64 q) := by rw [hZe]; exact Bx2.new _ _ _
            have hBZ : Below wr.heap.size wr Z := by rw [hZe]; exact HV1.out.alloc HV1.out.size _
            refine wpAnyH_ready (rs := [15]) (by kernel_rfl) (by simp) ?_
            refine AllReadyH.cons (o := _) rfl (fun K hK => ?_) AllReadyH.nil
            go_simp
            try rw [← hZe]
            clear hHeld
            refine hK.out _ _ (KE1.out _ hBZ) (fun hHeld => ?_)
            clear hK K
            try simp only [Act.put, List.setIfInBounds_toArray, List.set_cons_zero, List.set_cons_succ, List.getElem_toArray, List.getElem_cons_succ, List.getElem_cons_zero]
            clear hZe
            refine wpAnyH_take (i := 16) (oi := _) (v := Value.int .i64 0) rfl (by kernel_rfl) (by kernel_rfl) (by kernel_rfl) (fun _ _ _ h => h) (Or.inl ⟨by rfl, fun w' hSw => ?_⟩) hHeld ?_
            · obtain ⟨t0, t1, t2, t3, t4⟩ := hSw
              go_simp
              try simp [*]
              try (intro hh; exfalso; omega)
              try omega
            try simp only [Act.put, List.setIfInBounds_toArray, List.set_cons_zero, List.set_cons_succ, List.getElem_toArray, List.getElem_cons_succ, List.getElem_cons_zero]
            refine wpAnyH_done (by kernel_rfl) ?_ _
            clear hHeld
            go_wp2_with fail
            go_meet
            case rel => exact ⟨_, rfl, rfl, hZ, hBZ⟩
          · go_simp
            have HVa := Lib.hid (show Below wr.heap.size wr (v1.alloc (.cells #[.int .i64 0, .int .i64 0] 23)) from HV1.out.alloc (HV1.out.size) _)
            have HX0 := Lib.hid (show Bx2 (v1.alloc (.cells #[.int .i64 0, .int .i64 0] 23)) v1.heap.size (.int .i64 0) (.int .i64 0) from Bx2.new _ _ _)
            clear hHeld
            refine hK.out _ _ (KE1.out _ HVa.out) (fun hHeld => ?_)
            clear hK K
            try simp only [Act.put, List.setIfInBounds_toArray, List.set_cons_zero, List.set_cons_succ, List.getElem_toArray, List.getElem_cons_succ, List.getElem_cons_zero]
            obtain ⟨Z, hZe⟩ : ∃ Z, Z = v1.alloc (.cells #[.int .i64 p, .int .i64 q] 23) := ⟨_, rfl⟩
            have hZ : Bx2 Z v1.heap.size (.int .i64 p) (.int .i64 q) := by rw [hZe]; exact Bx2.new _ _ _
            have hBZ : Below wr.heap.size wr Z := by rw [hZe]; exact HV1.out.alloc HV1.out.size _
            refine wpAnyH_ready (rs := [13, 15]) (by kernel_rfl) (by simp) ?_
            refine AllReadyH.cons (o := _) rfl (fun K hK => ?_) (AllReadyH.cons (o := _) rfl (fun K hK => ?_) (AllReadyH.nil))
            · go_simp
              clear hHeld
              refine hK.out _ _ (KE1.out _ HVa.out) (fun hHeld => ?_)
              clear hK K
              try simp only [Act.put, List.setIfInBounds_toArray, List.set_cons_zero, List.set_cons_succ, List.getElem_toArray, List.getElem_cons_succ, List.getElem_cons_zero]
              refine wpAnyH_ready (rs := [15]) (by kernel_rfl) (by simp) ?_
              refine AllReadyH.cons (o := _) rfl (fun K hK => ?_) AllReadyH.nil
              go_simp
              try rw [← hZe]
              clear hHeld
              refine hK.out _ _ (KE1.out _ hBZ) (fun hHeld => ?_)
              clear hK K
              try simp only [Act.put, List.setIfInBounds_toArray, List.set_cons_zero, List.set_cons_succ, List.getElem_toArray, List.getElem_cons_succ, List.getElem_cons_zero]
              clear hZe
              refine wpAnyH_take (i := 16) (oi := _) (v := Value.int .i64 0) rfl (by kernel_rfl) (by kernel_rfl) (by kernel_rfl) (fun _ _ _ h => h) (Or.inl ⟨by rfl, fun w' hSw => ?_⟩) hHeld ?_
              · obtain ⟨t0, t1, t2, t3, t4⟩ := hSw
                go_simp
                try simp [*]
                try (intro hh; exfalso; omega)
                try omega
              try simp only [Act.put, List.setIfInBounds_toArray, List.set_cons_zero, List.set_cons_succ, List.getElem_toArray, List.getElem_cons_succ, List.getElem_cons_zero]
              refine wpAnyH_done (by kernel_rfl) ?_ _
              clear hHeld
              go_wp2_with fail
              go_meet
              case rel => exact ⟨_, rfl, rfl, hZ, hBZ⟩
            · go_simp
              try rw [← hZe]
              clear hHeld
              refine hK.out _ _ (KE1.out _ hBZ) (fun hHeld => ?_)
              clear hK K
              try simp only [Act.put, List.setIfInBounds_toArray, List.set_cons_zero, List.set_cons_succ, List.getElem_toArray, List.getElem_cons_succ, List.getElem_cons_zero]
              clear hZe
              refine wpAnyH_take (i := 13) (oi := _) (v := .int .i64 0) rfl (by kernel_rfl) (by kernel_rfl) (by kernel_rfl) (fun _ _ _ h => h) (Or.inl ⟨by rfl, fun w' hSw => ?_⟩) hHeld ?_
              · obtain ⟨t0, t1, t2, t3, t4⟩ := hSw
                go_simp
                try simp [*]
                try (intro hh; exfalso; omega)
                try omega
              try simp only [Act.put, List.setIfInBounds_toArray, List.set_cons_zero, List.set_cons_succ, List.getElem_toArray, List.getElem_cons_succ, List.getElem_cons_zero]
              refine wpAnyH_take (i := 16) (oi := _) (v := .int .i64 0) rfl (by kernel_rfl) (by kernel_rfl) (by kernel_rfl) (fun _ _ _ h => h) (Or.inl ⟨by rfl, fun w' hSw => ?_⟩) hHeld ?_
              · obtain ⟨t0, t1, t2, t3, t4⟩ := hSw
                go_simp
                try simp [*]
                try (intro hh; exfalso; omega)
                try omega
              try simp only [Act.put, List.setIfInBounds_toArray, List.set_cons_zero, List.set_cons_succ, List.getElem_toArray, List.getElem_cons_succ, List.getElem_cons_zero]
              refine wpAnyH_done (by kernel_rfl) ?_ _
              clear hHeld
              go_wp2_with fail
              go_meet
              case rel => exact ⟨_, rfl, rfl, hZ, hBZ⟩
        · go_simp
          have HVa := Lib.hid (show Below wr.heap.size wr (wr.drew.alloc (.cells #[.int .i64 0, .int .i64 0] 23)) from HD.out.alloc (Below.size HD.out) _)
          have HX0 := Lib.hid (show Bx2 (wr.drew.alloc (.cells #[.int .i64 0, .int .i64 0] 23)) wr.heap.size (.int .i64 0) (.int .i64 0) from Bx2.new _ _ _)
          clear hHeld
          refine hK.out _ _ (KE1.out _ HVa.out) (fun hHeld => ?_)
          clear hK K
          try simp only [Act.put, List.setIfInBounds_toArray, List.set_cons_zero, List.set_cons_succ, List.getElem_toArray, List.getElem_cons_succ, List.getElem_cons_zero]
          refine wpAnyH_ready (rs := [10]) (by kernel_rfl) (by simp) ?_
          refine AllReadyH.cons (o := _) rfl (fun K hK => ?_) AllReadyH.nil
          go_simp
          go_at_call 66
          refine Calls.mono (c66 _) ?_
          rintro e v1 ⟨rfl, hbx⟩
          have HV1 := Lib.hid (show Below wr.heap.size wr v1 from Below.trans HVa.out (hbx.mono (Below.size HVa.out)))
          have HX1 := Lib.hid (HX0.out.keep hbx)
          clear hbx
          clear hHeld
          refine hK.out _ _ (KE1.out _ HV1.out) (fun hHeld => ?_)
          clear hK K
          try simp only [Act.put, List.setIfInBounds_toArray, List.set_cons_zero, List.set_cons_succ, List.getElem_toArray, List.getElem_cons_succ, List.getElem_cons_zero]
          refine wpAnyH_take (i := 11) (oi := _) (v := Value.tuple #[.agg #[.int .i64 p, .int .i64 q], .int .i64 0]) rfl (by kernel_rfl) (by kernel_rfl) (by kernel_rfl) (fun _ _ _ h => h) (Or.inl ⟨by rfl, fun w' hSw => ?_⟩) hHeld ?_
          · obtain ⟨t0, t1, t2, t3, t4⟩ := hSw
            go_simp
            try simp [*]
            try (intro hh; exfalso; omega)
            try omega
          try simp only [Act.put, List.setIfInBounds_toArray, List.set_cons_zero, List.set_cons_succ, List.getElem_toArray, List.getElem_cons_succ, List.getElem_cons_zero]
          refine wpAnyH_take (i := 12) (oi := _) (v := .agg #[.int .i64 p, .int .i64 q]) rfl (by kernel_rfl) (by kernel_rfl) (by kernel_rfl) (fun _ _ _ h => h) (Or.inl ⟨by rfl, fun w' hSw => ?_⟩) hHeld ?_
          · obtain ⟨t0, t1, t2, t3, t4⟩ := hSw
            go_simp
            try simp [*]
            try (intro hh; exfalso; omega)
            try omega
          try simp only [Act.put, List.setIfInBounds_toArray, List.set_cons_zero, List.set_cons_succ, List.getElem_toArray, List.getElem_cons_succ, List.getElem_cons_zero]
          have r0 := HX1.out.c0
          have r1 := HX1.out.c1
          have rf0 := HX1.out.f0 0
          have rf1 := HX1.out.f0 1
          have hBl : wr.heap.size ≤ wr.heap.size := (Nat.le_refl _)
          obtain ⟨Z, hZe⟩ : ∃ Z, Z = ((v1).setCell ⟨wr.heap.size, 0, none⟩ (.int .i64 p)).setCell ⟨wr.heap.size, 1, none⟩ (.int .i64 q) := ⟨_, rfl⟩
          have hZ : Bx2 Z (wr.heap.size) (.int .i64 p) (.int .i64 q) := by rw [hZe]; exact HX1.out.set _ _
          have hBZ : Below wr.heap.size wr Z := by rw [hZe]; exact (HV1.out.setCell (p := ⟨wr.heap.size, 0, none⟩) hBl _).setCell (p := ⟨wr.heap.size, 1, none⟩) hBl _
          refine wpAnyH_ready (rs := [13, 15]) (by kernel_rfl) (by simp) ?_
          refine AllReadyH.cons (o := _) rfl (fun K hK => ?_) (AllReadyH.cons (o := _) rfl (fun K hK => ?_) (AllReadyH.nil))
          · go_simp
            clear hHeld
            refine hK.out _ _ (KE1.out _ HV1.out) (fun hHeld => ?_)
            clear hK K
            try simp only [Act.put, List.setIfInBounds_toArray, List.set_cons_zero, List.set_cons_succ, List.getElem_toArray, List.getElem_cons_succ, List.getElem_cons_zero]
            refine wpAnyH_ready (rs := [15]) (by kernel_rfl) (by simp) ?_
            refine AllReadyH.cons (o := _) rfl (fun K hK => ?_) AllReadyH.nil
            go_simp
            try rw [← hZe]
            clear hHeld
            refine hK.out _ _ (KE1.out _ hBZ) (fun hHeld => ?_)
            clear hK K
            try simp only [Act.put, List.setIfInBounds_toArray, List.set_cons_zero, List.set_cons_succ, List.getElem_toArray, List.getElem_cons_succ, List.getElem_cons_zero]
            clear hZe r0 r1 rf0 rf1
            refine wpAnyH_take (i := 16) (oi := _) (v := Value.int .i64 0) rfl (by kernel_rfl) (by kernel_rfl) (by kernel_rfl) (fun _ _ _ h => h) (Or.inl ⟨by rfl, fun w' hSw => ?_⟩) hHeld ?_
            · obtain ⟨t0, t1, t2, t3, t4⟩ := hSw
              go_simp
              try simp [*]
              try (intro hh; exfalso; omega)
              try omega
            try simp only [Act.put, List.setIfInBounds_toArray, List.set_cons_zero, List.set_cons_succ, List.getElem_toArray, List.getElem_cons_succ, List.getElem_cons_zero]
            refine wpAnyH_done (by kernel_rfl) ?_ _
            clear hHeld
            go_wp2_with fail
            go_meet
            case rel => exact ⟨_, rfl, rfl, hZ, hBZ⟩
          · go_simp
            try rw [← hZe]
            clear hHeld
            refine hK.out _ _ (KE1.out _ hBZ) (fun hHeld => ?_)
            clear hK K
            try simp only [Act.put, List.setIfInBounds_toArray, List.set_cons_zero, List.set_cons_succ, List.getElem_toArray, List.getElem_cons_succ, List.getElem_cons_zero]
            clear hZe r0 r1 rf0 rf1
            refine wpAnyH_take (i := 13) (oi := _) (v := .int .i64 0) rfl (by kernel_rfl) (by kernel_rfl) (by kernel_rfl) (fun _ _ _ h => h) (Or.inl ⟨by rfl, fun w' hSw => ?_⟩) hHeld ?_
            · obtain ⟨t0, t1, t2, t3, t4⟩ := hSw
              go_simp
              try simp [*]
              try (intro hh; exfalso; omega)
              try omega
            try simp only [Act.put, List.setIfInBounds_toArray, List.set_cons_zero, List.set_cons_succ, List.getElem_toArray, List.getElem_cons_succ, List.getElem_cons_zero]
            refine wpAnyH_take (i := 16) (oi := _) (v := .int .i64 0) rfl (by kernel_rfl) (by kernel_rfl) (by kernel_rfl) (fun _ _ _ h => h) (Or.inl ⟨by rfl, fun w' hSw => ?_⟩) hHeld ?_
            · obtain ⟨t0, t1, t2, t3, t4⟩ := hSw
              go_simp
              try simp [*]
              try (intro hh; exfalso; omega)
              try omega
            try simp only [Act.put, List.setIfInBounds_toArray, List.set_cons_zero, List.set_cons_succ, List.getElem_toArray, List.getElem_cons_succ, List.getElem_cons_zero]
            refine wpAnyH_done (by kernel_rfl) ?_ _
            clear hHeld
            go_wp2_with fail
            go_meet
            case rel => exact ⟨_, rfl, rfl, hZ, hBZ⟩
      case rest =>
        obtain ⟨B12, rfl, rfl, hX, hW⟩ := hcut
        have HX1 := Lib.hid hX
        have HY1 := Lib.hid hW
        clear hX hW
        obtain ⟨W1, rfl⟩ : ∃ W0, W0 = wc := ⟨_, rfl⟩
        clear KE1 a0 a1 a2 a3 a4
        have HY1b := Lib.hid (show Below w3.heap.size w3 W1 from HB.out.trans (HY1.out.mono HB.out.size))
        have x0 := HX1.out.c0
        have x1 := HX1.out.c1
        go_wp2_with fail
        refine (c62 _).mono ?_
        rintro e w5 ⟨rfl, hb⟩
        have HY2 := Lib.hid (show Below w3.heap.size w3 w5 from HY1b.out.trans (hb.mono HY1b.out.size))
        clear hb x0 x1 HX1 HY1 HY1b
        obtain ⟨W2, hW2⟩ : ∃ W2, W2 = w5.alloc (.cells #[.int .i64 dl, .int .i64 dh] 23) := ⟨_, rfl⟩
        have HX2 := Lib.hid (show Bx2 W2 w5.heap.size (.int .i64 dl) (.int .i64 dh) by rw [hW2]; exact Bx2.new _ _ _)
        have HY3 := Lib.hid (show Below w3.heap.size w3 W2 by rw [hW2]; exact HY2.out.alloc HY2.out.size _)
        go_upto_region 13 with fail
        rw [← hW2]
        clear hW2 HY2
        generalize w5.heap.size = B14 at *
        have KE2 := Lib.hid (show ∀ W, Below W2.heap.size W2 W → W.cell? ⟨B3, 2, none⟩ = some (Value.slice (some ⟨nb, no, none⟩) n nc) ∧ W.cell? ⟨nb, no + k * 8, none⟩ = some (Value.int .i64 (pn : Int)) ∧ W.cell? ⟨vb, vo + pn * 2, none⟩ = some (Value.int .i64 ul) ∧ W.cell? ⟨vb, vo + pn * 2 + 1, none⟩ = some (Value.int .i64 uh) ∧ W.cell? ⟨B14, 0, none⟩ = some (Value.int .i64 dl) ∧ W.cell? ⟨B14, 1, none⟩ = some (Value.int .i64 dh) from fun W h => by
          have q := HC.out W (HY3.out.trans (h.mono HY3.out.size))
          have x := HX2.out.keep h
          exact ⟨(HCELLS.out W (HY3.out.trans (h.mono HY3.out.size))).2.2, q.2.1.1, q.2.2.1.1, q.2.2.1.2, x.c0, x.c1⟩)
        obtain ⟨a0, a1, a2, a3, a4, a5⟩ := KE2.out _ (Below.refl _ _)
        go_cut [16, 17] from 97 to 111 (fun s16 s17 wc => ∃ B, s17 = Value.int .i64 0 ∧ s16 = Value.pointer (some ⟨B, 0, none⟩) ∧ Bx2 wc B (.int .i64 vl) (.int .i64 vh) ∧ Below W2.heap.size W2 wc)
        case first => as_aux_lemma =>
          have HD := Lib.hid (show Below W2.heap.size W2 W2.drew from (Below.refl _ _).drew)
          refine wp_region_held_drew (S := fun w' => w'.cell? ⟨B3, 2, none⟩ = some (Value.slice (some ⟨nb, no, none⟩) n nc) ∧ w'.cell? ⟨nb, no + k * 8, none⟩ = some (Value.int .i64 (pn : Int)) ∧ w'.cell? ⟨vb, vo + pn * 2, none⟩ = some (Value.int .i64 ul) ∧ w'.cell? ⟨vb, vo + pn * 2 + 1, none⟩ = some (Value.int .i64 uh) ∧ w'.cell? ⟨B14, 0, none⟩ = some (Value.int .i64 dl) ∧ w'.cell? ⟨B14, 1, none⟩ = some (Value.int .i64 dh)) (by kernel_rfl) ⟨by simpa [go_sem] using a0, by simpa [go_sem] using a1, by simpa [go_sem] using a2, by simpa [go_sem] using a3, by simpa [go_sem] using a4, by simpa [go_sem] using a5⟩ (fun hHeld => ?_)
          refine wpAnyH_take (i := 0) (oi := _) (v := Value.slice (some ⟨vb, vo, none⟩) n vc) rfl (by kernel_rfl) (by kernel_rfl) (by kernel_rfl) (fun _ _ _ h => h) (Or.inl ⟨by rfl, fun w' hSw => ?_⟩) hHeld ?_
          · obtain ⟨t0, t1, t2, t3, t4, t5⟩ := hSw
            go_simp
            try simp [*]
            try (intro hh; exfalso; omega)
            try omega
          try simp only [Act.put, List.setIfInBounds_toArray, List.set_cons_zero, List.set_cons_succ, List.getElem_toArray, List.getElem_cons_succ, List.getElem_cons_zero]
          refine wpAnyH_take (i := 1) (oi := _) (v := Value.pointer (some ⟨B3, 2, none⟩)) rfl (by kernel_rfl) (by kernel_rfl) (by kernel_rfl) (fun _ _ _ h => h) (Or.inl ⟨by rfl, fun w' hSw => ?_⟩) hHeld ?_
          · obtain ⟨t0, t1, t2, t3, t4, t5⟩ := hSw
            go_simp
            try simp [*]
            try (intro hh; exfalso; omega)
            try omega
          try simp only [Act.put, List.setIfInBounds_toArray, List.set_cons_zero, List.set_cons_succ, List.getElem_toArray, List.getElem_cons_succ, List.getElem_cons_zero]
          refine wpAnyH_take (i := 2) (oi := _) (v := Value.slice (some ⟨nb, no, none⟩) n nc) rfl (by kernel_rfl) (by kernel_rfl) (by kernel_rfl) (fun _ _ _ h => h) (Or.inl ⟨by rfl, fun w' hSw => ?_⟩) hHeld ?_
          · obtain ⟨t0, t1, t2, t3, t4, t5⟩ := hSw
            go_simp
            try simp [*]
            try (intro hh; exfalso; omega)
            try omega
          try simp only [Act.put, List.setIfInBounds_toArray, List.set_cons_zero, List.set_cons_succ, List.getElem_toArray, List.getElem_cons_succ, List.getElem_cons_zero]
          refine wpAnyH_take (i := 3) (oi := _) (v := Value.int .i64 (k : Int)) rfl (by kernel_rfl) (by kernel_rfl) (by kernel_rfl) (fun _ _ _ h => h) (Or.inl ⟨by rfl, fun w' hSw => ?_⟩) hHeld ?_
          · obtain ⟨t0, t1, t2, t3, t4, t5⟩ := hSw
            go_simp
            try simp [*]
            try (intro hh; exfalso; omega)
            try omega
          try simp only [Act.put, List.setIfInBounds_toArray, List.set_cons_zero, List.set_cons_succ, List.getElem_toArray, List.getElem_cons_succ, List.getElem_cons_zero]
          refine wpAnyH_take (i := 4) (oi := _) (v := Value.pointer (some ⟨nb, no + k * 8, none⟩)) rfl (by kernel_rfl) (by kernel_rfl) (by kernel_rfl) (fun _ _ _ h => h) (Or.inl ⟨by rfl, fun w' hSw => ?_⟩) hHeld ?_
          · obtain ⟨t0, t1, t2, t3, t4, t5⟩ := hSw
            go_simp
            try simp [*]
            try (intro hh; exfalso; omega)
            try omega
          try simp only [Act.put, List.setIfInBounds_toArray, List.set_cons_zero, List.set_cons_succ, List.getElem_toArray, List.getElem_cons_succ, List.getElem_cons_zero]
          refine wpAnyH_take (i := 5) (oi := _) (v := Value.pointer (some ⟨nb, no + k * 8, none⟩)) rfl (by kernel_rfl) (by kernel_rfl) (by kernel_rfl) (fun _ _ _ h => h) (Or.inl ⟨by rfl, fun w' hSw => ?_⟩) hHeld ?_
          · obtain ⟨t0, t1, t2, t3, t4, t5⟩ := hSw
            go_simp
            try simp [*]
            try (intro hh; exfalso; omega)
            try omega
          try simp only [Act.put, List.setIfInBounds_toArray, List.set_cons_zero, List.set_cons_succ, List.getElem_toArray, List.getElem_cons_succ, List.getElem_cons_zero]
          refine wpAnyH_take (i := 6) (oi := _) (v := Value.int .i64 (pn : Int)) rfl (by kernel_rfl) (by kernel_rfl) (by kernel_rfl) (fun _ _ _ h => h) (Or.inl ⟨by rfl, fun w' hSw => ?_⟩) hHeld ?_
          · obtain ⟨t0, t1, t2, t3, t4, t5⟩ := hSw
            go_simp
            try simp [*]
            try (intro hh; exfalso; omega)
            try omega
          try simp only [Act.put, List.setIfInBounds_toArray, List.set_cons_zero, List.set_cons_succ, List.getElem_toArray, List.getElem_cons_succ, List.getElem_cons_zero]
          refine wpAnyH_take (i := 7) (oi := _) (v := Value.pointer (some ⟨vb, vo + pn * 2, none⟩)) rfl (by kernel_rfl) (by kernel_rfl) (by kernel_rfl) (fun _ _ _ h => h) (Or.inl ⟨by rfl, fun w' hSw => ?_⟩) hHeld ?_
          · obtain ⟨t0, t1, t2, t3, t4, t5⟩ := hSw
            go_simp
            try simp [*]
            try (intro hh; exfalso; omega)
            try omega
          try simp only [Act.put, List.setIfInBounds_toArray, List.set_cons_zero, List.set_cons_succ, List.getElem_toArray, List.getElem_cons_succ, List.getElem_cons_zero]
          refine wpAnyH_take (i := 8) (oi := _) (v := Value.agg #[Value.int .i64 ul, Value.int .i64 uh]) rfl (by kernel_rfl) (by kernel_rfl) (by kernel_rfl) (fun _ _ _ h => h) (Or.inl ⟨by rfl, fun w' hSw => ?_⟩) hHeld ?_
          · obtain ⟨t0, t1, t2, t3, t4, t5⟩ := hSw
            go_simp
            try simp [*]
            try (intro hh; exfalso; omega)
            try omega
          try simp only [Act.put, List.setIfInBounds_toArray, List.set_cons_zero, List.set_cons_succ, List.getElem_toArray, List.getElem_cons_succ, List.getElem_cons_zero]
          refine wpAnyH_take (i := 9) (oi := _) (v := Value.agg #[Value.int .i64 dl, Value.int .i64 dh]) rfl (by kernel_rfl) (by kernel_rfl) (by kernel_rfl) (fun _ _ _ h => h) (Or.inl ⟨by rfl, fun w' hSw => ?_⟩) hHeld ?_
          · obtain ⟨t0, t1, t2, t3, t4, t5⟩ := hSw
            go_simp
            try simp [*]
            try (intro hh; exfalso; omega)
            try omega
          try simp only [Act.put, List.setIfInBounds_toArray, List.set_cons_zero, List.set_cons_succ, List.getElem_toArray, List.getElem_cons_succ, List.getElem_cons_zero]
          refine wpAnyH_ready (rs := [10, 14]) (by kernel_rfl) (by simp) ?_
          refine AllReadyH.cons (o := _) rfl (fun K hK => ?_) (AllReadyH.cons (o := _) rfl (fun K hK => ?_) (AllReadyH.nil))
          · go_simp
            go_at_call 64
            refine Calls.mono (c64 _) ?_
            rintro e v1 ⟨rfl, hbx⟩
            have HV1 := Lib.hid (show Below W2.heap.size W2 v1 from Below.trans HD.out (hbx.mono (Below.size HD.out)))
            clear hbx
            clear hHeld
            refine hK.out _ _ (KE2.out _ HV1.out) (fun hHeld => ?_)
            clear hK K
            try simp only [Act.put, List.setIfInBounds_toArray, List.set_cons_zero, List.set_cons_succ, List.getElem_toArray, List.getElem_cons_succ, List.getElem_cons_zero]
            refine wpAnyH_take (i := 11) (oi := _) (v := Value.tuple #[.agg #[.int .i64 vl, .int .i64 vh], .int .i64 0]) rfl (by kernel_rfl) (by kernel_rfl) (by kernel_rfl) (fun _ _ _ h => h) (Or.inl ⟨by rfl, fun w' hSw => ?_⟩) hHeld ?_
            · obtain ⟨t0, t1, t2, t3, t4, t5⟩ := hSw
              go_simp
              try simp [*]
              try (intro hh; exfalso; omega)
              try omega
            try simp only [Act.put, List.setIfInBounds_toArray, List.set_cons_zero, List.set_cons_succ, List.getElem_toArray, List.getElem_cons_succ, List.getElem_cons_zero]
            refine wpAnyH_take (i := 12) (oi := _) (v := .agg #[.int .i64 vl, .int .i64 vh]) rfl (by kernel_rfl) (by kernel_rfl) (by kernel_rfl) (fun _ _ _ h => h) (Or.inl ⟨by rfl, fun w' hSw => ?_⟩) hHeld ?_
            · obtain ⟨t0, t1, t2, t3, t4, t5⟩ := hSw
              go_simp
              try simp [*]
              try (intro hh; exfalso; omega)
              try omega
            try simp only [Act.put, List.setIfInBounds_toArray, List.set_cons_zero, List.set_cons_succ, List.getElem_toArray, List.getElem_cons_succ, List.getElem_cons_zero]
            refine wpAnyH_ready (rs := [13, 14]) (by kernel_rfl) (by simp) ?_
            refine AllReadyH.cons (o := _) rfl (fun K hK => ?_) (AllReadyH.cons (o := _) rfl (fun K hK => ?_) (AllReadyH.nil))
            · go_simp
              clear hHeld
              refine hK.out _ _ (KE2.out _ HV1.out) (fun hHeld => ?_)
              clear hK K
              try simp only [Act.put, List.setIfInBounds_toArray, List.set_cons_zero, List.set_cons_succ, List.getElem_toArray, List.getElem_cons_succ, List.getElem_cons_zero]
              refine wpAnyH_ready (rs := [14]) (by kernel_rfl) (by simp) ?_
              refine AllReadyH.cons (o := _) rfl (fun K hK => ?_) (AllReadyH.nil)
              go_simp
              have HVa := Lib.hid (show Below W2.heap.size W2 (v1.alloc (.cells #[.int .i64 0, .int .i64 0] 23)) from HV1.out.alloc (HV1.out.size) _)
              have HX0 := Lib.hid (show Bx2 (v1.alloc (.cells #[.int .i64 0, .int .i64 0] 23)) v1.heap.size (.int .i64 0) (.int .i64 0) from Bx2.new _ _ _)
              clear hHeld
              refine hK.out _ _ (KE2.out _ HVa.out) (fun hHeld => ?_)
              clear hK K
              try simp only [Act.put, List.setIfInBounds_toArray, List.set_cons_zero, List.set_cons_succ, List.getElem_toArray, List.getElem_cons_succ, List.getElem_cons_zero]
              obtain ⟨Z, hZe⟩ : ∃ Z, Z = v1.alloc (.cells #[.int .i64 vl, .int .i64 vh] 23) := ⟨_, rfl⟩
              have hZ : Bx2 Z v1.heap.size (.int .i64 vl) (.int .i64 vh) := by rw [hZe]; exact Bx2.new _ _ _
              have hBZ : Below W2.heap.size W2 Z := by rw [hZe]; exact HV1.out.alloc HV1.out.size _
              refine wpAnyH_ready (rs := [15]) (by kernel_rfl) (by simp) ?_
              refine AllReadyH.cons (o := _) rfl (fun K hK => ?_) AllReadyH.nil
              go_simp
              try rw [← hZe]
              clear hHeld
              refine hK.out _ _ (KE2.out _ hBZ) (fun hHeld => ?_)
              clear hK K
              try simp only [Act.put, List.setIfInBounds_toArray, List.set_cons_zero, List.set_cons_succ, List.getElem_toArray, List.getElem_cons_succ, List.getElem_cons_zero]
              clear hZe
              refine wpAnyH_take (i := 16) (oi := _) (v := Value.int .i64 0) rfl (by kernel_rfl) (by kernel_rfl) (by kernel_rfl) (fun _ _ _ h => h) (Or.inl ⟨by rfl, fun w' hSw => ?_⟩) hHeld ?_
              · obtain ⟨t0, t1, t2, t3, t4, t5⟩ := hSw
                go_simp
                try simp [*]
                try (intro hh; exfalso; omega)
                try omega
              try simp only [Act.put, List.setIfInBounds_toArray, List.set_cons_zero, List.set_cons_succ, List.getElem_toArray, List.getElem_cons_succ, List.getElem_cons_zero]
              refine wpAnyH_done (by kernel_rfl) ?_ _
              clear hHeld
              go_wp2_with fail
              go_meet
              case rel => exact ⟨_, rfl, rfl, hZ, hBZ⟩
            · go_simp
              have HVa := Lib.hid (show Below W2.heap.size W2 (v1.alloc (.cells #[.int .i64 0, .int .i64 0] 23)) from HV1.out.alloc (HV1.out.size) _)
              have HX0 := Lib.hid (show Bx2 (v1.alloc (.cells #[.int .i64 0, .int .i64 0] 23)) v1.heap.size (.int .i64 0) (.int .i64 0) from Bx2.new _ _ _)
              clear hHeld
              refine hK.out _ _ (KE2.out _ HVa.out) (fun hHeld => ?_)
              clear hK K
              try simp only [Act.put, List.setIfInBounds_toArray, List.set_cons_zero, List.set_cons_succ, List.getElem_toArray, List.getElem_cons_succ, List.getElem_cons_zero]
              obtain ⟨Z, hZe⟩ : ∃ Z, Z = v1.alloc (.cells #[.int .i64 vl, .int .i64 vh] 23) := ⟨_, rfl⟩
              have hZ : Bx2 Z v1.heap.size (.int .i64 vl) (.int .i64 vh) := by rw [hZe]; exact Bx2.new _ _ _
              have hBZ : Below W2.heap.size W2 Z := by rw [hZe]; exact HV1.out.alloc HV1.out.size _
              refine wpAnyH_ready (rs := [13, 15]) (by kernel_rfl) (by simp) ?_
              refine AllReadyH.cons (o := _) rfl (fun K hK => ?_) (AllReadyH.cons (o := _) rfl (fun K hK => ?_) (AllReadyH.nil))
              · go_simp
                clear hHeld
                refine hK.out _ _ (KE2.out _ HVa.out) (fun hHeld => ?_)
                clear hK K
                try simp only [Act.put, List.setIfInBounds_toArray, List.set_cons_zero, List.set_cons_succ, List.getElem_toArray, List.getElem_cons_succ, List.getElem_cons_zero]
                refine wpAnyH_ready (rs := [15]) (by kernel_rfl) (by simp) ?_
                refine AllReadyH.cons (o := _) rfl (fun K hK => ?_) AllReadyH.nil
                go_simp
                try rw [← hZe]
                clear hHeld
                refine hK.out _ _ (KE2.out _ hBZ) (fun hHeld => ?_)
                clear hK K
                try simp only [Act.put, List.setIfInBounds_toArray, List.set_cons_zero, List.set_cons_succ, List.getElem_toArray, List.getElem_cons_succ, List.getElem_cons_zero]
                clear hZe
                refine wpAnyH_take (i := 16) (oi := _) (v := Value.int .i64 0) rfl (by kernel_rfl) (by kernel_rfl) (by kernel_rfl) (fun _ _ _ h => h) (Or.inl ⟨by rfl, fun w' hSw => ?_⟩) hHeld ?_
                · obtain ⟨t0, t1, t2, t3, t4, t5⟩ := hSw
                  go_simp
                  try simp [*]
                  try (intro hh; exfalso; omega)
                  try omega
                try simp only [Act.put, List.setIfInBounds_toArray, List.set_cons_zero, List.set_cons_succ, List.getElem_toArray, List.getElem_cons_succ, List.getElem_cons_zero]
                refine wpAnyH_done (by kernel_rfl) ?_ _
                clear hHeld
                go_wp2_with fail
                go_meet
                case rel => exact ⟨_, rfl, rfl, hZ, hBZ⟩
              · go_simp
                try rw [← hZe]
                clear hHeld
                refine hK.out _ _ (KE2.out _ hBZ) (fun hHeld => ?_)
                clear hK K
                try simp only [Act.put, List.setIfInBounds_toArray, List.set_cons_zero, List.set_cons_succ, List.getElem_toArray, List.getElem_cons_succ, List.getElem_cons_zero]
                clear hZe
                refine wpAnyH_take (i := 13) (oi := _) (v := .int .i64 0) rfl (by kernel_rfl) (by kernel_rfl) (by kernel_rfl) (fun _ _ _ h => h) (Or.inl ⟨by rfl, fun w' hSw => ?_⟩) hHeld ?_
                · obtain ⟨t0, t1, t2, t3, t4, t5⟩ := hSw
                  go_simp
                  try simp [*]
                  try (intro hh; exfalso; omega)
                  try omega
                try simp only [Act.put, List.setIfInBounds_toArray, List.set_cons_zero, List.set_cons_succ, List.getElem_toArray, List.getElem_cons_succ, List.getElem_cons_zero]
                refine wpAnyH_take (i := 16) (oi := _) (v := .int .i64 0) rfl (by kernel_rfl) (by kernel_rfl) (by kernel_rfl) (fun _ _ _ h => h) (Or.inl ⟨by rfl, fun w' hSw => ?_⟩) hHeld ?_
                · obtain ⟨t0, t1, t2, t3, t4, t5⟩ := hSw
                  go_simp
                  try simp [*]
                  try (intro hh; exfalso; omega)
                  try omega
                try simp only [Act.put, List.setIfInBounds_toArray, List.set_cons_zero, List.set_cons_succ, List.getElem_toArray, List.getElem_cons_succ, List.getElem_cons_zero]
                refine wpAnyH_done (by kernel_rfl) ?_ _
                clear hHeld
                go_wp2_with fail
                go_meet
                case rel => exact ⟨_, rfl, rfl, hZ, hBZ⟩
          · go_simp
            have HVa := Lib.hid (show Below W2.heap.size W2 (W2.drew.alloc (.cells #[.int .i64 0, .int .i64 0] 23)) from HD.out.alloc (Below.size HD.out) _)
            have HX0 := Lib.hid (show Bx2 (W2.drew.alloc (.cells #[.int .i64 0, .int .i64 0] 23)) W2.heap.size (.int .i64 0) (.int .i64 0) from Bx2.new _ _ _)
            clear hHeld
            refine hK.out _ _ (KE2.out _ HVa.out) (fun hHeld => ?_)
            clear hK K
            try simp only [Act.put, List.setIfInBounds_toArray, List.set_cons_zero, List.set_cons_succ, List.getElem_toArray, List.getElem_cons_succ, List.getElem_cons_zero]
            refine wpAnyH_ready (rs := [10]) (by kernel_rfl) (by simp) ?_
            refine AllReadyH.cons (o := _) rfl (fun K hK => ?_) AllReadyH.nil
            go_simp
            go_at_call 64
            refine Calls.mono (c64 _) ?_
            rintro e v1 ⟨rfl, hbx⟩
            have HV1 := Lib.hid (show Below W2.heap.size W2 v1 from Below.trans HVa.out (hbx.mono (Below.size HVa.out)))
            have HX1 := Lib.hid (HX0.out.keep hbx)
            clear hbx
            clear hHeld
            refine hK.out _ _ (KE2.out _ HV1.out) (fun hHeld => ?_)
            clear hK K
            try simp only [Act.put, List.setIfInBounds_toArray, List.set_cons_zero, List.set_cons_succ, List.getElem_toArray, List.getElem_cons_succ, List.getElem_cons_zero]
            refine wpAnyH_take (i := 11) (oi := _) (v := Value.tuple #[.agg #[.int .i64 vl, .int .i64 vh], .int .i64 0]) rfl (by kernel_rfl) (by kernel_rfl) (by kernel_rfl) (fun _ _ _ h => h) (Or.inl ⟨by rfl, fun w' hSw => ?_⟩) hHeld ?_
            · obtain ⟨t0, t1, t2, t3, t4, t5⟩ := hSw
              go_simp
              try simp [*]
              try (intro hh; exfalso; omega)
              try omega
            try simp only [Act.put, List.setIfInBounds_toArray, List.set_cons_zero, List.set_cons_succ, List.getElem_toArray, List.getElem_cons_succ, List.getElem_cons_zero]
            refine wpAnyH_take (i := 12) (oi := _) (v := .agg #[.int .i64 vl, .int .i64 vh]) rfl (by kernel_rfl) (by kernel_rfl) (by kernel_rfl) (fun _ _ _ h => h) (Or.inl ⟨by rfl, fun w' hSw => ?_⟩) hHeld ?_
            · obtain ⟨t0, t1, t2, t3, t4, t5⟩ := hSw
              go_simp
              try simp [*]
              try (intro hh; exfalso; omega)
              try omega
            try simp only [Act.put, List.setIfInBounds_toArray, List.set_cons_zero, List.set_cons_succ, List.getElem_toArray, List.getElem_cons_succ, List.getElem_cons_zero]
            have r0 := HX1.out.c0
            have r1 := HX1.out.c1
            have rf0 := HX1.out.f0 0
            have rf1 := HX1.out.f0 1
            have hBl : W2.heap.size ≤ W2.heap.size := (Nat.le_refl _)
            obtain ⟨Z, hZe⟩ : ∃ Z, Z = ((v1).setCell ⟨W2.heap.size, 0, none⟩ (.int .i64 vl)).setCell ⟨W2.heap.size, 1, none⟩ (.int .i64 vh) := ⟨_, rfl⟩
            have hZ : Bx2 Z (W2.heap.size) (.int .i64 vl) (.int .i64 vh) := by rw [hZe]; exact HX1.out.set _ _
            have hBZ : Below W2.heap.size W2 Z := by rw [hZe]; exact (HV1.out.setCell (p := ⟨W2.heap.size, 0, none⟩) hBl _).setCell (p := ⟨W2.heap.size, 1, none⟩) hBl _
            refine wpAnyH_ready (rs := [13, 15]) (by kernel_rfl) (by simp) ?_
            refine AllReadyH.cons (o := _) rfl (fun K hK => ?_) (AllReadyH.cons (o := _) rfl (fun K hK => ?_) (AllReadyH.nil))
            · go_simp
              clear hHeld
              refine hK.out _ _ (KE2.out _ HV1.out) (fun hHeld => ?_)
              clear hK K
              try simp only [Act.put, List.setIfInBounds_toArray, List.set_cons_zero, List.set_cons_succ, List.getElem_toArray, List.getElem_cons_succ, List.getElem_cons_zero]
              refine wpAnyH_ready (rs := [15]) (by kernel_rfl) (by simp) ?_
              refine AllReadyH.cons (o := _) rfl (fun K hK => ?_) AllReadyH.nil
              go_simp
              try rw [← hZe]
              clear hHeld
              refine hK.out _ _ (KE2.out _ hBZ) (fun hHeld => ?_)
              clear hK K
              try simp only [Act.put, List.setIfInBounds_toArray, List.set_cons_zero, List.set_cons_succ, List.getElem_toArray, List.getElem_cons_succ, List.getElem_cons_zero]
              clear hZe r0 r1 rf0 rf1
              refine wpAnyH_take (i := 16) (oi := _) (v := Value.int .i64 0) rfl (by kernel_rfl) (by kernel_rfl) (by kernel_rfl) (fun _ _ _ h => h) (Or.inl ⟨by rfl, fun w' hSw => ?_⟩) hHeld ?_
              · obtain ⟨t0, t1, t2, t3, t4, t5⟩ := hSw
                go_simp
                try simp [*]
                try (intro hh; exfalso; omega)
                try omega
              try simp only [Act.put, List.setIfInBounds_toArray, List.set_cons_zero, List.set_cons_succ, List.getElem_toArray, List.getElem_cons_succ, List.getElem_cons_zero]
              refine wpAnyH_done (by kernel_rfl) ?_ _
              clear hHeld
              go_wp2_with fail
              go_meet
              case rel => exact ⟨_, rfl, rfl, hZ, hBZ⟩
            · go_simp
              try rw [← hZe]
              clear hHeld
              refine hK.out _ _ (KE2.out _ hBZ) (fun hHeld => ?_)
              clear hK K
              try simp only [Act.put, List.setIfInBounds_toArray, List.set_cons_zero, List.set_cons_succ, List.getElem_toArray, List.getElem_cons_succ, List.getElem_cons_zero]
              clear hZe r0 r1 rf0 rf1
              refine wpAnyH_take (i := 13) (oi := _) (v := .int .i64 0) rfl (by kernel_rfl) (by kernel_rfl) (by kernel_rfl) (fun _ _ _ h => h) (Or.inl ⟨by rfl, fun w' hSw => ?_⟩) hHeld ?_
              · obtain ⟨t0, t1, t2, t3, t4, t5⟩ := hSw
                go_simp
                try simp [*]
                try (intro hh; exfalso; omega)
                try omega
              try simp only [Act.put, List.setIfInBounds_toArray, List.set_cons_zero, List.set_cons_succ, List.getElem_toArray, List.getElem_cons_succ, List.getElem_cons_zero]
              refine wpAnyH_take (i := 16) (oi := _) (v := .int .i64 0) rfl (by kernel_rfl) (by kernel_rfl) (by kernel_rfl) (fun _ _ _ h => h) (Or.inl ⟨by rfl, fun w' hSw => ?_⟩) hHeld ?_
              · obtain ⟨t0, t1, t2, t3, t4, t5⟩ := hSw
                go_simp
                try simp [*]
                try (intro hh; exfalso; omega)
                try omega
              try simp only [Act.put, List.setIfInBounds_toArray, List.set_cons_zero, List.set_cons_succ, List.getElem_toArray, List.getElem_cons_succ, List.getElem_cons_zero]
              refine wpAnyH_done (by kernel_rfl) ?_ _
              clear hHeld
              go_wp2_with fail
              go_meet
              case rel => exact ⟨_, rfl, rfl, hZ, hBZ⟩
        case rest =>
          obtain ⟨B16, rfl, rfl, hX, hW⟩ := hcut
          have HX3 := Lib.hid hX
          have HY4 := Lib.hid hW
          clear hX hW
          obtain ⟨W3, rfl⟩ : ∃ W0, W0 = wc := ⟨_, rfl⟩
          clear KE2 a0 a1 a2 a3 a4 a5 HX2
          have HY5 := Lib.hid (show Below w3.heap.size w3 W3 from HY3.out.trans (HY4.out.mono HY3.out.size))
          have x0 := HX3.out.c0
          have x1 := HX3.out.c1
          obtain ⟨⟨a0, a1⟩, ⟨a2, a3, a4, a7⟩, ⟨a5, a6⟩, ⟨y0, y1⟩, y2⟩ := HC.out _ HY5.out
          obtain ⟨k0, k1, k2⟩ := HCELLS.out _ HY5.out
          clear a0 a1 a2 a3 a4 a5 a6
          go_upto_region 14 with fail
          refine wp_region_held_drew (S := fun w' => w'.cell? ⟨B16, 0, none⟩ = some (Value.int .i64 vl) ∧ w'.cell? ⟨B16, 1, none⟩ = some (Value.int .i64 vh) ∧ w'.cell? ⟨vb, vo + k * 2, none⟩ = some (Value.int .i64 vl) ∧ w'.cell? ⟨vb, vo + k * 2 + 1, none⟩ = some (Value.int .i64 vh)) (by kernel_rfl) ⟨by simpa [go_sem] using x0, by simpa [go_sem] using x1, by simpa [go_sem] using y0, by simpa [go_sem] using y1⟩ (fun hHeld => ?_)
          refine wpAnyH_take (i := 0) (oi := _) (v := Value.int .i64 0) rfl (by kernel_rfl) (by kernel_rfl) (by kernel_rfl) (fun _ _ _ h => h) (Or.inl ⟨by rfl, fun w' hSw => ?_⟩) hHeld ?_
          · obtain ⟨t0, t1, t2, t3⟩ := hSw
            go_simp
            try simp [*]
            try (intro hh; exfalso; omega)
            try omega
            try rfl
          try simp only [Act.put, List.setIfInBounds_toArray, List.set_cons_zero, List.set_cons_succ, List.getElem_toArray, List.getElem_cons_succ, List.getElem_cons_zero]
          refine wpAnyH_take (i := 1) (oi := _) (v := Value.int .i64 0) rfl (by kernel_rfl) (by kernel_rfl) (by kernel_rfl) (fun _ _ _ h => h) (Or.inl ⟨by rfl, fun w' hSw => ?_⟩) hHeld ?_
          · obtain ⟨t0, t1, t2, t3⟩ := hSw
            go_simp
            try simp [*]
            try (intro hh; exfalso; omega)
            try omega
            try rfl
          try simp only [Act.put, List.setIfInBounds_toArray, List.set_cons_zero, List.set_cons_succ, List.getElem_toArray, List.getElem_cons_succ, List.getElem_cons_zero]
          refine wpAnyH_take (i := 2) (oi := _) (v := Value.int .i64 0) rfl (by kernel_rfl) (by kernel_rfl) (by kernel_rfl) (fun _ _ _ h => h) (Or.inl ⟨by rfl, fun w' hSw => ?_⟩) hHeld ?_
          · obtain ⟨t0, t1, t2, t3⟩ := hSw
            go_simp
            try simp [*]
            try (intro hh; exfalso; omega)
            try omega
            try rfl
          try simp only [Act.put, List.setIfInBounds_toArray, List.set_cons_zero, List.set_cons_succ, List.getElem_toArray, List.getElem_cons_succ, List.getElem_cons_zero]
          refine wpAnyH_take (i := 3) (oi := _) (v := Value.int .i64 0) rfl (by kernel_rfl) (by kernel_rfl) (by kernel_rfl) (fun _ _ _ h => h) (Or.inl ⟨by rfl, fun w' hSw => ?_⟩) hHeld ?_
          · obtain ⟨t0, t1, t2, t3⟩ := hSw
            go_simp
            try simp [*]
            try (intro hh; exfalso; omega)
            try omega
            try rfl
          try simp only [Act.put, List.setIfInBounds_toArray, List.set_cons_zero, List.set_cons_succ, List.getElem_toArray, List.getElem_cons_succ, List.getElem_cons_zero]
          refine wpAnyH_take (i := 4) (oi := _) (v := Value.int .i64 0) rfl (by kernel_rfl) (by kernel_rfl) (by kernel_rfl) (fun _ _ _ h => h) (Or.inl ⟨by rfl, fun w' hSw => ?_⟩) hHeld ?_
          · obtain ⟨t0, t1, t2, t3⟩ := hSw
            go_simp
            try simp [*]
            try (intro hh; exfalso; omega)
            try omega
            try rfl
          try simp only [Act.put, List.setIfInBounds_toArray, List.set_cons_zero, List.set_cons_succ, List.getElem_toArray, List.getElem_cons_succ, List.getElem_cons_zero]
          refine wpAnyH_take (i := 5) (oi := _) (v := Value.bool false) rfl (by kernel_rfl) (by kernel_rfl) (by kernel_rfl) (fun _ _ _ h => h) (Or.inl ⟨by rfl, fun w' hSw => ?_⟩) hHeld ?_
          · obtain ⟨t0, t1, t2, t3⟩ := hSw
            go_simp
            try simp [*]
            try (intro hh; exfalso; omega)
            try omega
            try rfl
          try simp only [Act.put, List.setIfInBounds_toArray, List.set_cons_zero, List.set_cons_succ, List.getElem_toArray, List.getElem_cons_succ, List.getElem_cons_zero]
          refine wpAnyH_take (i := 6) (oi := _) (v := Value.bool false) rfl (by kernel_rfl) (by kernel_rfl) (by kernel_rfl) (fun _ _ _ h => h) (Or.inl ⟨by rfl, fun w' hSw => ?_⟩) hHeld ?_
          · obtain ⟨t0, t1, t2, t3⟩ := hSw
            go_simp
            try simp [*]
            try (intro hh; exfalso; omega)
            try omega
            try rfl
          try simp only [Act.put, List.setIfInBounds_toArray, List.set_cons_zero, List.set_cons_succ, List.getElem_toArray, List.getElem_cons_succ, List.getElem_cons_zero]
          refine wpAnyH_take (i := 7) (oi := _) (v := Value.agg #[Value.int .i64 vl, Value.int .i64 vh]) rfl (by kernel_rfl) (by kernel_rfl) (by kernel_rfl) (fun _ _ _ h => h) (Or.inl ⟨by rfl, fun w' hSw => ?_⟩) hHeld ?_
          · obtain ⟨t0, t1, t2, t3⟩ := hSw
            go_simp
            try simp [*]
            try (intro hh; exfalso; omega)
            try omega
            try rfl
          try simp only [Act.put, List.setIfInBounds_toArray, List.set_cons_zero, List.set_cons_succ, List.getElem_toArray, List.getElem_cons_succ, List.getElem_cons_zero]
          refine wpAnyH_take (i := 8) (oi := _) (v := Value.slice (some ⟨vb, vo, none⟩) n vc) rfl (by kernel_rfl) (by kernel_rfl) (by kernel_rfl) (fun _ _ _ h => h) (Or.inl ⟨by rfl, fun w' hSw => ?_⟩) hHeld ?_
          · obtain ⟨t0, t1, t2, t3⟩ := hSw
            go_simp
            try simp [*]
            try (intro hh; exfalso; omega)
            try omega
            try rfl
          try simp only [Act.put, List.setIfInBounds_toArray, List.set_cons_zero, List.set_cons_succ, List.getElem_toArray, List.getElem_cons_succ, List.getElem_cons_zero]
          refine wpAnyH_take (i := 9) (oi := _) (v := Value.int .i64 (k : Int)) rfl (by kernel_rfl) (by kernel_rfl) (by kernel_rfl) (fun _ _ _ h => h) (Or.inl ⟨by rfl, fun w' hSw => ?_⟩) hHeld ?_
          · obtain ⟨t0, t1, t2, t3⟩ := hSw
            go_simp
            try simp [*]
            try (intro hh; exfalso; omega)
            try omega
            try rfl
          try simp only [Act.put, List.setIfInBounds_toArray, List.set_cons_zero, List.set_cons_succ, List.getElem_toArray, List.getElem_cons_succ, List.getElem_cons_zero]
          refine wpAnyH_take (i := 10) (oi := _) (v := Value.pointer (some ⟨vb, vo + k * 2, none⟩)) rfl (by kernel_rfl) (by kernel_rfl) (by kernel_rfl) (fun _ _ _ h => h) (Or.inl ⟨by rfl, fun w' hSw => ?_⟩) hHeld ?_
          · obtain ⟨t0, t1, t2, t3⟩ := hSw
            go_simp
            try simp [*]
            try (intro hh; exfalso; omega)
            try omega
            try rfl
          try simp only [Act.put, List.setIfInBounds_toArray, List.set_cons_zero, List.set_cons_succ, List.getElem_toArray, List.getElem_cons_succ, List.getElem_cons_zero]
          refine wpAnyH_take (i := 11) (oi := _) (v := Value.agg #[Value.int .i64 vl, Value.int .i64 vh]) rfl (by kernel_rfl) (by kernel_rfl) (by kernel_rfl) (fun _ _ _ h => h) (Or.inl ⟨by rfl, fun w' hSw => ?_⟩) hHeld ?_
          · obtain ⟨t0, t1, t2, t3⟩ := hSw
            go_simp
            try simp [*]
            try (intro hh; exfalso; omega)
            try omega
            try rfl
          try simp only [Act.put, List.setIfInBounds_toArray, List.set_cons_zero, List.set_cons_succ, List.getElem_toArray, List.getElem_cons_succ, List.getElem_cons_zero]
          refine wpAnyH_take (i := 12) (oi := _) (v := Value.bool false) rfl (by kernel_rfl) (by kernel_rfl) (by kernel_rfl) (fun _ _ _ h => h) (Or.inl ⟨by rfl, fun w' hSw => ?_⟩) hHeld ?_
          · obtain ⟨t0, t1, t2, t3⟩ := hSw
            go_simp
            try simp [*]
            try (intro hh; exfalso; omega)
            try omega
            try rfl
          try simp only [Act.put, List.setIfInBounds_toArray, List.set_cons_zero, List.set_cons_succ, List.getElem_toArray, List.getElem_cons_succ, List.getElem_cons_zero]
          refine wpAnyH_take (i := 13) (oi := _) (v := Value.bool false) rfl (by kernel_rfl) (by kernel_rfl) (by kernel_rfl) (fun _ _ _ h => h) (Or.inl ⟨by rfl, fun w' hSw => ?_⟩) hHeld ?_
          · obtain ⟨t0, t1, t2, t3⟩ := hSw
            go_simp
            try simp [*]
            try (intro hh; exfalso; omega)
            try omega
            try rfl
          try simp only [Act.put, List.setIfInBounds_toArray, List.set_cons_zero, List.set_cons_succ, List.getElem_toArray, List.getElem_cons_succ, List.getElem_cons_zero]
          refine wpAnyH_done (by kernel_rfl) ?_ _
          clear hHeld
          go_wp2_with fail
          refine (c67 _).mono ?_
          rintro e w6 ⟨rfl, hb⟩
          have HY6 := Lib.hid (show Below w3.heap.size w3 w6 from HY5.out.drew.trans (hb.mono HY5.out.drew.size))
          clear hb x0 x1 y0 y1 y2 a7 k0 k1 k2
          go_wp2_with fail
          refine (c68 _).mono ?_
          rintro e w7 ⟨rfl, rfl⟩
          obtain ⟨⟨a0, a1⟩, ⟨a2, a3, a4, a7⟩, ⟨a5, a6⟩, ⟨y0, y1⟩, y2⟩ := HC.out _ HY6.out
          clear a0 a1 a2 a3 a4 a5 a6 a7 y0 y1
          have hyy : (y != y) = false := by simp
          go_wp2_with fail
          go_roundw
          case rel => exact ⟨k + 1, by omega, by omega, by go_num, HY6.out⟩
          case measure => simp [intOf]; omega
    · obtain rfl : k = n := by omega
      clear HROUND
      go_wp2_with fail
      refine (c69.out _).mono ?_
      rintro e wf ⟨rfl, hb⟩
      have HBF := Lib.hid (HB.out.trans (hb.mono HB.out.size))
      clear hb
      go_wp2_with fail
      go_ret
      exact ⟨rfl, HUP3.out _ HBF.out⟩
end Go.Proofs.Ytdohfpnnmppdkaa

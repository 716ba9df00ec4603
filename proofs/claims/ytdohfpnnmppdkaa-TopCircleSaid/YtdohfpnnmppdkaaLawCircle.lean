/-
  TopCircle: from offsets to distances.
-/
import Derived.Test.YtdohfpnnmppdkaaMoored
import Derived.Test.YtdohfpnnmppdkaaCiOrd
import Derived.Test.YtdohfpnnmppdkaaCbA
import Derived.Test.YtdohfpnnmppdkaaWkB
namespace Go.Proofs.Ytdohfpnnmppdkaa
open Go.RowKit Go.Shelf
set_option linter.unusedSimpArgs false
attribute [local go_sem] Oper.semAt_some
theorem addS_in {a b x y u v : Int} (h1 : 0 ≤ a) (h2 : a ≤ b) (h3 : 0 ≤ x ∧ x ≤ y) (h4 : b ≤ 1000000000) (hu : u = a + x) (hv : v = b + y) (h5 : 0 ≤ u) (h6 : u ≤ v) (h7 : v ≤ 1000000000) : addS a b x y = ⟨u, v, 0⟩ := by
  subst hu hv
  unfold addS
  rw [if_pos ⟨(vB_iff _ _).2 (by omega), (vB_iff _ _).2 (by omega)⟩]
  unfold fit
  rw [if_pos ((vB_iff _ _).2 (by omega))]
theorem prs_open {W : World} {v : Value} {n : Nat} {cs : List Moo.Pr} (hl : cs.length = n) (hn : 0 < n) (h : Moo.Prs W.heap.size W v cs) :
    ∃ b o c, v = .slice (some ⟨b, o, none⟩) n c ∧ b < W.heap.size ∧ ∀ Z k, Below W.heap.size W Z → k < n → Z.cell? ⟨b, o + k * 2, none⟩ = some (.int .i64 (Moo.pr cs k).lo) ∧ Z.cell? ⟨b, o + k * 2 + 1, none⟩ = some (.int .i64 (Moo.pr cs k).hi) := by
  subst hl
  obtain ⟨a, c, rfl, -, hc⟩ := h
  obtain ⟨b, o, rfl, hb, -⟩ := hc 0 hn
  refine ⟨b, o, c, rfl, hb, fun Z k hZ hk => ?_⟩
  obtain ⟨b', o', e, hb', c0, c1⟩ := hc k hk
  simp only [Option.some.injEq, Addr.mk.injEq] at e
  obtain ⟨rfl, rfl, -⟩ := e
  exact ⟨(hZ.cell (p := ⟨b, _, none⟩) hb).trans c0, (hZ.cell (p := ⟨b, _, none⟩) hb).trans c1⟩
set_option maxRecDepth 100000 in
set_option maxHeartbeats 32000000 in
theorem circleLaw_any (lv : Value) (ls : List Moo.Lk) (d : Int) (free : Bool) (hd : 0 ≤ d ∧ d ≤ 65535) (w : World) (hI : Moo.LnkA w.heap.size w lv ls) :
    Calls Try.prog 16 #[lv, .int .u16 d, .bool free] w fun e w' => e = .returned (.bool true) ∧ Below w.heap.size w w' := by
  have c70 := Moo.moored_any lv ls d hd w hI
  have c69 := Lib.hid (fun W => works04_any W)
  obtain ⟨n, hn⟩ : ∃ n, n = min ls.length 8 := ⟨_, rfl⟩
  have hn8 : n ≤ 8 := by omega
  have hOk : ∀ k, k < n → Moo.OkL (Moo.lk ls k) := fun k hk => by
    obtain ⟨a, cap, -, -, hc⟩ := hI
    obtain ⟨b, off, -, -, h⟩ := hc k (by omega)
    exact h.1
  rw [← hn] at c70
  have HL1 := Lib.hid (Moo.finE_len ls n)
  have HL2 := Lib.hid (Moo.rawC_len ls n)
  by_cases hn0 : n = 0
  · clear hOk hn hI hd
    subst hn0
    generalize Moo.finE ls 0 = zs at *
    generalize Moo.rawC ls 0 = cs at *
    go_enter Try.func16, Try.ntmps16
    go_wp2_with fail
    refine c70.mono ?_
    rintro e w1 ⟨v1, v2, rfl, hEl, -, hb⟩
    obtain ⟨sa, sc, rfl, -, -⟩ := hEl
    rw [HL1.out]
    obtain ⟨A, hA⟩ : ∃ A, A = w1.alloc (.cells #[.int .i64 (1 + d), .slice sa 0 sc, .int .i64 20000, .int .i64 500] 97) := ⟨_, rfl⟩
    have HBA := Lib.hid (show Below w.heap.size w A by rw [hA]; exact hb.alloc hb.size _)
    have q1 : A.cell? ⟨w1.heap.size, 1, none⟩ = some (.slice sa 0 sc) := by rw [hA]; exact (cellHB (World.alloc_heap_new w1 _) 1).trans (by simp)
    clear hb
    go_upto_region 2 with fail
    rw [← hA]
    clear hA
    go_wp2_with fail
    refine (c69.out _).mono ?_
    rintro e wf ⟨rfl, hbf⟩
    have HBF := Lib.hid (HBA.out.trans (hbf.mono HBA.out.size))
    clear hbf
    go_wp2_with fail
    go_ret
    exact ⟨by first | rfl | simp, HBF.out⟩
  have hE := Moo.moored_ok (d := d) hd (Nat.pos_of_ne_zero hn0) hn8 hOk
  obtain ⟨hO1, hO2⟩ := Moo.offV_ord free hE
  rw [HL1.out] at hO1 hO2
  have hR1 : (Moo.risV (1 + d) (Moo.finE ls n) 20000 500 (Moo.rawC ls n) free).length = n := by
    rw [show Moo.risV (1 + d) (Moo.finE ls n) 20000 500 (Moo.rawC ls n) free = Moo.rises free (Moo.finE ls n) (Moo.rawC ls n) from if_pos hE]
    exact (Moo.rowL_len _ _).trans HL1.out
  have c71 := Lib.hid (fun W sv cv (h1 : Moo.Els W.heap.size W sv (Moo.finE ls n)) (h2 : Moo.Prs W.heap.size W cv (Moo.rawC ls n)) => Moo.shape_any (1 + d) 20000 500 sv cv _ _ free W h1 h2)
  have c72 := Lib.hid (fun W sv cv (h1 : Moo.Els W.heap.size W sv (Moo.finE ls n)) (h2 : Moo.Prs W.heap.size W cv (Moo.rawC ls n)) => Moo.circle_any (1 + d) 20000 500 sv cv _ _ free W h1 h2)
  rw [hE] at c71 c72
  rw [hO1] at c72
  have HR := Lib.hid (fun k (hk : k < n) => Moo.cir_round hO1 hn8 hO2 hk)
  have HO1 := Lib.hid hO1
  have HR1 := Lib.hid hR1
  clear hO1 hO2 hR1 hE hOk hn hI
  generalize Moo.offV (1 + d) (Moo.finE ls n) 20000 500 (Moo.rawC ls n) free = O at *
  generalize Moo.risV (1 + d) (Moo.finE ls n) 20000 500 (Moo.rawC ls n) free = R at *
  generalize Moo.finE ls n = zs at *
  generalize Moo.rawC ls n = cs at *
  have hn1 : 0 < n := Nat.pos_of_ne_zero hn0
  have hn0i : ((n : Int) == 0) = false := beq_eq_false_iff_ne.2 (by omega)
  have hd1 : 0 ≤ 1 + d ∧ 1 + d ≤ 65536 := by omega
  go_enter Try.func16, Try.ntmps16
  go_wp2_with fail
  refine c70.mono ?_
  rintro e w1 ⟨v1, v2, rfl, hEl, hPr, hb⟩
  have HB1 := Lib.hid hb
  have HEL := Lib.hid hEl
  have HPR := Lib.hid hPr
  obtain ⟨sa, sc, rfl, -, -⟩ := hEl
  obtain ⟨ca, cc, rfl, -, -⟩ := hPr
  clear hb c70
  rw [HL1.out] at HEL ⊢
  rw [HL2.out] at HPR ⊢
  clear HL1 HL2
  generalize 1 + d = dd at *
  obtain ⟨A, hA⟩ : ∃ A, A = w1.alloc (.cells #[.int .i64 dd, .slice sa n sc, .int .i64 20000, .int .i64 500] 97) := ⟨_, rfl⟩
  have HBA := Lib.hid (show Below w1.heap.size w1 A by rw [hA]; exact (Below.refl _ _).alloc (Nat.le_refl _) _)
  have HXA := Lib.hid (show A.heap[w1.heap.size]? = some (.cells #[.int .i64 dd, .slice sa n sc, .int .i64 20000, .int .i64 500] 97 (0, 0)) by rw [hA]; exact World.alloc_heap_new _ _)
  have KK := Lib.hid (show ∀ W, Below A.heap.size A W → W.cell? ⟨w1.heap.size, 0, none⟩ = some (.int .i64 dd) ∧ W.cell? ⟨w1.heap.size, 1, none⟩ = some (.slice sa n sc) ∧ W.cell? ⟨w1.heap.size, 2, none⟩ = some (.int .i64 20000) ∧ W.cell? ⟨w1.heap.size, 3, none⟩ = some (.int .i64 500) from fun W h => by
    have q := (h.block _ (Array.getElem?_eq_some_iff.1 HXA.out).1).trans HXA.out
    exact ⟨cellHB q 0, cellHB q 1, cellHB q 2, cellHB q 3⟩)
  have cS := Lib.hid (fun W (h : Below A.heap.size A W) => c71.out W _ _ (HEL.out.at (HBA.out.trans (h.mono HBA.out.size))) (HPR.out.at (HBA.out.trans (h.mono HBA.out.size))))
  have cC := Lib.hid (fun W (h : Below A.heap.size A W) => c72.out W _ _ (HEL.out.at (HBA.out.trans (h.mono HBA.out.size))) (HPR.out.at (HBA.out.trans (h.mono HBA.out.size))))
  have HUP := Lib.hid (show ∀ W, Below A.heap.size A W → Below w.heap.size w W from fun W h => HB1.out.trans ((HBA.out.trans (h.mono HBA.out.size)).mono HB1.out.size))
  clear c71 c72 HEL HPR HXA HBA HB1
  obtain ⟨k0, k1, k2, k3⟩ := KK.out _ (Below.refl _ _)
  go_upto_region 2 with fail
  rw [← hA]
  clear hA
  generalize w1.heap.size = B7 at *
  go_wp2_with fail
  refine (cS.out _ (Below.refl _ _)).mono ?_
  rintro e w2 ⟨u1, u2, rfl, hO, hR, hb⟩
  obtain ⟨xb, xo, xc, rfl, -, hxc⟩ := prs_open HO1.out hn1 hO
  obtain ⟨yb, yo, yc, rfl, -, -⟩ := prs_open HR1.out hn1 hR
  have HB2 := Lib.hid hb
  have HXC := Lib.hid hxc
  clear hb hO hR hxc cS k0 k1 k2 k3 HO1 HR1
  obtain ⟨k0, k1, k2, k3⟩ := KK.out _ HB2.out
  obtain ⟨rr, hrr⟩ : ∃ rr, rr = Moo.totHi O n := ⟨_, rfl⟩
  rw [← hrr] at cC HR
  have HRR := Lib.hid hrr
  clear hrr
  go_wp2_with fail
  refine (cC.out _ HB2.out).mono ?_
  rintro e w3 ⟨rfl, hb⟩
  have HB3 := Lib.hid hb
  have HUP3 := Lib.hid (show ∀ W, Below w3.heap.size w3 W → Below w.heap.size w W from fun W h => HUP.out W (HB2.out.trans ((HB3.out.trans (h.mono HB3.out.size)).mono HB2.out.size)))
  have HXC3 := Lib.hid (show ∀ W k, Below w3.heap.size w3 W → k < n → W.cell? ⟨xb, xo + k * 2, none⟩ = some (.int .i64 (Moo.pr O k).lo) ∧ W.cell? ⟨xb, xo + k * 2 + 1, none⟩ = some (.int .i64 (Moo.pr O k).hi) from fun W k h hk => HXC.out W k (HB3.out.trans (h.mono HB3.out.size)) hk)
  clear hb k0 k1 k2 k3 cC
  obtain ⟨k0, k1, k2, k3⟩ := KK.out _ (HB2.out.trans (HB3.out.mono HB2.out.size))
  clear HXC KK HUP HB2 HB3
  obtain ⟨U, hU⟩ : ∃ U, U = w3.alloc (.cells #[.int .i64 0, .int .i64 0] 23) := ⟨_, rfl⟩
  have HXU := Lib.hid (show Bx2 U w3.heap.size (.int .i64 0) (.int .i64 0) by rw [hU]; exact Bx2.new _ _ _)
  have HBU := Lib.hid (show Below w3.heap.size w3 U by rw [hU]; exact (Below.refl _ _).alloc (Nat.le_refl _) _)
  go_upto_region 6 with fail
  go_upto_region 9 with fail
  rw [← hU]
  clear hU k0 k1 k2 k3
  go_wp2_with fail
  go_loopw [15] (fun iv wr => ∃ k : Nat, k ≤ n ∧ iv = .int .i64 k ∧ Bx2 wr w3.heap.size (.int .i64 (Moo.totLo O k)) (.int .i64 (Moo.totHi O k)) ∧ Below w3.heap.size w3 wr) (fun iv _ => n - (intOf iv).toNat)
  case atStart => exact ⟨0, Nat.zero_le _, rfl, HXU.out, HBU.out⟩
  case round =>
    obtain ⟨k, hk, rfl, hS, hB⟩ := hrel
    have HS := Lib.hid hS
    have HB := Lib.hid hB
    clear hS hB HXU HBU
    by_cases hlt : k < n
    · have hki : (k : Int) < (n : Int) := by omega
      obtain ⟨r1, r2, r3, r4, r5, r6, r7, r8, r9, r10⟩ := HR.out k hlt
      obtain ⟨x0, x1⟩ := HXC3.out wr k HB.out hlt
      have HXK := Lib.hid (fun W (h : Below w3.heap.size w3 W) => HXC3.out W k h hlt)
      have c55 := fun W => badd_any (Moo.totLo O k) (Moo.totHi O k) (Moo.pr O k).lo (Moo.pr O k).hi W
      rw [show addS (Moo.totLo O k) (Moo.totHi O k) (Moo.pr O k).lo (Moo.pr O k).hi = ⟨Moo.totLo O (k + 1), Moo.totHi O (k + 1), 0⟩ from addS_in r4 r5 r10 (by omega) r7 r8 r1 r2 (by omega)] at c55
      have c73 := fun W => Moo.bdistance_any 0 0 0 0 (Moo.totLo O (k + 1)) (Moo.totHi O (k + 1)) 0 0 W
      rw [r9] at c73
      dsimp only at c55 c73
      have hle : ¬ rr < Moo.totHi O (k + 1) := by omega
      clear r1 r2 r3 r4 r5 r6 r7 r8 r9 r10 HR HXC3
      generalize (Moo.pr O k).lo = xl at *
      generalize (Moo.pr O k).hi = xh at *
      generalize hul : Moo.totLo O (k + 1) = ul at *
      generalize huh : Moo.totHi O (k + 1) = uh at *
      generalize Moo.totLo O k = tl at *
      generalize Moo.totHi O k = th at *
      have HUL := Lib.hid hul
      have HUH := Lib.hid huh
      have HSZ := Lib.hid (show w3.heap.size < wr.heap.size from HS.out.lt)
      clear hul huh
      generalize hSB : w3.heap.size = SB at *
      have HSP := Lib.hid (show ∀ W, Below wr.heap.size wr W → Below SB w3 W from fun W h => HB.out.trans (h.mono (Nat.le_of_lt HSZ.out)))
      have KE1 := Lib.hid (show ∀ W, Below wr.heap.size wr W → W.cell? ⟨SB, 0, none⟩ = some (Value.int .i64 tl) ∧ W.cell? ⟨SB, 1, none⟩ = some (Value.int .i64 th) ∧ W.cell? ⟨xb, xo + k * 2, none⟩ = some (Value.int .i64 xl) ∧ W.cell? ⟨xb, xo + k * 2 + 1, none⟩ = some (Value.int .i64 xh) from fun W h => by
        have q := HXK.out W (HSP.out W h)
        have s := HS.out.keep h
        exact ⟨s.c0, s.c1, q.1, q.2⟩)
      clear x0 x1
      obtain ⟨s0, s1, x0, x1⟩ := KE1.out _ (Below.refl _ _)
      go_upto_region 12 with fail
      go_cut [16, 17] from 73 to 82 (fun s16 s17 wc => ∃ B, s17 = Value.int .i64 0 ∧ s16 = Value.pointer (some ⟨B, 0, none⟩) ∧ Bx2 wc B (.int .i64 ul) (.int .i64 uh) ∧ Below wr.heap.size wr wc)
      case first => as_aux_lemma =>
        have HD := Lib.hid (show Below wr.heap.size wr wr.drew from (Below.refl _ _).drew)
        refine wp_region_held_drew (S := fun w' => w'.cell? ⟨SB, 0, none⟩ = some (Value.int .i64 tl) ∧ w'.cell? ⟨SB, 1, none⟩ = some (Value.int .i64 th) ∧ w'.cell? ⟨xb, xo + k * 2, none⟩ = some (Value.int .i64 xl) ∧ w'.cell? ⟨xb, xo + k * 2 + 1, none⟩ = some (Value.int .i64 xh)) (by kernel_rfl) ⟨by simpa [go_sem] using s0, by simpa [go_sem] using s1, by simpa [go_sem] using x0, by simpa [go_sem] using x1⟩ (fun hHeld => ?_)
        refine wpAnyH_take (i := 0) (oi := _) (v := Value.agg #[Value.int .i64 tl, Value.int .i64 th]) rfl (by kernel_rfl) (by kernel_rfl) (by kernel_rfl) (fun _ _ _ h => h) (Or.inl ⟨by rfl, fun w' hSw => ?_⟩) hHeld ?_
        · obtain ⟨t0, t1, t2, t3⟩ := hSw
          go_simp
          try simp [*]
          try (intro hh; exfalso; omega)
          try omega
        try simp only [Act.put, List.setIfInBounds_toArray, List.set_cons_zero, List.set_cons_succ, List.getElem_toArray, List.getElem_cons_succ, List.getElem_cons_zero]
        refine wpAnyH_take (i := 1) (oi := _) (v := Value.slice (some ⟨xb, xo, none⟩) n xc) rfl (by kernel_rfl) (by kernel_rfl) (by kernel_rfl) (fun _ _ _ h => h) (Or.inl ⟨by rfl, fun w' hSw => ?_⟩) hHeld ?_
        · obtain ⟨t0, t1, t2, t3⟩ := hSw
          go_simp
          try simp [*]
          try (intro hh; exfalso; omega)
          try omega
        try simp only [Act.put, List.setIfInBounds_toArray, List.set_cons_zero, List.set_cons_succ, List.getElem_toArray, List.getElem_cons_succ, List.getElem_cons_zero]
        refine wpAnyH_take (i := 2) (oi := _) (v := Value.int .i64 (k : Int)) rfl (by kernel_rfl) (by kernel_rfl) (by kernel_rfl) (fun _ _ _ h => h) (Or.inl ⟨by rfl, fun w' hSw => ?_⟩) hHeld ?_
        · obtain ⟨t0, t1, t2, t3⟩ := hSw
          go_simp
          try simp [*]
          try (intro hh; exfalso; omega)
          try omega
        try simp only [Act.put, List.setIfInBounds_toArray, List.set_cons_zero, List.set_cons_succ, List.getElem_toArray, List.getElem_cons_succ, List.getElem_cons_zero]
        refine wpAnyH_take (i := 3) (oi := _) (v := Value.pointer (some ⟨xb, xo + k * 2, none⟩)) rfl (by kernel_rfl) (by kernel_rfl) (by kernel_rfl) (fun _ _ _ h => h) (Or.inl ⟨by rfl, fun w' hSw => ?_⟩) hHeld ?_
        · obtain ⟨t0, t1, t2, t3⟩ := hSw
          go_simp
          try simp [*]
          try (intro hh; exfalso; omega)
          try omega
        try simp only [Act.put, List.setIfInBounds_toArray, List.set_cons_zero, List.set_cons_succ, List.getElem_toArray, List.getElem_cons_succ, List.getElem_cons_zero]
        refine wpAnyH_take (i := 4) (oi := _) (v := Value.agg #[Value.int .i64 xl, Value.int .i64 xh]) rfl (by kernel_rfl) (by kernel_rfl) (by kernel_rfl) (fun _ _ _ h => h) (Or.inl ⟨by rfl, fun w' hSw => ?_⟩) hHeld ?_
        · obtain ⟨t0, t1, t2, t3⟩ := hSw
          go_simp
          try simp [*]
          try (intro hh; exfalso; omega)
          try omega
        try simp only [Act.put, List.setIfInBounds_toArray, List.set_cons_zero, List.set_cons_succ, List.getElem_toArray, List.getElem_cons_succ, List.getElem_cons_zero]
        refine wpAnyH_ready (rs := [5, 9]) (by kernel_rfl) (by simp) ?_
        refine AllReadyH.cons (o := _) rfl (fun K hK => ?_) (AllReadyH.cons (o := _) rfl (fun K hK => ?_) (AllReadyH.nil))
        · go_simp
          go_at_call 55
          refine Calls.mono (c55 _) ?_
          rintro e v1 ⟨rfl, hbx⟩
          have HV1 := Lib.hid (show Below wr.heap.size wr v1 from Below.trans HD.out (hbx.mono (Below.size HD.out)))
          clear hbx
          clear hHeld
          refine hK.out _ _ (KE1.out _ HV1.out) (fun hHeld => ?_)
          clear hK K
          try simp only [Act.put, List.setIfInBounds_toArray, List.set_cons_zero, List.set_cons_succ, List.getElem_toArray, List.getElem_cons_succ, List.getElem_cons_zero]
          refine wpAnyH_take (i := 6) (oi := _) (v := Value.tuple #[.agg #[.int .i64 ul, .int .i64 uh], .int .i64 0]) rfl (by kernel_rfl) (by kernel_rfl) (by kernel_rfl) (fun _ _ _ h => h) (Or.inl ⟨by rfl, fun w' hSw => ?_⟩) hHeld ?_
          · obtain ⟨t0, t1, t2, t3⟩ := hSw
            go_simp
            try simp [*]
            try (intro hh; exfalso; omega)
            try omega
          try simp only [Act.put, List.setIfInBounds_toArray, List.set_cons_zero, List.set_cons_succ, List.getElem_toArray, List.getElem_cons_succ, List.getElem_cons_zero]
          refine wpAnyH_take (i := 7) (oi := _) (v := .agg #[.int .i64 ul, .int .i64 uh]) rfl (by kernel_rfl) (by kernel_rfl) (by kernel_rfl) (fun _ _ _ h => h) (Or.inl ⟨by rfl, fun w' hSw => ?_⟩) hHeld ?_
          · obtain ⟨t0, t1, t2, t3⟩ := hSw
            go_simp
            try simp [*]
            try (intro hh; exfalso; omega)
            try omega
          try simp only [Act.put, List.setIfInBounds_toArray, List.set_cons_zero, List.set_cons_succ, List.getElem_toArray, List.getElem_cons_succ, List.getElem_cons_zero]
          refine wpAnyH_ready (rs := [8, 9]) (by kernel_rfl) (by simp) ?_
          refine AllReadyH.cons (o := _) rfl (fun K hK => ?_) (AllReadyH.cons (o := _) rfl (fun K hK => ?_) (AllReadyH.nil))
          · go_simp
            clear hHeld
            refine hK.out _ _ (KE1.out _ HV1.out) (fun hHeld => ?_)
            clear hK K
            try simp only [Act.put, List.setIfInBounds_toArray, List.set_cons_zero, List.set_cons_succ, List.getElem_toArray, List.getElem_cons_succ, List.getElem_cons_zero]
            refine wpAnyH_ready (rs := [9]) (by kernel_rfl) (by simp) ?_
            refine AllReadyH.cons (o := _) rfl (fun K hK => ?_) (AllReadyH.nil)
            go_simp
            have HVa := Lib.hid (show Below wr.heap.size wr (v1.alloc (.cells #[.int .i64 0, .int .i64 0] 23)) from HV1.out.alloc (HV1.out.size) _)
            have HX0 := Lib.hid (show Bx2 (v1.alloc (.cells #[.int .i64 0, .int .i64 0] 23)) v1.heap.size (.int .i64 0) (.int .i64 0) from Bx2.new _ _ _)
            clear hHeld
            refine hK.out _ _ (KE1.out _ HVa.out) (fun hHeld => ?_)
            clear hK K
            try simp only [Act.put, List.setIfInBounds_toArray, List.set_cons_zero, List.set_cons_succ, List.getElem_toArray, List.getElem_cons_succ, List.getElem_cons_zero]
            obtain ⟨Z, hZe⟩ : ∃ Z, Z = v1.alloc (.cells #[.int .i64 ul, .int .i64 uh] 23) := ⟨_, rfl⟩
            have hZ : Bx2 Z v1.heap.size (.int .i64 ul) (.int .i64 uh) := by rw [hZe]; exact Bx2.new _ _ _
            have hBZ : Below wr.heap.size wr Z := by rw [hZe]; exact HV1.out.alloc HV1.out.size _
            refine wpAnyH_ready (rs := [10]) (by kernel_rfl) (by simp) ?_
            refine AllReadyH.cons (o := _) rfl (fun K hK => ?_) AllReadyH.nil
            go_simp
            try rw [← hZe]
            clear hHeld
            refine hK.out _ _ (KE1.out _ hBZ) (fun hHeld => ?_)
            clear hK K
            try simp only [Act.put, List.setIfInBounds_toArray, List.set_cons_zero, List.set_cons_succ, List.getElem_toArray, List.getElem_cons_succ, List.getElem_cons_zero]
            clear hZe
            refine wpAnyH_take (i := 11) (oi := _) (v := Value.int .i64 0) rfl (by kernel_rfl) (by kernel_rfl) (by kernel_rfl) (fun _ _ _ h => h) (Or.inl ⟨by rfl, fun w' hSw => ?_⟩) hHeld ?_
            · obtain ⟨t0, t1, t2, t3⟩ := hSw
              go_simp
              try simp [*]
              try (intro hh; exfalso; omega)
              try omega
            try simp only [Act.put, List.setIfInBounds_toArray, List.set_cons_zero, List.set_cons_succ, List.getElem_toArray, List.getElem_cons_succ, List.getElem_cons_zero]
            refine wpAnyH_done (by kernel_rfl) ?_ _
            clear hHeld
            go_wp2_with fail
            go_meet
            case rel => exact ⟨_, rfl, rfl, hZ, hBZ⟩
          · go_simp
            have HVa := Lib.hid (show Below wr.heap.size wr (v1.alloc (.cells #[.int .i64 0, .int .i64 0] 23)) from HV1.out.alloc (HV1.out.size) _)
            have HX0 := Lib.hid (show Bx2 (v1.alloc (.cells #[.int .i64 0, .int .i64 0] 23)) v1.heap.size (.int .i64 0) (.int .i64 0) from Bx2.new _ _ _)
            clear hHeld
            refine hK.out _ _ (KE1.out _ HVa.out) (fun hHeld => ?_)
            clear hK K
            try simp only [Act.put, List.setIfInBounds_toArray, List.set_cons_zero, List.set_cons_succ, List.getElem_toArray, List.getElem_cons_succ, List.getElem_cons_zero]
            obtain ⟨Z, hZe⟩ : ∃ Z, Z = v1.alloc (.cells #[.int .i64 ul, .int .i64 uh] 23) := ⟨_, rfl⟩
            have hZ : Bx2 Z v1.heap.size (.int .i64 ul) (.int .i64 uh) := by rw [hZe]; exact Bx2.new _ _ _
            have hBZ : Below wr.heap.size wr Z := by rw [hZe]; exact HV1.out.alloc HV1.out.size _
            refine wpAnyH_ready (rs := [8, 10]) (by kernel_rfl) (by simp) ?_
            refine AllReadyH.cons (o := _) rfl (fun K hK => ?_) (AllReadyH.cons (o := _) rfl (fun K hK => ?_) (AllReadyH.nil))
            · go_simp
              clear hHeld
              refine hK.out _ _ (KE1.out _ HVa.out) (fun hHeld => ?_)
              clear hK K
              try simp only [Act.put, List.setIfInBounds_toArray, List.set_cons_zero, List.set_cons_succ, List.getElem_toArray, List.getElem_cons_succ, List.getElem_cons_zero]
              refine wpAnyH_ready (rs := [10]) (by kernel_rfl) (by simp) ?_
              refine AllReadyH.cons (o := _) rfl (fun K hK => ?_) AllReadyH.nil
              go_simp
              try rw [← hZe]
              clear hHeld
              refine hK.out _ _ (KE1.out _ hBZ) (fun hHeld => ?_)
              clear hK K
              try simp only [Act.put, List.setIfInBounds_toArray, List.set_cons_zero, List.set_cons_succ, List.getElem_toArray, List.getElem_cons_succ, List.getElem_cons_zero]
              clear hZe
              refine wpAnyH_take (i := 11) (oi := _) (v := Value.int .i64 0) rfl (by kernel_rfl) (by kernel_rfl) (by kernel_rfl) (fun _ _ _ h => h) (Or.inl ⟨by rfl, fun w' hSw => ?_⟩) hHeld ?_
              · obtain ⟨t0, t1, t2, t3⟩ := hSw
                go_simp
                try simp [*]
                try (intro hh; exfalso; omega)
                try omega
              try simp only [Act.put, List.setIfInBounds_toArray, List.set_cons_zero, List.set_cons_succ, List.getElem_toArray, List.getElem_cons_succ, List.getElem_cons_zero]
              refine wpAnyH_done (by kernel_rfl) ?_ _
              clear hHeld
              go_wp2_with fail
              go_meet
              case rel => exact ⟨_, rfl, rfl, hZ, hBZ⟩
            · go_simp
              try rw [← hZe]
              clear hHeld
              refine hK.out _ _ (KE1.out _ hBZ) (fun hHeld => ?_)
              clear hK K
              try simp only [Act.put, List.setIfInBounds_toArray, List.set_cons_zero, List.set_cons_succ, List.getElem_toArray, List.getElem_cons_succ, List.getElem_cons_zero]
              clear hZe
              refine wpAnyH_take (i := 8) (oi := _) (v := .int .i64 0) rfl (by kernel_rfl) (by kernel_rfl) (by kernel_rfl) (fun _ _ _ h => h) (Or.inl ⟨by rfl, fun w' hSw => ?_⟩) hHeld ?_
              · obtain ⟨t0, t1, t2, t3⟩ := hSw
                go_simp
                try simp [*]
                try (intro hh; exfalso; omega)
                try omega
              try simp only [Act.put, List.setIfInBounds_toArray, List.set_cons_zero, List.set_cons_succ, List.getElem_toArray, List.getElem_cons_succ, List.getElem_cons_zero]
              refine wpAnyH_take (i := 11) (oi := _) (v := .int .i64 0) rfl (by kernel_rfl) (by kernel_rfl) (by kernel_rfl) (fun _ _ _ h => h) (Or.inl ⟨by rfl, fun w' hSw => ?_⟩) hHeld ?_
              · obtain ⟨t0, t1, t2, t3⟩ := hSw
                go_simp
                try simp [*]
                try (intro hh; exfalso; omega)
                try omega
              try simp only [Act.put, List.setIfInBounds_toArray, List.set_cons_zero, List.set_cons_succ, List.getElem_toArray, List.getElem_cons_succ, List.getElem_cons_zero]
              refine wpAnyH_done (by kernel_rfl) ?_ _
              clear hHeld
              go_wp2_with fail
              go_meet
              case rel => exact ⟨_, rfl, rfl, hZ, hBZ⟩
        · go_simp
          have HVa := Lib.hid (show Below wr.heap.size wr (wr.drew.alloc (.cells #[.int .i64 0, .int .i64 0] 23)) from HD.out.alloc (Below.size HD.out) _)
          have HX0 := Lib.hid (show Bx2 (wr.drew.alloc (.cells #[.int .i64 0, .int .i64 0] 23)) wr.heap.size (.int .i64 0) (.int .i64 0) from Bx2.new _ _ _)
          clear hHeld
          refine hK.out _ _ (KE1.out _ HVa.out) (fun hHeld => ?_)
          clear hK K
          try simp only [Act.put, List.setIfInBounds_toArray, List.set_cons_zero, List.set_cons_succ, List.getElem_toArray, List.getElem_cons_succ, List.getElem_cons_zero]
          refine wpAnyH_ready (rs := [5]) (by kernel_rfl) (by simp) ?_
          refine AllReadyH.cons (o := _) rfl (fun K hK => ?_) AllReadyH.nil
          go_simp
          go_at_call 55
          refine Calls.mono (c55 _) ?_
          rintro e v1 ⟨rfl, hbx⟩
          have HV1 := Lib.hid (show Below wr.heap.size wr v1 from Below.trans HVa.out (hbx.mono (Below.size HVa.out)))
          have HX1 := Lib.hid (HX0.out.keep hbx)
          clear hbx
          clear hHeld
          refine hK.out _ _ (KE1.out _ HV1.out) (fun hHeld => ?_)
          clear hK K
          try simp only [Act.put, List.setIfInBounds_toArray, List.set_cons_zero, List.set_cons_succ, List.getElem_toArray, List.getElem_cons_succ, List.getElem_cons_zero]
          refine wpAnyH_take (i := 6) (oi := _) (v := Value.tuple #[.agg #[.int .i64 ul, .int .i64 uh], .int .i64 0]) rfl (by kernel_rfl) (by kernel_rfl) (by kernel_rfl) (fun _ _ _ h => h) (Or.inl ⟨by rfl, fun w' hSw => ?_⟩) hHeld ?_
          · obtain ⟨t0, t1, t2, t3⟩ := hSw
            go_simp
            try simp [*]
            try (intro hh; exfalso; omega)
            try omega
          try simp only [Act.put, List.setIfInBounds_toArray, List.set_cons_zero, List.set_cons_succ, List.getElem_toArray, List.getElem_cons_succ, List.getElem_cons_zero]
          refine wpAnyH_take (i := 7) (oi := _) (v := .agg #[.int .i64 ul, .int .i64 uh]) rfl (by kernel_rfl) (by kernel_rfl) (by kernel_rfl) (fun _ _ _ h => h) (Or.inl ⟨by rfl, fun w' hSw => ?_⟩) hHeld ?_
          · obtain ⟨t0, t1, t2, t3⟩ := hSw
            go_simp
            try simp [*]
            try (intro hh; exfalso; omega)
            try omega
          try simp only [Act.put, List.setIfInBounds_toArray, List.set_cons_zero, List.set_cons_succ, List.getElem_toArray, List.getElem_cons_succ, List.getElem_cons_zero]
          have r0 := HX1.out.c0
          have r1 := HX1.out.c1
          have rf0 := HX1.out.f0 0
          have rf1 := HX1.out.f0 1
          have hBl : wr.heap.size ≤ wr.heap.size := (Nat.le_refl _)
          obtain ⟨Z, hZe⟩ : ∃ Z, Z = ((v1).setCell ⟨wr.heap.size, 0, none⟩ (.int .i64 ul)).setCell ⟨wr.heap.size, 1, none⟩ (.int .i64 uh) := ⟨_, rfl⟩
          have hZ : Bx2 Z (wr.heap.size) (.int .i64 ul) (.int .i64 uh) := by rw [hZe]; exact HX1.out.set _ _
          have hBZ : Below wr.heap.size wr Z := by rw [hZe]; exact (HV1.out.setCell (p := ⟨wr.heap.size, 0, none⟩) hBl _).setCell (p := ⟨wr.heap.size, 1, none⟩) hBl _
          refine wpAnyH_ready (rs := [8, 10]) (by kernel_rfl) (by simp) ?_
          refine AllReadyH.cons (o := _) rfl (fun K hK => ?_) (AllReadyH.cons (o := _) rfl (fun K hK => ?_) (AllReadyH.nil))
          · go_simp
            clear hHeld
            refine hK.out _ _ (KE1.out _ HV1.out) (fun hHeld => ?_)
            clear hK K
            try simp only [Act.put, List.setIfInBounds_toArray, List.set_cons_zero, List.set_cons_succ, List.getElem_toArray, List.getElem_cons_succ, List.getElem_cons_zero]
            refine wpAnyH_ready (rs := [10]) (by kernel_rfl) (by simp) ?_
            refine AllReadyH.cons (o := _) rfl (fun K hK => ?_) AllReadyH.nil
            go_simp
            try rw [← hZe]
            clear hHeld
            refine hK.out _ _ (KE1.out _ hBZ) (fun hHeld => ?_)
            clear hK K
            try simp only [Act.put, List.setIfInBounds_toArray, List.set_cons_zero, List.set_cons_succ, List.getElem_toArray, List.getElem_cons_succ, List.getElem_cons_zero]
            clear hZe r0 r1 rf0 rf1
            refine wpAnyH_take (i := 11) (oi := _) (v := Value.int .i64 0) rfl (by kernel_rfl) (by kernel_rfl) (by kernel_rfl) (fun _ _ _ h => h) (Or.inl ⟨by rfl, fun w' hSw => ?_⟩) hHeld ?_
            · obtain ⟨t0, t1, t2, t3⟩ := hSw
              go_simp
              try simp [*]
              try (intro hh; exfalso; omega)
              try omega
            try simp only [Act.put, List.setIfInBounds_toArray, List.set_cons_zero, List.set_cons_succ, List.getElem_toArray, List.getElem_cons_succ, List.getElem_cons_zero]
            refine wpAnyH_done (by kernel_rfl) ?_ _
            clear hHeld
            go_wp2_with fail
            go_meet
            case rel => exact ⟨_, rfl, rfl, hZ, hBZ⟩
          · go_simp
            try rw [← hZe]
            clear hHeld
            refine hK.out _ _ (KE1.out _ hBZ) (fun hHeld => ?_)
            clear hK K
            try simp only [Act.put, List.setIfInBounds_toArray, List.set_cons_zero, List.set_cons_succ, List.getElem_toArray, List.getElem_cons_succ, List.getElem_cons_zero]
            clear hZe r0 r1 rf0 rf1
            refine wpAnyH_take (i := 8) (oi := _) (v := .int .i64 0) rfl (by kernel_rfl) (by kernel_rfl) (by kernel_rfl) (fun _ _ _ h => h) (Or.inl ⟨by rfl, fun w' hSw => ?_⟩) hHeld ?_
            · obtain ⟨t0, t1, t2, t3⟩ := hSw
              go_simp
              try simp [*]
              try (intro hh; exfalso; omega)
              try omega
            try simp only [Act.put, List.setIfInBounds_toArray, List.set_cons_zero, List.set_cons_succ, List.getElem_toArray, List.getElem_cons_succ, List.getElem_cons_zero]
            refine wpAnyH_take (i := 11) (oi := _) (v := .int .i64 0) rfl (by kernel_rfl) (by kernel_rfl) (by kernel_rfl) (fun _ _ _ h => h) (Or.inl ⟨by rfl, fun w' hSw => ?_⟩) hHeld ?_
            · obtain ⟨t0, t1, t2, t3⟩ := hSw
              go_simp
              try simp [*]
              try (intro hh; exfalso; omega)
              try omega
            try simp only [Act.put, List.setIfInBounds_toArray, List.set_cons_zero, List.set_cons_succ, List.getElem_toArray, List.getElem_cons_succ, List.getElem_cons_zero]
            refine wpAnyH_done (by kernel_rfl) ?_ _
            clear hHeld
            go_wp2_with fail
            go_meet
            case rel => exact ⟨_, rfl, rfl, hZ, hBZ⟩
      case rest =>
        obtain ⟨B16, rfl, rfl, hX, hW⟩ := hcut
        have HX1 := Lib.hid hX
        have HY1 := Lib.hid hW
        clear hX hW
        obtain ⟨W1, rfl⟩ : ∃ W0, W0 = wc := ⟨_, rfl⟩
        have HS1 := Lib.hid (HS.out.keep HY1.out)
        have HB1 := Lib.hid (HSP.out _ HY1.out)
        clear KE1 s0 s1 x0 x1 HS HY1 HSP HB HXK c55
        have s0 := HS1.out.c0
        have s1 := HS1.out.c1
        have sf0 := HS1.out.f0 0
        have sf1 := HS1.out.f0 1
        have x0 := HX1.out.c0
        have x1 := HX1.out.c1
        obtain ⟨W2, hW2⟩ : ∃ W2, W2 = (W1.setCell ⟨SB, 0, none⟩ (.int .i64 ul)).setCell ⟨SB, 1, none⟩ (.int .i64 uh) := ⟨_, rfl⟩
        have HS2 := Lib.hid (show Bx2 W2 SB (.int .i64 ul) (.int .i64 uh) by rw [hW2]; exact HS1.out.set _ _)
        have HB2 := Lib.hid (show Below SB w3 W2 by rw [hW2]; exact (HB1.out.setCell (p := ⟨SB, 0, none⟩) (Nat.le_refl _) _).setCell (p := ⟨SB, 1, none⟩) (Nat.le_refl _) _)
        go_upto_region 16 with fail
        try rw [← hW2]
        clear hW2 s0 s1 sf0 sf1 x0 x1 HX1 HS1 HB1
        have s0 := HS2.out.c0
        have s1 := HS2.out.c1
        go_wp2_with fail
        refine (c73 _).mono ?_
        rintro e w6 ⟨rfl, hb⟩
        have HS6 := Lib.hid (HS2.out.keep hb)
        have HB6 := Lib.hid (show Below SB w3 w6 from HB2.out.trans (hb.mono (Nat.le_of_lt HS2.out.lt)))
        clear hb s0 s1 HS2 HB2
        obtain ⟨W7, hW7⟩ : ∃ W7, W7 = w6.alloc (.cells #[.int .i64 ul, .int .i64 uh] 23) := ⟨_, rfl⟩
        have HX7 := Lib.hid (show Bx2 W7 w6.heap.size (.int .i64 ul) (.int .i64 uh) by rw [hW7]; exact Bx2.new _ _ _)
        have HS7 := Lib.hid (show Bx2 W7 SB (.int .i64 ul) (.int .i64 uh) by rw [hW7]; exact HS6.out.keep ((Below.refl _ _).alloc (Nat.le_refl _) _))
        have HB7 := Lib.hid (show Below SB w3 W7 by rw [hW7]; exact HB6.out.alloc (Nat.le_of_lt HS6.out.lt) _)
        go_upto_region 17 with fail
        rw [← hW7]
        clear hW7 HS6 HB6
        generalize w6.heap.size = B18 at *
        have s0 := HS7.out.c0
        have s1 := HS7.out.c1
        have x0 := HX7.out.c0
        have x1 := HX7.out.c1
        have h1 : (ul != ul) = false := by simp
        have h2 : (uh != uh) = false := by simp
        go_wp2_with fail
        go_roundw
        case rel => exact ⟨k + 1, by omega, by go_num, by rw [HUL.out, HUH.out]; exact HS7.out, HB7.out⟩
        case measure => simp [intOf]; omega
    · have hkn : k = n := by omega
      subst hkn
      rw [← HRR.out] at HS
      have s0 := HS.out.c0
      have s1 := HS.out.c1
      have hrr : (rr == rr) = true := by simp
      have HBT := Lib.hid (HUP3.out _ HB.out)
      clear HR HXC3 HRR hlt
      go_wp2_with fail
      refine (c69.out _).mono ?_
      rintro e wf ⟨rfl, hbf⟩
      have HBF := Lib.hid (HBT.out.trans (hbf.mono HBT.out.size))
      clear hbf
      go_wp2_with fail
      go_ret
      exact ⟨by first | rfl | simp, HBF.out⟩
end Go.Proofs.Ytdohfpnnmppdkaa

/-
  TopDocked: from a cable to a glider.
-/
import Derived.Test.YtdohfpnnmppdkaaDkMath
import Derived.Test.YtdohfpnnmppdkaaWired
import Derived.Test.YtdohfpnnmppdkaaGdC
import Derived.Test.YtdohfpnnmppdkaaWkB
import Derived.Deep.CutRange
namespace Go.Proofs.Ytdohfpnnmppdkaa
open Go.RowKit Go.Shelf
set_option linter.unusedSimpArgs false
attribute [local go_sem] Oper.semAt_some
theorem wirA_at {w W : World} {v : Value} {l : List Wr} (h : WirA w.heap.size w v l) (hb : Below w.heap.size w W) : WirA W.heap.size W v l := by
  obtain ⟨a, c, rfl, hl, hc⟩ := h
  refine ⟨a, c, rfl, hl, fun k hk => ?_⟩
  obtain ⟨b, o, e, hlt, hok, c0, c1, c2, c3, c4, c5, c6⟩ := hc k hk
  exact ⟨b, o, e, Nat.lt_of_lt_of_le hlt hb.size, hok, (hb.cell (p := ⟨b, _, none⟩) hlt).trans c0, (hb.cell (p := ⟨b, _, none⟩) hlt).trans c1, (hb.cell (p := ⟨b, _, none⟩) hlt).trans c2, (hb.cell (p := ⟨b, _, none⟩) hlt).trans c3, (hb.cell (p := ⟨b, _, none⟩) hlt).trans c4, (hb.cell (p := ⟨b, _, none⟩) hlt).trans c5, (hb.cell (p := ⟨b, _, none⟩) hlt).trans c6⟩
theorem make_full1 (t te : TypeId) (hu : Try.prog.underlying t = some (.slice te)) (hinf : (Try.prog.info? te).map (fun i => (i.zero, i.size, i.bytes)) = some (some (.int .i64 0), 1, 8)) (w : World) (n : Nat) (hn : n ≤ 1000) : ∃ w', (Instr.makeSlice t (.int .i64 (n : Int)) (.int .i64 (n : Int))).run Try.prog w = .ok (.slice (some ⟨w.heap.size, 0, none⟩) n n) w' ∧
    RowC w' w.heap.size te n (fun _ => .int .i64 0) ∧ Below w.heap.size w w' ∧ w.heap.size < w'.heap.size := by
  obtain ⟨i0, hi0, hz0, hz1, hz2⟩ := info_parts (t := te) (z := .int .i64 0) (size := 1) (bytes := 8) hinf
  obtain ⟨w2, hM, hS, hg⟩ := run_make_full (P := Try.prog) w w.heap.size t te i0 _ 1 hu hi0 hz0 hz1 .i64 .i64 n (by rw [hz2]; omega) (by unfold maxLen; omega) (Nat.le_refl _)
  obtain ⟨-, hR⟩ := rowC_of_own hS rfl
  rw [Nat.mul_one] at hR
  have hR0 : RowC w2 w.heap.size te n (fun _ => .int .i64 0) := hR.ext fun j hj => by simp [madeCells, Value.cells, hj, Nat.mod_one]
  exact ⟨w2, hM, hR0, (Below.refl _ w).grown hg (Nat.le_refl _) (fun r e => by cases e), hR0.lt⟩
theorem make_plan (w : World) (n : Nat) (hn : n ≤ 64) : ∃ w', (Instr.makeSlice 112 (.int .i64 (n : Int)) (.int .i64 (n : Int))).run Try.prog w = .ok (.slice (some ⟨w.heap.size, 0, none⟩) n n) w' ∧
    RowC w' w.heap.size 211 (n * 2) (fun _ => .int .i64 0) ∧ Below w.heap.size w w' ∧ w.heap.size < w'.heap.size := by
  obtain ⟨i0, hi0, hz0, hz1, hz2⟩ := info_parts (t := 211) (z := .agg #[.int .i64 0, .int .i64 0]) (size := 2) (bytes := 16) (by kernel_rfl)
  obtain ⟨w2, hM, hS, hg⟩ := run_make_full (P := Try.prog) w w.heap.size 112 211 i0 _ 2 Try.underlying112 hi0 hz0 hz1 .i64 .i64 n (by rw [hz2]; omega) (by unfold maxLen; omega) (Nat.le_refl _)
  obtain ⟨-, hR⟩ := rowC_of_own hS rfl
  have hR0 : RowC w2 w.heap.size 211 (n * 2) (fun _ => .int .i64 0) := hR.ext fun j hj => by
    have hm : j % 2 = 0 ∨ j % 2 = 1 := by omega
    rcases hm with hm | hm <;> simp [madeCells, Value.cells, hj, hm]
  exact ⟨w2, hM, hR0, (Below.refl _ w).grown hg (Nat.le_refl _) (fun r e => by cases e), hR0.lt⟩
set_option maxRecDepth 100000 in
set_option maxHeartbeats 64000000 in
theorem dockLaw_any (lv : Value) (ws : List Wr) (fi rq more us0 us1 rs : Int) (hfi : 0 ≤ fi ∧ fi ≤ 255) (hrq : 0 ≤ rq ∧ rq ≤ 65535) (hmore : 0 ≤ more ∧ more ≤ 65535) (hus0 : 0 ≤ us0 ∧ us0 ≤ 255) (hus1 : 0 ≤ us1 ∧ us1 ≤ 255) (hrs : 0 ≤ rs ∧ rs ≤ 255) (w : World) (hI : WirA w.heap.size w lv ws) :
    Calls Try.prog 17 #[lv, .int .u8 fi, .int .u16 rq, .int .u16 more, .agg #[.int .u8 us0, .int .u8 us1], .int .u8 rs] w fun e w' => e = .returned (.bool true) ∧ Below w.heap.size w w' := by
  obtain ⟨i0, hi0, hz0, hz1, hz2⟩ := info_parts infoI62
  have c65 := Lib.hid (fun W (h : Below w.heap.size w W) => wired_any lv ws W (wirA_at hI h))
  have c69 := Lib.hid (fun W => works04_any W)
  obtain ⟨N, hN⟩ : ∃ N, N = min ws.length 10 := ⟨_, rfl⟩
  have hN10 : N ≤ 10 := by omega
  have hOk : ∀ k, k < N → OkW (wr ws k) := fun k hk => by
    obtain ⟨a, cap, -, -, hc⟩ := hI
    obtain ⟨b, off, -, -, h⟩ := hc k (by omega)
    exact h.1
  rw [← hN] at c65
  have hv : ValidC 20000 20500 (wirF ws N) := ⟨by rw [wirF_len]; omega, by rw [wirF_len]; omega, by omega, wirF_all ws N hN10 hOk⟩
  have HLM := Lib.hid (show ∀ k, k < (wirF ws N).length → 0 ≤ (nd (wirF ws N) k).lim ∧ (nd (wirF ws N) k).lim ≤ 100000 from fun k hk => wir_lim hOk k (by rw [wirF_len] at hk; exact hk))
  have hlen := wirF_len ws N
  generalize wirF ws N = ns at *
  clear hOk hI hN
  have hn0 : 0 < ns.length := by omega
  have hn11 : ns.length ≤ 11 := by omega
  clear hlen hN10
  obtain ⟨k, hk⟩ : ∃ k : Nat, (k : Int) = fi % (ns.length : Int) := ⟨(fi % (ns.length : Int)).toNat, Int.toNat_of_nonneg (Int.emod_nonneg _ (by omega))⟩
  have hkm : fi.tmod (ns.length : Int) = (k : Int) := by rw [Int.tmod_eq_emod_of_nonneg hfi.1, hk]
  have hkl : k < ns.length := by have := Int.emod_lt_of_pos fi (show (0 : Int) < (ns.length : Int) by omega); omega
  clear hk
  have hdv := grdL_valid hmore.1 hv
  obtain ⟨m1, m2, m3, m4⟩ := dk_math (more := more) hv hkl hrq hmore.1
  have cS1 := Lib.hid (show ∀ W sv v1 v2, Nds W.heap.size W sv ns → Il W.heap.size W v1 (fL (dkQ k rq) ns.length) → Il W.heap.size W v2 (fL (dkQ k 1) ns.length) → Calls Try.prog 57 #[.agg #[.int .i64 20000, .int .i64 20500, sv], v1, v2] W fun e w' => ∃ v, e = .returned (.tuple #[v, .int .i64 0]) ∧ Rd w' v ns.length (dkA ns k rq) ∧ Below W.heap.size W w' from fun W sv v1 v2 h h1 h2 => by
    refine (share57_ok 20000 20500 sv v1 v2 ns _ _ W h h1 h2 (shaE_of hv (fL_len _ _) (fL_len _ _) (fL_bd fun j _ => dkQ_bd hrq j))).mono fun e w' hp => ?_
    obtain ⟨v, he, hi, hb⟩ := hp
    exact ⟨v, he, rd_of_il hi hn0, hb⟩)
  have cS3 := Lib.hid (show ∀ W dv v1 v2, Nds W.heap.size W dv (grdL ns more) → Il W.heap.size W v1 (fL (dkQ k rq) ns.length) → Il W.heap.size W v2 (fL (dkQ k 1) ns.length) → Calls Try.prog 57 #[.agg #[.int .i64 20000, .int .i64 20500, dv], v1, v2] W fun e w' => ∃ v, e = .returned (.tuple #[v, .int .i64 0]) ∧ Rd w' v ns.length (dkA (grdL ns more) k rq) ∧ Below W.heap.size W w' from fun W dv v1 v2 h h1 h2 => by
    refine (share57_ok 20000 20500 dv v1 v2 (grdL ns more) _ _ W h h1 h2 (shaE_of hdv (by rw [fL_len, grdL_len]) (by rw [fL_len, grdL_len]) (fL_bd fun j _ => dkQ_bd hrq j))).mono fun e w' hp => ?_
    obtain ⟨v, he, hi, hb⟩ := hp
    rw [grdL_len] at hi
    refine ⟨v, he, ?_, hb⟩
    have e2 : (fun j => (shF (par (grdL ns more)) (limF (grdL ns more)) (ti (fL (dkQ k rq) ns.length)) (ordO (ti (fL (dkQ k 1) ns.length)) ns.length)).2 j) = dkA (grdL ns more) k rq := by
      funext j
      unfold dkA
      rw [grdL_len]
    rw [← e2]
    exact rd_of_il hi hn0)
  have HONE := Lib.hid (show ∀ u, u ∈ (List.range (ns.length * 8)).map (ndc (nd ns)) → u.oneCell' = true from fun u hu => by
    obtain ⟨j, _, rfl⟩ := List.mem_map.1 hu
    unfold ndc
    (repeat' split) <;> rfl)
  have HLEN := Lib.hid (show ((List.range (ns.length * 8)).map (ndc (nd ns))).length = ns.length * 8 by simp)
  have HROW := Lib.hid (fun (W : World) base v (h : W.ownsRow base 62 8 v ns.length ((List.range (ns.length * 8)).map (ndc (nd ns)))) => show ∃ G cp, v = .slice (some ⟨G, 0, none⟩) ns.length cp ∧ base ≤ G ∧ ns.length ≤ cp ∧ NdR W G ns.length cp (mgF ns more 0) from by
    obtain ⟨g, cp, h1, h2, h3, h4⟩ := ndr_of_own hn0 h
    rw [show mgF ns more 0 = nd ns from funext fun j => if_neg (by omega)]
    exact ⟨g, cp, h1, h2, h3, h4⟩)
  have HMG := Lib.hid (fun k x => mg_set ns more k x)
  have HDS := Lib.hid (fun W G cp (hc : ns.length ≤ cp) (h : NdR W G ns.length cp (mgF ns more ns.length)) => show Nds W.heap.size W (.slice (some ⟨G, 0, none⟩) ns.length cp) (grdL ns more) by
    have q := nds_of_ndr (ns := grdL ns more) (f := mgF ns more ns.length) (by rw [grdL_len]; exact h) (by rw [grdL_len]; exact hc) (fun k hk => by
      rw [grdL_len] at hk
      rw [grdL_nd hk]
      exact if_pos hk)
    rw [grdL_len] at q
    exact q)
  have HND := Lib.hid (show ∀ k, mgF ns more k k = nd ns k from fun k => if_neg (by omega))
  have HNDC := Lib.hid (show ∀ (W : World) nb off cap, Nds W.heap.size W (.slice (some ⟨nb, off, none⟩) ns.length cap) ns → ∀ j u, ((List.range (ns.length * 8)).map (ndc (nd ns)))[j]? = some u → W.cell? ((⟨nb, off, none⟩ : Addr).add j) = some u from fun W nb off cap h j u hu => by
    have hj : j < ns.length * 8 := by
      by_cases hj : j < ns.length * 8
      · exact hj
      · rw [List.getElem?_eq_none (by simpa using hj)] at hu; cases hu
    rw [add_at, nds_cells h hj]
    simpa [hj] using hu)
  have HNF := Lib.hid (show ∀ (W : World) sv, Nds W.heap.size W sv ns → ∃ nb off cap, sv = .slice (some ⟨nb, off, none⟩) ns.length cap from fun W sv h => by
    obtain ⟨a, c, rfl, -, hc⟩ := h
    obtain ⟨b, o, rfl, -⟩ := hc 0 hn0
    exact ⟨b, o, c, rfl⟩)
  have HMO := Lib.hid hmore
  clear hv hdv
  generalize dkA (grdL ns more) k rq = XF at *
  generalize dkA ns k rq = AF at *
  generalize (List.range (ns.length * 8)).map (ndc (nd ns)) = NW at *
  generalize grdL ns more = dns at *
  generalize hnn : ns.length = n at *
  clear hnn
  have hn1i : ((n : Int) == 0) = false := beq_eq_false_iff_ne.2 (by omega)
  have hkli : (k : Int) < (n : Int) := by omega
  obtain ⟨A0, hA0⟩ : ∃ A0, A0 = w.alloc (.cells #[.int .u8 us0, .int .u8 us1] 108) := ⟨_, rfl⟩
  have HBA0 := Lib.hid (show Below w.heap.size w A0 by rw [hA0]; exact (Below.refl _ _).alloc (Nat.le_refl _) _)
  have HUS := Lib.hid (show A0.heap[w.heap.size]? = some (.cells #[.int .u8 us0, .int .u8 us1] 108 (0, 0)) by rw [hA0]; exact World.alloc_heap_new _ _)
  go_enter Try.func17, Try.ntmps17
  go_upto_region 1 with fail
  rw [← hA0]
  clear hA0
  go_wp2_with fail
  refine (c65.out _ HBA0.out).mono ?_
  rintro e w1 ⟨cv, rfl, hNd, hb⟩
  obtain ⟨nb, off, cap, rfl⟩ := HNF.out _ _ hNd
  have HNd := Lib.hid hNd
  have HB1 := Lib.hid (HBA0.out.trans (hb.mono HBA0.out.size))
  have HUS1 := Lib.hid (show ∀ W, Below w1.heap.size w1 W → W.heap[w.heap.size]? = some (.cells #[.int .u8 us0, .int .u8 us1] 108 (0, 0)) from fun W h => by
    have a := (Array.getElem?_eq_some_iff.1 HUS.out).1
    exact (h.block _ (Nat.lt_of_lt_of_le a hb.size)).trans ((hb.block _ a).trans HUS.out))
  clear hNd hb c65 HBA0 HUS HNF
  obtain ⟨A, hA⟩ : ∃ A, A = w1.alloc (.cells #[.int .i64 20000, .int .i64 20500, .slice (some ⟨nb, off, none⟩) n cap] 26) := ⟨_, rfl⟩
  have HBA := Lib.hid (show Below w1.heap.size w1 A by rw [hA]; exact (Below.refl _ _).alloc (Nat.le_refl _) _)
  have HXA := Lib.hid (show A.heap[w1.heap.size]? = some (.cells #[.int .i64 20000, .int .i64 20500, .slice (some ⟨nb, off, none⟩) n cap] 26 (0, 0)) by rw [hA]; exact World.alloc_heap_new _ _)
  have HUP1 := Lib.hid (show ∀ W, Below A.heap.size A W → Below w1.heap.size w1 W from fun W h => HBA.out.trans (h.mono HBA.out.size))
  have HUP := Lib.hid (show ∀ W, Below A.heap.size A W → Below w.heap.size w W from fun W h => HB1.out.trans ((HUP1.out W h).mono HB1.out.size))
  have KK := Lib.hid (show ∀ W, Below A.heap.size A W → W.cell? ⟨w1.heap.size, 0, none⟩ = some (.int .i64 20000) ∧ W.cell? ⟨w1.heap.size, 1, none⟩ = some (.int .i64 20500) ∧ W.cell? ⟨w1.heap.size, 2, none⟩ = some (.slice (some ⟨nb, off, none⟩) n cap) from fun W h => by
    have q := (h.block _ (Array.getElem?_eq_some_iff.1 HXA.out).1).trans HXA.out
    exact ⟨cellHB q 0, cellHB q 1, cellHB q 2⟩)
  have HNdA := Lib.hid (show ∀ W, Below A.heap.size A W → Nds W.heap.size W (.slice (some ⟨nb, off, none⟩) n cap) ns from fun W h => HNd.out.at (HUP1.out W h))
  have HLTA := Lib.hid (show w1.heap.size < A.heap.size from (Array.getElem?_eq_some_iff.1 HXA.out).1)
  clear HBA HXA HNd HB1
  obtain ⟨k0, k1, k2⟩ := KK.out _ (Below.refl _ _)
  go_upto_region 2 with fail
  rw [← hA]
  clear hA
  generalize w1.heap.size = C at *
  go_upto_region 4 with fail
  clear k0 k1 k2
  go_cut [16, 17] from 39 to 43 (fun s16 s17 wc => ∃ g1 g2, s16 = Value.slice (some ⟨g1, 0, none⟩) n n ∧ s17 = Value.slice (some ⟨g2, 0, none⟩) n n ∧ RowC wc g1 2 n (fun _ => .int .i64 0) ∧ RowC wc g2 3 n (fun _ => .int .i64 0) ∧ g1 ≠ g2 ∧ A.heap.size ≤ g1 ∧ A.heap.size ≤ g2 ∧ Below A.heap.size A wc)
  case first => as_aux_lemma =>
    clear cS1 cS3 HONE HLEN HROW HMG HDS HND HNDC
    have HD : Below A.heap.size A A.drew := (Below.refl _ _).drew
    refine wp_region_held_drew (S := fun w' => True) (by kernel_rfl) trivial (fun hHeld => ?_)
    refine wpAnyH_take (i := 0) (oi := _) (v := Value.int .i64 (n : Int)) rfl (by kernel_rfl) (by kernel_rfl) (by kernel_rfl) (fun _ _ _ h => h) (Or.inl ⟨by rfl, fun w' hSw => ?_⟩) hHeld ?_
    · clear hSw
      go_simp
      try simp [*]
      try (intro hh; exfalso; omega)
      try omega
    try simp only [Act.put, List.setIfInBounds_toArray, List.set_cons_zero, List.set_cons_succ, List.getElem_toArray, List.getElem_cons_succ, List.getElem_cons_zero]
    refine wpAnyH_take (i := 2) (oi := _) (v := Value.int .i64 (n : Int)) rfl (by kernel_rfl) (by kernel_rfl) (by kernel_rfl) (fun _ _ _ h => h) (Or.inl ⟨by rfl, fun w' hSw => ?_⟩) hHeld ?_
    · clear hSw
      go_simp
      try simp [*]
      try (intro hh; exfalso; omega)
      try omega
    try simp only [Act.put, List.setIfInBounds_toArray, List.set_cons_zero, List.set_cons_succ, List.getElem_toArray, List.getElem_cons_succ, List.getElem_cons_zero]
    obtain ⟨u1, hM1, hR1, hb1, hz1⟩ := make_full1 50 2 Try.underlying50 (by kernel_rfl) A.drew n (by omega)
    obtain ⟨u2, hM2, hR2, hb2, hz2⟩ := make_full1 29 3 Try.underlying29 (by kernel_rfl) A.drew n (by omega)
    refine wpAnyH_ready (rs := [1, 3]) (by kernel_rfl) (by simp) ?_
    refine AllReadyH.cons (o := _) rfl (fun K hK => ?_) (AllReadyH.cons (o := _) rfl (fun K hK => ?_) (AllReadyH.nil))
    · go_simp
      have hB1 : Below A.heap.size A u1 := HD.trans (hb1.mono (Below.size HD))
      clear hHeld
      refine hK.out _ _ trivial (fun hHeld => ?_)
      clear hK K
      try simp only [Act.put, List.setIfInBounds_toArray, List.set_cons_zero, List.set_cons_succ, List.getElem_toArray, List.getElem_cons_succ, List.getElem_cons_zero]
      obtain ⟨u3, hM3, hR3, hb3, hz3⟩ := make_full1 29 3 Try.underlying29 (by kernel_rfl) u1 n (by omega)
      refine wpAnyH_ready (rs := [3, 4]) (by kernel_rfl) (by simp) ?_
      refine AllReadyH.cons (o := _) rfl (fun K hK => ?_) (AllReadyH.cons (o := _) rfl (fun K hK => ?_) (AllReadyH.nil))
      · go_simp
        have hB3 : Below A.heap.size A u3 := hB1.trans (hb3.mono (Below.size hB1))
        have hK3a := hR1.keep hb3
        have hlt3 : A.heap.size < u1.heap.size := hR1.lt
        clear hHeld
        refine hK.out _ _ trivial (fun hHeld => ?_)
        clear hK K
        try simp only [Act.put, List.setIfInBounds_toArray, List.set_cons_zero, List.set_cons_succ, List.getElem_toArray, List.getElem_cons_succ, List.getElem_cons_zero]
        refine wpAnyH_take (i := 4) (oi := _) (v := Value.slice (some ⟨A.heap.size, 0, none⟩) n n) rfl (by kernel_rfl) (by kernel_rfl) (by kernel_rfl) (fun _ _ _ h => h) (Or.inl ⟨by rfl, fun w' hSw => ?_⟩) hHeld ?_
        · clear hSw
          go_simp
          try simp [*]
          try (intro hh; exfalso; omega)
          try omega
        try simp only [Act.put, List.setIfInBounds_toArray, List.set_cons_zero, List.set_cons_succ, List.getElem_toArray, List.getElem_cons_succ, List.getElem_cons_zero]
        refine wpAnyH_take (i := 5) (oi := _) (v := Value.slice (some ⟨u1.heap.size, 0, none⟩) n n) rfl (by kernel_rfl) (by kernel_rfl) (by kernel_rfl) (fun _ _ _ h => h) (Or.inl ⟨by rfl, fun w' hSw => ?_⟩) hHeld ?_
        · clear hSw
          go_simp
          try simp [*]
          try (intro hh; exfalso; omega)
          try omega
        try simp only [Act.put, List.setIfInBounds_toArray, List.set_cons_zero, List.set_cons_succ, List.getElem_toArray, List.getElem_cons_succ, List.getElem_cons_zero]
        refine wpAnyH_done (by kernel_rfl) ?_ _
        clear hHeld
        go_wp2_with fail
        go_meet
        case rel => exact ⟨_, _, rfl, rfl, hK3a, hR3, (Nat.ne_of_lt hlt3), (Nat.le_refl _), (Nat.le_trans (Nat.le_refl _) (Nat.le_of_lt hlt3)), hB3⟩
      · go_simp
        clear hHeld
        refine hK.out _ _ trivial (fun hHeld => ?_)
        clear hK K
        try simp only [Act.put, List.setIfInBounds_toArray, List.set_cons_zero, List.set_cons_succ, List.getElem_toArray, List.getElem_cons_succ, List.getElem_cons_zero]
        refine wpAnyH_ready (rs := [3]) (by kernel_rfl) (by simp) ?_
        refine AllReadyH.cons (o := _) rfl (fun K hK => ?_) (AllReadyH.nil)
        go_simp
        have hB3 : Below A.heap.size A u3 := hB1.trans (hb3.mono (Below.size hB1))
        have hK3a := hR1.keep hb3
        have hlt3 : A.heap.size < u1.heap.size := hR1.lt
        clear hHeld
        refine hK.out _ _ trivial (fun hHeld => ?_)
        clear hK K
        try simp only [Act.put, List.setIfInBounds_toArray, List.set_cons_zero, List.set_cons_succ, List.getElem_toArray, List.getElem_cons_succ, List.getElem_cons_zero]
        refine wpAnyH_take (i := 5) (oi := _) (v := Value.slice (some ⟨u1.heap.size, 0, none⟩) n n) rfl (by kernel_rfl) (by kernel_rfl) (by kernel_rfl) (fun _ _ _ h => h) (Or.inl ⟨by rfl, fun w' hSw => ?_⟩) hHeld ?_
        · clear hSw
          go_simp
          try simp [*]
          try (intro hh; exfalso; omega)
          try omega
        try simp only [Act.put, List.setIfInBounds_toArray, List.set_cons_zero, List.set_cons_succ, List.getElem_toArray, List.getElem_cons_succ, List.getElem_cons_zero]
        refine wpAnyH_done (by kernel_rfl) ?_ _
        clear hHeld
        go_wp2_with fail
        go_meet
        case rel => exact ⟨_, _, rfl, rfl, hK3a, hR3, (Nat.ne_of_lt hlt3), (Nat.le_refl _), (Nat.le_trans (Nat.le_refl _) (Nat.le_of_lt hlt3)), hB3⟩
    · go_simp
      have hB2 : Below A.heap.size A u2 := HD.trans (hb2.mono (Below.size HD))
      clear hHeld
      refine hK.out _ _ trivial (fun hHeld => ?_)
      clear hK K
      try simp only [Act.put, List.setIfInBounds_toArray, List.set_cons_zero, List.set_cons_succ, List.getElem_toArray, List.getElem_cons_succ, List.getElem_cons_zero]
      obtain ⟨u4, hM4, hR4, hb4, hz4⟩ := make_full1 50 2 Try.underlying50 (by kernel_rfl) u2 n (by omega)
      refine wpAnyH_ready (rs := [1]) (by kernel_rfl) (by simp) ?_
      refine AllReadyH.cons (o := _) rfl (fun K hK => ?_) (AllReadyH.nil)
      go_simp
      have hB4 : Below A.heap.size A u4 := hB2.trans (hb4.mono (Below.size hB2))
      have hK4b := hR2.keep hb4
      have hlt4 : A.heap.size < u2.heap.size := hR2.lt
      clear hHeld
      refine hK.out _ _ trivial (fun hHeld => ?_)
      clear hK K
      try simp only [Act.put, List.setIfInBounds_toArray, List.set_cons_zero, List.set_cons_succ, List.getElem_toArray, List.getElem_cons_succ, List.getElem_cons_zero]
      refine wpAnyH_take (i := 4) (oi := _) (v := Value.slice (some ⟨u2.heap.size, 0, none⟩) n n) rfl (by kernel_rfl) (by kernel_rfl) (by kernel_rfl) (fun _ _ _ h => h) (Or.inl ⟨by rfl, fun w' hSw => ?_⟩) hHeld ?_
      · clear hSw
        go_simp
        try simp [*]
        try (intro hh; exfalso; omega)
        try omega
      try simp only [Act.put, List.setIfInBounds_toArray, List.set_cons_zero, List.set_cons_succ, List.getElem_toArray, List.getElem_cons_succ, List.getElem_cons_zero]
      refine wpAnyH_take (i := 5) (oi := _) (v := Value.slice (some ⟨A.heap.size, 0, none⟩) n n) rfl (by kernel_rfl) (by kernel_rfl) (by kernel_rfl) (fun _ _ _ h => h) (Or.inl ⟨by rfl, fun w' hSw => ?_⟩) hHeld ?_
      · clear hSw
        go_simp
        try simp [*]
        try (intro hh; exfalso; omega)
        try omega
      try simp only [Act.put, List.setIfInBounds_toArray, List.set_cons_zero, List.set_cons_succ, List.getElem_toArray, List.getElem_cons_succ, List.getElem_cons_zero]
      refine wpAnyH_done (by kernel_rfl) ?_ _
      clear hHeld
      go_wp2_with fail
      go_meet
      case rel => exact ⟨_, _, rfl, rfl, hR4, hK4b, (Nat.ne_of_gt hlt4), (Nat.le_trans (Nat.le_refl _) (Nat.le_of_lt hlt4)), (Nat.le_refl _), hB4⟩
  case rest =>
    obtain ⟨g1, g2, rfl, rfl, hR1, hR2, hne, hg1, hg2, hW⟩ := hcut
    have HKN := Lib.hid hkl
    have e1 := hR1.cell hkl
    have e2 := hR2.cell hkl
    have f1 := hR1.froz k
    have f2 := hR2.froz k
    have hne2 := Ne.symm hne
    obtain ⟨W5, hW5⟩ : ∃ W5, W5 = (wc.setCell ⟨g1, k, none⟩ (.int .i64 rq)).setCell ⟨g2, k, none⟩ (.int .i64 1) := ⟨_, rfl⟩
    have HI1 := Lib.hid (show Il W5.heap.size W5 (.slice (some ⟨g1, 0, none⟩) n n) (fL (dkQ k rq) n) from il_of_rowC (show RowC W5 g1 2 n (fun j => if j = k then .int .i64 rq else .int .i64 0) by rw [hW5]; exact (hR1.set k _).far hne) (fun j _ => by unfold dkQ; split <;> rfl))
    have HI2 := Lib.hid (show Il W5.heap.size W5 (.slice (some ⟨g2, 0, none⟩) n n) (fL (dkQ k 1) n) from il_of_rowC (show RowC W5 g2 3 n (fun j => if j = k then .int .i64 1 else .int .i64 0) by rw [hW5]; exact (hR2.far hne2).set k _) (fun j _ => by unfold dkQ; split <;> rfl))
    have HB5 := Lib.hid (show Below A.heap.size A W5 by rw [hW5]; exact (hW.setCell (p := ⟨g1, k, none⟩) hg1 _).setCell (p := ⟨g2, k, none⟩) hg2 _)
    clear hR1 hR2 hg1 hg2 hW
    go_upto_region 6 with fail
    try rw [← hW5]
    clear hW5 e1 e2 f1 f2 hne hne2
    obtain ⟨k0, k1, k2⟩ := KK.out _ HB5.out
    go_wp2_with fail
    refine (cS1.out _ _ _ _ (HNdA.out _ HB5.out) HI1.out HI2.out).mono ?_
    rintro e w6 ⟨v6, rfl, hRd, hb⟩
    obtain ⟨ab, ao, ac, rfl, hab, hac⟩ := hRd
    have HAC := Lib.hid (show ∀ Z, Below w6.heap.size w6 Z → Z.cell? ⟨ab, ao + k, none⟩ = some (.int .i64 (AF k)) from fun Z h => hac Z h k HKN.out)
    have HB6 := Lib.hid (HB5.out.trans (hb.mono HB5.out.size))
    have HB56 := Lib.hid hb
    clear hb hab hac k0 k1 k2 cS1
    obtain ⟨k0, k1, k2⟩ := KK.out _ HB6.out
    obtain ⟨D, hD⟩ : ∃ D, D = w6.heap.size := ⟨_, rfl⟩
    obtain ⟨V, hV⟩ : ∃ V, V = w6.alloc (.cells #[.int .i64 20000, .int .i64 20500, .slice (some ⟨nb, off, none⟩) n cap] 26) := ⟨_, rfl⟩
    have HDV := Lib.hid (show V.heap[D]? = some (.cells #[.int .i64 20000, .int .i64 20500, .slice (some ⟨nb, off, none⟩) n cap] 26 (0, 0)) by rw [hV, hD]; exact World.alloc_heap_new _ _)
    have HBV := Lib.hid (show Below D w6 V by rw [hV, hD]; exact (Below.refl _ _).alloc (Nat.le_refl _) _)
    have HDZ := Lib.hid (show D < V.heap.size ∧ D = w6.heap.size from ⟨(Array.getElem?_eq_some_iff.1 HDV.out).1, hD⟩)
    go_upto_region 8 with fail
    rw [← hV, ← hD]
    clear hV k0 k1 k2
    have HVA := Lib.hid (show Below A.heap.size A V from HB6.out.trans (HBV.out.mono (by rw [hD]; exact HB6.out.size)))
    have HW6 := Lib.hid (show ∀ W, Below D w6 W → Below W5.heap.size W5 W ∧ Below A.heap.size A W ∧ Below w6.heap.size w6 W from fun W h => by
      rw [hD] at h
      exact ⟨HB56.out.trans (h.mono HB56.out.size), HB6.out.trans (h.mono HB6.out.size), h⟩)
    have HLE := Lib.hid (show A.heap.size ≤ D by rw [hD]; exact HB6.out.size)
    clear hD HB56
    obtain ⟨k0, k1, k2⟩ := KK.out _ HVA.out
    obtain ⟨ka0, ka1, ka2⟩ := KK.out _ (HVA.out.alloc HVA.out.size (.cells #[] 62))
    have hzD : D < V.heap.size := HDZ.out.1
    have hm8 : n * 64 ≤ 3840 := by omega
    go_upto_region 9 with (at_builtin; refine wpList_append_own _ rfl _ _ 24 rfl V.heap.size 62 i0 (.agg #[.int .i64 0, .int .i64 0, .int .i64 0, .int .i64 0, .int .i64 0, .int .i64 0, .int .i64 0, .int .i64 0]) 8 64 Try.underlying24 hi0 hz0 hz1 hz2 rfl (by decide) _ _ _ rfl (World.ownsRow_made V #[] 0 (Nat.le_refl _) (by unfold maxLen; omega) rfl) ⟨nb, off, none⟩ n cap NW rfl HLEN.out (HNDC.out _ _ _ _ (HNdA.out _ (HVA.out.alloc HVA.out.size _))) HONE.out (by unfold maxLen; omega) (by omega) (by simp) ?_; intro v' w7 hown' hgrow _; rw [Nat.zero_add, List.nil_append] at hown'; obtain ⟨G, cp, rfl, hG, hcp, hNd⟩ := HROW.out _ _ _ hown'; have HB7 := Lib.hid (show Below V.heap.size V w7 from ((Below.refl V.heap.size V).alloc (Nat.le_refl _) _).grown hgrow (by simp) (fun r e => ((World.ownsRow_made V #[] 0 (Nat.le_refl _) (by unfold maxLen; omega) rfl : (V.alloc (.cells #[] 62)).ownsRow V.heap.size 62 8 _ 0 []).lt r e).1)); have HD6 := Lib.hid ((HB7.out.block D hzD).trans HDV.out); have HNd := Lib.hid hNd; have d2 := cellHB HD6.out 2; have df := frozH HD6.out 2; have HGG := Lib.hid hG; have HCP := Lib.hid hcp; clear hown' hgrow hNd k0 k1 k2 ka0 ka1 ka2 hG hcp)
    obtain ⟨V6, hV6⟩ : ∃ V, V = w7.setCell ⟨D, 2, none⟩ (.slice (some ⟨G, 0, none⟩) n cp) := ⟨_, rfl⟩
    have HE6 := Lib.hid (show V6.heap[D]? = some (.cells #[.int .i64 20000, .int .i64 20500, .slice (some ⟨G, 0, none⟩) n cp] 26 (0, 0)) by rw [hV6]; exact set3c HD6.out _)
    have hDG : D < G := Nat.lt_of_lt_of_le hzD HGG.out
    have hGD : G ≠ D := by omega
    have HN6 := Lib.hid (show NdR V6 G n cp (mgF ns more 0) by rw [hV6]; exact HNd.out.far hGD)
    have HBV6 := Lib.hid (show Below D w6 V6 by rw [hV6]; exact (HBV.out.trans (HB7.out.mono (Nat.le_of_lt hzD))).setCell (p := ⟨D, 2, none⟩) (Nat.le_refl _) _)
    have HDG := Lib.hid hDG
    rw [← hV6]
    clear hV6 d2 df HD6 HNd HB7 HBV HDV HVA hzD hDG HNDC HONE HLEN HROW HGG HDZ
    have d2 := cellHB HE6.out 2
    go_wp2_with fail
    go_loopw [21] (fun iv wr => ∃ j : Nat, j ≤ n ∧ iv = .int .i64 j ∧ wr.heap[D]? = some (.cells #[.int .i64 20000, .int .i64 20500, .slice (some ⟨G, 0, none⟩) n cp] 26 (0, 0)) ∧ NdR wr G n cp (mgF ns more j) ∧ Below D w6 wr) (fun iv _ => n - (intOf iv).toNat)
    case atStart => exact ⟨0, Nat.zero_le _, rfl, HE6.out, HN6.out, HBV6.out⟩
    case round =>
      obtain ⟨j, hj, rfl, hDr, hNr, hB⟩ := hrel
      have HDr := Lib.hid hDr
      have HNr := Lib.hid hNr
      have HB := Lib.hid hB
      clear d2
      have d0 := cellHB hDr 0
      have d1 := cellHB hDr 1
      have d2 := cellHB hDr 2
      clear hDr hNr hB HE6 HN6 HBV6
      by_cases hlt : j < n
      · have hji : (j : Int) < (n : Int) := by omega
        have hlm := HLM.out j hlt
        have hmo := HMO.out
        have l0 := HNr.out.cell HCP.out (j := j * 8 + 3) (by omega)
        rw [ndc_3, HND.out] at l0
        have lf := HNr.out.froz (j * 8 + 3)
        have hgl := HNr.out.lt
        have hmin : min 3932160 ((nd ns j).lim + more) = (nd ns j).lim + more := by omega
        have HMK := Lib.hid (fun x => (HMG.out j x).trans (by rw [hmin]) : ∀ x, ndc (mgF ns more (j + 1)) x = if x = j * 8 + 3 then .int .i64 ((nd ns j).lim + more) else ndc (mgF ns more j) x)
        clear hmin
        generalize (nd ns j).lim = lk at *
        have hwr : IntKind.i64.wrap (lk + more) = lk + more := wrap64_id (by omega)
        obtain ⟨hmo0, hmo1⟩ := hmo
        have hwm : IntKind.i64.wrap more = more := wrap64_id (by omega)
        clear hlm
        go_upto_region 12 with fail
        refine wp_region_held_drew (S := fun w' => w'.cell? ⟨D, 2, none⟩ = some (Value.slice (some ⟨G, 0, none⟩) n cp)) (by kernel_rfl) (by simpa [go_sem] using d2) (fun hHeld => ?_)
        refine wpAnyH_take (i := 0) (oi := _) (v := Value.pointer (some ⟨D, 2, none⟩)) rfl (by kernel_rfl) (by kernel_rfl) (by kernel_rfl) (fun _ _ _ h => h) (Or.inl ⟨by rfl, fun w' hSw => ?_⟩) hHeld ?_
        · have t0 := hSw
          go_simp
          try simp [*]
          try (intro hh; exfalso; omega)
          try omega
        try simp only [Act.put, List.setIfInBounds_toArray, List.set_cons_zero, List.set_cons_succ, List.getElem_toArray, List.getElem_cons_succ, List.getElem_cons_zero]
        refine wpAnyH_take (i := 1) (oi := _) (v := Value.slice (some ⟨G, 0, none⟩) n cp) rfl (by kernel_rfl) (by kernel_rfl) (by kernel_rfl) (fun _ _ _ h => h) (Or.inl ⟨by rfl, fun w' hSw => ?_⟩) hHeld ?_
        · have t0 := hSw
          go_simp
          try simp [*]
          try (intro hh; exfalso; omega)
          try omega
        try simp only [Act.put, List.setIfInBounds_toArray, List.set_cons_zero, List.set_cons_succ, List.getElem_toArray, List.getElem_cons_succ, List.getElem_cons_zero]
        refine wpAnyH_take (i := 2) (oi := _) (v := Value.int .i64 (j : Int)) rfl (by kernel_rfl) (by kernel_rfl) (by kernel_rfl) (fun _ _ _ h => h) (Or.inl ⟨by rfl, fun w' hSw => ?_⟩) hHeld ?_
        · have t0 := hSw
          go_simp
          try simp [*]
          try (intro hh; exfalso; omega)
          try omega
        try simp only [Act.put, List.setIfInBounds_toArray, List.set_cons_zero, List.set_cons_succ, List.getElem_toArray, List.getElem_cons_succ, List.getElem_cons_zero]
        refine wpAnyH_take (i := 3) (oi := _) (v := Value.pointer (some ⟨D, 2, none⟩)) rfl (by kernel_rfl) (by kernel_rfl) (by kernel_rfl) (fun _ _ _ h => h) (Or.inl ⟨by rfl, fun w' hSw => ?_⟩) hHeld ?_
        · have t0 := hSw
          go_simp
          try simp [*]
          try (intro hh; exfalso; omega)
          try omega
        try simp only [Act.put, List.setIfInBounds_toArray, List.set_cons_zero, List.set_cons_succ, List.getElem_toArray, List.getElem_cons_succ, List.getElem_cons_zero]
        refine wpAnyH_take (i := 4) (oi := _) (v := Value.slice (some ⟨G, 0, none⟩) n cp) rfl (by kernel_rfl) (by kernel_rfl) (by kernel_rfl) (fun _ _ _ h => h) (Or.inl ⟨by rfl, fun w' hSw => ?_⟩) hHeld ?_
        · have t0 := hSw
          go_simp
          try simp [*]
          try (intro hh; exfalso; omega)
          try omega
        try simp only [Act.put, List.setIfInBounds_toArray, List.set_cons_zero, List.set_cons_succ, List.getElem_toArray, List.getElem_cons_succ, List.getElem_cons_zero]
        refine wpAnyH_take (i := 5) (oi := _) (v := Value.int .i64 (j : Int)) rfl (by kernel_rfl) (by kernel_rfl) (by kernel_rfl) (fun _ _ _ h => h) (Or.inl ⟨by rfl, fun w' hSw => ?_⟩) hHeld ?_
        · have t0 := hSw
          go_simp
          try simp [*]
          try (intro hh; exfalso; omega)
          try omega
        try simp only [Act.put, List.setIfInBounds_toArray, List.set_cons_zero, List.set_cons_succ, List.getElem_toArray, List.getElem_cons_succ, List.getElem_cons_zero]
        refine wpAnyH_take (i := 6) (oi := _) (v := Value.pointer (some ⟨G, j * 8, none⟩)) rfl (by kernel_rfl) (by kernel_rfl) (by kernel_rfl) (fun _ _ _ h => h) (Or.inl ⟨by rfl, fun w' hSw => ?_⟩) hHeld ?_
        · have t0 := hSw
          go_simp
          try simp [*]
          try (intro hh; exfalso; omega)
          try omega
        try simp only [Act.put, List.setIfInBounds_toArray, List.set_cons_zero, List.set_cons_succ, List.getElem_toArray, List.getElem_cons_succ, List.getElem_cons_zero]
        refine wpAnyH_take (i := 7) (oi := _) (v := Value.pointer (some ⟨G, j * 8 + 3, none⟩)) rfl (by kernel_rfl) (by kernel_rfl) (by kernel_rfl) (fun _ _ _ h => h) (Or.inl ⟨by rfl, fun w' hSw => ?_⟩) hHeld ?_
        · have t0 := hSw
          go_simp
          try simp [*]
          try (intro hh; exfalso; omega)
          try omega
        try simp only [Act.put, List.setIfInBounds_toArray, List.set_cons_zero, List.set_cons_succ, List.getElem_toArray, List.getElem_cons_succ, List.getElem_cons_zero]
        refine wpAnyH_take (i := 9) (oi := _) (v := Value.int .u16 more) rfl (by kernel_rfl) (by kernel_rfl) (by kernel_rfl) (fun _ _ _ h => h) (Or.inl ⟨by rfl, fun w' hSw => ?_⟩) hHeld ?_
        · have t0 := hSw
          go_simp
          try simp [*]
          try (intro hh; exfalso; omega)
          try omega
        try simp only [Act.put, List.setIfInBounds_toArray, List.set_cons_zero, List.set_cons_succ, List.getElem_toArray, List.getElem_cons_succ, List.getElem_cons_zero]
        refine wpAnyH_take (i := 10) (oi := _) (v := Value.int .i64 more) rfl (by kernel_rfl) (by kernel_rfl) (by kernel_rfl) (fun _ _ _ h => h) (Or.inl ⟨by rfl, fun w' hSw => ?_⟩) hHeld ?_
        · have t0 := hSw
          go_simp
          try simp [*]
          try (intro hh; exfalso; omega)
          try omega
        try simp only [Act.put, List.setIfInBounds_toArray, List.set_cons_zero, List.set_cons_succ, List.getElem_toArray, List.getElem_cons_succ, List.getElem_cons_zero]
        refine wpAnyH_ready (rs := [8]) (by kernel_rfl) (by simp) ?_
        refine AllReadyH.cons (o := _) rfl (fun K hK => ?_) AllReadyH.nil
        go_simp
        clear hHeld
        refine hK.out _ _ (by simpa [go_sem] using d2) (fun hHeld => ?_)
        clear hK K
        try simp only [Act.put, List.setIfInBounds_toArray, List.set_cons_zero, List.set_cons_succ, List.getElem_toArray, List.getElem_cons_succ, List.getElem_cons_zero]
        refine wpAnyH_take (i := 11) (oi := _) (v := Value.int .i64 (lk + more)) rfl (by kernel_rfl) (by kernel_rfl) (by kernel_rfl) (fun _ _ _ h => h) (Or.inl ⟨by rfl, fun w' hSw => ?_⟩) hHeld ?_
        · have t0 := hSw
          go_simp
          try simp [*]
          try (intro hh; exfalso; omega)
          try omega
        try simp only [Act.put, List.setIfInBounds_toArray, List.set_cons_zero, List.set_cons_succ, List.getElem_toArray, List.getElem_cons_succ, List.getElem_cons_zero]
        refine wpAnyH_take (i := 12) (oi := _) (v := Value.pointer (some ⟨G, j * 8, none⟩)) rfl (by kernel_rfl) (by kernel_rfl) (by kernel_rfl) (fun _ _ _ h => h) (Or.inl ⟨by rfl, fun w' hSw => ?_⟩) hHeld ?_
        · have t0 := hSw
          go_simp
          try simp [*]
          try (intro hh; exfalso; omega)
          try omega
        try simp only [Act.put, List.setIfInBounds_toArray, List.set_cons_zero, List.set_cons_succ, List.getElem_toArray, List.getElem_cons_succ, List.getElem_cons_zero]
        refine wpAnyH_take (i := 13) (oi := _) (v := Value.pointer (some ⟨G, j * 8 + 3, none⟩)) rfl (by kernel_rfl) (by kernel_rfl) (by kernel_rfl) (fun _ _ _ h => h) (Or.inl ⟨by rfl, fun w' hSw => ?_⟩) hHeld ?_
        · have t0 := hSw
          go_simp
          try simp [*]
          try (intro hh; exfalso; omega)
          try omega
        try simp only [Act.put, List.setIfInBounds_toArray, List.set_cons_zero, List.set_cons_succ, List.getElem_toArray, List.getElem_cons_succ, List.getElem_cons_zero]
        refine wpAnyH_ready (rs := [14]) (by kernel_rfl) (by simp) ?_
        refine AllReadyH.cons (o := _) rfl (fun K hK => ?_) AllReadyH.nil
        go_simp
        clear hHeld
        refine hK.out _ _ (by simp [go_sem, *]) (fun hHeld => ?_)
        clear hK K
        try simp only [Act.put, List.setIfInBounds_toArray, List.set_cons_zero, List.set_cons_succ, List.getElem_toArray, List.getElem_cons_succ, List.getElem_cons_zero]
        refine wpAnyH_done (by kernel_rfl) ?_ _
        clear hHeld
        go_wp2_with fail
        go_roundw
        case rel => exact ⟨j + 1, by omega, by go_num, (Below.heap_setCell _ _ _ _ (Ne.symm hGD)).trans HDr.out, ndr_set1 HNr.out.drew (by omega) (fun x => HMK.out x), HB.out.drew.setCell (p := ⟨G, j * 8 + 3, none⟩) (Nat.le_of_lt HDG.out) _⟩
        case measure => simp [intOf]; omega
      · obtain rfl : n = j := by omega
        have HNS := Lib.hid (HDS.out _ _ _ HCP.out HNr.out)
        obtain ⟨q1, q2, q3⟩ := HW6.out _ HB.out
        have HJ1 := Lib.hid (HI1.out.at q1)
        have HJ2 := Lib.hid (HI2.out.at q1)
        obtain ⟨W8, rfl⟩ : ∃ W8, W8 = wr := ⟨_, rfl⟩
        have HB8 := Lib.hid q2
        have HB68 := Lib.hid q3
        clear q1 q2 q3 HI1 HI2 HDS HMG HND HLM HNdA KK HW6 HLE hGD HDG HB5 HB6 HNr HDr hlt hj
        go_wp2_with fail
        refine (cS3.out _ _ _ _ HNS.out HJ1.out HJ2.out).mono ?_
        rintro e w9 ⟨v9, rfl, hRd, hb⟩
        obtain ⟨bb, bo, bc, rfl, hbb, hbc⟩ := hRd
        have HBC := Lib.hid (show ∀ Z, Below w9.heap.size w9 Z → Z.cell? ⟨bb, bo + k, none⟩ = some (.int .i64 (XF k)) from fun Z h => hbc Z h k HKN.out)
        have HAC9 := Lib.hid (show ∀ Z, Below w9.heap.size w9 Z → Z.cell? ⟨ab, ao + k, none⟩ = some (.int .i64 (AF k)) from fun Z h => HAC.out Z (HB68.out.trans ((hb.trans (h.mono hb.size)).mono HB68.out.size)))
        have HB9 := Lib.hid (HB8.out.trans (hb.mono HB8.out.size))
        clear hb hbb hbc HAC HNS HJ1 HJ2 cS3 HB68 HB8 d0 d1 d2 HB
        have HUS9 := Lib.hid (HUS1.out _ (HUP1.out _ HB9.out))
        generalize AF k = a at *
        generalize XF k = x at *
        clear HUS1 HUP1
        have s0 := cellHB HUS9.out 0
        have s1 := cellHB HUS9.out 1
        obtain ⟨V8, hV8⟩ : ∃ V8, V8 = w9.alloc (.cells #[.int .i64 0, .int .i64 1, .int .i64 1, .int .i64 (1 + us0), .int .i64 0, .int .i64 us1, .int .i64 rs] 110) := ⟨_, rfl⟩
        have HV8 := Lib.hid (show V8.heap[w9.heap.size]? = some (.cells #[.int .i64 0, .int .i64 1, .int .i64 1, .int .i64 (1 + us0), .int .i64 0, .int .i64 us1, .int .i64 rs] 110 (0, 0)) by rw [hV8]; exact World.alloc_heap_new _ _)
        have HB98 := Lib.hid (show Below w9.heap.size w9 V8 by rw [hV8]; exact (Below.refl _ _).alloc (Nat.le_refl _) _)
        have HUP8 := Lib.hid (show ∀ W, Below V8.heap.size V8 W → Below w.heap.size w W from fun W h => HUP.out W (HB9.out.trans ((HB98.out.trans (h.mono HB98.out.size)).mono HB9.out.size)))
        have KV := Lib.hid (show ∀ W, Below V8.heap.size V8 W → (W.cell? ⟨w9.heap.size, 0, none⟩ = some (.int .i64 0) ∧ W.cell? ⟨w9.heap.size, 1, none⟩ = some (.int .i64 1) ∧ W.cell? ⟨w9.heap.size, 2, none⟩ = some (.int .i64 1) ∧ W.cell? ⟨w9.heap.size, 3, none⟩ = some (.int .i64 (1 + us0)) ∧ W.cell? ⟨w9.heap.size, 4, none⟩ = some (.int .i64 0) ∧ W.cell? ⟨w9.heap.size, 5, none⟩ = some (.int .i64 us1) ∧ W.cell? ⟨w9.heap.size, 6, none⟩ = some (.int .i64 rs)) ∧ W.cell? ⟨ab, ao + k, none⟩ = some (.int .i64 a) ∧ W.cell? ⟨bb, bo + k, none⟩ = some (.int .i64 x) from fun W h => by
          have q := (h.block _ (Array.getElem?_eq_some_iff.1 HV8.out).1).trans HV8.out
          have r := HB98.out.trans (h.mono HB98.out.size)
          exact ⟨⟨cellHB q 0, cellHB q 1, cellHB q 2, cellHB q 3, cellHB q 4, cellHB q 5, cellHB q 6⟩, HAC9.out W r, HBC.out W r⟩)
        go_upto_region 14 with fail
        go_upto_region 17 with fail
        rw [← hV8]
        clear hV8 s0 s1 HAC9 HBC HUS9 HB9 HB98 HV8 HUP HMO
        generalize w9.heap.size = B24 at *
        have hu1 : vB 1 (1 + us0) = true := (vB_iff _ _).2 (by omega)
        have ht1 : vB 0 us1 = true := (vB_iff _ _).2 (by omega)
        have hva : vB a a = true := (vB_iff _ _).2 (by omega)
        have hvx : vB x x = true := (vB_iff _ _).2 (by omega)
        obtain ⟨qa, Ea, cLa, hca⟩ : ∃ qa Ea : Int, (∀ W, Calls Try.prog 74 #[.agg #[.int .i64 0, .int .i64 1, .int .i64 1, .int .i64 (1 + us0), .int .i64 0, .int .i64 us1, .int .i64 rs], .agg #[.int .i64 a, .int .i64 a]] W fun e w' => e = .returned (.tuple #[.int .i64 qa, .int .i64 Ea]) ∧ Below W.heap.size W w') ∧ ((Ea = 0 ∧ rs ≤ a ∧ qa = (a - rs) / max (1 + us0) us1) ∨ (Ea = 19 ∧ qa = 0)) := by
          by_cases h : rs ≤ a
          · exact ⟨_, _, fun W => Gd.lasts74_ok 1 (1 + us0) 0 us1 rs a a hu1 (by omega) ht1 (by omega) (by omega) hva (by omega) (by omega) h W, .inl ⟨rfl, h, rfl⟩⟩
          · exact ⟨_, _, fun W => Gd.lasts74_lost 1 (1 + us0) 0 us1 rs a a hu1 (by omega) ht1 (by omega) (by omega) hva (by omega) (by omega) (by omega) W, .inr ⟨rfl, rfl⟩⟩
        obtain ⟨qx, Ex, cLx, hcx⟩ : ∃ qx Ex : Int, (∀ W, Calls Try.prog 74 #[.agg #[.int .i64 0, .int .i64 1, .int .i64 1, .int .i64 (1 + us0), .int .i64 0, .int .i64 us1, .int .i64 rs], .agg #[.int .i64 x, .int .i64 x]] W fun e w' => e = .returned (.tuple #[.int .i64 qx, .int .i64 Ex]) ∧ Below W.heap.size W w') ∧ (rs ≤ x → Ex = 0 ∧ qx = (x - rs) / max (1 + us0) us1) := by
          by_cases h : rs ≤ x
          · exact ⟨_, _, fun W => Gd.lasts74_ok 1 (1 + us0) 0 us1 rs x x hu1 (by omega) ht1 (by omega) (by omega) hvx (by omega) (by omega) h W, fun _ => ⟨rfl, rfl⟩⟩
          · exact ⟨_, _, fun W => Gd.lasts74_lost 1 (1 + us0) 0 us1 rs x x hu1 (by omega) ht1 (by omega) (by omega) hvx (by omega) (by omega) (by omega) W, fun h2 => absurd h2 h⟩
        have HCA := Lib.hid hca
        have HCX := Lib.hid hcx
        clear hca hcx
        have KE := Lib.hid (show ∀ W, Below V8.heap.size V8 W → W.cell? ⟨B24, 0, none⟩ = some (Value.int .i64 0) ∧ W.cell? ⟨B24, 1, none⟩ = some (Value.int .i64 1) ∧ W.cell? ⟨B24, 2, none⟩ = some (Value.int .i64 1) ∧ W.cell? ⟨B24, 3, none⟩ = some (Value.int .i64 (1 + us0)) ∧ W.cell? ⟨B24, 4, none⟩ = some (Value.int .i64 0) ∧ W.cell? ⟨B24, 5, none⟩ = some (Value.int .i64 us1) ∧ W.cell? ⟨B24, 6, none⟩ = some (Value.int .i64 rs) ∧ W.cell? ⟨ab, ao + k, none⟩ = some (Value.int .i64 a) from fun W h => by
          have q := KV.out W h
          exact ⟨q.1.1, q.1.2.1, q.1.2.2.1, q.1.2.2.2.1, q.1.2.2.2.2.1, q.1.2.2.2.2.2.1, q.1.2.2.2.2.2.2, q.2.1⟩)
        obtain ⟨v0, v1, v2, v3, v4, v5, v6, va⟩ := KE.out _ (Below.refl _ _)
        go_upto_region 17 with fail
        go_cut [19, 25] from 121 to 134 (fun s19 s25 wc => s19 = Value.int .i64 Ea ∧ s25 = Value.int .i64 qa ∧ Below V8.heap.size V8 wc)
        case first => as_aux_lemma =>
          have HD := Lib.hid (show Below V8.heap.size V8 V8.drew from (Below.refl _ _).drew)
          refine wp_region_held_drew (S := fun w' => w'.cell? ⟨B24, 0, none⟩ = some (Value.int .i64 0) ∧ w'.cell? ⟨B24, 1, none⟩ = some (Value.int .i64 1) ∧ w'.cell? ⟨B24, 2, none⟩ = some (Value.int .i64 1) ∧ w'.cell? ⟨B24, 3, none⟩ = some (Value.int .i64 (1 + us0)) ∧ w'.cell? ⟨B24, 4, none⟩ = some (Value.int .i64 0) ∧ w'.cell? ⟨B24, 5, none⟩ = some (Value.int .i64 us1) ∧ w'.cell? ⟨B24, 6, none⟩ = some (Value.int .i64 rs) ∧ w'.cell? ⟨ab, ao + k, none⟩ = some (Value.int .i64 a)) (by kernel_rfl) ⟨by simpa [go_sem] using v0, by simpa [go_sem] using v1, by simpa [go_sem] using v2, by simpa [go_sem] using v3, by simpa [go_sem] using v4, by simpa [go_sem] using v5, by simpa [go_sem] using v6, by simpa [go_sem] using va⟩ (fun hHeld => ?_)
          refine wpAnyH_take (i := 0) (oi := _) (v := Value.agg #[Value.int .i64 0, Value.int .i64 1, Value.int .i64 1, Value.int .i64 (1 + us0), Value.int .i64 0, Value.int .i64 us1, Value.int .i64 rs]) rfl (by kernel_rfl) (by kernel_rfl) (by kernel_rfl) (fun _ _ _ h => h) (Or.inl ⟨by rfl, fun w' hSw => ?_⟩) hHeld ?_
          · obtain ⟨t0, t1, t2, t3, t4, t5, t6, t7⟩ := hSw
            go_simp
            try simp [*]
            try (intro hh; exfalso; omega)
            try omega
          try simp only [Act.put, List.setIfInBounds_toArray, List.set_cons_zero, List.set_cons_succ, List.getElem_toArray, List.getElem_cons_succ, List.getElem_cons_zero]
          refine wpAnyH_take (i := 1) (oi := _) (v := Value.slice (some ⟨ab, ao, none⟩) n ac) rfl (by kernel_rfl) (by kernel_rfl) (by kernel_rfl) (fun _ _ _ h => h) (Or.inl ⟨by rfl, fun w' hSw => ?_⟩) hHeld ?_
          · obtain ⟨t0, t1, t2, t3, t4, t5, t6, t7⟩ := hSw
            go_simp
            try simp [*]
            try (intro hh; exfalso; omega)
            try omega
          try simp only [Act.put, List.setIfInBounds_toArray, List.set_cons_zero, List.set_cons_succ, List.getElem_toArray, List.getElem_cons_succ, List.getElem_cons_zero]
          refine wpAnyH_take (i := 2) (oi := _) (v := Value.int .i64 (k : Int)) rfl (by kernel_rfl) (by kernel_rfl) (by kernel_rfl) (fun _ _ _ h => h) (Or.inl ⟨by rfl, fun w' hSw => ?_⟩) hHeld ?_
          · obtain ⟨t0, t1, t2, t3, t4, t5, t6, t7⟩ := hSw
            go_simp
            try simp [*]
            try (intro hh; exfalso; omega)
            try omega
          try simp only [Act.put, List.setIfInBounds_toArray, List.set_cons_zero, List.set_cons_succ, List.getElem_toArray, List.getElem_cons_succ, List.getElem_cons_zero]
          refine wpAnyH_take (i := 3) (oi := _) (v := Value.pointer (some ⟨ab, ao + k, none⟩)) rfl (by kernel_rfl) (by kernel_rfl) (by kernel_rfl) (fun _ _ _ h => h) (Or.inl ⟨by rfl, fun w' hSw => ?_⟩) hHeld ?_
          · obtain ⟨t0, t1, t2, t3, t4, t5, t6, t7⟩ := hSw
            go_simp
            try simp [*]
            try (intro hh; exfalso; omega)
            try omega
          try simp only [Act.put, List.setIfInBounds_toArray, List.set_cons_zero, List.set_cons_succ, List.getElem_toArray, List.getElem_cons_succ, List.getElem_cons_zero]
          refine wpAnyH_take (i := 4) (oi := _) (v := Value.int .i64 a) rfl (by kernel_rfl) (by kernel_rfl) (by kernel_rfl) (fun _ _ _ h => h) (Or.inl ⟨by rfl, fun w' hSw => ?_⟩) hHeld ?_
          · obtain ⟨t0, t1, t2, t3, t4, t5, t6, t7⟩ := hSw
            go_simp
            try simp [*]
            try (intro hh; exfalso; omega)
            try omega
          try simp only [Act.put, List.setIfInBounds_toArray, List.set_cons_zero, List.set_cons_succ, List.getElem_toArray, List.getElem_cons_succ, List.getElem_cons_zero]
          refine wpAnyH_take (i := 5) (oi := _) (v := Value.slice (some ⟨ab, ao, none⟩) n ac) rfl (by kernel_rfl) (by kernel_rfl) (by kernel_rfl) (fun _ _ _ h => h) (Or.inl ⟨by rfl, fun w' hSw => ?_⟩) hHeld ?_
          · obtain ⟨t0, t1, t2, t3, t4, t5, t6, t7⟩ := hSw
            go_simp
            try simp [*]
            try (intro hh; exfalso; omega)
            try omega
          try simp only [Act.put, List.setIfInBounds_toArray, List.set_cons_zero, List.set_cons_succ, List.getElem_toArray, List.getElem_cons_succ, List.getElem_cons_zero]
          refine wpAnyH_take (i := 6) (oi := _) (v := Value.int .i64 (k : Int)) rfl (by kernel_rfl) (by kernel_rfl) (by kernel_rfl) (fun _ _ _ h => h) (Or.inl ⟨by rfl, fun w' hSw => ?_⟩) hHeld ?_
          · obtain ⟨t0, t1, t2, t3, t4, t5, t6, t7⟩ := hSw
            go_simp
            try simp [*]
            try (intro hh; exfalso; omega)
            try omega
          try simp only [Act.put, List.setIfInBounds_toArray, List.set_cons_zero, List.set_cons_succ, List.getElem_toArray, List.getElem_cons_succ, List.getElem_cons_zero]
          refine wpAnyH_take (i := 7) (oi := _) (v := Value.pointer (some ⟨ab, ao + k, none⟩)) rfl (by kernel_rfl) (by kernel_rfl) (by kernel_rfl) (fun _ _ _ h => h) (Or.inl ⟨by rfl, fun w' hSw => ?_⟩) hHeld ?_
          · obtain ⟨t0, t1, t2, t3, t4, t5, t6, t7⟩ := hSw
            go_simp
            try simp [*]
            try (intro hh; exfalso; omega)
            try omega
          try simp only [Act.put, List.setIfInBounds_toArray, List.set_cons_zero, List.set_cons_succ, List.getElem_toArray, List.getElem_cons_succ, List.getElem_cons_zero]
          refine wpAnyH_take (i := 8) (oi := _) (v := Value.int .i64 a) rfl (by kernel_rfl) (by kernel_rfl) (by kernel_rfl) (fun _ _ _ h => h) (Or.inl ⟨by rfl, fun w' hSw => ?_⟩) hHeld ?_
          · obtain ⟨t0, t1, t2, t3, t4, t5, t6, t7⟩ := hSw
            go_simp
            try simp [*]
            try (intro hh; exfalso; omega)
            try omega
          try simp only [Act.put, List.setIfInBounds_toArray, List.set_cons_zero, List.set_cons_succ, List.getElem_toArray, List.getElem_cons_succ, List.getElem_cons_zero]
          refine wpAnyH_take (i := 9) (oi := _) (v := Value.agg #[Value.int .i64 a, Value.int .i64 a]) rfl (by kernel_rfl) (by kernel_rfl) (by kernel_rfl) (fun _ _ _ h => h) (Or.inl ⟨by rfl, fun w' hSw => ?_⟩) hHeld ?_
          · obtain ⟨t0, t1, t2, t3, t4, t5, t6, t7⟩ := hSw
            go_simp
            try simp [*]
            try (intro hh; exfalso; omega)
            try omega
          try simp only [Act.put, List.setIfInBounds_toArray, List.set_cons_zero, List.set_cons_succ, List.getElem_toArray, List.getElem_cons_succ, List.getElem_cons_zero]
          refine wpAnyH_ready (rs := [10]) (by kernel_rfl) (by simp) ?_
          refine AllReadyH.cons (o := _) rfl (fun K hK => ?_) (AllReadyH.nil)
          go_simp
          go_at_call 74
          refine Calls.mono (cLa _) ?_
          rintro e u1 ⟨rfl, hb⟩
          have HU1 := Lib.hid (show Below V8.heap.size V8 u1 from HD.out.trans (hb.mono (Below.size HD.out)))
          clear hb
          clear hHeld
          refine hK.out _ _ (KE.out _ HU1.out) (fun hHeld => ?_)
          clear hK K
          try simp only [Act.put, List.setIfInBounds_toArray, List.set_cons_zero, List.set_cons_succ, List.getElem_toArray, List.getElem_cons_succ, List.getElem_cons_zero]
          refine wpAnyH_take (i := 11) (oi := _) (v := Value.tuple #[.int .i64 qa, .int .i64 Ea]) rfl (by kernel_rfl) (by kernel_rfl) (by kernel_rfl) (fun _ _ _ h => h) (Or.inl ⟨by rfl, fun w' hSw => ?_⟩) hHeld ?_
          · obtain ⟨t0, t1, t2, t3, t4, t5, t6, t7⟩ := hSw
            go_simp
            try simp [*]
            try (intro hh; exfalso; omega)
            try omega
          try simp only [Act.put, List.setIfInBounds_toArray, List.set_cons_zero, List.set_cons_succ, List.getElem_toArray, List.getElem_cons_succ, List.getElem_cons_zero]
          refine wpAnyH_take (i := 12) (oi := _) (v := .int .i64 qa) rfl (by kernel_rfl) (by kernel_rfl) (by kernel_rfl) (fun _ _ _ h => h) (Or.inl ⟨by rfl, fun w' hSw => ?_⟩) hHeld ?_
          · obtain ⟨t0, t1, t2, t3, t4, t5, t6, t7⟩ := hSw
            go_simp
            try simp [*]
            try (intro hh; exfalso; omega)
            try omega
          try simp only [Act.put, List.setIfInBounds_toArray, List.set_cons_zero, List.set_cons_succ, List.getElem_toArray, List.getElem_cons_succ, List.getElem_cons_zero]
          refine wpAnyH_ready (rs := [13, 14]) (by kernel_rfl) (by simp) ?_
          refine AllReadyH.cons (o := _) rfl (fun K hK => ?_) (AllReadyH.cons (o := _) rfl (fun K hK => ?_) (AllReadyH.nil))
          · go_simp
            clear hHeld
            refine hK.out _ _ (KE.out _ HU1.out) (fun hHeld => ?_)
            clear hK K
            try simp only [Act.put, List.setIfInBounds_toArray, List.set_cons_zero, List.set_cons_succ, List.getElem_toArray, List.getElem_cons_succ, List.getElem_cons_zero]
            refine wpAnyH_take (i := 14) (oi := _) (v := .int .i64 qa) rfl (by kernel_rfl) (by kernel_rfl) (by kernel_rfl) (fun _ _ _ h => h) (Or.inl ⟨by rfl, fun w' hSw => ?_⟩) hHeld ?_
            · obtain ⟨t0, t1, t2, t3, t4, t5, t6, t7⟩ := hSw
              go_simp
              try simp [*]
              try (intro hh; exfalso; omega)
              try omega
            try simp only [Act.put, List.setIfInBounds_toArray, List.set_cons_zero, List.set_cons_succ, List.getElem_toArray, List.getElem_cons_succ, List.getElem_cons_zero]
            refine wpAnyH_take (i := 15) (oi := _) (v := .int .i64 Ea) rfl (by kernel_rfl) (by kernel_rfl) (by kernel_rfl) (fun _ _ _ h => h) (Or.inl ⟨by rfl, fun w' hSw => ?_⟩) hHeld ?_
            · obtain ⟨t0, t1, t2, t3, t4, t5, t6, t7⟩ := hSw
              go_simp
              try simp [*]
              try (intro hh; exfalso; omega)
              try omega
            try simp only [Act.put, List.setIfInBounds_toArray, List.set_cons_zero, List.set_cons_succ, List.getElem_toArray, List.getElem_cons_succ, List.getElem_cons_zero]
            refine wpAnyH_done (by kernel_rfl) ?_ _
            clear hHeld
            go_wp2_with fail
            go_meet
            case rel => exact ⟨rfl, rfl, HU1.out⟩
          · go_simp
            clear hHeld
            refine hK.out _ _ (KE.out _ HU1.out) (fun hHeld => ?_)
            clear hK K
            try simp only [Act.put, List.setIfInBounds_toArray, List.set_cons_zero, List.set_cons_succ, List.getElem_toArray, List.getElem_cons_succ, List.getElem_cons_zero]
            refine wpAnyH_take (i := 13) (oi := _) (v := .int .i64 Ea) rfl (by kernel_rfl) (by kernel_rfl) (by kernel_rfl) (fun _ _ _ h => h) (Or.inl ⟨by rfl, fun w' hSw => ?_⟩) hHeld ?_
            · obtain ⟨t0, t1, t2, t3, t4, t5, t6, t7⟩ := hSw
              go_simp
              try simp [*]
              try (intro hh; exfalso; omega)
              try omega
            try simp only [Act.put, List.setIfInBounds_toArray, List.set_cons_zero, List.set_cons_succ, List.getElem_toArray, List.getElem_cons_succ, List.getElem_cons_zero]
            refine wpAnyH_take (i := 15) (oi := _) (v := .int .i64 Ea) rfl (by kernel_rfl) (by kernel_rfl) (by kernel_rfl) (fun _ _ _ h => h) (Or.inl ⟨by rfl, fun w' hSw => ?_⟩) hHeld ?_
            · obtain ⟨t0, t1, t2, t3, t4, t5, t6, t7⟩ := hSw
              go_simp
              try simp [*]
              try (intro hh; exfalso; omega)
              try omega
            try simp only [Act.put, List.setIfInBounds_toArray, List.set_cons_zero, List.set_cons_succ, List.getElem_toArray, List.getElem_cons_succ, List.getElem_cons_zero]
            refine wpAnyH_done (by kernel_rfl) ?_ _
            clear hHeld
            go_wp2_with fail
            go_meet
            case rel => exact ⟨rfl, rfl, HU1.out⟩
        case rest =>
          obtain ⟨rfl, rfl, hW⟩ := hcut
          have HX1 := Lib.hid hW
          clear hW KE v0 v1 v2 v3 v4 v5 v6 va
          obtain ⟨W_HX1, rfl⟩ : ∃ W0, W0 = wc := ⟨_, rfl⟩
          have KE := Lib.hid (show ∀ W, Below W_HX1.heap.size W_HX1 W → W.cell? ⟨B24, 0, none⟩ = some (Value.int .i64 0) ∧ W.cell? ⟨B24, 1, none⟩ = some (Value.int .i64 1) ∧ W.cell? ⟨B24, 2, none⟩ = some (Value.int .i64 1) ∧ W.cell? ⟨B24, 3, none⟩ = some (Value.int .i64 (1 + us0)) ∧ W.cell? ⟨B24, 4, none⟩ = some (Value.int .i64 0) ∧ W.cell? ⟨B24, 5, none⟩ = some (Value.int .i64 us1) ∧ W.cell? ⟨B24, 6, none⟩ = some (Value.int .i64 rs) ∧ W.cell? ⟨bb, bo + k, none⟩ = some (Value.int .i64 x) from fun W h => by
            have q := KV.out W (HX1.out.trans (h.mono HX1.out.size))
            exact ⟨q.1.1, q.1.2.1, q.1.2.2.1, q.1.2.2.2.1, q.1.2.2.2.2.1, q.1.2.2.2.2.2.1, q.1.2.2.2.2.2.2, q.2.2⟩)
          obtain ⟨v0, v1, v2, v3, v4, v5, v6, va⟩ := KE.out _ (Below.refl _ _)
          go_upto_region 18 with fail
          go_cut [23, 26] from 135 to 148 (fun s23 s26 wc => s23 = Value.int .i64 Ex ∧ s26 = Value.int .i64 qx ∧ Below W_HX1.heap.size W_HX1 wc)
          case first => as_aux_lemma =>
            have HD := Lib.hid (show Below W_HX1.heap.size W_HX1 W_HX1.drew from (Below.refl _ _).drew)
            refine wp_region_held_drew (S := fun w' => w'.cell? ⟨B24, 0, none⟩ = some (Value.int .i64 0) ∧ w'.cell? ⟨B24, 1, none⟩ = some (Value.int .i64 1) ∧ w'.cell? ⟨B24, 2, none⟩ = some (Value.int .i64 1) ∧ w'.cell? ⟨B24, 3, none⟩ = some (Value.int .i64 (1 + us0)) ∧ w'.cell? ⟨B24, 4, none⟩ = some (Value.int .i64 0) ∧ w'.cell? ⟨B24, 5, none⟩ = some (Value.int .i64 us1) ∧ w'.cell? ⟨B24, 6, none⟩ = some (Value.int .i64 rs) ∧ w'.cell? ⟨bb, bo + k, none⟩ = some (Value.int .i64 x)) (by kernel_rfl) ⟨by simpa [go_sem] using v0, by simpa [go_sem] using v1, by simpa [go_sem] using v2, by simpa [go_sem] using v3, by simpa [go_sem] using v4, by simpa [go_sem] using v5, by simpa [go_sem] using v6, by simpa [go_sem] using va⟩ (fun hHeld => ?_)
            refine wpAnyH_take (i := 0) (oi := _) (v := Value.agg #[Value.int .i64 0, Value.int .i64 1, Value.int .i64 1, Value.int .i64 (1 + us0), Value.int .i64 0, Value.int .i64 us1, Value.int .i64 rs]) rfl (by kernel_rfl) (by kernel_rfl) (by kernel_rfl) (fun _ _ _ h => h) (Or.inl ⟨by rfl, fun w' hSw => ?_⟩) hHeld ?_
            · obtain ⟨t0, t1, t2, t3, t4, t5, t6, t7⟩ := hSw
              go_simp
              try simp [*]
              try (intro hh; exfalso; omega)
              try omega
            try simp only [Act.put, List.setIfInBounds_toArray, List.set_cons_zero, List.set_cons_succ, List.getElem_toArray, List.getElem_cons_succ, List.getElem_cons_zero]
            refine wpAnyH_take (i := 1) (oi := _) (v := Value.slice (some ⟨bb, bo, none⟩) n bc) rfl (by kernel_rfl) (by kernel_rfl) (by kernel_rfl) (fun _ _ _ h => h) (Or.inl ⟨by rfl, fun w' hSw => ?_⟩) hHeld ?_
            · obtain ⟨t0, t1, t2, t3, t4, t5, t6, t7⟩ := hSw
              go_simp
              try simp [*]
              try (intro hh; exfalso; omega)
              try omega
            try simp only [Act.put, List.setIfInBounds_toArray, List.set_cons_zero, List.set_cons_succ, List.getElem_toArray, List.getElem_cons_succ, List.getElem_cons_zero]
            refine wpAnyH_take (i := 2) (oi := _) (v := Value.int .i64 (k : Int)) rfl (by kernel_rfl) (by kernel_rfl) (by kernel_rfl) (fun _ _ _ h => h) (Or.inl ⟨by rfl, fun w' hSw => ?_⟩) hHeld ?_
            · obtain ⟨t0, t1, t2, t3, t4, t5, t6, t7⟩ := hSw
              go_simp
              try simp [*]
              try (intro hh; exfalso; omega)
              try omega
            try simp only [Act.put, List.setIfInBounds_toArray, List.set_cons_zero, List.set_cons_succ, List.getElem_toArray, List.getElem_cons_succ, List.getElem_cons_zero]
            refine wpAnyH_take (i := 3) (oi := _) (v := Value.pointer (some ⟨bb, bo + k, none⟩)) rfl (by kernel_rfl) (by kernel_rfl) (by kernel_rfl) (fun _ _ _ h => h) (Or.inl ⟨by rfl, fun w' hSw => ?_⟩) hHeld ?_
            · obtain ⟨t0, t1, t2, t3, t4, t5, t6, t7⟩ := hSw
              go_simp
              try simp [*]
              try (intro hh; exfalso; omega)
              try omega
            try simp only [Act.put, List.setIfInBounds_toArray, List.set_cons_zero, List.set_cons_succ, List.getElem_toArray, List.getElem_cons_succ, List.getElem_cons_zero]
            refine wpAnyH_take (i := 4) (oi := _) (v := Value.int .i64 x) rfl (by kernel_rfl) (by kernel_rfl) (by kernel_rfl) (fun _ _ _ h => h) (Or.inl ⟨by rfl, fun w' hSw => ?_⟩) hHeld ?_
            · obtain ⟨t0, t1, t2, t3, t4, t5, t6, t7⟩ := hSw
              go_simp
              try simp [*]
              try (intro hh; exfalso; omega)
              try omega
            try simp only [Act.put, List.setIfInBounds_toArray, List.set_cons_zero, List.set_cons_succ, List.getElem_toArray, List.getElem_cons_succ, List.getElem_cons_zero]
            refine wpAnyH_take (i := 5) (oi := _) (v := Value.slice (some ⟨bb, bo, none⟩) n bc) rfl (by kernel_rfl) (by kernel_rfl) (by kernel_rfl) (fun _ _ _ h => h) (Or.inl ⟨by rfl, fun w' hSw => ?_⟩) hHeld ?_
            · obtain ⟨t0, t1, t2, t3, t4, t5, t6, t7⟩ := hSw
              go_simp
              try simp [*]
              try (intro hh; exfalso; omega)
              try omega
            try simp only [Act.put, List.setIfInBounds_toArray, List.set_cons_zero, List.set_cons_succ, List.getElem_toArray, List.getElem_cons_succ, List.getElem_cons_zero]
            refine wpAnyH_take (i := 6) (oi := _) (v := Value.int .i64 (k : Int)) rfl (by kernel_rfl) (by kernel_rfl) (by kernel_rfl) (fun _ _ _ h => h) (Or.inl ⟨by rfl, fun w' hSw => ?_⟩) hHeld ?_
            · obtain ⟨t0, t1, t2, t3, t4, t5, t6, t7⟩ := hSw
              go_simp
              try simp [*]
              try (intro hh; exfalso; omega)
              try omega
            try simp only [Act.put, List.setIfInBounds_toArray, List.set_cons_zero, List.set_cons_succ, List.getElem_toArray, List.getElem_cons_succ, List.getElem_cons_zero]
            refine wpAnyH_take (i := 7) (oi := _) (v := Value.pointer (some ⟨bb, bo + k, none⟩)) rfl (by kernel_rfl) (by kernel_rfl) (by kernel_rfl) (fun _ _ _ h => h) (Or.inl ⟨by rfl, fun w' hSw => ?_⟩) hHeld ?_
            · obtain ⟨t0, t1, t2, t3, t4, t5, t6, t7⟩ := hSw
              go_simp
              try simp [*]
              try (intro hh; exfalso; omega)
              try omega
            try simp only [Act.put, List.setIfInBounds_toArray, List.set_cons_zero, List.set_cons_succ, List.getElem_toArray, List.getElem_cons_succ, List.getElem_cons_zero]
            refine wpAnyH_take (i := 8) (oi := _) (v := Value.int .i64 x) rfl (by kernel_rfl) (by kernel_rfl) (by kernel_rfl) (fun _ _ _ h => h) (Or.inl ⟨by rfl, fun w' hSw => ?_⟩) hHeld ?_
            · obtain ⟨t0, t1, t2, t3, t4, t5, t6, t7⟩ := hSw
              go_simp
              try simp [*]
              try (intro hh; exfalso; omega)
              try omega
            try simp only [Act.put, List.setIfInBounds_toArray, List.set_cons_zero, List.set_cons_succ, List.getElem_toArray, List.getElem_cons_succ, List.getElem_cons_zero]
            refine wpAnyH_take (i := 9) (oi := _) (v := Value.agg #[Value.int .i64 x, Value.int .i64 x]) rfl (by kernel_rfl) (by kernel_rfl) (by kernel_rfl) (fun _ _ _ h => h) (Or.inl ⟨by rfl, fun w' hSw => ?_⟩) hHeld ?_
            · obtain ⟨t0, t1, t2, t3, t4, t5, t6, t7⟩ := hSw
              go_simp
              try simp [*]
              try (intro hh; exfalso; omega)
              try omega
            try simp only [Act.put, List.setIfInBounds_toArray, List.set_cons_zero, List.set_cons_succ, List.getElem_toArray, List.getElem_cons_succ, List.getElem_cons_zero]
            refine wpAnyH_ready (rs := [10]) (by kernel_rfl) (by simp) ?_
            refine AllReadyH.cons (o := _) rfl (fun K hK => ?_) (AllReadyH.nil)
            go_simp
            go_at_call 74
            refine Calls.mono (cLx _) ?_
            rintro e u1 ⟨rfl, hb⟩
            have HU1 := Lib.hid (show Below W_HX1.heap.size W_HX1 u1 from HD.out.trans (hb.mono (Below.size HD.out)))
            clear hb
            clear hHeld
            refine hK.out _ _ (KE.out _ HU1.out) (fun hHeld => ?_)
            clear hK K
            try simp only [Act.put, List.setIfInBounds_toArray, List.set_cons_zero, List.set_cons_succ, List.getElem_toArray, List.getElem_cons_succ, List.getElem_cons_zero]
            refine wpAnyH_take (i := 11) (oi := _) (v := Value.tuple #[.int .i64 qx, .int .i64 Ex]) rfl (by kernel_rfl) (by kernel_rfl) (by kernel_rfl) (fun _ _ _ h => h) (Or.inl ⟨by rfl, fun w' hSw => ?_⟩) hHeld ?_
            · obtain ⟨t0, t1, t2, t3, t4, t5, t6, t7⟩ := hSw
              go_simp
              try simp [*]
              try (intro hh; exfalso; omega)
              try omega
            try simp only [Act.put, List.setIfInBounds_toArray, List.set_cons_zero, List.set_cons_succ, List.getElem_toArray, List.getElem_cons_succ, List.getElem_cons_zero]
            refine wpAnyH_take (i := 12) (oi := _) (v := .int .i64 qx) rfl (by kernel_rfl) (by kernel_rfl) (by kernel_rfl) (fun _ _ _ h => h) (Or.inl ⟨by rfl, fun w' hSw => ?_⟩) hHeld ?_
            · obtain ⟨t0, t1, t2, t3, t4, t5, t6, t7⟩ := hSw
              go_simp
              try simp [*]
              try (intro hh; exfalso; omega)
              try omega
            try simp only [Act.put, List.setIfInBounds_toArray, List.set_cons_zero, List.set_cons_succ, List.getElem_toArray, List.getElem_cons_succ, List.getElem_cons_zero]
            refine wpAnyH_ready (rs := [13, 14]) (by kernel_rfl) (by simp) ?_
            refine AllReadyH.cons (o := _) rfl (fun K hK => ?_) (AllReadyH.cons (o := _) rfl (fun K hK => ?_) (AllReadyH.nil))
            · go_simp
              clear hHeld
              refine hK.out _ _ (KE.out _ HU1.out) (fun hHeld => ?_)
              clear hK K
              try simp only [Act.put, List.setIfInBounds_toArray, List.set_cons_zero, List.set_cons_succ, List.getElem_toArray, List.getElem_cons_succ, List.getElem_cons_zero]
              refine wpAnyH_take (i := 14) (oi := _) (v := .int .i64 qx) rfl (by kernel_rfl) (by kernel_rfl) (by kernel_rfl) (fun _ _ _ h => h) (Or.inl ⟨by rfl, fun w' hSw => ?_⟩) hHeld ?_
              · obtain ⟨t0, t1, t2, t3, t4, t5, t6, t7⟩ := hSw
                go_simp
                try simp [*]
                try (intro hh; exfalso; omega)
                try omega
              try simp only [Act.put, List.setIfInBounds_toArray, List.set_cons_zero, List.set_cons_succ, List.getElem_toArray, List.getElem_cons_succ, List.getElem_cons_zero]
              refine wpAnyH_take (i := 15) (oi := _) (v := .int .i64 Ex) rfl (by kernel_rfl) (by kernel_rfl) (by kernel_rfl) (fun _ _ _ h => h) (Or.inl ⟨by rfl, fun w' hSw => ?_⟩) hHeld ?_
              · obtain ⟨t0, t1, t2, t3, t4, t5, t6, t7⟩ := hSw
                go_simp
                try simp [*]
                try (intro hh; exfalso; omega)
                try omega
              try simp only [Act.put, List.setIfInBounds_toArray, List.set_cons_zero, List.set_cons_succ, List.getElem_toArray, List.getElem_cons_succ, List.getElem_cons_zero]
              refine wpAnyH_done (by kernel_rfl) ?_ _
              clear hHeld
              go_wp2_with fail
              go_meet
              case rel => exact ⟨rfl, rfl, HU1.out⟩
            · go_simp
              clear hHeld
              refine hK.out _ _ (KE.out _ HU1.out) (fun hHeld => ?_)
              clear hK K
              try simp only [Act.put, List.setIfInBounds_toArray, List.set_cons_zero, List.set_cons_succ, List.getElem_toArray, List.getElem_cons_succ, List.getElem_cons_zero]
              refine wpAnyH_take (i := 13) (oi := _) (v := .int .i64 Ex) rfl (by kernel_rfl) (by kernel_rfl) (by kernel_rfl) (fun _ _ _ h => h) (Or.inl ⟨by rfl, fun w' hSw => ?_⟩) hHeld ?_
              · obtain ⟨t0, t1, t2, t3, t4, t5, t6, t7⟩ := hSw
                go_simp
                try simp [*]
                try (intro hh; exfalso; omega)
                try omega
              try simp only [Act.put, List.setIfInBounds_toArray, List.set_cons_zero, List.set_cons_succ, List.getElem_toArray, List.getElem_cons_succ, List.getElem_cons_zero]
              refine wpAnyH_take (i := 15) (oi := _) (v := .int .i64 Ex) rfl (by kernel_rfl) (by kernel_rfl) (by kernel_rfl) (fun _ _ _ h => h) (Or.inl ⟨by rfl, fun w' hSw => ?_⟩) hHeld ?_
              · obtain ⟨t0, t1, t2, t3, t4, t5, t6, t7⟩ := hSw
                go_simp
                try simp [*]
                try (intro hh; exfalso; omega)
                try omega
              try simp only [Act.put, List.setIfInBounds_toArray, List.set_cons_zero, List.set_cons_succ, List.getElem_toArray, List.getElem_cons_succ, List.getElem_cons_zero]
              refine wpAnyH_done (by kernel_rfl) ?_ _
              clear hHeld
              go_wp2_with fail
              go_meet
              case rel => exact ⟨rfl, rfl, HU1.out⟩
          case rest =>
            obtain ⟨rfl, rfl, hW⟩ := hcut
            have HX2 := Lib.hid (HX1.out.trans (hW.mono HX1.out.size))
            clear hW KE v0 v1 v2 v3 v4 v5 v6 va
            obtain ⟨W_HX2, rfl⟩ : ∃ W0, W0 = wc := ⟨_, rfl⟩
            clear cLa cLx
            have HBT := Lib.hid (HUP8.out _ HX2.out)
            rcases HCA.out with ⟨hE, hra, hqa⟩ | ⟨hE, hqa⟩
            rotate_left
            · subst hE hqa
              clear HCA HCX KV
              go_wp2_with fail
              refine (c69.out _).mono ?_
              rintro e wf ⟨rfl, hbf⟩
              have HBF := Lib.hid (HBT.out.trans (hbf.mono HBT.out.size))
              clear hbf
              go_wp2_with fail
              go_ret
              exact ⟨by first | rfl | simp, HBF.out⟩
            subst hE
            obtain ⟨hEx, hqx⟩ := HCX.out (by omega)
            subst hEx
            have hmp : 0 < max (1 + us0) us1 := by omega
            have hle : qa ≤ qx := by rw [hqa, hqx]; exact Int.ediv_le_ediv hmp (by omega)
            have hqn : 0 ≤ qa := by rw [hqa]; exact Int.ediv_nonneg (by omega) (by omega)
            have hqm : qa * max (1 + us0) us1 ≤ a - rs := by rw [hqa]; exact Int.ediv_mul_le _ (by omega)
            have hlt2 : ¬ qx < qa := by omega
            obtain ⟨m, hm⟩ : ∃ m : Nat, (m : Int) = min (max qa 0) 64 := ⟨(min (max qa 0) 64).toNat, Int.toNat_of_nonneg (by omega)⟩
            have hm64 : m ≤ 64 := by omega
            have hme : (m : Int) * (1 + us0) ≤ a - rs := by
              have e1 : (m : Int) * (1 + us0) ≤ qa * (1 + us0) := Int.mul_le_mul_of_nonneg_right (by omega) (by omega)
              have e2 : qa * (1 + us0) ≤ qa * max (1 + us0) us1 := Int.mul_le_mul_of_nonneg_left (by omega) hqn
              exact Int.le_trans e1 (Int.le_trans e2 hqm)
            clear hqa hqx hqm hmp HCA HCX hle
            obtain ⟨w3, hM, hR3, hb3, hz3⟩ := make_plan W_HX2 m hm64
            have HB3 := Lib.hid (show Below V8.heap.size V8 w3 from HX2.out.trans (hb3.mono HX2.out.size))
            have HPL := Lib.hid (show ∀ W, Below w3.heap.size w3 W → W_HX2.heap.size < W.heap.size ∧ ∀ j, j < m * 2 → W.cell? ⟨W_HX2.heap.size, j, none⟩ = some (.int .i64 0) from fun W h => ⟨Nat.lt_of_lt_of_le hR3.lt h.size, fun j hj => (hR3.keep h).cell hj⟩)
            have cE := Lib.hid (fun W (h : Below w3.heap.size w3 W) => Gd.energy75 1 (1 + us0) 0 us1 rs a a hu1 (by omega) ht1 (by omega) (by omega) hva (by omega) W_HX2.heap.size m m hm64 hme W (HPL.out W h).1 (HPL.out W h).2)
            rw [hm] at hM
            clear hR3 hb3 hz3 HPL hme hm hqn hu1 ht1 hva hvx
            go_upto_region 24 with fail
            clear hM hlt2
            generalize W_HX2.heap.size = G3 at *
            have KE := Lib.hid (show ∀ W, Below w3.heap.size w3 W → W.cell? ⟨B24, 0, none⟩ = some (Value.int .i64 0) ∧ W.cell? ⟨B24, 1, none⟩ = some (Value.int .i64 1) ∧ W.cell? ⟨B24, 2, none⟩ = some (Value.int .i64 1) ∧ W.cell? ⟨B24, 3, none⟩ = some (Value.int .i64 (1 + us0)) ∧ W.cell? ⟨B24, 4, none⟩ = some (Value.int .i64 0) ∧ W.cell? ⟨B24, 5, none⟩ = some (Value.int .i64 us1) ∧ W.cell? ⟨B24, 6, none⟩ = some (Value.int .i64 rs) ∧ W.cell? ⟨ab, ao + k, none⟩ = some (Value.int .i64 a) from fun W h => by
              have q := KV.out W (HB3.out.trans (h.mono HB3.out.size))
              exact ⟨q.1.1, q.1.2.1, q.1.2.2.1, q.1.2.2.2.1, q.1.2.2.2.2.1, q.1.2.2.2.2.2.1, q.1.2.2.2.2.2.2, q.2.1⟩)
            obtain ⟨v0, v1, v2, v3, v4, v5, v6, va⟩ := KE.out _ (Below.refl _ _)
            go_cut [19, 28, 29] from 170 to 186 (fun s19 s28 s29 wc => s19 = Value.int .i64 0 ∧ (∃ la lc, s28 = Value.slice la m lc) ∧ s29 = Value.int .i64 (m : Int) ∧ Below w3.heap.size w3 wc)
            case first => as_aux_lemma =>
              have HD := Lib.hid (show Below w3.heap.size w3 w3.drew from (Below.refl _ _).drew)
              refine wp_region_held_drew (S := fun w' => w'.cell? ⟨B24, 0, none⟩ = some (Value.int .i64 0) ∧ w'.cell? ⟨B24, 1, none⟩ = some (Value.int .i64 1) ∧ w'.cell? ⟨B24, 2, none⟩ = some (Value.int .i64 1) ∧ w'.cell? ⟨B24, 3, none⟩ = some (Value.int .i64 (1 + us0)) ∧ w'.cell? ⟨B24, 4, none⟩ = some (Value.int .i64 0) ∧ w'.cell? ⟨B24, 5, none⟩ = some (Value.int .i64 us1) ∧ w'.cell? ⟨B24, 6, none⟩ = some (Value.int .i64 rs) ∧ w'.cell? ⟨ab, ao + k, none⟩ = some (Value.int .i64 a)) (by kernel_rfl) ⟨by simpa [go_sem] using v0, by simpa [go_sem] using v1, by simpa [go_sem] using v2, by simpa [go_sem] using v3, by simpa [go_sem] using v4, by simpa [go_sem] using v5, by simpa [go_sem] using v6, by simpa [go_sem] using va⟩ (fun hHeld => ?_)
              refine wpAnyH_take (i := 0) (oi := _) (v := Value.agg #[Value.int .i64 0, Value.int .i64 1, Value.int .i64 1, Value.int .i64 (1 + us0), Value.int .i64 0, Value.int .i64 us1, Value.int .i64 rs]) rfl (by kernel_rfl) (by kernel_rfl) (by kernel_rfl) (fun _ _ _ h => h) (Or.inl ⟨by rfl, fun w' hSw => ?_⟩) hHeld ?_
              · obtain ⟨t0, t1, t2, t3, t4, t5, t6, t7⟩ := hSw
                go_simp
                try simp [*]
                try (intro hh; exfalso; omega)
                try omega
              try simp only [Act.put, List.setIfInBounds_toArray, List.set_cons_zero, List.set_cons_succ, List.getElem_toArray, List.getElem_cons_succ, List.getElem_cons_zero]
              refine wpAnyH_take (i := 1) (oi := _) (v := Value.slice (some ⟨ab, ao, none⟩) n ac) rfl (by kernel_rfl) (by kernel_rfl) (by kernel_rfl) (fun _ _ _ h => h) (Or.inl ⟨by rfl, fun w' hSw => ?_⟩) hHeld ?_
              · obtain ⟨t0, t1, t2, t3, t4, t5, t6, t7⟩ := hSw
                go_simp
                try simp [*]
                try (intro hh; exfalso; omega)
                try omega
              try simp only [Act.put, List.setIfInBounds_toArray, List.set_cons_zero, List.set_cons_succ, List.getElem_toArray, List.getElem_cons_succ, List.getElem_cons_zero]
              refine wpAnyH_take (i := 2) (oi := _) (v := Value.int .i64 (k : Int)) rfl (by kernel_rfl) (by kernel_rfl) (by kernel_rfl) (fun _ _ _ h => h) (Or.inl ⟨by rfl, fun w' hSw => ?_⟩) hHeld ?_
              · obtain ⟨t0, t1, t2, t3, t4, t5, t6, t7⟩ := hSw
                go_simp
                try simp [*]
                try (intro hh; exfalso; omega)
                try omega
              try simp only [Act.put, List.setIfInBounds_toArray, List.set_cons_zero, List.set_cons_succ, List.getElem_toArray, List.getElem_cons_succ, List.getElem_cons_zero]
              refine wpAnyH_take (i := 3) (oi := _) (v := Value.pointer (some ⟨ab, ao + k, none⟩)) rfl (by kernel_rfl) (by kernel_rfl) (by kernel_rfl) (fun _ _ _ h => h) (Or.inl ⟨by rfl, fun w' hSw => ?_⟩) hHeld ?_
              · obtain ⟨t0, t1, t2, t3, t4, t5, t6, t7⟩ := hSw
                go_simp
                try simp [*]
                try (intro hh; exfalso; omega)
                try omega
              try simp only [Act.put, List.setIfInBounds_toArray, List.set_cons_zero, List.set_cons_succ, List.getElem_toArray, List.getElem_cons_succ, List.getElem_cons_zero]
              refine wpAnyH_take (i := 4) (oi := _) (v := Value.int .i64 a) rfl (by kernel_rfl) (by kernel_rfl) (by kernel_rfl) (fun _ _ _ h => h) (Or.inl ⟨by rfl, fun w' hSw => ?_⟩) hHeld ?_
              · obtain ⟨t0, t1, t2, t3, t4, t5, t6, t7⟩ := hSw
                go_simp
                try simp [*]
                try (intro hh; exfalso; omega)
                try omega
              try simp only [Act.put, List.setIfInBounds_toArray, List.set_cons_zero, List.set_cons_succ, List.getElem_toArray, List.getElem_cons_succ, List.getElem_cons_zero]
              refine wpAnyH_take (i := 5) (oi := _) (v := Value.slice (some ⟨ab, ao, none⟩) n ac) rfl (by kernel_rfl) (by kernel_rfl) (by kernel_rfl) (fun _ _ _ h => h) (Or.inl ⟨by rfl, fun w' hSw => ?_⟩) hHeld ?_
              · obtain ⟨t0, t1, t2, t3, t4, t5, t6, t7⟩ := hSw
                go_simp
                try simp [*]
                try (intro hh; exfalso; omega)
                try omega
              try simp only [Act.put, List.setIfInBounds_toArray, List.set_cons_zero, List.set_cons_succ, List.getElem_toArray, List.getElem_cons_succ, List.getElem_cons_zero]
              refine wpAnyH_take (i := 6) (oi := _) (v := Value.int .i64 (k : Int)) rfl (by kernel_rfl) (by kernel_rfl) (by kernel_rfl) (fun _ _ _ h => h) (Or.inl ⟨by rfl, fun w' hSw => ?_⟩) hHeld ?_
              · obtain ⟨t0, t1, t2, t3, t4, t5, t6, t7⟩ := hSw
                go_simp
                try simp [*]
                try (intro hh; exfalso; omega)
                try omega
              try simp only [Act.put, List.setIfInBounds_toArray, List.set_cons_zero, List.set_cons_succ, List.getElem_toArray, List.getElem_cons_succ, List.getElem_cons_zero]
              refine wpAnyH_take (i := 7) (oi := _) (v := Value.pointer (some ⟨ab, ao + k, none⟩)) rfl (by kernel_rfl) (by kernel_rfl) (by kernel_rfl) (fun _ _ _ h => h) (Or.inl ⟨by rfl, fun w' hSw => ?_⟩) hHeld ?_
              · obtain ⟨t0, t1, t2, t3, t4, t5, t6, t7⟩ := hSw
                go_simp
                try simp [*]
                try (intro hh; exfalso; omega)
                try omega
              try simp only [Act.put, List.setIfInBounds_toArray, List.set_cons_zero, List.set_cons_succ, List.getElem_toArray, List.getElem_cons_succ, List.getElem_cons_zero]
              refine wpAnyH_take (i := 8) (oi := _) (v := Value.int .i64 a) rfl (by kernel_rfl) (by kernel_rfl) (by kernel_rfl) (fun _ _ _ h => h) (Or.inl ⟨by rfl, fun w' hSw => ?_⟩) hHeld ?_
              · obtain ⟨t0, t1, t2, t3, t4, t5, t6, t7⟩ := hSw
                go_simp
                try simp [*]
                try (intro hh; exfalso; omega)
                try omega
              try simp only [Act.put, List.setIfInBounds_toArray, List.set_cons_zero, List.set_cons_succ, List.getElem_toArray, List.getElem_cons_succ, List.getElem_cons_zero]
              refine wpAnyH_take (i := 9) (oi := _) (v := Value.agg #[Value.int .i64 a, Value.int .i64 a]) rfl (by kernel_rfl) (by kernel_rfl) (by kernel_rfl) (fun _ _ _ h => h) (Or.inl ⟨by rfl, fun w' hSw => ?_⟩) hHeld ?_
              · obtain ⟨t0, t1, t2, t3, t4, t5, t6, t7⟩ := hSw
                go_simp
                try simp [*]
                try (intro hh; exfalso; omega)
                try omega
              try simp only [Act.put, List.setIfInBounds_toArray, List.set_cons_zero, List.set_cons_succ, List.getElem_toArray, List.getElem_cons_succ, List.getElem_cons_zero]
              refine wpAnyH_take (i := 10) (oi := _) (v := Value.slice (some ⟨G3, 0, none⟩) m m) rfl (by kernel_rfl) (by kernel_rfl) (by kernel_rfl) (fun _ _ _ h => h) (Or.inl ⟨by rfl, fun w' hSw => ?_⟩) hHeld ?_
              · obtain ⟨t0, t1, t2, t3, t4, t5, t6, t7⟩ := hSw
                go_simp
                try simp [*]
                try (intro hh; exfalso; omega)
                try omega
              try simp only [Act.put, List.setIfInBounds_toArray, List.set_cons_zero, List.set_cons_succ, List.getElem_toArray, List.getElem_cons_succ, List.getElem_cons_zero]
              refine wpAnyH_ready (rs := [11]) (by kernel_rfl) (by simp) ?_
              refine AllReadyH.cons (o := _) rfl (fun K hK => ?_) (AllReadyH.nil)
              go_simp
              go_at_call 75
              refine Calls.mono (cE.out _ HD.out) ?_
              rintro e u1 ⟨la, lc, rfl, hb⟩
              have HU1 := Lib.hid (show Below w3.heap.size w3 u1 from HD.out.trans (hb.mono (Below.size HD.out)))
              clear hb
              clear hHeld
              refine hK.out _ _ (KE.out _ HU1.out) (fun hHeld => ?_)
              clear hK K
              try simp only [Act.put, List.setIfInBounds_toArray, List.set_cons_zero, List.set_cons_succ, List.getElem_toArray, List.getElem_cons_succ, List.getElem_cons_zero]
              refine wpAnyH_take (i := 12) (oi := _) (v := Value.tuple #[.slice la m lc, .int .i64 (m : Int), .int .i64 0]) rfl (by kernel_rfl) (by kernel_rfl) (by kernel_rfl) (fun _ _ _ h => h) (Or.inl ⟨by rfl, fun w' hSw => ?_⟩) hHeld ?_
              · obtain ⟨t0, t1, t2, t3, t4, t5, t6, t7⟩ := hSw
                go_simp
                try simp [*]
                try (intro hh; exfalso; omega)
                try omega
              try simp only [Act.put, List.setIfInBounds_toArray, List.set_cons_zero, List.set_cons_succ, List.getElem_toArray, List.getElem_cons_succ, List.getElem_cons_zero]
              refine wpAnyH_take (i := 13) (oi := _) (v := .slice la m lc) rfl (by kernel_rfl) (by kernel_rfl) (by kernel_rfl) (fun _ _ _ h => h) (Or.inl ⟨by rfl, fun w' hSw => ?_⟩) hHeld ?_
              · obtain ⟨t0, t1, t2, t3, t4, t5, t6, t7⟩ := hSw
                go_simp
                try simp [*]
                try (intro hh; exfalso; omega)
                try omega
              try simp only [Act.put, List.setIfInBounds_toArray, List.set_cons_zero, List.set_cons_succ, List.getElem_toArray, List.getElem_cons_succ, List.getElem_cons_zero]
              refine wpAnyH_ready (rs := [14, 15, 16]) (by kernel_rfl) (by simp) ?_
              refine AllReadyH.cons (o := _) rfl (fun K hK => ?_) (AllReadyH.cons (o := _) rfl (fun K hK => ?_) (AllReadyH.cons (o := _) rfl (fun K hK => ?_) (AllReadyH.nil)))
              · go_simp
                clear hHeld
                refine hK.out _ _ (KE.out _ HU1.out) (fun hHeld => ?_)
                clear hK K
                try simp only [Act.put, List.setIfInBounds_toArray, List.set_cons_zero, List.set_cons_succ, List.getElem_toArray, List.getElem_cons_succ, List.getElem_cons_zero]
                refine wpAnyH_ready (rs := [15, 16]) (by kernel_rfl) (by simp) ?_
                refine AllReadyH.cons (o := _) rfl (fun K hK => ?_) (AllReadyH.cons (o := _) rfl (fun K hK => ?_) (AllReadyH.nil))
                · go_simp
                  clear hHeld
                  refine hK.out _ _ (KE.out _ HU1.out) (fun hHeld => ?_)
                  clear hK K
                  try simp only [Act.put, List.setIfInBounds_toArray, List.set_cons_zero, List.set_cons_succ, List.getElem_toArray, List.getElem_cons_succ, List.getElem_cons_zero]
                  refine wpAnyH_take (i := 16) (oi := _) (v := .slice la m lc) rfl (by kernel_rfl) (by kernel_rfl) (by kernel_rfl) (fun _ _ _ h => h) (Or.inl ⟨by rfl, fun w' hSw => ?_⟩) hHeld ?_
                  · obtain ⟨t0, t1, t2, t3, t4, t5, t6, t7⟩ := hSw
                    go_simp
                    try simp [*]
                    try (intro hh; exfalso; omega)
                    try omega
                  try simp only [Act.put, List.setIfInBounds_toArray, List.set_cons_zero, List.set_cons_succ, List.getElem_toArray, List.getElem_cons_succ, List.getElem_cons_zero]
                  refine wpAnyH_take (i := 17) (oi := _) (v := .int .i64 (m : Int)) rfl (by kernel_rfl) (by kernel_rfl) (by kernel_rfl) (fun _ _ _ h => h) (Or.inl ⟨by rfl, fun w' hSw => ?_⟩) hHeld ?_
                  · obtain ⟨t0, t1, t2, t3, t4, t5, t6, t7⟩ := hSw
                    go_simp
                    try simp [*]
                    try (intro hh; exfalso; omega)
                    try omega
                  try simp only [Act.put, List.setIfInBounds_toArray, List.set_cons_zero, List.set_cons_succ, List.getElem_toArray, List.getElem_cons_succ, List.getElem_cons_zero]
                  refine wpAnyH_take (i := 18) (oi := _) (v := .int .i64 0) rfl (by kernel_rfl) (by kernel_rfl) (by kernel_rfl) (fun _ _ _ h => h) (Or.inl ⟨by rfl, fun w' hSw => ?_⟩) hHeld ?_
                  · obtain ⟨t0, t1, t2, t3, t4, t5, t6, t7⟩ := hSw
                    go_simp
                    try simp [*]
                    try (intro hh; exfalso; omega)
                    try omega
                  try simp only [Act.put, List.setIfInBounds_toArray, List.set_cons_zero, List.set_cons_succ, List.getElem_toArray, List.getElem_cons_succ, List.getElem_cons_zero]
                  refine wpAnyH_done (by kernel_rfl) ?_ _
                  clear hHeld
                  go_wp2_with fail
                  go_meet
                  case rel => exact ⟨rfl, ⟨_, _, rfl⟩, rfl, HU1.out⟩
                · go_simp
                  clear hHeld
                  refine hK.out _ _ (KE.out _ HU1.out) (fun hHeld => ?_)
                  clear hK K
                  try simp only [Act.put, List.setIfInBounds_toArray, List.set_cons_zero, List.set_cons_succ, List.getElem_toArray, List.getElem_cons_succ, List.getElem_cons_zero]
                  refine wpAnyH_ready (rs := [15, 17]) (by kernel_rfl) (by simp) ?_
                  refine AllReadyH.cons (o := _) rfl (fun K hK => ?_) (AllReadyH.cons (o := _) rfl (fun K hK => ?_) (AllReadyH.nil))
                  · go_simp
                    clear hHeld
                    refine hK.out _ _ (KE.out _ HU1.out) (fun hHeld => ?_)
                    clear hK K
                    try simp only [Act.put, List.setIfInBounds_toArray, List.set_cons_zero, List.set_cons_succ, List.getElem_toArray, List.getElem_cons_succ, List.getElem_cons_zero]
                    refine wpAnyH_take (i := 17) (oi := _) (v := .int .i64 (m : Int)) rfl (by kernel_rfl) (by kernel_rfl) (by kernel_rfl) (fun _ _ _ h => h) (Or.inl ⟨by rfl, fun w' hSw => ?_⟩) hHeld ?_
                    · obtain ⟨t0, t1, t2, t3, t4, t5, t6, t7⟩ := hSw
                      go_simp
                      try simp [*]
                      try (intro hh; exfalso; omega)
                      try omega
                    try simp only [Act.put, List.setIfInBounds_toArray, List.set_cons_zero, List.set_cons_succ, List.getElem_toArray, List.getElem_cons_succ, List.getElem_cons_zero]
                    refine wpAnyH_take (i := 18) (oi := _) (v := .int .i64 0) rfl (by kernel_rfl) (by kernel_rfl) (by kernel_rfl) (fun _ _ _ h => h) (Or.inl ⟨by rfl, fun w' hSw => ?_⟩) hHeld ?_
                    · obtain ⟨t0, t1, t2, t3, t4, t5, t6, t7⟩ := hSw
                      go_simp
                      try simp [*]
                      try (intro hh; exfalso; omega)
                      try omega
                    try simp only [Act.put, List.setIfInBounds_toArray, List.set_cons_zero, List.set_cons_succ, List.getElem_toArray, List.getElem_cons_succ, List.getElem_cons_zero]
                    refine wpAnyH_done (by kernel_rfl) ?_ _
                    clear hHeld
                    go_wp2_with fail
                    go_meet
                    case rel => exact ⟨rfl, ⟨_, _, rfl⟩, rfl, HU1.out⟩
                  · go_simp
                    clear hHeld
                    refine hK.out _ _ (KE.out _ HU1.out) (fun hHeld => ?_)
                    clear hK K
                    try simp only [Act.put, List.setIfInBounds_toArray, List.set_cons_zero, List.set_cons_succ, List.getElem_toArray, List.getElem_cons_succ, List.getElem_cons_zero]
                    refine wpAnyH_take (i := 15) (oi := _) (v := .int .i64 0) rfl (by kernel_rfl) (by kernel_rfl) (by kernel_rfl) (fun _ _ _ h => h) (Or.inl ⟨by rfl, fun w' hSw => ?_⟩) hHeld ?_
                    · obtain ⟨t0, t1, t2, t3, t4, t5, t6, t7⟩ := hSw
                      go_simp
                      try simp [*]
                      try (intro hh; exfalso; omega)
                      try omega
                    try simp only [Act.put, List.setIfInBounds_toArray, List.set_cons_zero, List.set_cons_succ, List.getElem_toArray, List.getElem_cons_succ, List.getElem_cons_zero]
                    refine wpAnyH_take (i := 18) (oi := _) (v := .int .i64 0) rfl (by kernel_rfl) (by kernel_rfl) (by kernel_rfl) (fun _ _ _ h => h) (Or.inl ⟨by rfl, fun w' hSw => ?_⟩) hHeld ?_
                    · obtain ⟨t0, t1, t2, t3, t4, t5, t6, t7⟩ := hSw
                      go_simp
                      try simp [*]
                      try (intro hh; exfalso; omega)
                      try omega
                    try simp only [Act.put, List.setIfInBounds_toArray, List.set_cons_zero, List.set_cons_succ, List.getElem_toArray, List.getElem_cons_succ, List.getElem_cons_zero]
                    refine wpAnyH_done (by kernel_rfl) ?_ _
                    clear hHeld
                    go_wp2_with fail
                    go_meet
                    case rel => exact ⟨rfl, ⟨_, _, rfl⟩, rfl, HU1.out⟩
              · go_simp
                clear hHeld
                refine hK.out _ _ (KE.out _ HU1.out) (fun hHeld => ?_)
                clear hK K
                try simp only [Act.put, List.setIfInBounds_toArray, List.set_cons_zero, List.set_cons_succ, List.getElem_toArray, List.getElem_cons_succ, List.getElem_cons_zero]
                refine wpAnyH_ready (rs := [14, 16]) (by kernel_rfl) (by simp) ?_
                refine AllReadyH.cons (o := _) rfl (fun K hK => ?_) (AllReadyH.cons (o := _) rfl (fun K hK => ?_) (AllReadyH.nil))
                · go_simp
                  clear hHeld
                  refine hK.out _ _ (KE.out _ HU1.out) (fun hHeld => ?_)
                  clear hK K
                  try simp only [Act.put, List.setIfInBounds_toArray, List.set_cons_zero, List.set_cons_succ, List.getElem_toArray, List.getElem_cons_succ, List.getElem_cons_zero]
                  refine wpAnyH_take (i := 16) (oi := _) (v := .slice la m lc) rfl (by kernel_rfl) (by kernel_rfl) (by kernel_rfl) (fun _ _ _ h => h) (Or.inl ⟨by rfl, fun w' hSw => ?_⟩) hHeld ?_
                  · obtain ⟨t0, t1, t2, t3, t4, t5, t6, t7⟩ := hSw
                    go_simp
                    try simp [*]
                    try (intro hh; exfalso; omega)
                    try omega
                  try simp only [Act.put, List.setIfInBounds_toArray, List.set_cons_zero, List.set_cons_succ, List.getElem_toArray, List.getElem_cons_succ, List.getElem_cons_zero]
                  refine wpAnyH_take (i := 17) (oi := _) (v := .int .i64 (m : Int)) rfl (by kernel_rfl) (by kernel_rfl) (by kernel_rfl) (fun _ _ _ h => h) (Or.inl ⟨by rfl, fun w' hSw => ?_⟩) hHeld ?_
                  · obtain ⟨t0, t1, t2, t3, t4, t5, t6, t7⟩ := hSw
                    go_simp
                    try simp [*]
                    try (intro hh; exfalso; omega)
                    try omega
                  try simp only [Act.put, List.setIfInBounds_toArray, List.set_cons_zero, List.set_cons_succ, List.getElem_toArray, List.getElem_cons_succ, List.getElem_cons_zero]
                  refine wpAnyH_take (i := 18) (oi := _) (v := .int .i64 0) rfl (by kernel_rfl) (by kernel_rfl) (by kernel_rfl) (fun _ _ _ h => h) (Or.inl ⟨by rfl, fun w' hSw => ?_⟩) hHeld ?_
                  · obtain ⟨t0, t1, t2, t3, t4, t5, t6, t7⟩ := hSw
                    go_simp
                    try simp [*]
                    try (intro hh; exfalso; omega)
                    try omega
                  try simp only [Act.put, List.setIfInBounds_toArray, List.set_cons_zero, List.set_cons_succ, List.getElem_toArray, List.getElem_cons_succ, List.getElem_cons_zero]
                  refine wpAnyH_done (by kernel_rfl) ?_ _
                  clear hHeld
                  go_wp2_with fail
                  go_meet
                  case rel => exact ⟨rfl, ⟨_, _, rfl⟩, rfl, HU1.out⟩
                · go_simp
                  clear hHeld
                  refine hK.out _ _ (KE.out _ HU1.out) (fun hHeld => ?_)
                  clear hK K
                  try simp only [Act.put, List.setIfInBounds_toArray, List.set_cons_zero, List.set_cons_succ, List.getElem_toArray, List.getElem_cons_succ, List.getElem_cons_zero]
                  refine wpAnyH_take (i := 14) (oi := _) (v := .int .i64 (m : Int)) rfl (by kernel_rfl) (by kernel_rfl) (by kernel_rfl) (fun _ _ _ h => h) (Or.inl ⟨by rfl, fun w' hSw => ?_⟩) hHeld ?_
                  · obtain ⟨t0, t1, t2, t3, t4, t5, t6, t7⟩ := hSw
                    go_simp
                    try simp [*]
                    try (intro hh; exfalso; omega)
                    try omega
                  try simp only [Act.put, List.setIfInBounds_toArray, List.set_cons_zero, List.set_cons_succ, List.getElem_toArray, List.getElem_cons_succ, List.getElem_cons_zero]
                  refine wpAnyH_take (i := 17) (oi := _) (v := .int .i64 (m : Int)) rfl (by kernel_rfl) (by kernel_rfl) (by kernel_rfl) (fun _ _ _ h => h) (Or.inl ⟨by rfl, fun w' hSw => ?_⟩) hHeld ?_
                  · obtain ⟨t0, t1, t2, t3, t4, t5, t6, t7⟩ := hSw
                    go_simp
                    try simp [*]
                    try (intro hh; exfalso; omega)
                    try omega
                  try simp only [Act.put, List.setIfInBounds_toArray, List.set_cons_zero, List.set_cons_succ, List.getElem_toArray, List.getElem_cons_succ, List.getElem_cons_zero]
                  refine wpAnyH_take (i := 18) (oi := _) (v := .int .i64 0) rfl (by kernel_rfl) (by kernel_rfl) (by kernel_rfl) (fun _ _ _ h => h) (Or.inl ⟨by rfl, fun w' hSw => ?_⟩) hHeld ?_
                  · obtain ⟨t0, t1, t2, t3, t4, t5, t6, t7⟩ := hSw
                    go_simp
                    try simp [*]
                    try (intro hh; exfalso; omega)
                    try omega
                  try simp only [Act.put, List.setIfInBounds_toArray, List.set_cons_zero, List.set_cons_succ, List.getElem_toArray, List.getElem_cons_succ, List.getElem_cons_zero]
                  refine wpAnyH_done (by kernel_rfl) ?_ _
                  clear hHeld
                  go_wp2_with fail
                  go_meet
                  case rel => exact ⟨rfl, ⟨_, _, rfl⟩, rfl, HU1.out⟩
              · go_simp
                clear hHeld
                refine hK.out _ _ (KE.out _ HU1.out) (fun hHeld => ?_)
                clear hK K
                try simp only [Act.put, List.setIfInBounds_toArray, List.set_cons_zero, List.set_cons_succ, List.getElem_toArray, List.getElem_cons_succ, List.getElem_cons_zero]
                refine wpAnyH_take (i := 14) (oi := _) (v := .int .i64 (m : Int)) rfl (by kernel_rfl) (by kernel_rfl) (by kernel_rfl) (fun _ _ _ h => h) (Or.inl ⟨by rfl, fun w' hSw => ?_⟩) hHeld ?_
                · obtain ⟨t0, t1, t2, t3, t4, t5, t6, t7⟩ := hSw
                  go_simp
                  try simp [*]
                  try (intro hh; exfalso; omega)
                  try omega
                try simp only [Act.put, List.setIfInBounds_toArray, List.set_cons_zero, List.set_cons_succ, List.getElem_toArray, List.getElem_cons_succ, List.getElem_cons_zero]
                refine wpAnyH_ready (rs := [15, 17]) (by kernel_rfl) (by simp) ?_
                refine AllReadyH.cons (o := _) rfl (fun K hK => ?_) (AllReadyH.cons (o := _) rfl (fun K hK => ?_) (AllReadyH.nil))
                · go_simp
                  clear hHeld
                  refine hK.out _ _ (KE.out _ HU1.out) (fun hHeld => ?_)
                  clear hK K
                  try simp only [Act.put, List.setIfInBounds_toArray, List.set_cons_zero, List.set_cons_succ, List.getElem_toArray, List.getElem_cons_succ, List.getElem_cons_zero]
                  refine wpAnyH_take (i := 17) (oi := _) (v := .int .i64 (m : Int)) rfl (by kernel_rfl) (by kernel_rfl) (by kernel_rfl) (fun _ _ _ h => h) (Or.inl ⟨by rfl, fun w' hSw => ?_⟩) hHeld ?_
                  · obtain ⟨t0, t1, t2, t3, t4, t5, t6, t7⟩ := hSw
                    go_simp
                    try simp [*]
                    try (intro hh; exfalso; omega)
                    try omega
                  try simp only [Act.put, List.setIfInBounds_toArray, List.set_cons_zero, List.set_cons_succ, List.getElem_toArray, List.getElem_cons_succ, List.getElem_cons_zero]
                  refine wpAnyH_take (i := 18) (oi := _) (v := .int .i64 0) rfl (by kernel_rfl) (by kernel_rfl) (by kernel_rfl) (fun _ _ _ h => h) (Or.inl ⟨by rfl, fun w' hSw => ?_⟩) hHeld ?_
                  · obtain ⟨t0, t1, t2, t3, t4, t5, t6, t7⟩ := hSw
                    go_simp
                    try simp [*]
                    try (intro hh; exfalso; omega)
                    try omega
                  try simp only [Act.put, List.setIfInBounds_toArray, List.set_cons_zero, List.set_cons_succ, List.getElem_toArray, List.getElem_cons_succ, List.getElem_cons_zero]
                  refine wpAnyH_done (by kernel_rfl) ?_ _
                  clear hHeld
                  go_wp2_with fail
                  go_meet
                  case rel => exact ⟨rfl, ⟨_, _, rfl⟩, rfl, HU1.out⟩
                · go_simp
                  clear hHeld
                  refine hK.out _ _ (KE.out _ HU1.out) (fun hHeld => ?_)
                  clear hK K
                  try simp only [Act.put, List.setIfInBounds_toArray, List.set_cons_zero, List.set_cons_succ, List.getElem_toArray, List.getElem_cons_succ, List.getElem_cons_zero]
                  refine wpAnyH_take (i := 15) (oi := _) (v := .int .i64 0) rfl (by kernel_rfl) (by kernel_rfl) (by kernel_rfl) (fun _ _ _ h => h) (Or.inl ⟨by rfl, fun w' hSw => ?_⟩) hHeld ?_
                  · obtain ⟨t0, t1, t2, t3, t4, t5, t6, t7⟩ := hSw
                    go_simp
                    try simp [*]
                    try (intro hh; exfalso; omega)
                    try omega
                  try simp only [Act.put, List.setIfInBounds_toArray, List.set_cons_zero, List.set_cons_succ, List.getElem_toArray, List.getElem_cons_succ, List.getElem_cons_zero]
                  refine wpAnyH_take (i := 18) (oi := _) (v := .int .i64 0) rfl (by kernel_rfl) (by kernel_rfl) (by kernel_rfl) (fun _ _ _ h => h) (Or.inl ⟨by rfl, fun w' hSw => ?_⟩) hHeld ?_
                  · obtain ⟨t0, t1, t2, t3, t4, t5, t6, t7⟩ := hSw
                    go_simp
                    try simp [*]
                    try (intro hh; exfalso; omega)
                    try omega
                  try simp only [Act.put, List.setIfInBounds_toArray, List.set_cons_zero, List.set_cons_succ, List.getElem_toArray, List.getElem_cons_succ, List.getElem_cons_zero]
                  refine wpAnyH_done (by kernel_rfl) ?_ _
                  clear hHeld
                  go_wp2_with fail
                  go_meet
                  case rel => exact ⟨rfl, ⟨_, _, rfl⟩, rfl, HU1.out⟩
            case rest =>
              obtain ⟨rfl, ⟨la, lc, rfl⟩, rfl, hW⟩ := hcut
              have HBZ := Lib.hid (HUP8.out _ (HB3.out.trans (hW.mono HB3.out.size)))
              clear hW KE v0 v1 v2 v3 v4 v5 v6 va cE HBT
              have hmm : ((m : Int) == (m : Int)) = true := by simp
              go_wp2_with fail
              refine (c69.out _).mono ?_
              rintro e wf ⟨rfl, hbf⟩
              have HBF := Lib.hid (HBZ.out.trans (hbf.mono HBZ.out.size))
              clear hbf
              go_wp2_with fail
              go_ret
              exact ⟨by first | rfl | simp, HBF.out⟩
end Go.Proofs.Ytdohfpnnmppdkaa

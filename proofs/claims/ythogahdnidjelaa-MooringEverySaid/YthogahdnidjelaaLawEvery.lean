/-
  MooringEvery: the walk.
-/
import Derived.Test.YthogahdnidjelaaRigB
import Derived.Test.YthogahdnidjelaaEvW
import Derived.Test.YthogahdnidjelaaPullsP
import Derived.Test.YthogahdnidjelaaShape3
import Derived.Test.YthogahdnidjelaaFine
import Derived.Test.YthogahdnidjelaaRefCheckM
namespace Go.Proofs.Ythogahdnidjelaa
open Go.RowKit Go.Shelf
set_option linter.unusedSimpArgs false
theorem moo_none (d an fr : Int) : mooE d [] an fr = 2 := by simp [mooE]
/-- what the calls give for the rig, element by element -/
structure EvV (free : Bool) (ps : List Pc) (n : Nat) (PV TV OV RV : List Pr) (LV : List Int) : Prop where
  l1 : PV.length = n
  l2 : TV.length = n
  l3 : OV.length = n
  l4 : RV.length = n
  l5 : LV.length = n
  el : ∀ k, k < n → ∃ xx yy S v25 vv P ha hb hc hd ta tb tc td oa ob LL ls oc od ra rb l25 l25L q1 q2 rc rd, EvN (evX free ps (k + 1)) (evY free ps (k + 1)) (LV[k]?.getD 0) (el (evZ ps n) k).len (pr PV k) (pr TV k) (pr OV k) (pr RV k) xx yy S v25 vv P ha hb hc hd ta tb tc td oa ob LL ls oc od ra rb l25 l25L q1 q2 rc rd
theorem ev_all (free : Bool) {ps : List Pc} {n : Nat} {d an : Int} (hs : staE d (evZ ps n) an 600 (evC ps n) = 0) (hn : n ≤ 8) (ho : ∀ j, j < n → OkPc (pc ps j)) :
    EvV free ps n (pulV d (evZ ps n) an 600 (evC ps n) free) (tenV d (evZ ps n) an 600 (evC ps n) free) (offV d (evZ ps n) an 600 (evC ps n) free) (risV d (evZ ps n) an 600 (evC ps n) free) (lifV d (evZ ps n) an 600) := by
  obtain ⟨hr, -, hm, hc⟩ := staE_ok hs
  have lz : (evZ ps n).length = n := rowM_len _ _
  have e1 : pulV d (evZ ps n) an 600 (evC ps n) free = rowL (pulG free (evZ ps n) (evC ps n)) n := by unfold pulV; rw [if_pos hc, lz]
  have e2 : tenV d (evZ ps n) an 600 (evC ps n) free = rowL (tenG free (evZ ps n) (evC ps n)) n := by unfold tenV; rw [if_pos hs, lz]
  have e3 : offV d (evZ ps n) an 600 (evC ps n) free = rowL (offG free (evZ ps n) (evC ps n)) n := by unfold offV offsets; rw [if_pos hs, lz]
  have e4 : risV d (evZ ps n) an 600 (evC ps n) free = rowL (risG free (evZ ps n) (evC ps n)) n := by unfold risV rises; rw [if_pos hs, lz]
  have e5 : lifV d (evZ ps n) an 600 = lifL (evZ ps n) n := by unfold lifV; rw [if_pos hm, lz]
  rw [e1, e2, e3, e4, e5]
  refine ⟨rowL_len _ _, rowL_len _ _, rowL_len _ _, rowL_len _ _, lifL_len _ _, fun k hk => ?_⟩
  rw [rowL_get _ _ _ hk, rowL_get _ _ _ hk, rowL_get _ _ _ hk, rowL_get _ _ _ hk, show (lifL (evZ ps n) n)[k]?.getD 0 = lifTo (evZ ps n) (k + 1) from lifL_nth _ _ _ hk]
  exact ev_bounds free hr hn ho hk
/-- the step of the sums -/
theorem ev_step (free : Bool) {ps : List Pc} {k : Nat} (hk : k < 8) (ho : ∀ j, j < k + 1 → OkPc (pc ps j)) :
    wrap64 ((pc ps k).drag * pT (pc ps k)) = (pc ps k).drag * pT (pc ps k) ∧ wrap64 ((pc ps k).drag * pT (pc ps k) * pT (pc ps k)) = pF (pc ps k) ∧
    ∃ a b, wrap64 (dirX free (pc ps k) * pF (pc ps k)) = a ∧ wrap64 (evX free ps k + a) = evX free ps (k + 1) ∧ wrap64 (dirY free (pc ps k) * pF (pc ps k)) = b ∧ wrap64 (evY free ps k + b) = evY free ps (k + 1) := by
  have f := pF_bd (ho k (by omega))
  have d := dir_unit free (pc ps k)
  have b1 := evXY_bd free ps k (fun j hj => ho j (by omega))
  have b2 := evXY_bd free ps (k + 1) ho
  have m1 := mul_bd (a := dirX free (pc ps k)) (b := pF (pc ps k)) (A := 5) (B := 2295) (by omega) (by omega)
  have m2 := mul_bd (a := dirY free (pc ps k)) (b := pF (pc ps k)) (A := 5) (B := 2295) (by omega) (by omega)
  refine ⟨w64 (by omega), w64 (by have : (pc ps k).drag * pT (pc ps k) * pT (pc ps k) = pF (pc ps k) := rfl
                                  omega), _, _, w64 (by omega), w64 (by simp only [evX] at b2; omega), w64 (by omega), w64 (by simp only [evY] at b2; omega)⟩
theorem Pcs.way {n₀ : Nat} {W : World} {a : Option Addr} {len cap : Nat} {ps : List Pc} (h : Pcs n₀ W (.slice a len cap) ps) {k : Nat} (hk : k < ps.length) :
    OkPc (pc ps k) ∧ ∃ b off, a = some ⟨b, off, none⟩ ∧ b < n₀ ∧ W.cell? ⟨b, off + k * 9 + 7, none⟩ = some (.int .u8 (pc ps k).way) := by
  obtain ⟨a', c', e, -, hc⟩ := h
  simp only [Value.slice.injEq] at e
  obtain ⟨rfl, -, -⟩ := e
  obtain ⟨ho, b, off, e, hb, -, -, -, -, -, -, -, c7, -⟩ := hc k hk
  exact ⟨ho, b, off, e, hb, c7⟩
set_option maxRecDepth 100000 in
set_option maxHeartbeats 40000000 in
theorem law_every (dep anc : Int) (sv : Value) (ps : List Pc) (free : Bool) (hd : 0 ≤ dep ∧ dep ≤ 65535) (ha : 0 ≤ anc ∧ anc ≤ 65535) (w : World) (hI : Pcs w.heap.size w sv ps) :
    Calls Try.prog 7 #[sv, .int .u16 dep, .int .u16 anc, .bool free] w fun e w' => e = .returned (.bool true) ∧ Below w.heap.size w w' := by
  have c45 := rig_any dep anc sv ps hd ha w hI
  have HF := Lib.hid (fun W => fine_any W)
  have HIP := Lib.hid (fun W (hb : Below w.heap.size w W) => hI.at hb)
  have hok : ∀ k, k < ps.length → OkPc (pc ps k) := fun k hk => by obtain ⟨_, _, _, _, hc⟩ := hI; exact (hc k hk).1
  obtain ⟨pa, pcap, rfl, -, -⟩ := hI
  obtain ⟨n, hn⟩ : ∃ n, n = min ps.length 8 := ⟨_, rfl⟩
  have hn8 : n ≤ 8 := by omega
  have hnl : n ≤ ps.length := by omega
  have ho : ∀ j, j < n → OkPc (pc ps j) := fun j hj => hok j (by omega)
  rw [← hn] at c45
  have HSTA := Lib.hid (fun h0 : 0 < n => ev_sta h0 hn8 ho hd ha)
  clear hok hd ha hn
  have HO := Lib.hid ho
  obtain ⟨d4, hd4⟩ : ∃ d4, d4 = 1 + dep := ⟨_, rfl⟩
  obtain ⟨an4, han4⟩ : ∃ an4, an4 = anc * 4 := ⟨_, rfl⟩
  rw [← hd4, ← han4] at c45 HSTA
  clear hd4 han4
  have HV := Lib.hid (fun h0 : 0 < n => ev_all free (HSTA.out h0) hn8 ho)
  have HE0 := Lib.hid (fun h0 : 0 < n => (staE_ok (HSTA.out h0)))
  have HST := Lib.hid (fun (k : Nat) (hk : k < n) => ev_step free (ps := ps) (k := k) (by omega) (fun j hj => ho j (by omega)))
  clear ho
  have lz : (evZ ps n).length = n := rowM_len _ _
  have lc : (evC ps n).length = n := rowM_len _ _
  have lt : (evT ps n).length = n := rowM_len _ _
  have HLZ := Lib.hid lz
  have HLT := Lib.hid lt
  have HDR := Lib.hid (fun k (hk : k < n) => evZ_drag ps hk)
  have HTG := Lib.hid (fun k (hk : k < n) => show (evT ps n)[k]?.getD 0 = pT (pc ps k) from rowM_get _ hk)
  have HPL := Lib.hid (show ps.length = ps.length from rfl)
  generalize hpl : ps.length = plen at *
  have HPLEN := Lib.hid hpl
  clear hpl HPL
  go_enter Try.func7, Try.ntmps7
  go_wp2_with fail
  refine c45.mono ?_
  rintro e w1 ⟨vm, vc, vt, rfl, hE, hC, hT, hb⟩
  have HB1 := Lib.hid hb
  have z1 := hb.size
  clear hb c45
  obtain ⟨am, cm, hvm⟩ := hE.form
  rw [lz] at hvm
  subst hvm
  obtain ⟨ac, cc, hvc⟩ := hC.form
  rw [lc] at hvc
  subst hvc
  obtain ⟨at_, ct, hvt⟩ := hT.form
  rw [lt] at hvt
  subst hvt
  obtain ⟨A, hA⟩ : ∃ A, A = w1.alloc (.cells #[.int .i64 d4, .slice am n cm, .int .i64 an4, .int .i64 600] 24) := ⟨_, rfl⟩
  have hzA : A.heap.size = w1.heap.size + 1 := by rw [hA]; simp
  have hb1A : Below w1.heap.size w1 A := by rw [hA]; exact (Below.refl _ _).alloc (Nat.le_refl _) _
  have KK := Lib.hid (show ∀ W, Below A.heap.size A W → W.cell? ⟨w1.heap.size, 0, none⟩ = some (.int .i64 d4) ∧ W.cell? ⟨w1.heap.size, 1, none⟩ = some (.slice am n cm) ∧ W.cell? ⟨w1.heap.size, 2, none⟩ = some (.int .i64 an4) ∧ W.cell? ⟨w1.heap.size, 3, none⟩ = some (.int .i64 600) from fun W h => by
    refine ⟨(h.cell (p := ⟨w1.heap.size, 0, none⟩) (by rw [hzA]; exact Nat.lt_succ_self _)).trans ?_, (h.cell (p := ⟨w1.heap.size, 1, none⟩) (by rw [hzA]; exact Nat.lt_succ_self _)).trans ?_, (h.cell (p := ⟨w1.heap.size, 2, none⟩) (by rw [hzA]; exact Nat.lt_succ_self _)).trans ?_, (h.cell (p := ⟨w1.heap.size, 3, none⟩) (by rw [hzA]; exact Nat.lt_succ_self _)).trans ?_⟩ <;> (rw [hA]; simp [go_sem]))
  have HBA := Lib.hid (show ∀ W, Below A.heap.size A W → Below w.heap.size w W from fun W h => (HB1.out.trans (hb1A.mono z1)).trans (h.mono (by omega)))
  have HEA := Lib.hid (fun W (h : Below A.heap.size A W) => (hE.at hb1A).at h)
  have HCA := Lib.hid (fun W (h : Below A.heap.size A W) => (hC.at hb1A).at h)
  have HTA := Lib.hid (fun W (h : Below A.heap.size A W) => (hT.at hb1A).at h)
  clear hE hC hT hb1A lz lc lt HB1
  by_cases h0 : n = 0
  · subst h0
    have c18 := fun W (h : Below A.heap.size A W) => checkM_any d4 an4 600 _ (evZ ps 0) W (HEA.out W h)
    rw [show evZ ps 0 = [] from rfl] at c18
    rw [moo_none] at c18
    clear HV HE0 HST HDR HTG HSTA HO HIP HEA HCA HTA HPLEN
    go_wp2_with fail
    rw [← hA]
    clear hA
    refine (c18 _ (Below.refl _ _)).mono ?_
    rintro e w2 ⟨rfl, hb⟩
    have HB2 := Lib.hid (HBA.out _ hb)
    clear hb c18 KK HBA
    go_wp2_with fail
    refine (HF.out _).mono ?_
    rintro e w3 ⟨rfl, hb⟩
    have HB3 := Lib.hid (HB2.out.trans (hb.mono HB2.out.size))
    clear hb
    go_wp2_with fail
    go_ret
    exact ⟨rfl, HB3.out⟩
  have hnp : 0 < n := by omega
  have hs := HSTA.out hnp
  obtain ⟨-, -, hm, hcu⟩ := HE0.out hnp
  obtain ⟨l1, l2, l3, l4, l5, hel⟩ := HV.out hnp
  have c23 := fun W (h : Below A.heap.size A W) => pulls_any d4 an4 600 _ _ (evZ ps n) (evC ps n) free W (HEA.out W h) (HCA.out W h)
  have c25 := fun W (h : Below A.heap.size A W) => tensions_any d4 an4 600 _ _ (evZ ps n) (evC ps n) free W (HEA.out W h) (HCA.out W h)
  have c27 := fun W (h : Below A.heap.size A W) => shape_any d4 an4 600 _ _ (evZ ps n) (evC ps n) free W (HEA.out W h) (HCA.out W h)
  have c16 := fun W (h : Below A.heap.size A W) => liftsM_any d4 an4 600 _ (evZ ps n) W (HEA.out W h)
  rw [hcu] at c23
  rw [hs] at c25 c27
  rw [hm] at c16
  have HEL := Lib.hid hel
  have L1 := Lib.hid l1
  have L2 := Lib.hid l2
  have L3 := Lib.hid l3
  have L4 := Lib.hid l4
  have L5 := Lib.hid l5
  clear hs hm hcu l1 l2 l3 l4 l5 hel HV HE0 HSTA
  generalize pulV d4 (evZ ps n) an4 600 (evC ps n) free = PV at *
  generalize tenV d4 (evZ ps n) an4 600 (evC ps n) free = TV at *
  generalize offV d4 (evZ ps n) an4 600 (evC ps n) free = OV at *
  generalize risV d4 (evZ ps n) an4 600 (evC ps n) free = RV at *
  generalize lifV d4 (evZ ps n) an4 600 = LV at *
  go_wp2_with fail
  rw [← hA]
  clear hA
  refine (c23 _ (Below.refl _ _)).mono ?_
  rintro e w2 ⟨v2, rfl, hP, hb⟩
  have hB2 := hb
  obtain ⟨a2, g2, rfl⟩ := hP.form
  rw [L1.out] at hP ⊢
  have H2 := Lib.hid hP
  clear hP hb c23
  obtain ⟨k0, k1, k2, k3⟩ := KK.out _ hB2
  go_wp2_with fail
  refine (c25 _ hB2).mono ?_
  rintro e w3 ⟨v3, rfl, hP, hb⟩
  have hB3 := hB2.trans (hb.mono hB2.size)
  replace H2 := Lib.hid (H2.out.at hb)
  obtain ⟨a3, g3, rfl⟩ := hP.form
  rw [L2.out] at hP ⊢
  have H3 := Lib.hid hP
  clear hP hb c25 k0 k1 k2 k3 hB2
  obtain ⟨k0, k1, k2, k3⟩ := KK.out _ hB3
  go_wp2_with fail
  refine (c27 _ hB3).mono ?_
  rintro e w4 ⟨v4, v5, rfl, hP, hQ, hb⟩
  have hB4 := hB3.trans (hb.mono hB3.size)
  replace H2 := Lib.hid (H2.out.at hb)
  replace H3 := Lib.hid (H3.out.at hb)
  obtain ⟨a4, g4, rfl⟩ := hP.form
  obtain ⟨a5, g5, rfl⟩ := hQ.form
  rw [L3.out] at hP ⊢
  rw [L4.out] at hQ ⊢
  have H4 := Lib.hid hP
  have H5 := Lib.hid hQ
  clear hP hQ hb c27 k0 k1 k2 k3 hB3
  obtain ⟨k0, k1, k2, k3⟩ := KK.out _ hB4
  go_wp2_with fail
  refine (c16 _ hB4).mono ?_
  rintro e w6 ⟨v6, rfl, hP, hb⟩
  have hB6 := hB4.trans (hb.mono hB4.size)
  replace H2 := Lib.hid (H2.out.at hb)
  replace H3 := Lib.hid (H3.out.at hb)
  replace H4 := Lib.hid (H4.out.at hb)
  replace H5 := Lib.hid (H5.out.at hb)
  obtain ⟨a6, g6, rfl⟩ := hP.form
  rw [L5.out] at hP ⊢
  have H6 := Lib.hid hP
  clear hP hb c16 k0 k1 k2 k3 hB4
  obtain ⟨k0, k1, k2, k3⟩ := KK.out _ hB6
  have HB6 := Lib.hid hB6
  go_wp2_with fail
  go_loopw [22, 23, 24] (fun x y i wr => ∃ k : Nat, k ≤ n ∧ i = .int .i64 k ∧ x = .int .i64 (evX free ps k) ∧ y = .int .i64 (evY free ps k) ∧ Below w6.heap.size w6 wr) (fun _ _ i _ => n - (intOf i).toNat)
  case atStart => exact ⟨0, Nat.zero_le _, rfl, rfl, rfl, Below.refl _ _⟩
  case round =>
    obtain ⟨k, hk, rfl, rfl, rfl, hg⟩ := hrel
    clear k0 k1 k2 k3
    have hBr := HB6.out.trans (hg.mono HB6.out.size)
    by_cases hlt : k < n
    · obtain ⟨b0, f0, rfl, hb0, e0, e0'⟩ := H2.out.get k (by rw [L1.out]; exact hlt)
      obtain ⟨b3, f3, rfl, hb3, e3, e3'⟩ := H3.out.get k (by rw [L2.out]; exact hlt)
      obtain ⟨b4, f4, rfl, hb4, e4, e4'⟩ := H4.out.get k (by rw [L3.out]; exact hlt)
      obtain ⟨b5, f5, rfl, hb5, e5, e5'⟩ := H5.out.get k (by rw [L4.out]; exact hlt)
      obtain ⟨b6, f6, rfl, hb6, e6⟩ := H6.out.get k (by rw [L5.out]; exact hlt)
      obtain ⟨bE, fE, rfl, hbE, eL, -, eD, -⟩ := (HEA.out _ hBr).get k (by rw [HLZ.out]; exact hlt)
      obtain ⟨bT, fT, rfl, hbT, eT⟩ := (HTA.out _ hBr).get k (by rw [HLT.out]; exact hlt)
      obtain ⟨hokk, bW, fW, rfl, hbW, eW⟩ := (HIP.out _ (HBA.out _ hBr)).way (k := k) (by rw [HPLEN.out]; omega)
      have m0 := (hg.cell (p := ⟨b0, f0 + k * 2, none⟩) hb0).trans e0
      have m0' := (hg.cell (p := ⟨b0, f0 + k * 2 + 1, none⟩) hb0).trans e0'
      have m3 := (hg.cell (p := ⟨b3, f3 + k * 2, none⟩) hb3).trans e3
      have m3' := (hg.cell (p := ⟨b3, f3 + k * 2 + 1, none⟩) hb3).trans e3'
      have m4 := (hg.cell (p := ⟨b4, f4 + k * 2, none⟩) hb4).trans e4
      have m4' := (hg.cell (p := ⟨b4, f4 + k * 2 + 1, none⟩) hb4).trans e4'
      have m5 := (hg.cell (p := ⟨b5, f5 + k * 2, none⟩) hb5).trans e5
      have m5' := (hg.cell (p := ⟨b5, f5 + k * 2 + 1, none⟩) hb5).trans e5'
      have m6 := (hg.cell (p := ⟨b6, f6 + k, none⟩) hb6).trans e6
      obtain ⟨-, k1, -, -⟩ := KK.out _ hBr
      rw [HDR.out k hlt] at eD
      rw [HTG.out k hlt] at eT
      obtain ⟨s1, s2, da, db, s3, s4, s5, s6⟩ := HST.out k hlt
      obtain ⟨xx, yy, S, v25, vv, P, ha, hb, hc, hd, ta, tb, tc, td, oa, ob, LL, ls, oc, od, ra, rb, l25, l25L, q1, q2, rc, rd, hN⟩ := HEL.out k hlt
      have hwy := hokk.way
      have HDW := Lib.hid (fun W => direction_any (pc ps k) hwy.1 hwy.2 W)
      have HDN := Lib.hid (show dirX false (pc ps k) = 5 ∧ dirY false (pc ps k) = 0 from ⟨rfl, rfl⟩)
      have HG := Lib.hid hg
      have hki : (k : Int) < (n : Int) := by omega
      have hki2 : (k : Int) < (plen : Int) := by omega
      clear e0 e0' e3 e3' e4 e4' e5 e5' e6 hg hBr hokk hb0 hb3 hb4 hb5 hb6
      clear HEL HST HDR HTG HIP H2 H3 H4 H5 H6 L1 L2 L3 L4 L5 HEA HCA HTA
      obtain ⟨n1, n2, n3, n4, n5, n6, n7, n8, n9, n10, n11, n12, n13, n14, n15, n16, n17, n18, n19, n20, n21, n22, n23, n24, n25, n26, n27, n28, j1, j2, j3, j4, j5, j6, j7, j8⟩ := hN
      have i1 := decide_eq_false j1
      have i2 := decide_eq_false j2
      have i3 := decide_eq_false j3
      have i4 := decide_eq_false j4
      have i5 := decide_eq_false j5
      have i6 := decide_eq_false j6
      have i7 := decide_eq_false j7
      have i8 := decide_eq_false j8
      generalize hX1 : evX free ps (k + 1) = X1 at *
      generalize hY1 : evY free ps (k + 1) = Y1 at *
      have HX1 := Lib.hid hX1
      have HY1 := Lib.hid hY1
      clear hX1 hY1
      generalize evX free ps k = X at *
      generalize evY free ps k = Y at *
      generalize pF (pc ps k) = F at *
      generalize pT (pc ps k) = T at *
      generalize (pc ps k).drag = dr at *
      generalize hwl : (pc ps k).way = wl at *
      generalize (el (evZ ps n) k).len = L at *
      generalize LV[k]?.getD 0 = v at *
      generalize pr PV k = h at *
      generalize pr TV k = t at *
      generalize pr OV k = o at *
      generalize pr RV k = r at *
      obtain ⟨h0', h1'⟩ := h
      obtain ⟨t0', t1'⟩ := t
      obtain ⟨o0', o1'⟩ := o
      obtain ⟨r0', r1'⟩ := r
      dsimp only at *
      clear hwl hwy
      cases free
      · as_aux_lemma =>
        obtain ⟨q1', q2'⟩ := HDN.out
        rw [q1'] at s3
        rw [q2'] at s5
        clear q1' q2' HDN HDW eW
        obtain rfl : db = 0 := by rw [← s5]; simp [wrap64]
        rw [Int.add_zero] at s6
        clear s5
        go_wp2_with fail
        go_quiet (fail)
        as_aux_lemma =>
          go_wp2_with fail
          go_quiet (fail)
          as_aux_lemma =>
            go_wp2_with fail
            go_quiet (fail)
            as_aux_lemma =>
              go_wp2_with fail
              go_quiet (fail)
              as_aux_lemma =>
                go_wp2_with fail
                go_quiet (fail)
                as_aux_lemma =>
                  go_wp2_with fail
                  go_roundw
                  case rel => exact ⟨k + 1, by omega, by go_num, by rw [HX1.out, s4], by rw [HY1.out, s6], below_drewN HG.out _⟩
                  case measure => simp [intOf]; omega
      · as_aux_lemma =>
        clear HDN
        go_wp2_with fail
        refine (HDW.out _).mono ?_
        rintro e w8 ⟨rfl, hb⟩
        replace m0 := (hb.cell (p := ⟨b0, f0 + k * 2, none⟩) (World.block_lt_of_cell? _ _ m0)).trans m0
        replace m0' := (hb.cell (p := ⟨b0, f0 + k * 2 + 1, none⟩) (World.block_lt_of_cell? _ _ m0')).trans m0'
        replace m3 := (hb.cell (p := ⟨b3, f3 + k * 2, none⟩) (World.block_lt_of_cell? _ _ m3)).trans m3
        replace m3' := (hb.cell (p := ⟨b3, f3 + k * 2 + 1, none⟩) (World.block_lt_of_cell? _ _ m3')).trans m3'
        replace m4 := (hb.cell (p := ⟨b4, f4 + k * 2, none⟩) (World.block_lt_of_cell? _ _ m4)).trans m4
        replace m4' := (hb.cell (p := ⟨b4, f4 + k * 2 + 1, none⟩) (World.block_lt_of_cell? _ _ m4')).trans m4'
        replace m5 := (hb.cell (p := ⟨b5, f5 + k * 2, none⟩) (World.block_lt_of_cell? _ _ m5)).trans m5
        replace m5' := (hb.cell (p := ⟨b5, f5 + k * 2 + 1, none⟩) (World.block_lt_of_cell? _ _ m5')).trans m5'
        replace m6 := (hb.cell (p := ⟨b6, f6 + k, none⟩) (World.block_lt_of_cell? _ _ m6)).trans m6
        replace k1 := (hb.cell (p := ⟨w1.heap.size, 1, none⟩) (World.block_lt_of_cell? _ _ k1)).trans k1
        replace eL := (hb.cell (p := ⟨bE, fE + k * 4, none⟩) (World.block_lt_of_cell? _ _ eL)).trans eL
        replace eD := (hb.cell (p := ⟨bE, fE + k * 4 + 2, none⟩) (World.block_lt_of_cell? _ _ eD)).trans eD
        replace eT := (hb.cell (p := ⟨bT, fT + k, none⟩) (World.block_lt_of_cell? _ _ eT)).trans eT
        replace HG := Lib.hid (HG.out.trans (hb.mono HG.out.size))
        clear hb HDW eW
        go_wp2_with fail
        go_quiet (fail)
        as_aux_lemma =>
          go_wp2_with fail
          go_quiet (fail)
          as_aux_lemma =>
            go_wp2_with fail
            go_quiet (fail)
            as_aux_lemma =>
              go_wp2_with fail
              go_quiet (fail)
              as_aux_lemma =>
                go_wp2_with fail
                go_quiet (fail)
                as_aux_lemma =>
                  go_wp2_with fail
                  go_roundw
                  case rel => exact ⟨k + 1, by omega, by go_num, by rw [HX1.out, s4], by rw [HY1.out, s6], below_drewN HG.out _⟩
                  case measure => simp [intOf]; omega
    · have hBf := Lib.hid (HBA.out _ hBr)
      obtain rfl : k = n := by omega
      clear hBr hg HEL HST HDR HTG HIP H2 H3 H4 H5 H6
      go_wp2_with fail
      refine (HF.out _).mono ?_
      rintro e w9 ⟨rfl, hb⟩
      have HBg := Lib.hid (hBf.out.trans (hb.mono hBf.out.size))
      clear hb
      go_wp2_with fail
      go_ret
      exact ⟨rfl, HBg.out⟩
end Go.Proofs.Ythogahdnidjelaa

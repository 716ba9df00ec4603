/-
  The walk of BufferKeeps.
-/
import Derived.Test.YtbbaehmfadpgeaaBfZ
import Derived.Deep.CutRange
namespace Go.Proofs.Ytbbaehmfadpgeaa
open Go.RowKit Go.Shelf
set_option linter.unusedSimpArgs false
theorem lessV_okR {a b : Rc} (ha : OkR a) (hb : OkR b) : lessV a b = lsR a b := by
  have h1 : chkR a = 0 := by unfold chkR; rw [if_pos ha]
  have h2 : chkR b = 0 := by unfold chkR; rw [if_pos hb]
  unfold lessV lesE lesV
  rw [if_pos ⟨h1, h2⟩, if_pos ⟨h1, h2⟩]
  simp
set_option maxRecDepth 100000 in
set_option maxHeartbeats 16000000 in
theorem law_keeps (cv : Int) (hcv : 0 ≤ cv ∧ cv ≤ 65535) (v : Value) (ps : List Pc) (w : World) (hP : PcA w v ps) : Calls Try.prog 7 #[.int .u16 cv, v] w fun e w' => e = .returned (.bool true) ∧ Below w.heap.size w w' := by
  obtain ⟨pa, pc, rfl, hps⟩ := hP
  have HPS := Lib.hid (show ∀ j, j < ps.length → ∃ (b off : Nat) (p : Pc), pa = some ⟨b, off, none⟩ ∧ (∀ W, Below w.heap.size w W → pcC W p b (off + j * 5)) from fun j hj => by
    obtain ⟨b, off, e, hb, hc⟩ := hps j hj
    exact ⟨b, off, _, e, fun W hW => hc.keep hb hW⟩)
  clear hps
  generalize ps.length = n at *
  by_cases hlong : 40 < n
  · have hli : (40 : Int) < (n : Int) := by omega
    go_enter Try.func7, Try.ntmps7
    go_wp2_with fail
    refine (fine_any _).mono ?_
    rintro e w1 ⟨rfl, hb⟩
    have HB := Lib.hid hb
    clear hb
    go_wp2_with fail
    go_ret
    exact ⟨by first | rfl | simp, HB.out⟩
  have hn40 : n ≤ 40 := by omega
  have hli : ¬((40 : Int) < (n : Int)) := by omega
  clear hlong
  have hwc : IntKind.i64.wrap cv = cv := by rw [IntKind.wrap_i64]; omega
  have hwt : IntKind.i64.wrap (cv % 1000) = cv % 1000 := by rw [IntKind.wrap_i64]; omega
  have hw1 : IntKind.i64.wrap (1 + cv % 1000) = 1 + cv % 1000 := by rw [IntKind.wrap_i64]; omega
  have hcp : 1 ≤ 1 + cv % 1000 ∧ 1 + cv % 1000 ≤ 16777216 := by omega
  have HCP := Lib.hid (show 0 ≤ 1 + cv % 1000 from by omega)
  have c16 := fun W => new_ok (1 + cv % 1000) hcp W
  have hmm := @run_makeMap Try.prog
  go_enter Try.func7, Try.ntmps7
  go_wp2_with fail
  refine (c16 _).mono ?_
  rintro e w1 ⟨rfl, hb1, hB1⟩
  clear c16
  obtain ⟨w2, hw2⟩ : ∃ w2, w2 = w1.alloc (.map #[] 0) := ⟨_, rfl⟩
  have hB12 : Below w1.heap.size w1 w2 := by rw [hw2]; exact (Below.refl _ _).alloc (Nat.le_refl _) _
  have HI0 := Lib.hid (show KpI w (w.heap.size + 1) w.heap.size w1.heap.size (1 + cv % 1000) 0 w2 from by
    have hl := hb1.lt _ hb1.sb
    refine ⟨[], _, _, fun _ => none, 0, hb1.below hB12, by rw [hw2]; exact mapR_made w1, fun x hx => (by cases hx), Nat.le_refl _, Nat.le_refl _, hB1.trans (hB12.mono hB1.size), fun k hk => ?_, by omega⟩
    omega)
  clear hB12 hb1 hB1
  obtain ⟨bb, hbb⟩ : ∃ b, b = w.heap.size + 1 := ⟨_, rfl⟩
  obtain ⟨MM, hMM⟩ : ∃ b, b = w.heap.size := ⟨_, rfl⟩
  obtain ⟨M2, hM2⟩ : ∃ b, b = w1.heap.size := ⟨_, rfl⟩
  rw [← hbb, ← hM2] at HI0
  have HI1 := Lib.hid (show KpI w bb MM M2 (1 + cv % 1000) 0 w2 by rw [hMM]; exact HI0.out)
  go_upto_region 7 with fail
  rw [← hw2, ← hbb, ← hM2]
  clear hw2 hbb hM2 hMM HI0 hcp hmm
  go_wp2_with fail
  go_loopw [8] (fun iv wr => ∃ i : Nat, i ≤ n ∧ iv = .int .i64 i ∧ KpI w bb MM M2 (1 + cv % 1000) i wr) (fun iv _ => n - (intOf iv).toNat)
  case atStart => exact ⟨0, Nat.zero_le _, rfl, HI1.out⟩
  case round => as_aux_lemma =>
    obtain ⟨i, hi, rfl, hK⟩ := hrel
    by_cases hlt : i < n
    · skip
      obtain ⟨L, S, v, f, c, hBF, hMR, hf, hLi, hci, hB, hS, hM2w⟩ := hK
      obtain ⟨pb, off, p, rfl, hp⟩ := HPS.out i hlt
      obtain ⟨q0, q1, q2, q3, q4, u0, u1, u2, u3, u4⟩ := hp wr hB
      have c43 := fun W => record_any p.p0 p.p1 p.p2 p.p3 p.p4 u0 u1 u2 u3 u4 W
      have hok := recP_ok (p0 := p.p0) (p1 := p.p1) (p2 := p.p2) (p4 := p.p4) u3
      obtain ⟨r, hr⟩ : ∃ r, r = recP p.p0 p.p1 p.p2 p.p3 p.p4 := ⟨_, rfl⟩
      rw [← hr] at c43 hok
      unfold vR at c43
      have hii : (i : Int) < (n : Int) := by omega
      have HOK := Lib.hid hok
      have HBFr := Lib.hid hBF
      have HMRr := Lib.hid hMR
      have HF := Lib.hid hf
      have HLI := Lib.hid (show L.length ≤ i ∧ c ≤ i ∧ i < 40 from ⟨hLi, hci, by omega⟩)
      have HBr := Lib.hid hB
      have HS := Lib.hid hS
      have HM2 := Lib.hid hM2w
      clear hok hBF hMR hf hLi hci hB hS hM2w hr u0 u1 u2 u3 u4 hp
      go_wp2_with fail
      refine (c43 _).mono ?_
      rintro e w3 ⟨rfl, hb⟩
      have HB3 := Lib.hid hb
      clear hb c43 q0 q1 q2 q3 q4
      obtain ⟨W3, hW3⟩ : ∃ W3, W3 = w3.alloc (.cells #[.int .i64 r.id, .int .i64 r.cls, .int .i64 r.made, .int .i64 r.size, .int .i64 r.packed] 23) := ⟨_, rfl⟩
      obtain ⟨Bx, hBx⟩ : ∃ B, B = w3.heap.size := ⟨_, rfl⟩
      have hX3 : BxR W3 Bx r := by rw [hW3, hBx]; exact BxR.new w3 r
      have hB33 : Below w3.heap.size w3 W3 := by rw [hW3]; exact (Below.refl _ _).alloc (Nat.le_refl _) _
      have hBr3 : Below wr.heap.size wr W3 := HB3.out.trans (hB33.mono HB3.out.size)
      have HX3 := Lib.hid hX3
      have HBF3 := Lib.hid (HBFr.out.below hBr3)
      have HMR3 := Lib.hid (HMRr.out.same (hBr3.block M2 HMRr.out.lt))
      have HBw3 := Lib.hid (HBr.out.trans (hBr3.mono HBr.out.size))
      have HSx := Lib.hid (show ∀ k, S k → k < Bx ∧ w.heap.size ≤ k ∧ k ≠ M2 from fun k hk => by
        have h1 := HBFr.out.lt k hk
        have h2 := HS.out k hk
        have h3 := HB3.out.size
        omega)
      go_upto_region 11 with fail
      rw [← hW3, ← hBx]
      have HBxl := Lib.hid (show Bx < W3.heap.size from hX3.lt)
      clear hW3 hBx hX3 hB33 hBr3 HB3 HBFr HMRr HBr HS
      have c31 := Held_row W3 HBF3.out (by have := HLI.out; omega)
      go_wp2_with fail
      refine c31.mono ?_
      rintro e w4 ⟨dv1, rfl, hr1, hb⟩
      clear c31
      have HR1 := Lib.hid hr1
      have HBF4 := Lib.hid (HBF3.out.below hb)
      have HMR4 := Lib.hid (HMR3.out.same (hb.block M2 HMR3.out.lt))
      have HBw4 := Lib.hid (HBw3.out.trans (hb.mono HBw3.out.size))
      have HX4 := Lib.hid (HX3.out.keep hb)
      have HZ34 := Lib.hid hb.size
      clear hr1 hb HBF3 HMR3 HBw3 HX3
      obtain ⟨k0, k1, k2, k3, k4⟩ := HX4.out.all
      by_cases hid : r.id ∈ idsL L
      · as_aux_lemma =>
          have c22 := put_have r w4 HBF4.out HOK.out hid
          have HID := Lib.hid hid
          clear hid
          go_wp2_with fail
          refine c22.mono ?_
          rintro e w5 ⟨rfl, hb⟩
          clear c22
          have HBF5 := Lib.hid (HBF4.out.below hb)
          have HMR5 := Lib.hid (HMR4.out.same (hb.block M2 HMR4.out.lt))
          have HBw5 := Lib.hid (HBw4.out.trans (hb.mono HBw4.out.size))
          have HX5 := Lib.hid (HX4.out.keep hb)
          have HR15 := Lib.hid (row_below HR1.out hb)
          clear hb k0 k1 k2 k3 k4
          have c31 := Held_row w5 HBF5.out (by have := HLI.out; omega)
          go_wp2_with fail
          refine c31.mono ?_
          rintro e w6 ⟨dv2, rfl, hr2, hb⟩
          clear c31
          have HBF6 := Lib.hid (HBF5.out.below hb)
          have HMR6 := Lib.hid (HMR5.out.same (hb.block M2 HMR5.out.lt))
          have HBw6 := Lib.hid (HBw5.out.trans (hb.mono HBw5.out.size))
          have HX6 := Lib.hid (HX5.out.keep hb)
          have HH1 := Lib.hid (hsAt_own (row_below HR15.out hb))
          have HH2 := Lib.hid (hsAt_own hr2)
          clear hr2 hb
          have c30 := held_same dv1 dv2 L w6 HH1.out HH2.out (by have := HLI.out; omega)
          obtain ⟨k0, k1, k2, k3, k4⟩ := HX6.out.all
          go_wp2_with fail
          refine c30.mono ?_
          rintro e w7 ⟨rfl, hb⟩
          clear c30
          have HBF7 := Lib.hid (HBF6.out.below hb)
          have HMR7 := Lib.hid (HMR6.out.same (hb.block M2 HMR6.out.lt))
          have HBw7 := Lib.hid (HBw6.out.trans (hb.mono HBw6.out.size))
          have HX7 := Lib.hid (HX6.out.keep hb)
          have HH17 := Lib.hid (HH1.out.keep hb)
          clear hb k0 k1 k2 k3 k4
          have c44 := find44_any dv1 L r.id w7 HH17.out (by have := HLI.out; omega)
          obtain ⟨k0, k1, k2, k3, k4⟩ := HX7.out.all
          go_wp2_with fail
          refine c44.mono ?_
          rintro e w8 ⟨z, rfl, hz, rfl⟩
          clear c44
          have hz0 : 0 ≤ z := by
            rcases hz with ⟨rfl, hz⟩ | ⟨k, hk, rfl, _⟩
            · exfalso
              obtain ⟨y, hy, e⟩ := List.mem_map.1 HID.out
              exact hz y hy e
            · omega
          clear hz
          go_wp2_with fail
          go_roundw
          case rel => exact ⟨i + 1, by omega, by go_num, L, S, v, f, c, HBF7.out, HMR7.out, HF.out, Nat.le_succ_of_le HLI.out.1, Nat.le_succ_of_le HLI.out.2.1, HBw7.out, fun k hk => (HSx.out k hk).2, HM2.out⟩
          case measure => simp [intOf]; omega
      · by_cases hlim : 1 + cv % 1000 < r.packed
        · as_aux_lemma =>
            have c22 := put_limit r w4 HBF4.out HOK.out hid hlim
            have HID := Lib.hid hid
            clear hid hlim
            go_wp2_with fail
            refine c22.mono ?_
            rintro e w5 ⟨rfl, hb⟩
            clear c22
            have HBF5 := Lib.hid (HBF4.out.below hb)
            have HMR5 := Lib.hid (HMR4.out.same (hb.block M2 HMR4.out.lt))
            have HBw5 := Lib.hid (HBw4.out.trans (hb.mono HBw4.out.size))
            have HX5 := Lib.hid (HX4.out.keep hb)
            have HR15 := Lib.hid (row_below HR1.out hb)
            clear hb k0 k1 k2 k3 k4
            have c31 := Held_row w5 HBF5.out (by have := HLI.out; omega)
            go_wp2_with fail
            refine c31.mono ?_
            rintro e w6 ⟨dv2, rfl, hr2, hb⟩
            clear c31
            have HBF6 := Lib.hid (HBF5.out.below hb)
            have HMR6 := Lib.hid (HMR5.out.same (hb.block M2 HMR5.out.lt))
            have HBw6 := Lib.hid (HBw5.out.trans (hb.mono HBw5.out.size))
            have HX6 := Lib.hid (HX5.out.keep hb)
            have HH1 := Lib.hid (hsAt_own (row_below HR15.out hb))
            have HH2 := Lib.hid (hsAt_own hr2)
            clear hr2 hb
            have c30 := held_same dv1 dv2 L w6 HH1.out HH2.out (by have := HLI.out; omega)
            obtain ⟨k0, k1, k2, k3, k4⟩ := HX6.out.all
            go_wp2_with fail
            refine c30.mono ?_
            rintro e w7 ⟨rfl, hb⟩
            clear c30
            have HBF7 := Lib.hid (HBF6.out.below hb)
            have HMR7 := Lib.hid (HMR6.out.same (hb.block M2 HMR6.out.lt))
            have HBw7 := Lib.hid (HBw6.out.trans (hb.mono HBw6.out.size))
            have HX7 := Lib.hid (HX6.out.keep hb)
            have HH17 := Lib.hid (HH1.out.keep hb)
            clear hb k0 k1 k2 k3 k4
            have c44 := find44_any dv1 L r.id w7 HH17.out (by have := HLI.out; omega)
            obtain ⟨k0, k1, k2, k3, k4⟩ := HX7.out.all
            go_wp2_with fail
            refine c44.mono ?_
            rintro e w8 ⟨z, rfl, hz, rfl⟩
            clear c44
            have hz0 : z < 0 := by
              rcases hz with ⟨rfl, hz⟩ | ⟨k, hk, rfl, e⟩
              · omega
              · exact absurd (List.mem_map.2 ⟨L[k], List.getElem_mem hk, e⟩) HID.out
            clear hz
            go_wp2_with fail
            go_roundw
            case rel => exact ⟨i + 1, by omega, by go_num, L, S, v, f, c, HBF7.out, HMR7.out, HF.out, Nat.le_succ_of_le HLI.out.1, Nat.le_succ_of_le HLI.out.2.1, HBw7.out, fun k hk => (HSx.out k hk).2, HM2.out⟩
            case measure => simp [intOf]; omega
        · as_aux_lemma =>
            have HFIT := Lib.hid (putP_ok (L := L) (r := r) HCP.out)
            obtain ⟨L2, D, he, hfit⟩ := HFIT.out
            have c22 := put_fit r w4 HBF4.out HCP.out (by have := HLI.out; omega) HOK.out hid hlim he
            have HKF := Lib.hid (kp_f hid HF.out hfit)
            have HKN := Lib.hid (kp_new hfit)
            have HKS := Lib.hid (kp_small hid HBF4.out.nd hfit)
            have HKD := Lib.hid (kp_drop hid HF.out (insL_ok HOK.out HBF4.out.ok) (insL_ord HBF4.out.ord (fun x hx e => hid (e ▸ List.mem_map.2 ⟨x, hx, rfl⟩))) hfit)
            have HFULL := Lib.hid (show D ≠ [] → ∀ x ∈ L2, Full x from hfit.full (by rw [insL_length]; have := HLI.out; omega))
            have HLEN := Lib.hid (show L2.length + D.length = L.length + 1 from by have := hfit.len; rwa [insL_length] at this)
            have HUS := Lib.hid hfit.fits
            clear hid hlim he hfit HFIT
            go_wp2_with fail
            refine c22.mono ?_
            rintro e w5 ⟨v5, S5, dv, rfl, hb5, hf5, hrow, hfar⟩
            clear c22 k0 k1 k2 k3 k4
            have HS4 := Lib.hid (show ∀ k, S k → k < W3.heap.size from fun k hk => by have := (HSx.out k hk).1; have := HBxl.out; omega)
            have HBF5 := Lib.hid hb5
            have HMR5 := Lib.hid (HMR4.out.frs hf5 (fun e => (HSx.out M2 e).2.2 rfl))
            have HR15 := Lib.hid (row_frs HR1.out hf5 HS4.out)
            have HX5 := Lib.hid (show BxR w5 Bx r from (hf5.block Bx HX4.out.lt (fun e => by have := (HSx.out Bx e).1; omega)).trans HX4.out)
            have HBw5 := Lib.hid (HBw4.out.trans (hf5.below (fun k hk => (HSx.out k hk).2.1) HBw4.out.size))
            have HSy := Lib.hid (show ∀ k, S5 k → w.heap.size ≤ k ∧ k ≠ M2 from fun k hk => by
              have h1 : M2 < w4.heap.size := by
                obtain ⟨D0, ⟨es, clock, hbb, hr0⟩, h2⟩ := HMR4.out
                exact (Array.getElem?_eq_some_iff.1 hbb).1
              have h2 := HBw4.out.size
              rcases hf5.own k hk with e | e
              · exact (HSx.out k e).2
              · omega)
            have HRD := Lib.hid hrow
            clear hb5 hf5 hrow hfar HR1 HBF4 HMR4 HBw4 HX4 HS4
            have hl2 : L2.length ≤ 1000 := by have := HLEN.out; have := HLI.out; omega
            have c31 := Held_row w5 HBF5.out hl2
            go_wp2_with fail
            refine c31.mono ?_
            rintro e w6 ⟨dv2, rfl, hr2, hb⟩
            clear c31
            have HBF6 := Lib.hid (HBF5.out.below hb)
            have HMR6 := Lib.hid (HMR5.out.same (hb.block M2 HMR5.out.lt))
            have HBw6 := Lib.hid (HBw5.out.trans (hb.mono HBw5.out.size))
            have HX6 := Lib.hid (HX5.out.keep hb)
            have HR16 := Lib.hid (row_below HR15.out hb)
            have HR26 := Lib.hid hr2
            have HRD6 := Lib.hid (row_below HRD.out hb)
            clear hr2 hb HBF5 HMR5 HBw5 HX5 HR15 HRD
            obtain ⟨V, hrun, hMV, hgV⟩ := HMR6.out.put (by have := HLI.out; unfold maxLen; omega) (x := r.id) (by have := HOK.out; unfold OkR at this; omega) (by have := HOK.out; unfold OkR at this; omega) r
            have HBFV := Lib.hid (HBF6.out.grew hgV (fun k hk e => by cases hk; exact (HSy.out _ e).2 rfl))
            have HMV := Lib.hid (show MapR V M2 _ (putF f r) from hMV)
            have HXV := Lib.hid (show BxR V Bx r from grew_block HX6.out HMR6.out hgV)
            have HH1 := Lib.hid (hsAt_own (grew_row HR16.out HMR6.out hgV))
            have HH2 := Lib.hid (hsAt_own (grew_row HR26.out HMR6.out hgV))
            have HRDV := Lib.hid (grew_row HRD6.out HMR6.out hgV)
            have HBwV := Lib.hid (HBw6.out.grown hgV HBw6.out.size (fun k hk => by cases hk; exact HM2.out))
            obtain ⟨k0, k1, k2, k3, k4⟩ := HX6.out.all
            have hlD : (D.length : Int) = (L.length : Int) + 1 - (L2.length : Int) := by have := HLEN.out; omega
            unfold vR at hrun
            obtain ⟨p1, c1, rfl, hc1⟩ := HH1.out.at
            obtain ⟨p2, c2, rfl, hc2⟩ := HH2.out.at
            have HC1 := Lib.hid hc1
            have HC2 := Lib.hid hc2
            clear hc1 hc2
            obtain ⟨pd, cd, hdv, hcd⟩ : ∃ pd cd, dv = .slice pd D.length cd ∧ ∀ j (hj : j < D.length), ∃ g, pd = some ⟨g, 0, none⟩ ∧ g < V.heap.size ∧ V.cell? ⟨g, j, none⟩ = some (.int .i64 D[j]) := by
              by_cases h0 : 0 < D.length
              · obtain ⟨g, c, e, _, hc⟩ := own_cell HRDV.out h0
                exact ⟨_, c, e, fun j hj => ⟨g, rfl, World.block_lt_of_cell? V _ (hc j hj), hc j hj⟩⟩
              · obtain ⟨p, c, e, _⟩ := own_slice (own_base HRDV.out (Nat.zero_le _))
                exact ⟨p, c, e, fun j hj => by omega⟩
            subst hdv
            have HCD := Lib.hid hcd
            clear hcd hMV hgV
            skip
            skip
            have hb1 : (L2.length : Int) ≤ 41 ∧ (D.length : Int) ≤ 41 ∧ (L.length : Int) ≤ 40 := by have := HLEN.out; have := HLI.out; omega
            obtain ⟨m, hm⟩ : ∃ m, m = L2.length := ⟨_, rfl⟩
            obtain ⟨dn, hdn⟩ : ∃ m, m = D.length := ⟨_, rfl⟩
            obtain ⟨ln, hln⟩ : ∃ m, m = L.length := ⟨_, rfl⟩
            rw [← hm, ← hdn, ← hln] at hlD hb1
            rw [← hm, ← hdn, ← hln]
            have HM := Lib.hid hm
            have HDN := Lib.hid hdn
            have HLN := Lib.hid hln
            clear hm hdn hln
            have hsum : (m : Int) + (dn : Int) = (ln : Int) + 1 := by omega
            clear hlD
            have HOKL := Lib.hid HBFV.out.ok
            have HORD := Lib.hid HBFV.out.ord
            clear HR16 HR26 HRD6 HRDV HBF6 HMR6 HBw6 HX6
            have hli2 : (m : Int) ≤ 41 := hb1.1
            have hli3 : (dn : Int) ≤ 41 := hb1.2.1
            have hli4 : (ln : Int) ≤ 40 := hb1.2.2
            clear hb1
            go_upto_region 20 with fail
            clear hrun k0 k1 k2 k3 k4 hsum
            skip
            have c32 := fun W (h : Below V.heap.size V W) => Used_any W (HBFV.out.below h) hl2
            have C32 := Lib.hid c32
            clear c32
            have HC2X := Lib.hid (show ∀ k, k < m → ∃ (g : Nat) (x : Hd), p2 = some ⟨g, 0, none⟩ ∧ x ∈ L2 ∧ L2[k]? = some x ∧ (∀ W1, Below V.heap.size V W1 → W1.cell? ⟨g, k * 7, none⟩ = some (Value.int .i64 x.r.id) ∧ W1.cell? ⟨g, k * 7 + 1, none⟩ = some (Value.int .i64 x.r.cls) ∧ W1.cell? ⟨g, k * 7 + 2, none⟩ = some (Value.int .i64 x.r.made) ∧ W1.cell? ⟨g, k * 7 + 3, none⟩ = some (Value.int .i64 x.r.size) ∧ W1.cell? ⟨g, k * 7 + 4, none⟩ = some (Value.int .i64 x.r.packed) ∧ W1.cell? ⟨g, k * 7 + 5, none⟩ = some (Value.bool x.small) ∧ W1.cell? ⟨g, k * 7 + 6, none⟩ = some (Value.int .i64 x.sent)) from fun k hk => by
              rw [HM.out] at hk
              obtain ⟨g, e, hg, h3⟩ := HC2.out k hk
              exact ⟨g, L2[k], e, List.getElem_mem hk, List.getElem?_eq_getElem hk, fun W1 h => ⟨(h.cell (p := ⟨g, k * 7, none⟩) hg).trans h3.1, (h.cell (p := ⟨g, k * 7 + 1, none⟩) hg).trans h3.2.1, (h.cell (p := ⟨g, k * 7 + 2, none⟩) hg).trans h3.2.2.1, (h.cell (p := ⟨g, k * 7 + 3, none⟩) hg).trans h3.2.2.2.1, (h.cell (p := ⟨g, k * 7 + 4, none⟩) hg).trans h3.2.2.2.2.1, (h.cell (p := ⟨g, k * 7 + 5, none⟩) hg).trans h3.2.2.2.2.2.1, (h.cell (p := ⟨g, k * 7 + 6, none⟩) hg).trans h3.2.2.2.2.2.2⟩⟩)
            have HC1X := Lib.hid (show ∀ k, k < ln → ∃ (g : Nat) (x : Hd), p1 = some ⟨g, 0, none⟩ ∧ x ∈ L ∧ L[k]? = some x ∧ (∀ W1, Below V.heap.size V W1 → W1.cell? ⟨g, k * 7 + 5, none⟩ = some (Value.bool x.small)) from fun k hk => by
              rw [HLN.out] at hk
              obtain ⟨g, e, hg, h3⟩ := HC1.out k hk
              exact ⟨g, L[k], e, List.getElem_mem hk, List.getElem?_eq_getElem hk, fun W1 h => (h.cell (p := ⟨g, k * 7 + 5, none⟩) hg).trans h3.2.2.2.2.2.1⟩)
            have HCDX := Lib.hid (show ∀ j, j < dn → ∃ (g : Nat) (e : Rc), pd = some ⟨g, 0, none⟩ ∧ OkR e ∧ (∀ x ∈ L2, lsR e x.r = true ∧ Full x) ∧ (∀ W1, Below V.heap.size V W1 → W1.cell? ⟨g, j, none⟩ = some (.int .i64 e.id) ∧ (Instr.lookup 75 (.map (some M2)) (.int .i64 e.id) true).run Try.prog W1 = .ok (.tuple #[.agg #[.int .i64 e.id, .int .i64 e.cls, .int .i64 e.made, .int .i64 e.size, .int .i64 e.packed], .bool true]) W1) from fun j hj => by
              rw [HDN.out] at hj
              obtain ⟨g, e, hg, h3⟩ := HCD.out j hj
              obtain ⟨y, hy, hyd, hyf, hyl⟩ := HKD.out _ (List.getElem_mem hj)
              refine ⟨g, y, e, hy, fun x hx => ⟨hyl x hx, HFULL.out (fun h => by rw [h] at hj; simp at hj) x hx⟩, fun W1 h => ⟨(h.cell (p := ⟨g, j, none⟩) hg).trans (by rw [h3, hyd]), ?_⟩⟩
              have q := (HMV.out.same (h.block M2 HMV.out.lt)).look_ok (x := y.id) (by unfold OkR at hy; omega) (by unfold OkR at hy; omega)
              rw [hyd, hyf, ← hyd] at q
              exact q)
            have HLK := Lib.hid (show ∀ x ∈ L2, ∀ W1, Below V.heap.size V W1 → (Instr.lookup 75 (.map (some M2)) (.int .i64 x.r.id) false).run Try.prog W1 = .ok (.agg #[.int .i64 x.r.id, .int .i64 x.r.cls, .int .i64 x.r.made, .int .i64 x.r.size, .int .i64 x.r.packed]) W1 from fun x hx W1 h => by
              have hy := HOKL.out x hx
              have q := (HMV.out.same (h.block M2 HMV.out.lt)).look (x := x.r.id) (by unfold OkR at hy; omega) (by unfold OkR at hy; omega)
              rw [HKF.out x hx] at q
              exact q)
            have HUB := Lib.hid (show ∀ k, k < m → 0 ≤ usL (L2.take k) ∧ usL (L2.take k) ≤ 16777216000 from fun k hk => by
              have := usL_bd2 HOKL.out k
              omega)
            have HUS2 := Lib.hid (show ∀ k x, L2[k]? = some x → usL (L2.take (k + 1)) = usL (L2.take k) + byH x from fun k x h => by
              obtain ⟨hk, e⟩ := List.getElem?_eq_some_iff.1 h
              rw [usL_take hk, e])
            have HUE := Lib.hid (show usL (L2.take m) = usL L2 from by rw [HM.out, List.take_length])
            have HPV := Lib.hid (show ∀ k q x y, L2[k]? = some x → L2[q]? = some y → k = q + 1 → lessV x.r y.r = true from fun k q x y h1 h2 e => by
              obtain ⟨hk, e1⟩ := List.getElem?_eq_some_iff.1 h1
              obtain ⟨hq, e2⟩ := List.getElem?_eq_some_iff.1 h2
              subst e
              rw [lessV_okR (HOKL.out x (List.mem_of_getElem? h1)) (HOKL.out y (List.mem_of_getElem? h2)), ← e1, ← e2]
              exact ord_next HORD.out hk)
            go_wp2_with fail
            go_loopw [14, 15] (fun sv kv w7 => ∃ k : Nat, k ≤ m ∧ sv = .int .i64 (usL (L2.take k)) ∧ kv = .int .i64 k ∧ Below V.heap.size V w7) (fun _ kv _ => m - (intOf kv).toNat)
            case atStart => exact ⟨0, Nat.zero_le _, by simp [usL], rfl, Below.refl _ _⟩
            case round => as_aux_lemma =>
              obtain ⟨k, hk, rfl, rfl, hB7⟩ := hrel
              skip
              have HB7 := Lib.hid hB7
              clear hB7
              by_cases hkm : k < m
              · skip
                obtain ⟨g2, x, rfl, hx, hxk, hxc⟩ := HC2X.out k hkm
                have HXC := Lib.hid hxc
                have HXL := Lib.hid hx
                have HXK := Lib.hid hxk
                have HUK := Lib.hid (HUS2.out k x hxk)
                have hub := HUB.out k hkm
                generalize usL (L2.take k) = us at *
                have hby : 0 ≤ byH x ∧ byH x ≤ 16777216 := by
                  have h2 := HOKL.out x hx
                  unfold OkR at h2
                  unfold byH
                  split <;> omega
                have hkmi : (k : Int) < (m : Int) := by omega
                have c45 := fun W => bytes45_any x W
                unfold vH at c45
                obtain ⟨y0, y1, y2, y3, y4, y5, y6⟩ := hxc _ HB7.out
                clear hx hxk hxc
                go_wp2_with fail
                refine (c45 _).mono ?_
                rintro e w8 ⟨rfl, hb⟩
                have HB8 := Lib.hid (HB7.out.trans (hb.mono HB7.out.size))
                clear hb c45 y0 y1 y2 y3 y4 y5 y6
                have hw8 : IntKind.i64.wrap (us + byH x) = us + byH x := by rw [IntKind.wrap_i64]; omega
                go_upto_region 25 with fail
                go_cut [142] from 110 to 142 (fun s142 wc => s142 = Value.bool false ∧ Below V.heap.size V wc)
                case first => as_aux_lemma =>
                  by_cases hk0 : k = 0
                  · have hk1 : ¬((0 : Int) < (k : Int)) := by omega
                    have hk2 : (k : Int) ≤ 0 := by omega
                    clear hk0
                    have KQ := Lib.hid (show ∀ W1, Below V.heap.size V W1 → W1.cell? ⟨g2, k * 7, none⟩ = some (Value.int .i64 x.r.id) ∧ W1.cell? ⟨g2, k * 7 + 1, none⟩ = some (Value.int .i64 x.r.cls) ∧ W1.cell? ⟨g2, k * 7 + 2, none⟩ = some (Value.int .i64 x.r.made) ∧ W1.cell? ⟨g2, k * 7 + 3, none⟩ = some (Value.int .i64 x.r.size) ∧ W1.cell? ⟨g2, k * 7 + 4, none⟩ = some (Value.int .i64 x.r.packed) ∧ (Instr.lookup 75 (.map (some M2)) (.int .i64 x.r.id) false).run Try.prog W1 = .ok (.agg #[.int .i64 x.r.id, .int .i64 x.r.cls, .int .i64 x.r.made, .int .i64 x.r.size, .int .i64 x.r.packed]) W1 from fun W1 h => by
                      obtain ⟨a0, a1, a2, a3, a4, a5, a6⟩ := HXC.out W1 h
                      exact ⟨a0, a1, a2, a3, a4, HLK.out x HXL.out W1 h⟩)
                    have HD := Lib.hid (show Below V.heap.size V w8.drew from HB8.out.drew)
                    go_upto_region 25 with fail
                    refine wp_region_held_drew (S := fun w' => w'.cell? ⟨g2, k * 7, none⟩ = some (Value.int .i64 x.r.id) ∧ w'.cell? ⟨g2, k * 7 + 1, none⟩ = some (Value.int .i64 x.r.cls) ∧ w'.cell? ⟨g2, k * 7 + 2, none⟩ = some (Value.int .i64 x.r.made) ∧ w'.cell? ⟨g2, k * 7 + 3, none⟩ = some (Value.int .i64 x.r.size) ∧ w'.cell? ⟨g2, k * 7 + 4, none⟩ = some (Value.int .i64 x.r.packed) ∧ (Instr.lookup 75 (.map (some M2)) (.int .i64 x.r.id) false).run Try.prog w' = .ok (.agg #[.int .i64 x.r.id, .int .i64 x.r.cls, .int .i64 x.r.made, .int .i64 x.r.size, .int .i64 x.r.packed]) w') (by kernel_rfl) (KQ.out _ HD.out) (fun hHeld => ?_)
                    refine wpAnyH_take (i := 0) (oi := _) (v := Value.slice (some ⟨g2, 0, none⟩) m c2) rfl (by kernel_rfl) (by kernel_rfl) (by kernel_rfl) (fun _ _ _ h => h) (Or.inl ⟨by rfl, fun w' hSw => ?_⟩) hHeld ?_
                    · obtain ⟨t0, t1, t2, t3, t4, t5⟩ := hSw
                      go_simp
                      try simp [*]
                      try (intro hh; exfalso; omega)
                      try omega
                    try simp only [Act.put, List.setIfInBounds_toArray, List.set_cons_zero, List.set_cons_succ, List.getElem_toArray, List.getElem_cons_succ, List.getElem_cons_zero]
                    refine wpAnyH_take (i := 1) (oi := _) (v := Value.int .i64 (k : Int)) rfl (by kernel_rfl) (by kernel_rfl) (by kernel_rfl) (fun _ _ _ h => h) (Or.inl ⟨by rfl, fun w' hSw => ?_⟩) hHeld ?_
                    · obtain ⟨t0, t1, t2, t3, t4, t5⟩ := hSw
                      go_simp
                      try simp [*]
                      try (intro hh; exfalso; omega)
                      try omega
                    try simp only [Act.put, List.setIfInBounds_toArray, List.set_cons_zero, List.set_cons_succ, List.getElem_toArray, List.getElem_cons_succ, List.getElem_cons_zero]
                    refine wpAnyH_take (i := 2) (oi := _) (v := Value.pointer (some ⟨g2, k * 7, none⟩)) rfl (by kernel_rfl) (by kernel_rfl) (by kernel_rfl) (fun _ _ _ h => h) (Or.inl ⟨by rfl, fun w' hSw => ?_⟩) hHeld ?_
                    · obtain ⟨t0, t1, t2, t3, t4, t5⟩ := hSw
                      go_simp
                      try simp [*]
                      try (intro hh; exfalso; omega)
                      try omega
                    try simp only [Act.put, List.setIfInBounds_toArray, List.set_cons_zero, List.set_cons_succ, List.getElem_toArray, List.getElem_cons_succ, List.getElem_cons_zero]
                    refine wpAnyH_take (i := 3) (oi := _) (v := Value.pointer (some ⟨g2, k * 7, none⟩)) rfl (by kernel_rfl) (by kernel_rfl) (by kernel_rfl) (fun _ _ _ h => h) (Or.inl ⟨by rfl, fun w' hSw => ?_⟩) hHeld ?_
                    · obtain ⟨t0, t1, t2, t3, t4, t5⟩ := hSw
                      go_simp
                      try simp [*]
                      try (intro hh; exfalso; omega)
                      try omega
                    try simp only [Act.put, List.setIfInBounds_toArray, List.set_cons_zero, List.set_cons_succ, List.getElem_toArray, List.getElem_cons_succ, List.getElem_cons_zero]
                    refine wpAnyH_take (i := 4) (oi := _) (v := Value.agg #[Value.int .i64 x.r.id, Value.int .i64 x.r.cls, Value.int .i64 x.r.made, Value.int .i64 x.r.size, Value.int .i64 x.r.packed]) rfl (by kernel_rfl) (by kernel_rfl) (by kernel_rfl) (fun _ _ _ h => h) (Or.inl ⟨by rfl, fun w' hSw => ?_⟩) hHeld ?_
                    · obtain ⟨t0, t1, t2, t3, t4, t5⟩ := hSw
                      go_simp
                      try simp [*]
                      try (intro hh; exfalso; omega)
                      try omega
                    try simp only [Act.put, List.setIfInBounds_toArray, List.set_cons_zero, List.set_cons_succ, List.getElem_toArray, List.getElem_cons_succ, List.getElem_cons_zero]
                    refine wpAnyH_take (i := 5) (oi := _) (v := Value.map (some M2)) rfl (by kernel_rfl) (by kernel_rfl) (by kernel_rfl) (fun _ _ _ h => h) (Or.inl ⟨by rfl, fun w' hSw => ?_⟩) hHeld ?_
                    · obtain ⟨t0, t1, t2, t3, t4, t5⟩ := hSw
                      go_simp
                      try simp [*]
                      try (intro hh; exfalso; omega)
                      try omega
                    try simp only [Act.put, List.setIfInBounds_toArray, List.set_cons_zero, List.set_cons_succ, List.getElem_toArray, List.getElem_cons_succ, List.getElem_cons_zero]
                    refine wpAnyH_take (i := 6) (oi := _) (v := Value.slice (some ⟨g2, 0, none⟩) m c2) rfl (by kernel_rfl) (by kernel_rfl) (by kernel_rfl) (fun _ _ _ h => h) (Or.inl ⟨by rfl, fun w' hSw => ?_⟩) hHeld ?_
                    · obtain ⟨t0, t1, t2, t3, t4, t5⟩ := hSw
                      go_simp
                      try simp [*]
                      try (intro hh; exfalso; omega)
                      try omega
                    try simp only [Act.put, List.setIfInBounds_toArray, List.set_cons_zero, List.set_cons_succ, List.getElem_toArray, List.getElem_cons_succ, List.getElem_cons_zero]
                    refine wpAnyH_take (i := 7) (oi := _) (v := Value.int .i64 (k : Int)) rfl (by kernel_rfl) (by kernel_rfl) (by kernel_rfl) (fun _ _ _ h => h) (Or.inl ⟨by rfl, fun w' hSw => ?_⟩) hHeld ?_
                    · obtain ⟨t0, t1, t2, t3, t4, t5⟩ := hSw
                      go_simp
                      try simp [*]
                      try (intro hh; exfalso; omega)
                      try omega
                    try simp only [Act.put, List.setIfInBounds_toArray, List.set_cons_zero, List.set_cons_succ, List.getElem_toArray, List.getElem_cons_succ, List.getElem_cons_zero]
                    refine wpAnyH_take (i := 8) (oi := _) (v := Value.pointer (some ⟨g2, k * 7, none⟩)) rfl (by kernel_rfl) (by kernel_rfl) (by kernel_rfl) (fun _ _ _ h => h) (Or.inl ⟨by rfl, fun w' hSw => ?_⟩) hHeld ?_
                    · obtain ⟨t0, t1, t2, t3, t4, t5⟩ := hSw
                      go_simp
                      try simp [*]
                      try (intro hh; exfalso; omega)
                      try omega
                    try simp only [Act.put, List.setIfInBounds_toArray, List.set_cons_zero, List.set_cons_succ, List.getElem_toArray, List.getElem_cons_succ, List.getElem_cons_zero]
                    refine wpAnyH_take (i := 9) (oi := _) (v := Value.pointer (some ⟨g2, k * 7, none⟩)) rfl (by kernel_rfl) (by kernel_rfl) (by kernel_rfl) (fun _ _ _ h => h) (Or.inl ⟨by rfl, fun w' hSw => ?_⟩) hHeld ?_
                    · obtain ⟨t0, t1, t2, t3, t4, t5⟩ := hSw
                      go_simp
                      try simp [*]
                      try (intro hh; exfalso; omega)
                      try omega
                    try simp only [Act.put, List.setIfInBounds_toArray, List.set_cons_zero, List.set_cons_succ, List.getElem_toArray, List.getElem_cons_succ, List.getElem_cons_zero]
                    refine wpAnyH_take (i := 10) (oi := _) (v := Value.pointer (some ⟨g2, k * 7, none⟩)) rfl (by kernel_rfl) (by kernel_rfl) (by kernel_rfl) (fun _ _ _ h => h) (Or.inl ⟨by rfl, fun w' hSw => ?_⟩) hHeld ?_
                    · obtain ⟨t0, t1, t2, t3, t4, t5⟩ := hSw
                      go_simp
                      try simp [*]
                      try (intro hh; exfalso; omega)
                      try omega
                    try simp only [Act.put, List.setIfInBounds_toArray, List.set_cons_zero, List.set_cons_succ, List.getElem_toArray, List.getElem_cons_succ, List.getElem_cons_zero]
                    refine wpAnyH_take (i := 11) (oi := _) (v := Value.int .i64 x.r.id) rfl (by kernel_rfl) (by kernel_rfl) (by kernel_rfl) (fun _ _ _ h => h) (Or.inl ⟨by rfl, fun w' hSw => ?_⟩) hHeld ?_
                    · obtain ⟨t0, t1, t2, t3, t4, t5⟩ := hSw
                      go_simp
                      try simp [*]
                      try (intro hh; exfalso; omega)
                      try omega
                    try simp only [Act.put, List.setIfInBounds_toArray, List.set_cons_zero, List.set_cons_succ, List.getElem_toArray, List.getElem_cons_succ, List.getElem_cons_zero]
                    refine wpAnyH_take (i := 12) (oi := _) (v := Value.agg #[.int .i64 x.r.id, .int .i64 x.r.cls, .int .i64 x.r.made, .int .i64 x.r.size, .int .i64 x.r.packed]) rfl (by kernel_rfl) (by kernel_rfl) (by kernel_rfl) (fun _ _ _ h => h) (Or.inl ⟨by rfl, fun w' hSw => ?_⟩) hHeld ?_
                    · obtain ⟨t0, t1, t2, t3, t4, t5⟩ := hSw
                      go_simp
                      try simp [*]
                      try (intro hh; exfalso; omega)
                      try omega
                    try simp only [Act.put, List.setIfInBounds_toArray, List.set_cons_zero, List.set_cons_succ, List.getElem_toArray, List.getElem_cons_succ, List.getElem_cons_zero]
                    refine wpAnyH_take (i := 13) (oi := _) (v := Value.bool false) rfl (by kernel_rfl) (by kernel_rfl) (by kernel_rfl) (fun _ _ _ h => h) (Or.inl ⟨by rfl, fun w' hSw => ?_⟩) hHeld ?_
                    · obtain ⟨t0, t1, t2, t3, t4, t5⟩ := hSw
                      go_simp
                      try simp [*]
                      try (intro hh; exfalso; omega)
                      try omega
                    try simp only [Act.put, List.setIfInBounds_toArray, List.set_cons_zero, List.set_cons_succ, List.getElem_toArray, List.getElem_cons_succ, List.getElem_cons_zero]
                    refine wpAnyH_take (i := 14) (oi := _) (v := Value.bool false) rfl (by kernel_rfl) (by kernel_rfl) (by kernel_rfl) (fun _ _ _ h => h) (Or.inl ⟨by rfl, fun w' hSw => ?_⟩) hHeld ?_
                    · obtain ⟨t0, t1, t2, t3, t4, t5⟩ := hSw
                      go_simp
                      try simp [*]
                      try (intro hh; exfalso; omega)
                      try omega
                    try simp only [Act.put, List.setIfInBounds_toArray, List.set_cons_zero, List.set_cons_succ, List.getElem_toArray, List.getElem_cons_succ, List.getElem_cons_zero]
                    refine wpAnyH_take (i := 15) (oi := _) (v := Value.int .i64 (k : Int)) rfl (by kernel_rfl) (by kernel_rfl) (by kernel_rfl) (fun _ _ _ h => h) (Or.inl ⟨by rfl, fun w' hSw => ?_⟩) hHeld ?_
                    · obtain ⟨t0, t1, t2, t3, t4, t5⟩ := hSw
                      go_simp
                      try simp [*]
                      try (intro hh; exfalso; omega)
                      try omega
                    try simp only [Act.put, List.setIfInBounds_toArray, List.set_cons_zero, List.set_cons_succ, List.getElem_toArray, List.getElem_cons_succ, List.getElem_cons_zero]
                    refine wpAnyH_take (i := 16) (oi := _) (v := Value.bool false) rfl (by kernel_rfl) (by kernel_rfl) (by kernel_rfl) (fun _ _ _ h => h) (Or.inl ⟨by rfl, fun w' hSw => ?_⟩) hHeld ?_
                    · obtain ⟨t0, t1, t2, t3, t4, t5⟩ := hSw
                      go_simp
                      try simp [*]
                      try (intro hh; exfalso; omega)
                      try omega
                    try simp only [Act.put, List.setIfInBounds_toArray, List.set_cons_zero, List.set_cons_succ, List.getElem_toArray, List.getElem_cons_succ, List.getElem_cons_zero]
                    refine wpAnyH_take (i := 17) (oi := _) (v := Value.bool false) rfl (by kernel_rfl) (by kernel_rfl) (by kernel_rfl) (fun _ _ _ h => h) (Or.inl ⟨by rfl, fun w' hSw => ?_⟩) hHeld ?_
                    · obtain ⟨t0, t1, t2, t3, t4, t5⟩ := hSw
                      go_simp
                      try simp [*]
                      try (intro hh; exfalso; omega)
                      try omega
                    try simp only [Act.put, List.setIfInBounds_toArray, List.set_cons_zero, List.set_cons_succ, List.getElem_toArray, List.getElem_cons_succ, List.getElem_cons_zero]
                    refine wpAnyH_take (i := 18) (oi := _) (v := undef) rfl (by kernel_rfl) (by kernel_rfl) (by kernel_rfl) (fun _ _ _ h => h) (Or.inr ⟨by rfl, rfl⟩) hHeld ?_
                    try simp only [Act.put, List.setIfInBounds_toArray, List.set_cons_zero, List.set_cons_succ, List.getElem_toArray, List.getElem_cons_succ, List.getElem_cons_zero]
                    refine wpAnyH_take (i := 19) (oi := _) (v := undef) rfl (by kernel_rfl) (by kernel_rfl) (by kernel_rfl) (fun _ _ _ h => h) (Or.inr ⟨by rfl, rfl⟩) hHeld ?_
                    try simp only [Act.put, List.setIfInBounds_toArray, List.set_cons_zero, List.set_cons_succ, List.getElem_toArray, List.getElem_cons_succ, List.getElem_cons_zero]
                    refine wpAnyH_take (i := 20) (oi := _) (v := undef) rfl (by kernel_rfl) (by kernel_rfl) (by kernel_rfl) (fun _ _ _ h => h) (Or.inr ⟨by rfl, rfl⟩) hHeld ?_
                    try simp only [Act.put, List.setIfInBounds_toArray, List.set_cons_zero, List.set_cons_succ, List.getElem_toArray, List.getElem_cons_succ, List.getElem_cons_zero]
                    refine wpAnyH_take (i := 21) (oi := _) (v := undef) rfl (by kernel_rfl) (by kernel_rfl) (by kernel_rfl) (fun _ _ _ h => h) (Or.inr ⟨by rfl, rfl⟩) hHeld ?_
                    try simp only [Act.put, List.setIfInBounds_toArray, List.set_cons_zero, List.set_cons_succ, List.getElem_toArray, List.getElem_cons_succ, List.getElem_cons_zero]
                    refine wpAnyH_take (i := 22) (oi := _) (v := undef) rfl (by kernel_rfl) (by kernel_rfl) (by kernel_rfl) (fun _ _ _ h => h) (Or.inr ⟨by rfl, rfl⟩) hHeld ?_
                    try simp only [Act.put, List.setIfInBounds_toArray, List.set_cons_zero, List.set_cons_succ, List.getElem_toArray, List.getElem_cons_succ, List.getElem_cons_zero]
                    refine wpAnyH_take (i := 23) (oi := _) (v := undef) rfl (by kernel_rfl) (by kernel_rfl) (by kernel_rfl) (fun _ _ _ h => h) (Or.inr ⟨by rfl, rfl⟩) hHeld ?_
                    try simp only [Act.put, List.setIfInBounds_toArray, List.set_cons_zero, List.set_cons_succ, List.getElem_toArray, List.getElem_cons_succ, List.getElem_cons_zero]
                    refine wpAnyH_take (i := 24) (oi := _) (v := undef) rfl (by kernel_rfl) (by kernel_rfl) (by kernel_rfl) (fun _ _ _ h => h) (Or.inr ⟨by rfl, rfl⟩) hHeld ?_
                    try simp only [Act.put, List.setIfInBounds_toArray, List.set_cons_zero, List.set_cons_succ, List.getElem_toArray, List.getElem_cons_succ, List.getElem_cons_zero]
                    refine wpAnyH_take (i := 25) (oi := _) (v := undef) rfl (by kernel_rfl) (by kernel_rfl) (by kernel_rfl) (fun _ _ _ h => h) (Or.inr ⟨by rfl, rfl⟩) hHeld ?_
                    try simp only [Act.put, List.setIfInBounds_toArray, List.set_cons_zero, List.set_cons_succ, List.getElem_toArray, List.getElem_cons_succ, List.getElem_cons_zero]
                    refine wpAnyH_take (i := 26) (oi := _) (v := undef) rfl (by kernel_rfl) (by kernel_rfl) (by kernel_rfl) (fun _ _ _ h => h) (Or.inr ⟨by rfl, rfl⟩) hHeld ?_
                    try simp only [Act.put, List.setIfInBounds_toArray, List.set_cons_zero, List.set_cons_succ, List.getElem_toArray, List.getElem_cons_succ, List.getElem_cons_zero]
                    refine wpAnyH_take (i := 27) (oi := _) (v := undef) rfl (by kernel_rfl) (by kernel_rfl) (by kernel_rfl) (fun _ _ _ h => h) (Or.inr ⟨by rfl, rfl⟩) hHeld ?_
                    try simp only [Act.put, List.setIfInBounds_toArray, List.set_cons_zero, List.set_cons_succ, List.getElem_toArray, List.getElem_cons_succ, List.getElem_cons_zero]
                    refine wpAnyH_take (i := 28) (oi := _) (v := undef) rfl (by kernel_rfl) (by kernel_rfl) (by kernel_rfl) (fun _ _ _ h => h) (Or.inr ⟨by rfl, rfl⟩) hHeld ?_
                    try simp only [Act.put, List.setIfInBounds_toArray, List.set_cons_zero, List.set_cons_succ, List.getElem_toArray, List.getElem_cons_succ, List.getElem_cons_zero]
                    refine wpAnyH_take (i := 29) (oi := _) (v := undef) rfl (by kernel_rfl) (by kernel_rfl) (by kernel_rfl) (fun _ _ _ h => h) (Or.inr ⟨by rfl, rfl⟩) hHeld ?_
                    try simp only [Act.put, List.setIfInBounds_toArray, List.set_cons_zero, List.set_cons_succ, List.getElem_toArray, List.getElem_cons_succ, List.getElem_cons_zero]
                    refine wpAnyH_take (i := 30) (oi := _) (v := undef) rfl (by kernel_rfl) (by kernel_rfl) (by kernel_rfl) (fun _ _ _ h => h) (Or.inr ⟨by rfl, rfl⟩) hHeld ?_
                    try simp only [Act.put, List.setIfInBounds_toArray, List.set_cons_zero, List.set_cons_succ, List.getElem_toArray, List.getElem_cons_succ, List.getElem_cons_zero]
                    refine wpAnyH_take (i := 31) (oi := _) (v := Value.bool false) rfl (by kernel_rfl) (by kernel_rfl) (by kernel_rfl) (fun _ _ _ h => h) (Or.inl ⟨by rfl, fun w' hSw => ?_⟩) hHeld ?_
                    · obtain ⟨t0, t1, t2, t3, t4, t5⟩ := hSw
                      go_simp
                      try simp [*]
                      try (intro hh; exfalso; omega)
                      try omega
                    try simp only [Act.put, List.setIfInBounds_toArray, List.set_cons_zero, List.set_cons_succ, List.getElem_toArray, List.getElem_cons_succ, List.getElem_cons_zero]
                    refine wpAnyH_take (i := 32) (oi := _) (v := Value.bool false) rfl (by kernel_rfl) (by kernel_rfl) (by kernel_rfl) (fun _ _ _ h => h) (Or.inl ⟨by rfl, fun w' hSw => ?_⟩) hHeld ?_
                    · obtain ⟨t0, t1, t2, t3, t4, t5⟩ := hSw
                      go_simp
                      try simp [*]
                      try (intro hh; exfalso; omega)
                      try omega
                    try simp only [Act.put, List.setIfInBounds_toArray, List.set_cons_zero, List.set_cons_succ, List.getElem_toArray, List.getElem_cons_succ, List.getElem_cons_zero]
                    refine wpAnyH_done (by kernel_rfl) ?_ _
                    clear hHeld
                    go_wp2_with fail
                    go_meet
                    case rel => exact ⟨rfl, HD.out⟩
                  · obtain ⟨q, hq⟩ : ∃ q, k = q + 1 := ⟨k - 1, by omega⟩
                    obtain ⟨g2b, y, hgg, hy, hyk, hyc⟩ := HC2X.out q (by omega)
                    simp only [Option.some.injEq, Addr.mk.injEq, and_true] at hgg
                    subst hgg
                    have HYC := Lib.hid hyc
                    have c46 := fun W => lesser_any x.r y.r W
                    rw [HPV.out k q x y HXK.out hyk hq] at c46
                    have hk1 : (0 : Int) < (k : Int) := by omega
                    have hq1 : (k : Int) - 1 = (q : Int) := by omega
                    have hqm : (q : Int) < (m : Int) := by omega
                    have hwq : IntKind.i64.wrap (q : Int) = (q : Int) := by rw [IntKind.wrap_i64]; omega
                    have hqm2 : q < m := by omega
                    clear hk0 hq hy hyk hyc
                    have KQ := Lib.hid (show ∀ W1, Below V.heap.size V W1 → W1.cell? ⟨g2, k * 7, none⟩ = some (Value.int .i64 x.r.id) ∧ W1.cell? ⟨g2, k * 7 + 1, none⟩ = some (Value.int .i64 x.r.cls) ∧ W1.cell? ⟨g2, k * 7 + 2, none⟩ = some (Value.int .i64 x.r.made) ∧ W1.cell? ⟨g2, k * 7 + 3, none⟩ = some (Value.int .i64 x.r.size) ∧ W1.cell? ⟨g2, k * 7 + 4, none⟩ = some (Value.int .i64 x.r.packed) ∧ (Instr.lookup 75 (.map (some M2)) (.int .i64 x.r.id) false).run Try.prog W1 = .ok (.agg #[.int .i64 x.r.id, .int .i64 x.r.cls, .int .i64 x.r.made, .int .i64 x.r.size, .int .i64 x.r.packed]) W1 ∧ W1.cell? ⟨g2, q * 7, none⟩ = some (Value.int .i64 y.r.id) ∧ W1.cell? ⟨g2, q * 7 + 1, none⟩ = some (Value.int .i64 y.r.cls) ∧ W1.cell? ⟨g2, q * 7 + 2, none⟩ = some (Value.int .i64 y.r.made) ∧ W1.cell? ⟨g2, q * 7 + 3, none⟩ = some (Value.int .i64 y.r.size) ∧ W1.cell? ⟨g2, q * 7 + 4, none⟩ = some (Value.int .i64 y.r.packed) from fun W1 h => by
                      obtain ⟨a0, a1, a2, a3, a4, a5, a6⟩ := HXC.out W1 h
                      obtain ⟨b0, b1, b2, b3, b4, b5, b6⟩ := HYC.out W1 h
                      exact ⟨a0, a1, a2, a3, a4, HLK.out x HXL.out W1 h, b0, b1, b2, b3, b4⟩)
                    have HD := Lib.hid (show Below V.heap.size V w8.drew from HB8.out.drew)
                    go_upto_region 25 with fail
                    refine wp_region_held_drew (S := fun w' => w'.cell? ⟨g2, k * 7, none⟩ = some (Value.int .i64 x.r.id) ∧ w'.cell? ⟨g2, k * 7 + 1, none⟩ = some (Value.int .i64 x.r.cls) ∧ w'.cell? ⟨g2, k * 7 + 2, none⟩ = some (Value.int .i64 x.r.made) ∧ w'.cell? ⟨g2, k * 7 + 3, none⟩ = some (Value.int .i64 x.r.size) ∧ w'.cell? ⟨g2, k * 7 + 4, none⟩ = some (Value.int .i64 x.r.packed) ∧ (Instr.lookup 75 (.map (some M2)) (.int .i64 x.r.id) false).run Try.prog w' = .ok (.agg #[.int .i64 x.r.id, .int .i64 x.r.cls, .int .i64 x.r.made, .int .i64 x.r.size, .int .i64 x.r.packed]) w' ∧ w'.cell? ⟨g2, q * 7, none⟩ = some (Value.int .i64 y.r.id) ∧ w'.cell? ⟨g2, q * 7 + 1, none⟩ = some (Value.int .i64 y.r.cls) ∧ w'.cell? ⟨g2, q * 7 + 2, none⟩ = some (Value.int .i64 y.r.made) ∧ w'.cell? ⟨g2, q * 7 + 3, none⟩ = some (Value.int .i64 y.r.size) ∧ w'.cell? ⟨g2, q * 7 + 4, none⟩ = some (Value.int .i64 y.r.packed)) (by kernel_rfl) (KQ.out _ HD.out) (fun hHeld => ?_)
                    refine wpAnyH_take (i := 0) (oi := _) (v := Value.slice (some ⟨g2, 0, none⟩) m c2) rfl (by kernel_rfl) (by kernel_rfl) (by kernel_rfl) (fun _ _ _ h => h) (Or.inl ⟨by rfl, fun w' hSw => ?_⟩) hHeld ?_
                    · obtain ⟨t0, t1, t2, t3, t4, t5, t6, t7, t8, t9, t10⟩ := hSw
                      go_simp
                      try simp [*]
                      try (intro hh; exfalso; omega)
                      try omega
                    try simp only [Act.put, List.setIfInBounds_toArray, List.set_cons_zero, List.set_cons_succ, List.getElem_toArray, List.getElem_cons_succ, List.getElem_cons_zero]
                    refine wpAnyH_take (i := 1) (oi := _) (v := Value.int .i64 (k : Int)) rfl (by kernel_rfl) (by kernel_rfl) (by kernel_rfl) (fun _ _ _ h => h) (Or.inl ⟨by rfl, fun w' hSw => ?_⟩) hHeld ?_
                    · obtain ⟨t0, t1, t2, t3, t4, t5, t6, t7, t8, t9, t10⟩ := hSw
                      go_simp
                      try simp [*]
                      try (intro hh; exfalso; omega)
                      try omega
                    try simp only [Act.put, List.setIfInBounds_toArray, List.set_cons_zero, List.set_cons_succ, List.getElem_toArray, List.getElem_cons_succ, List.getElem_cons_zero]
                    refine wpAnyH_take (i := 2) (oi := _) (v := Value.pointer (some ⟨g2, k * 7, none⟩)) rfl (by kernel_rfl) (by kernel_rfl) (by kernel_rfl) (fun _ _ _ h => h) (Or.inl ⟨by rfl, fun w' hSw => ?_⟩) hHeld ?_
                    · obtain ⟨t0, t1, t2, t3, t4, t5, t6, t7, t8, t9, t10⟩ := hSw
                      go_simp
                      try simp [*]
                      try (intro hh; exfalso; omega)
                      try omega
                    try simp only [Act.put, List.setIfInBounds_toArray, List.set_cons_zero, List.set_cons_succ, List.getElem_toArray, List.getElem_cons_succ, List.getElem_cons_zero]
                    refine wpAnyH_take (i := 3) (oi := _) (v := Value.pointer (some ⟨g2, k * 7, none⟩)) rfl (by kernel_rfl) (by kernel_rfl) (by kernel_rfl) (fun _ _ _ h => h) (Or.inl ⟨by rfl, fun w' hSw => ?_⟩) hHeld ?_
                    · obtain ⟨t0, t1, t2, t3, t4, t5, t6, t7, t8, t9, t10⟩ := hSw
                      go_simp
                      try simp [*]
                      try (intro hh; exfalso; omega)
                      try omega
                    try simp only [Act.put, List.setIfInBounds_toArray, List.set_cons_zero, List.set_cons_succ, List.getElem_toArray, List.getElem_cons_succ, List.getElem_cons_zero]
                    refine wpAnyH_take (i := 4) (oi := _) (v := Value.agg #[Value.int .i64 x.r.id, Value.int .i64 x.r.cls, Value.int .i64 x.r.made, Value.int .i64 x.r.size, Value.int .i64 x.r.packed]) rfl (by kernel_rfl) (by kernel_rfl) (by kernel_rfl) (fun _ _ _ h => h) (Or.inl ⟨by rfl, fun w' hSw => ?_⟩) hHeld ?_
                    · obtain ⟨t0, t1, t2, t3, t4, t5, t6, t7, t8, t9, t10⟩ := hSw
                      go_simp
                      try simp [*]
                      try (intro hh; exfalso; omega)
                      try omega
                    try simp only [Act.put, List.setIfInBounds_toArray, List.set_cons_zero, List.set_cons_succ, List.getElem_toArray, List.getElem_cons_succ, List.getElem_cons_zero]
                    refine wpAnyH_take (i := 5) (oi := _) (v := Value.map (some M2)) rfl (by kernel_rfl) (by kernel_rfl) (by kernel_rfl) (fun _ _ _ h => h) (Or.inl ⟨by rfl, fun w' hSw => ?_⟩) hHeld ?_
                    · obtain ⟨t0, t1, t2, t3, t4, t5, t6, t7, t8, t9, t10⟩ := hSw
                      go_simp
                      try simp [*]
                      try (intro hh; exfalso; omega)
                      try omega
                    try simp only [Act.put, List.setIfInBounds_toArray, List.set_cons_zero, List.set_cons_succ, List.getElem_toArray, List.getElem_cons_succ, List.getElem_cons_zero]
                    refine wpAnyH_take (i := 6) (oi := _) (v := Value.slice (some ⟨g2, 0, none⟩) m c2) rfl (by kernel_rfl) (by kernel_rfl) (by kernel_rfl) (fun _ _ _ h => h) (Or.inl ⟨by rfl, fun w' hSw => ?_⟩) hHeld ?_
                    · obtain ⟨t0, t1, t2, t3, t4, t5, t6, t7, t8, t9, t10⟩ := hSw
                      go_simp
                      try simp [*]
                      try (intro hh; exfalso; omega)
                      try omega
                    try simp only [Act.put, List.setIfInBounds_toArray, List.set_cons_zero, List.set_cons_succ, List.getElem_toArray, List.getElem_cons_succ, List.getElem_cons_zero]
                    refine wpAnyH_take (i := 7) (oi := _) (v := Value.int .i64 (k : Int)) rfl (by kernel_rfl) (by kernel_rfl) (by kernel_rfl) (fun _ _ _ h => h) (Or.inl ⟨by rfl, fun w' hSw => ?_⟩) hHeld ?_
                    · obtain ⟨t0, t1, t2, t3, t4, t5, t6, t7, t8, t9, t10⟩ := hSw
                      go_simp
                      try simp [*]
                      try (intro hh; exfalso; omega)
                      try omega
                    try simp only [Act.put, List.setIfInBounds_toArray, List.set_cons_zero, List.set_cons_succ, List.getElem_toArray, List.getElem_cons_succ, List.getElem_cons_zero]
                    refine wpAnyH_take (i := 8) (oi := _) (v := Value.pointer (some ⟨g2, k * 7, none⟩)) rfl (by kernel_rfl) (by kernel_rfl) (by kernel_rfl) (fun _ _ _ h => h) (Or.inl ⟨by rfl, fun w' hSw => ?_⟩) hHeld ?_
                    · obtain ⟨t0, t1, t2, t3, t4, t5, t6, t7, t8, t9, t10⟩ := hSw
                      go_simp
                      try simp [*]
                      try (intro hh; exfalso; omega)
                      try omega
                    try simp only [Act.put, List.setIfInBounds_toArray, List.set_cons_zero, List.set_cons_succ, List.getElem_toArray, List.getElem_cons_succ, List.getElem_cons_zero]
                    refine wpAnyH_take (i := 9) (oi := _) (v := Value.pointer (some ⟨g2, k * 7, none⟩)) rfl (by kernel_rfl) (by kernel_rfl) (by kernel_rfl) (fun _ _ _ h => h) (Or.inl ⟨by rfl, fun w' hSw => ?_⟩) hHeld ?_
                    · obtain ⟨t0, t1, t2, t3, t4, t5, t6, t7, t8, t9, t10⟩ := hSw
                      go_simp
                      try simp [*]
                      try (intro hh; exfalso; omega)
                      try omega
                    try simp only [Act.put, List.setIfInBounds_toArray, List.set_cons_zero, List.set_cons_succ, List.getElem_toArray, List.getElem_cons_succ, List.getElem_cons_zero]
                    refine wpAnyH_take (i := 10) (oi := _) (v := Value.pointer (some ⟨g2, k * 7, none⟩)) rfl (by kernel_rfl) (by kernel_rfl) (by kernel_rfl) (fun _ _ _ h => h) (Or.inl ⟨by rfl, fun w' hSw => ?_⟩) hHeld ?_
                    · obtain ⟨t0, t1, t2, t3, t4, t5, t6, t7, t8, t9, t10⟩ := hSw
                      go_simp
                      try simp [*]
                      try (intro hh; exfalso; omega)
                      try omega
                    try simp only [Act.put, List.setIfInBounds_toArray, List.set_cons_zero, List.set_cons_succ, List.getElem_toArray, List.getElem_cons_succ, List.getElem_cons_zero]
                    refine wpAnyH_take (i := 11) (oi := _) (v := Value.int .i64 x.r.id) rfl (by kernel_rfl) (by kernel_rfl) (by kernel_rfl) (fun _ _ _ h => h) (Or.inl ⟨by rfl, fun w' hSw => ?_⟩) hHeld ?_
                    · obtain ⟨t0, t1, t2, t3, t4, t5, t6, t7, t8, t9, t10⟩ := hSw
                      go_simp
                      try simp [*]
                      try (intro hh; exfalso; omega)
                      try omega
                    try simp only [Act.put, List.setIfInBounds_toArray, List.set_cons_zero, List.set_cons_succ, List.getElem_toArray, List.getElem_cons_succ, List.getElem_cons_zero]
                    refine wpAnyH_take (i := 12) (oi := _) (v := Value.agg #[.int .i64 x.r.id, .int .i64 x.r.cls, .int .i64 x.r.made, .int .i64 x.r.size, .int .i64 x.r.packed]) rfl (by kernel_rfl) (by kernel_rfl) (by kernel_rfl) (fun _ _ _ h => h) (Or.inl ⟨by rfl, fun w' hSw => ?_⟩) hHeld ?_
                    · obtain ⟨t0, t1, t2, t3, t4, t5, t6, t7, t8, t9, t10⟩ := hSw
                      go_simp
                      try simp [*]
                      try (intro hh; exfalso; omega)
                      try omega
                    try simp only [Act.put, List.setIfInBounds_toArray, List.set_cons_zero, List.set_cons_succ, List.getElem_toArray, List.getElem_cons_succ, List.getElem_cons_zero]
                    refine wpAnyH_take (i := 13) (oi := _) (v := Value.bool false) rfl (by kernel_rfl) (by kernel_rfl) (by kernel_rfl) (fun _ _ _ h => h) (Or.inl ⟨by rfl, fun w' hSw => ?_⟩) hHeld ?_
                    · obtain ⟨t0, t1, t2, t3, t4, t5, t6, t7, t8, t9, t10⟩ := hSw
                      go_simp
                      try simp [*]
                      try (intro hh; exfalso; omega)
                      try omega
                    try simp only [Act.put, List.setIfInBounds_toArray, List.set_cons_zero, List.set_cons_succ, List.getElem_toArray, List.getElem_cons_succ, List.getElem_cons_zero]
                    refine wpAnyH_take (i := 14) (oi := _) (v := Value.bool false) rfl (by kernel_rfl) (by kernel_rfl) (by kernel_rfl) (fun _ _ _ h => h) (Or.inl ⟨by rfl, fun w' hSw => ?_⟩) hHeld ?_
                    · obtain ⟨t0, t1, t2, t3, t4, t5, t6, t7, t8, t9, t10⟩ := hSw
                      go_simp
                      try simp [*]
                      try (intro hh; exfalso; omega)
                      try omega
                    try simp only [Act.put, List.setIfInBounds_toArray, List.set_cons_zero, List.set_cons_succ, List.getElem_toArray, List.getElem_cons_succ, List.getElem_cons_zero]
                    refine wpAnyH_take (i := 15) (oi := _) (v := Value.int .i64 (k : Int)) rfl (by kernel_rfl) (by kernel_rfl) (by kernel_rfl) (fun _ _ _ h => h) (Or.inl ⟨by rfl, fun w' hSw => ?_⟩) hHeld ?_
                    · obtain ⟨t0, t1, t2, t3, t4, t5, t6, t7, t8, t9, t10⟩ := hSw
                      go_simp
                      try simp [*]
                      try (intro hh; exfalso; omega)
                      try omega
                    try simp only [Act.put, List.setIfInBounds_toArray, List.set_cons_zero, List.set_cons_succ, List.getElem_toArray, List.getElem_cons_succ, List.getElem_cons_zero]
                    refine wpAnyH_take (i := 16) (oi := _) (v := Value.bool true) rfl (by kernel_rfl) (by kernel_rfl) (by kernel_rfl) (fun _ _ _ h => h) (Or.inl ⟨by rfl, fun w' hSw => ?_⟩) hHeld ?_
                    · obtain ⟨t0, t1, t2, t3, t4, t5, t6, t7, t8, t9, t10⟩ := hSw
                      go_simp
                      try simp [*]
                      try (intro hh; exfalso; omega)
                      try omega
                    try simp only [Act.put, List.setIfInBounds_toArray, List.set_cons_zero, List.set_cons_succ, List.getElem_toArray, List.getElem_cons_succ, List.getElem_cons_zero]
                    refine wpAnyH_take (i := 17) (oi := _) (v := Value.bool true) rfl (by kernel_rfl) (by kernel_rfl) (by kernel_rfl) (fun _ _ _ h => h) (Or.inl ⟨by rfl, fun w' hSw => ?_⟩) hHeld ?_
                    · obtain ⟨t0, t1, t2, t3, t4, t5, t6, t7, t8, t9, t10⟩ := hSw
                      go_simp
                      try simp [*]
                      try (intro hh; exfalso; omega)
                      try omega
                    try simp only [Act.put, List.setIfInBounds_toArray, List.set_cons_zero, List.set_cons_succ, List.getElem_toArray, List.getElem_cons_succ, List.getElem_cons_zero]
                    refine wpAnyH_take (i := 18) (oi := _) (v := Value.slice (some ⟨g2, 0, none⟩) m c2) rfl (by kernel_rfl) (by kernel_rfl) (by kernel_rfl) (fun _ _ _ h => h) (Or.inl ⟨by rfl, fun w' hSw => ?_⟩) hHeld ?_
                    · obtain ⟨t0, t1, t2, t3, t4, t5, t6, t7, t8, t9, t10⟩ := hSw
                      go_simp
                      try simp [*]
                      try (intro hh; exfalso; omega)
                      try omega
                    try simp only [Act.put, List.setIfInBounds_toArray, List.set_cons_zero, List.set_cons_succ, List.getElem_toArray, List.getElem_cons_succ, List.getElem_cons_zero]
                    refine wpAnyH_take (i := 19) (oi := _) (v := Value.int .i64 (k : Int)) rfl (by kernel_rfl) (by kernel_rfl) (by kernel_rfl) (fun _ _ _ h => h) (Or.inl ⟨by rfl, fun w' hSw => ?_⟩) hHeld ?_
                    · obtain ⟨t0, t1, t2, t3, t4, t5, t6, t7, t8, t9, t10⟩ := hSw
                      go_simp
                      try simp [*]
                      try (intro hh; exfalso; omega)
                      try omega
                    try simp only [Act.put, List.setIfInBounds_toArray, List.set_cons_zero, List.set_cons_succ, List.getElem_toArray, List.getElem_cons_succ, List.getElem_cons_zero]
                    refine wpAnyH_take (i := 20) (oi := _) (v := Value.pointer (some ⟨g2, k * 7, none⟩)) rfl (by kernel_rfl) (by kernel_rfl) (by kernel_rfl) (fun _ _ _ h => h) (Or.inl ⟨by rfl, fun w' hSw => ?_⟩) hHeld ?_
                    · obtain ⟨t0, t1, t2, t3, t4, t5, t6, t7, t8, t9, t10⟩ := hSw
                      go_simp
                      try simp [*]
                      try (intro hh; exfalso; omega)
                      try omega
                    try simp only [Act.put, List.setIfInBounds_toArray, List.set_cons_zero, List.set_cons_succ, List.getElem_toArray, List.getElem_cons_succ, List.getElem_cons_zero]
                    refine wpAnyH_take (i := 21) (oi := _) (v := Value.pointer (some ⟨g2, k * 7, none⟩)) rfl (by kernel_rfl) (by kernel_rfl) (by kernel_rfl) (fun _ _ _ h => h) (Or.inl ⟨by rfl, fun w' hSw => ?_⟩) hHeld ?_
                    · obtain ⟨t0, t1, t2, t3, t4, t5, t6, t7, t8, t9, t10⟩ := hSw
                      go_simp
                      try simp [*]
                      try (intro hh; exfalso; omega)
                      try omega
                    try simp only [Act.put, List.setIfInBounds_toArray, List.set_cons_zero, List.set_cons_succ, List.getElem_toArray, List.getElem_cons_succ, List.getElem_cons_zero]
                    refine wpAnyH_take (i := 22) (oi := _) (v := Value.agg #[Value.int .i64 x.r.id, Value.int .i64 x.r.cls, Value.int .i64 x.r.made, Value.int .i64 x.r.size, Value.int .i64 x.r.packed]) rfl (by kernel_rfl) (by kernel_rfl) (by kernel_rfl) (fun _ _ _ h => h) (Or.inl ⟨by rfl, fun w' hSw => ?_⟩) hHeld ?_
                    · obtain ⟨t0, t1, t2, t3, t4, t5, t6, t7, t8, t9, t10⟩ := hSw
                      go_simp
                      try simp [*]
                      try (intro hh; exfalso; omega)
                      try omega
                    try simp only [Act.put, List.setIfInBounds_toArray, List.set_cons_zero, List.set_cons_succ, List.getElem_toArray, List.getElem_cons_succ, List.getElem_cons_zero]
                    refine wpAnyH_take (i := 23) (oi := _) (v := Value.slice (some ⟨g2, 0, none⟩) m c2) rfl (by kernel_rfl) (by kernel_rfl) (by kernel_rfl) (fun _ _ _ h => h) (Or.inl ⟨by rfl, fun w' hSw => ?_⟩) hHeld ?_
                    · obtain ⟨t0, t1, t2, t3, t4, t5, t6, t7, t8, t9, t10⟩ := hSw
                      go_simp
                      try simp [*]
                      try (intro hh; exfalso; omega)
                      try omega
                    try simp only [Act.put, List.setIfInBounds_toArray, List.set_cons_zero, List.set_cons_succ, List.getElem_toArray, List.getElem_cons_succ, List.getElem_cons_zero]
                    refine wpAnyH_take (i := 24) (oi := _) (v := Value.int .i64 (k : Int)) rfl (by kernel_rfl) (by kernel_rfl) (by kernel_rfl) (fun _ _ _ h => h) (Or.inl ⟨by rfl, fun w' hSw => ?_⟩) hHeld ?_
                    · obtain ⟨t0, t1, t2, t3, t4, t5, t6, t7, t8, t9, t10⟩ := hSw
                      go_simp
                      try simp [*]
                      try (intro hh; exfalso; omega)
                      try omega
                    try simp only [Act.put, List.setIfInBounds_toArray, List.set_cons_zero, List.set_cons_succ, List.getElem_toArray, List.getElem_cons_succ, List.getElem_cons_zero]
                    refine wpAnyH_take (i := 25) (oi := _) (v := Value.int .i64 (q : Int)) rfl (by kernel_rfl) (by kernel_rfl) (by kernel_rfl) (fun _ _ _ h => h) (Or.inl ⟨by rfl, fun w' hSw => ?_⟩) hHeld ?_
                    · obtain ⟨t0, t1, t2, t3, t4, t5, t6, t7, t8, t9, t10⟩ := hSw
                      go_simp
                      try simp [*]
                      try (intro hh; exfalso; omega)
                      try omega
                    try simp only [Act.put, List.setIfInBounds_toArray, List.set_cons_zero, List.set_cons_succ, List.getElem_toArray, List.getElem_cons_succ, List.getElem_cons_zero]
                    refine wpAnyH_take (i := 26) (oi := _) (v := Value.pointer (some ⟨g2, q * 7, none⟩)) rfl (by kernel_rfl) (by kernel_rfl) (by kernel_rfl) (fun _ _ _ h => h) (Or.inl ⟨by rfl, fun w' hSw => ?_⟩) hHeld ?_
                    · obtain ⟨t0, t1, t2, t3, t4, t5, t6, t7, t8, t9, t10⟩ := hSw
                      go_simp
                      try simp [*]
                      try (intro hh; exfalso; omega)
                      try omega
                    try simp only [Act.put, List.setIfInBounds_toArray, List.set_cons_zero, List.set_cons_succ, List.getElem_toArray, List.getElem_cons_succ, List.getElem_cons_zero]
                    refine wpAnyH_take (i := 27) (oi := _) (v := Value.pointer (some ⟨g2, q * 7, none⟩)) rfl (by kernel_rfl) (by kernel_rfl) (by kernel_rfl) (fun _ _ _ h => h) (Or.inl ⟨by rfl, fun w' hSw => ?_⟩) hHeld ?_
                    · obtain ⟨t0, t1, t2, t3, t4, t5, t6, t7, t8, t9, t10⟩ := hSw
                      go_simp
                      try simp [*]
                      try (intro hh; exfalso; omega)
                      try omega
                    try simp only [Act.put, List.setIfInBounds_toArray, List.set_cons_zero, List.set_cons_succ, List.getElem_toArray, List.getElem_cons_succ, List.getElem_cons_zero]
                    refine wpAnyH_take (i := 28) (oi := _) (v := Value.agg #[Value.int .i64 y.r.id, Value.int .i64 y.r.cls, Value.int .i64 y.r.made, Value.int .i64 y.r.size, Value.int .i64 y.r.packed]) rfl (by kernel_rfl) (by kernel_rfl) (by kernel_rfl) (fun _ _ _ h => h) (Or.inl ⟨by rfl, fun w' hSw => ?_⟩) hHeld ?_
                    · obtain ⟨t0, t1, t2, t3, t4, t5, t6, t7, t8, t9, t10⟩ := hSw
                      go_simp
                      try simp [*]
                      try (intro hh; exfalso; omega)
                      try omega
                    try simp only [Act.put, List.setIfInBounds_toArray, List.set_cons_zero, List.set_cons_succ, List.getElem_toArray, List.getElem_cons_succ, List.getElem_cons_zero]
                    refine wpAnyH_ready (rs := [29]) (by kernel_rfl) (by simp) ?_
                    refine AllReadyH.cons (o := _) rfl (fun K hK => ?_) (AllReadyH.nil)
                    go_simp
                    go_at_call 46
                    refine Calls.mono (c46 _) ?_
                    rintro e t0 ⟨rfl, hb⟩
                    have HT0 := Lib.hid (HD.out.trans (hb.mono HD.out.size))
                    clear hb
                    clear hHeld
                    refine hK.out _ _ (KQ.out _ HT0.out) (fun hHeld => ?_)
                    clear hK K
                    try simp only [Act.put, List.setIfInBounds_toArray, List.set_cons_zero, List.set_cons_succ, List.getElem_toArray, List.getElem_cons_succ, List.getElem_cons_zero]
                    refine wpAnyH_take (i := 30) (oi := _) (v := Value.bool false) rfl (by kernel_rfl) (by kernel_rfl) (by kernel_rfl) (fun _ _ _ h => h) (Or.inl ⟨by rfl, fun w' hSw => ?_⟩) hHeld ?_
                    · obtain ⟨t0, t1, t2, t3, t4, t5, t6, t7, t8, t9, t10⟩ := hSw
                      go_simp
                      try simp [*]
                      try (intro hh; exfalso; omega)
                      try omega
                    try simp only [Act.put, List.setIfInBounds_toArray, List.set_cons_zero, List.set_cons_succ, List.getElem_toArray, List.getElem_cons_succ, List.getElem_cons_zero]
                    refine wpAnyH_take (i := 31) (oi := _) (v := Value.bool false) rfl (by kernel_rfl) (by kernel_rfl) (by kernel_rfl) (fun _ _ _ h => h) (Or.inl ⟨by rfl, fun w' hSw => ?_⟩) hHeld ?_
                    · obtain ⟨t0, t1, t2, t3, t4, t5, t6, t7, t8, t9, t10⟩ := hSw
                      go_simp
                      try simp [*]
                      try (intro hh; exfalso; omega)
                      try omega
                    try simp only [Act.put, List.setIfInBounds_toArray, List.set_cons_zero, List.set_cons_succ, List.getElem_toArray, List.getElem_cons_succ, List.getElem_cons_zero]
                    refine wpAnyH_take (i := 32) (oi := _) (v := Value.bool false) rfl (by kernel_rfl) (by kernel_rfl) (by kernel_rfl) (fun _ _ _ h => h) (Or.inl ⟨by rfl, fun w' hSw => ?_⟩) hHeld ?_
                    · obtain ⟨t0, t1, t2, t3, t4, t5, t6, t7, t8, t9, t10⟩ := hSw
                      go_simp
                      try simp [*]
                      try (intro hh; exfalso; omega)
                      try omega
                    try simp only [Act.put, List.setIfInBounds_toArray, List.set_cons_zero, List.set_cons_succ, List.getElem_toArray, List.getElem_cons_succ, List.getElem_cons_zero]
                    refine wpAnyH_done (by kernel_rfl) ?_ _
                    clear hHeld
                    go_wp2_with fail
                    go_meet
                    case rel => exact ⟨rfl, HT0.out⟩
                case rest => as_aux_lemma =>
                  obtain ⟨rfl, hW⟩ := hcut
                  have HB9 := Lib.hid hW
                  clear hW
                  obtain ⟨w9, rfl⟩ : ∃ W0, W0 = wc := ⟨_, rfl⟩
                  have c44 := find44_any (.slice p1 ln c1) L x.r.id w9 (by have q := HH1.out.keep (HB9.out); rw [HLN.out]; exact q) (by rw [← HLN.out]; omega)
                  obtain ⟨y0, y1, y2, y3, y4, y5, y6⟩ := HXC.out _ HB9.out
                  go_wp2_with fail
                  refine c44.mono ?_
                  rintro e w10 ⟨z, rfl, hz, rfl⟩
                  clear c44 y0 y1 y2 y3 y4 y5 y6
                  have HZF := Lib.hid hz
                  clear hz
                  go_upto_region 28 with fail
                  go_cut [180] from 151 to 180 (fun s180 wc => s180 = Value.bool false ∧ Below V.heap.size V wc)
                  case first => as_aux_lemma =>
                    rcases HZF.out with ⟨rfl, hz⟩ | ⟨k2, hk2, rfl, hz⟩
                    · have hxr : x.r = r := HKN.out x HXL.out hz
                      clear hz
                      skip
                      have e0 : x.r.id = r.id := by rw [hxr]
                      have e1 : x.r.cls = r.cls := by rw [hxr]
                      have e2 : x.r.made = r.made := by rw [hxr]
                      have e3 : x.r.size = r.size := by rw [hxr]
                      have e4 : x.r.packed = r.packed := by rw [hxr]
                      clear hxr
                      have KQ := Lib.hid (show ∀ W1, Below V.heap.size V W1 → W1.cell? ⟨g2, k * 7, none⟩ = some (Value.int .i64 r.id) ∧ W1.cell? ⟨g2, k * 7 + 1, none⟩ = some (Value.int .i64 r.cls) ∧ W1.cell? ⟨g2, k * 7 + 2, none⟩ = some (Value.int .i64 r.made) ∧ W1.cell? ⟨g2, k * 7 + 3, none⟩ = some (Value.int .i64 r.size) ∧ W1.cell? ⟨g2, k * 7 + 4, none⟩ = some (Value.int .i64 r.packed) ∧ W1.cell? ⟨Bx, 0, none⟩ = some (Value.int .i64 r.id) ∧ W1.cell? ⟨Bx, 1, none⟩ = some (Value.int .i64 r.cls) ∧ W1.cell? ⟨Bx, 2, none⟩ = some (Value.int .i64 r.made) ∧ W1.cell? ⟨Bx, 3, none⟩ = some (Value.int .i64 r.size) ∧ W1.cell? ⟨Bx, 4, none⟩ = some (Value.int .i64 r.packed) from fun W1 h => by
                        obtain ⟨a0, a1, a2, a3, a4, a5, a6⟩ := HXC.out W1 h
                        obtain ⟨b0, b1, b2, b3, b4⟩ := (HXV.out.keep h).all
                        rw [e0] at a0; rw [e1] at a1; rw [e2] at a2; rw [e3] at a3; rw [e4] at a4; exact ⟨a0, a1, a2, a3, a4, b0, b1, b2, b3, b4⟩)
                      have HD := Lib.hid (show Below V.heap.size V w10.drew from HB9.out.drew)
                      go_upto_region 28 with fail
                      refine wp_region_held_drew (S := fun w' => w'.cell? ⟨g2, k * 7, none⟩ = some (Value.int .i64 r.id) ∧ w'.cell? ⟨g2, k * 7 + 1, none⟩ = some (Value.int .i64 r.cls) ∧ w'.cell? ⟨g2, k * 7 + 2, none⟩ = some (Value.int .i64 r.made) ∧ w'.cell? ⟨g2, k * 7 + 3, none⟩ = some (Value.int .i64 r.size) ∧ w'.cell? ⟨g2, k * 7 + 4, none⟩ = some (Value.int .i64 r.packed) ∧ w'.cell? ⟨Bx, 0, none⟩ = some (Value.int .i64 r.id) ∧ w'.cell? ⟨Bx, 1, none⟩ = some (Value.int .i64 r.cls) ∧ w'.cell? ⟨Bx, 2, none⟩ = some (Value.int .i64 r.made) ∧ w'.cell? ⟨Bx, 3, none⟩ = some (Value.int .i64 r.size) ∧ w'.cell? ⟨Bx, 4, none⟩ = some (Value.int .i64 r.packed)) (by kernel_rfl) (KQ.out _ HD.out) (fun hHeld => ?_)
                      refine wpAnyH_take (i := 0) (oi := _) (v := Value.int .i64 (-1)) rfl (by kernel_rfl) (by kernel_rfl) (by kernel_rfl) (fun _ _ _ h => h) (Or.inl ⟨by rfl, fun w' hSw => ?_⟩) hHeld ?_
                      · obtain ⟨t0, t1, t2, t3, t4, t5, t6, t7, t8, t9⟩ := hSw
                        go_simp
                        try simp [*]
                        try (intro hh; exfalso; omega)
                        try omega
                      try simp only [Act.put, List.setIfInBounds_toArray, List.set_cons_zero, List.set_cons_succ, List.getElem_toArray, List.getElem_cons_succ, List.getElem_cons_zero]
                      refine wpAnyH_take (i := 1) (oi := _) (v := Value.bool true) rfl (by kernel_rfl) (by kernel_rfl) (by kernel_rfl) (fun _ _ _ h => h) (Or.inl ⟨by rfl, fun w' hSw => ?_⟩) hHeld ?_
                      · obtain ⟨t0, t1, t2, t3, t4, t5, t6, t7, t8, t9⟩ := hSw
                        go_simp
                        try simp [*]
                        try (intro hh; exfalso; omega)
                        try omega
                      try simp only [Act.put, List.setIfInBounds_toArray, List.set_cons_zero, List.set_cons_succ, List.getElem_toArray, List.getElem_cons_succ, List.getElem_cons_zero]
                      refine wpAnyH_take (i := 2) (oi := _) (v := Value.bool true) rfl (by kernel_rfl) (by kernel_rfl) (by kernel_rfl) (fun _ _ _ h => h) (Or.inl ⟨by rfl, fun w' hSw => ?_⟩) hHeld ?_
                      · obtain ⟨t0, t1, t2, t3, t4, t5, t6, t7, t8, t9⟩ := hSw
                        go_simp
                        try simp [*]
                        try (intro hh; exfalso; omega)
                        try omega
                      try simp only [Act.put, List.setIfInBounds_toArray, List.set_cons_zero, List.set_cons_succ, List.getElem_toArray, List.getElem_cons_succ, List.getElem_cons_zero]
                      refine wpAnyH_take (i := 3) (oi := _) (v := Value.slice (some ⟨g2, 0, none⟩) m c2) rfl (by kernel_rfl) (by kernel_rfl) (by kernel_rfl) (fun _ _ _ h => h) (Or.inl ⟨by rfl, fun w' hSw => ?_⟩) hHeld ?_
                      · obtain ⟨t0, t1, t2, t3, t4, t5, t6, t7, t8, t9⟩ := hSw
                        go_simp
                        try simp [*]
                        try (intro hh; exfalso; omega)
                        try omega
                      try simp only [Act.put, List.setIfInBounds_toArray, List.set_cons_zero, List.set_cons_succ, List.getElem_toArray, List.getElem_cons_succ, List.getElem_cons_zero]
                      refine wpAnyH_take (i := 4) (oi := _) (v := Value.int .i64 (k : Int)) rfl (by kernel_rfl) (by kernel_rfl) (by kernel_rfl) (fun _ _ _ h => h) (Or.inl ⟨by rfl, fun w' hSw => ?_⟩) hHeld ?_
                      · obtain ⟨t0, t1, t2, t3, t4, t5, t6, t7, t8, t9⟩ := hSw
                        go_simp
                        try simp [*]
                        try (intro hh; exfalso; omega)
                        try omega
                      try simp only [Act.put, List.setIfInBounds_toArray, List.set_cons_zero, List.set_cons_succ, List.getElem_toArray, List.getElem_cons_succ, List.getElem_cons_zero]
                      refine wpAnyH_take (i := 5) (oi := _) (v := Value.pointer (some ⟨g2, k * 7, none⟩)) rfl (by kernel_rfl) (by kernel_rfl) (by kernel_rfl) (fun _ _ _ h => h) (Or.inl ⟨by rfl, fun w' hSw => ?_⟩) hHeld ?_
                      · obtain ⟨t0, t1, t2, t3, t4, t5, t6, t7, t8, t9⟩ := hSw
                        go_simp
                        try simp [*]
                        try (intro hh; exfalso; omega)
                        try omega
                      try simp only [Act.put, List.setIfInBounds_toArray, List.set_cons_zero, List.set_cons_succ, List.getElem_toArray, List.getElem_cons_succ, List.getElem_cons_zero]
                      refine wpAnyH_take (i := 6) (oi := _) (v := Value.pointer (some ⟨g2, k * 7, none⟩)) rfl (by kernel_rfl) (by kernel_rfl) (by kernel_rfl) (fun _ _ _ h => h) (Or.inl ⟨by rfl, fun w' hSw => ?_⟩) hHeld ?_
                      · obtain ⟨t0, t1, t2, t3, t4, t5, t6, t7, t8, t9⟩ := hSw
                        go_simp
                        try simp [*]
                        try (intro hh; exfalso; omega)
                        try omega
                      try simp only [Act.put, List.setIfInBounds_toArray, List.set_cons_zero, List.set_cons_succ, List.getElem_toArray, List.getElem_cons_succ, List.getElem_cons_zero]
                      refine wpAnyH_take (i := 7) (oi := _) (v := Value.agg #[Value.int .i64 r.id, Value.int .i64 r.cls, Value.int .i64 r.made, Value.int .i64 r.size, Value.int .i64 r.packed]) rfl (by kernel_rfl) (by kernel_rfl) (by kernel_rfl) (fun _ _ _ h => h) (Or.inl ⟨by rfl, fun w' hSw => ?_⟩) hHeld ?_
                      · obtain ⟨t0, t1, t2, t3, t4, t5, t6, t7, t8, t9⟩ := hSw
                        go_simp
                        try simp [*]
                        try (intro hh; exfalso; omega)
                        try omega
                      try simp only [Act.put, List.setIfInBounds_toArray, List.set_cons_zero, List.set_cons_succ, List.getElem_toArray, List.getElem_cons_succ, List.getElem_cons_zero]
                      refine wpAnyH_take (i := 8) (oi := _) (v := Value.agg #[Value.int .i64 r.id, Value.int .i64 r.cls, Value.int .i64 r.made, Value.int .i64 r.size, Value.int .i64 r.packed]) rfl (by kernel_rfl) (by kernel_rfl) (by kernel_rfl) (fun _ _ _ h => h) (Or.inl ⟨by rfl, fun w' hSw => ?_⟩) hHeld ?_
                      · obtain ⟨t0, t1, t2, t3, t4, t5, t6, t7, t8, t9⟩ := hSw
                        go_simp
                        try simp [*]
                        try (intro hh; exfalso; omega)
                        try omega
                      try simp only [Act.put, List.setIfInBounds_toArray, List.set_cons_zero, List.set_cons_succ, List.getElem_toArray, List.getElem_cons_succ, List.getElem_cons_zero]
                      refine wpAnyH_take (i := 9) (oi := _) (v := Value.bool false) rfl (by kernel_rfl) (by kernel_rfl) (by kernel_rfl) (fun _ _ _ h => h) (Or.inl ⟨by rfl, fun w' hSw => ?_⟩) hHeld ?_
                      · obtain ⟨t0, t1, t2, t3, t4, t5, t6, t7, t8, t9⟩ := hSw
                        go_simp
                        try simp [*]
                        try (intro hh; exfalso; omega)
                        try omega
                      try simp only [Act.put, List.setIfInBounds_toArray, List.set_cons_zero, List.set_cons_succ, List.getElem_toArray, List.getElem_cons_succ, List.getElem_cons_zero]
                      refine wpAnyH_take (i := 10) (oi := _) (v := Value.bool false) rfl (by kernel_rfl) (by kernel_rfl) (by kernel_rfl) (fun _ _ _ h => h) (Or.inl ⟨by rfl, fun w' hSw => ?_⟩) hHeld ?_
                      · obtain ⟨t0, t1, t2, t3, t4, t5, t6, t7, t8, t9⟩ := hSw
                        go_simp
                        try simp [*]
                        try (intro hh; exfalso; omega)
                        try omega
                      try simp only [Act.put, List.setIfInBounds_toArray, List.set_cons_zero, List.set_cons_succ, List.getElem_toArray, List.getElem_cons_succ, List.getElem_cons_zero]
                      refine wpAnyH_take (i := 11) (oi := _) (v := Value.bool false) rfl (by kernel_rfl) (by kernel_rfl) (by kernel_rfl) (fun _ _ _ h => h) (Or.inl ⟨by rfl, fun w' hSw => ?_⟩) hHeld ?_
                      · obtain ⟨t0, t1, t2, t3, t4, t5, t6, t7, t8, t9⟩ := hSw
                        go_simp
                        try simp [*]
                        try (intro hh; exfalso; omega)
                        try omega
                      try simp only [Act.put, List.setIfInBounds_toArray, List.set_cons_zero, List.set_cons_succ, List.getElem_toArray, List.getElem_cons_succ, List.getElem_cons_zero]
                      refine wpAnyH_take (i := 12) (oi := _) (v := Value.int .i64 (-1)) rfl (by kernel_rfl) (by kernel_rfl) (by kernel_rfl) (fun _ _ _ h => h) (Or.inl ⟨by rfl, fun w' hSw => ?_⟩) hHeld ?_
                      · obtain ⟨t0, t1, t2, t3, t4, t5, t6, t7, t8, t9⟩ := hSw
                        go_simp
                        try simp [*]
                        try (intro hh; exfalso; omega)
                        try omega
                      try simp only [Act.put, List.setIfInBounds_toArray, List.set_cons_zero, List.set_cons_succ, List.getElem_toArray, List.getElem_cons_succ, List.getElem_cons_zero]
                      refine wpAnyH_take (i := 13) (oi := _) (v := Value.bool false) rfl (by kernel_rfl) (by kernel_rfl) (by kernel_rfl) (fun _ _ _ h => h) (Or.inl ⟨by rfl, fun w' hSw => ?_⟩) hHeld ?_
                      · obtain ⟨t0, t1, t2, t3, t4, t5, t6, t7, t8, t9⟩ := hSw
                        go_simp
                        try simp [*]
                        try (intro hh; exfalso; omega)
                        try omega
                      try simp only [Act.put, List.setIfInBounds_toArray, List.set_cons_zero, List.set_cons_succ, List.getElem_toArray, List.getElem_cons_succ, List.getElem_cons_zero]
                      refine wpAnyH_take (i := 14) (oi := _) (v := Value.bool false) rfl (by kernel_rfl) (by kernel_rfl) (by kernel_rfl) (fun _ _ _ h => h) (Or.inl ⟨by rfl, fun w' hSw => ?_⟩) hHeld ?_
                      · obtain ⟨t0, t1, t2, t3, t4, t5, t6, t7, t8, t9⟩ := hSw
                        go_simp
                        try simp [*]
                        try (intro hh; exfalso; omega)
                        try omega
                      try simp only [Act.put, List.setIfInBounds_toArray, List.set_cons_zero, List.set_cons_succ, List.getElem_toArray, List.getElem_cons_succ, List.getElem_cons_zero]
                      refine wpAnyH_take (i := 15) (oi := _) (v := undef) rfl (by kernel_rfl) (by kernel_rfl) (by kernel_rfl) (fun _ _ _ h => h) (Or.inr ⟨by rfl, rfl⟩) hHeld ?_
                      try simp only [Act.put, List.setIfInBounds_toArray, List.set_cons_zero, List.set_cons_succ, List.getElem_toArray, List.getElem_cons_succ, List.getElem_cons_zero]
                      refine wpAnyH_take (i := 16) (oi := _) (v := undef) rfl (by kernel_rfl) (by kernel_rfl) (by kernel_rfl) (fun _ _ _ h => h) (Or.inr ⟨by rfl, rfl⟩) hHeld ?_
                      try simp only [Act.put, List.setIfInBounds_toArray, List.set_cons_zero, List.set_cons_succ, List.getElem_toArray, List.getElem_cons_succ, List.getElem_cons_zero]
                      refine wpAnyH_take (i := 17) (oi := _) (v := undef) rfl (by kernel_rfl) (by kernel_rfl) (by kernel_rfl) (fun _ _ _ h => h) (Or.inr ⟨by rfl, rfl⟩) hHeld ?_
                      try simp only [Act.put, List.setIfInBounds_toArray, List.set_cons_zero, List.set_cons_succ, List.getElem_toArray, List.getElem_cons_succ, List.getElem_cons_zero]
                      refine wpAnyH_take (i := 18) (oi := _) (v := undef) rfl (by kernel_rfl) (by kernel_rfl) (by kernel_rfl) (fun _ _ _ h => h) (Or.inr ⟨by rfl, rfl⟩) hHeld ?_
                      try simp only [Act.put, List.setIfInBounds_toArray, List.set_cons_zero, List.set_cons_succ, List.getElem_toArray, List.getElem_cons_succ, List.getElem_cons_zero]
                      refine wpAnyH_take (i := 19) (oi := _) (v := undef) rfl (by kernel_rfl) (by kernel_rfl) (by kernel_rfl) (fun _ _ _ h => h) (Or.inr ⟨by rfl, rfl⟩) hHeld ?_
                      try simp only [Act.put, List.setIfInBounds_toArray, List.set_cons_zero, List.set_cons_succ, List.getElem_toArray, List.getElem_cons_succ, List.getElem_cons_zero]
                      refine wpAnyH_take (i := 20) (oi := _) (v := Value.bool false) rfl (by kernel_rfl) (by kernel_rfl) (by kernel_rfl) (fun _ _ _ h => h) (Or.inl ⟨by rfl, fun w' hSw => ?_⟩) hHeld ?_
                      · obtain ⟨t0, t1, t2, t3, t4, t5, t6, t7, t8, t9⟩ := hSw
                        go_simp
                        try simp [*]
                        try (intro hh; exfalso; omega)
                        try omega
                      try simp only [Act.put, List.setIfInBounds_toArray, List.set_cons_zero, List.set_cons_succ, List.getElem_toArray, List.getElem_cons_succ, List.getElem_cons_zero]
                      refine wpAnyH_take (i := 21) (oi := _) (v := Value.bool false) rfl (by kernel_rfl) (by kernel_rfl) (by kernel_rfl) (fun _ _ _ h => h) (Or.inl ⟨by rfl, fun w' hSw => ?_⟩) hHeld ?_
                      · obtain ⟨t0, t1, t2, t3, t4, t5, t6, t7, t8, t9⟩ := hSw
                        go_simp
                        try simp [*]
                        try (intro hh; exfalso; omega)
                        try omega
                      try simp only [Act.put, List.setIfInBounds_toArray, List.set_cons_zero, List.set_cons_succ, List.getElem_toArray, List.getElem_cons_succ, List.getElem_cons_zero]
                      refine wpAnyH_take (i := 22) (oi := _) (v := undef) rfl (by kernel_rfl) (by kernel_rfl) (by kernel_rfl) (fun _ _ _ h => h) (Or.inr ⟨by rfl, rfl⟩) hHeld ?_
                      try simp only [Act.put, List.setIfInBounds_toArray, List.set_cons_zero, List.set_cons_succ, List.getElem_toArray, List.getElem_cons_succ, List.getElem_cons_zero]
                      refine wpAnyH_take (i := 23) (oi := _) (v := undef) rfl (by kernel_rfl) (by kernel_rfl) (by kernel_rfl) (fun _ _ _ h => h) (Or.inr ⟨by rfl, rfl⟩) hHeld ?_
                      try simp only [Act.put, List.setIfInBounds_toArray, List.set_cons_zero, List.set_cons_succ, List.getElem_toArray, List.getElem_cons_succ, List.getElem_cons_zero]
                      refine wpAnyH_take (i := 24) (oi := _) (v := undef) rfl (by kernel_rfl) (by kernel_rfl) (by kernel_rfl) (fun _ _ _ h => h) (Or.inr ⟨by rfl, rfl⟩) hHeld ?_
                      try simp only [Act.put, List.setIfInBounds_toArray, List.set_cons_zero, List.set_cons_succ, List.getElem_toArray, List.getElem_cons_succ, List.getElem_cons_zero]
                      refine wpAnyH_take (i := 25) (oi := _) (v := undef) rfl (by kernel_rfl) (by kernel_rfl) (by kernel_rfl) (fun _ _ _ h => h) (Or.inr ⟨by rfl, rfl⟩) hHeld ?_
                      try simp only [Act.put, List.setIfInBounds_toArray, List.set_cons_zero, List.set_cons_succ, List.getElem_toArray, List.getElem_cons_succ, List.getElem_cons_zero]
                      refine wpAnyH_take (i := 26) (oi := _) (v := undef) rfl (by kernel_rfl) (by kernel_rfl) (by kernel_rfl) (fun _ _ _ h => h) (Or.inr ⟨by rfl, rfl⟩) hHeld ?_
                      try simp only [Act.put, List.setIfInBounds_toArray, List.set_cons_zero, List.set_cons_succ, List.getElem_toArray, List.getElem_cons_succ, List.getElem_cons_zero]
                      refine wpAnyH_take (i := 27) (oi := _) (v := undef) rfl (by kernel_rfl) (by kernel_rfl) (by kernel_rfl) (fun _ _ _ h => h) (Or.inr ⟨by rfl, rfl⟩) hHeld ?_
                      try simp only [Act.put, List.setIfInBounds_toArray, List.set_cons_zero, List.set_cons_succ, List.getElem_toArray, List.getElem_cons_succ, List.getElem_cons_zero]
                      refine wpAnyH_take (i := 28) (oi := _) (v := Value.bool false) rfl (by kernel_rfl) (by kernel_rfl) (by kernel_rfl) (fun _ _ _ h => h) (Or.inl ⟨by rfl, fun w' hSw => ?_⟩) hHeld ?_
                      · obtain ⟨t0, t1, t2, t3, t4, t5, t6, t7, t8, t9⟩ := hSw
                        go_simp
                        try simp [*]
                        try (intro hh; exfalso; omega)
                        try omega
                      try simp only [Act.put, List.setIfInBounds_toArray, List.set_cons_zero, List.set_cons_succ, List.getElem_toArray, List.getElem_cons_succ, List.getElem_cons_zero]
                      refine wpAnyH_take (i := 29) (oi := _) (v := Value.bool false) rfl (by kernel_rfl) (by kernel_rfl) (by kernel_rfl) (fun _ _ _ h => h) (Or.inl ⟨by rfl, fun w' hSw => ?_⟩) hHeld ?_
                      · obtain ⟨t0, t1, t2, t3, t4, t5, t6, t7, t8, t9⟩ := hSw
                        go_simp
                        try simp [*]
                        try (intro hh; exfalso; omega)
                        try omega
                      try simp only [Act.put, List.setIfInBounds_toArray, List.set_cons_zero, List.set_cons_succ, List.getElem_toArray, List.getElem_cons_succ, List.getElem_cons_zero]
                      refine wpAnyH_done (by kernel_rfl) ?_ _
                      clear hHeld
                      go_wp2_with fail
                      go_meet
                      case rel => exact ⟨rfl, HD.out⟩
                    · obtain ⟨g1, y, rfl, hy, hyk, hyc⟩ := HC1X.out k2 (by rw [HLN.out]; exact hk2)
                      have HYC := Lib.hid hyc
                      have hyx : y.small = true → x.small = true := HKS.out x HXL.out y hy (by
                        have e : L[k2] = y := by have := List.getElem?_eq_getElem hk2; rw [hyk] at this; simpa using this.symm
                        rw [← e]; exact hz)
                      have hk2i : (k2 : Int) < (ln : Int) := by have := HLN.out; omega
                      have hk2l : k2 < ln := by omega
                      have hk2n : ¬((k2 : Int) < 0) := by omega
                      have hk2z : (0 : Int) ≤ (k2 : Int) := by omega
                      clear hy hyk hyc hz hk2
                      cases hys : y.small
                      · have HYC2 := Lib.hid (show ∀ W1, Below V.heap.size V W1 → W1.cell? ⟨g1, k2 * 7 + 5, none⟩ = some (Value.bool false) from fun W1 h => by have := HYC.out W1 h; rwa [hys] at this)
                        clear hyx hys
                        have KQ := Lib.hid (show ∀ W1, Below V.heap.size V W1 → W1.cell? ⟨g2, k * 7 + 5, none⟩ = some (Value.bool x.small) ∧ W1.cell? ⟨g1, k2 * 7 + 5, none⟩ = some (Value.bool false) from fun W1 h => by
                          exact ⟨(HXC.out W1 h).2.2.2.2.2.1, HYC2.out W1 h⟩)
                        have HD := Lib.hid (show Below V.heap.size V w10.drew from HB9.out.drew)
                        go_upto_region 28 with fail
                        refine wp_region_held_drew (S := fun w' => w'.cell? ⟨g2, k * 7 + 5, none⟩ = some (Value.bool x.small) ∧ w'.cell? ⟨g1, k2 * 7 + 5, none⟩ = some (Value.bool false)) (by kernel_rfl) (KQ.out _ HD.out) (fun hHeld => ?_)
                        refine wpAnyH_take (i := 0) (oi := _) (v := Value.int .i64 (k2 : Int)) rfl (by kernel_rfl) (by kernel_rfl) (by kernel_rfl) (fun _ _ _ h => h) (Or.inl ⟨by rfl, fun w' hSw => ?_⟩) hHeld ?_
                        · obtain ⟨t0, t1⟩ := hSw
                          go_simp
                          try simp [*]
                          try (intro hh; exfalso; omega)
                          try omega
                        try simp only [Act.put, List.setIfInBounds_toArray, List.set_cons_zero, List.set_cons_succ, List.getElem_toArray, List.getElem_cons_succ, List.getElem_cons_zero]
                        refine wpAnyH_take (i := 1) (oi := _) (v := Value.bool false) rfl (by kernel_rfl) (by kernel_rfl) (by kernel_rfl) (fun _ _ _ h => h) (Or.inl ⟨by rfl, fun w' hSw => ?_⟩) hHeld ?_
                        · obtain ⟨t0, t1⟩ := hSw
                          go_simp
                          try simp [*]
                          try (intro hh; exfalso; omega)
                          try omega
                        try simp only [Act.put, List.setIfInBounds_toArray, List.set_cons_zero, List.set_cons_succ, List.getElem_toArray, List.getElem_cons_succ, List.getElem_cons_zero]
                        refine wpAnyH_take (i := 2) (oi := _) (v := Value.bool false) rfl (by kernel_rfl) (by kernel_rfl) (by kernel_rfl) (fun _ _ _ h => h) (Or.inl ⟨by rfl, fun w' hSw => ?_⟩) hHeld ?_
                        · obtain ⟨t0, t1⟩ := hSw
                          go_simp
                          try simp [*]
                          try (intro hh; exfalso; omega)
                          try omega
                        try simp only [Act.put, List.setIfInBounds_toArray, List.set_cons_zero, List.set_cons_succ, List.getElem_toArray, List.getElem_cons_succ, List.getElem_cons_zero]
                        refine wpAnyH_take (i := 3) (oi := _) (v := undef) rfl (by kernel_rfl) (by kernel_rfl) (by kernel_rfl) (fun _ _ _ h => h) (Or.inr ⟨by rfl, rfl⟩) hHeld ?_
                        try simp only [Act.put, List.setIfInBounds_toArray, List.set_cons_zero, List.set_cons_succ, List.getElem_toArray, List.getElem_cons_succ, List.getElem_cons_zero]
                        refine wpAnyH_take (i := 4) (oi := _) (v := undef) rfl (by kernel_rfl) (by kernel_rfl) (by kernel_rfl) (fun _ _ _ h => h) (Or.inr ⟨by rfl, rfl⟩) hHeld ?_
                        try simp only [Act.put, List.setIfInBounds_toArray, List.set_cons_zero, List.set_cons_succ, List.getElem_toArray, List.getElem_cons_succ, List.getElem_cons_zero]
                        refine wpAnyH_take (i := 5) (oi := _) (v := undef) rfl (by kernel_rfl) (by kernel_rfl) (by kernel_rfl) (fun _ _ _ h => h) (Or.inr ⟨by rfl, rfl⟩) hHeld ?_
                        try simp only [Act.put, List.setIfInBounds_toArray, List.set_cons_zero, List.set_cons_succ, List.getElem_toArray, List.getElem_cons_succ, List.getElem_cons_zero]
                        refine wpAnyH_take (i := 6) (oi := _) (v := undef) rfl (by kernel_rfl) (by kernel_rfl) (by kernel_rfl) (fun _ _ _ h => h) (Or.inr ⟨by rfl, rfl⟩) hHeld ?_
                        try simp only [Act.put, List.setIfInBounds_toArray, List.set_cons_zero, List.set_cons_succ, List.getElem_toArray, List.getElem_cons_succ, List.getElem_cons_zero]
                        refine wpAnyH_take (i := 7) (oi := _) (v := undef) rfl (by kernel_rfl) (by kernel_rfl) (by kernel_rfl) (fun _ _ _ h => h) (Or.inr ⟨by rfl, rfl⟩) hHeld ?_
                        try simp only [Act.put, List.setIfInBounds_toArray, List.set_cons_zero, List.set_cons_succ, List.getElem_toArray, List.getElem_cons_succ, List.getElem_cons_zero]
                        refine wpAnyH_take (i := 8) (oi := _) (v := undef) rfl (by kernel_rfl) (by kernel_rfl) (by kernel_rfl) (fun _ _ _ h => h) (Or.inr ⟨by rfl, rfl⟩) hHeld ?_
                        try simp only [Act.put, List.setIfInBounds_toArray, List.set_cons_zero, List.set_cons_succ, List.getElem_toArray, List.getElem_cons_succ, List.getElem_cons_zero]
                        refine wpAnyH_take (i := 9) (oi := _) (v := undef) rfl (by kernel_rfl) (by kernel_rfl) (by kernel_rfl) (fun _ _ _ h => h) (Or.inr ⟨by rfl, rfl⟩) hHeld ?_
                        try simp only [Act.put, List.setIfInBounds_toArray, List.set_cons_zero, List.set_cons_succ, List.getElem_toArray, List.getElem_cons_succ, List.getElem_cons_zero]
                        refine wpAnyH_take (i := 10) (oi := _) (v := Value.bool false) rfl (by kernel_rfl) (by kernel_rfl) (by kernel_rfl) (fun _ _ _ h => h) (Or.inl ⟨by rfl, fun w' hSw => ?_⟩) hHeld ?_
                        · obtain ⟨t0, t1⟩ := hSw
                          go_simp
                          try simp [*]
                          try (intro hh; exfalso; omega)
                          try omega
                        try simp only [Act.put, List.setIfInBounds_toArray, List.set_cons_zero, List.set_cons_succ, List.getElem_toArray, List.getElem_cons_succ, List.getElem_cons_zero]
                        refine wpAnyH_take (i := 11) (oi := _) (v := Value.bool false) rfl (by kernel_rfl) (by kernel_rfl) (by kernel_rfl) (fun _ _ _ h => h) (Or.inl ⟨by rfl, fun w' hSw => ?_⟩) hHeld ?_
                        · obtain ⟨t0, t1⟩ := hSw
                          go_simp
                          try simp [*]
                          try (intro hh; exfalso; omega)
                          try omega
                        try simp only [Act.put, List.setIfInBounds_toArray, List.set_cons_zero, List.set_cons_succ, List.getElem_toArray, List.getElem_cons_succ, List.getElem_cons_zero]
                        refine wpAnyH_take (i := 12) (oi := _) (v := Value.int .i64 (k2 : Int)) rfl (by kernel_rfl) (by kernel_rfl) (by kernel_rfl) (fun _ _ _ h => h) (Or.inl ⟨by rfl, fun w' hSw => ?_⟩) hHeld ?_
                        · obtain ⟨t0, t1⟩ := hSw
                          go_simp
                          try simp [*]
                          try (intro hh; exfalso; omega)
                          try omega
                        try simp only [Act.put, List.setIfInBounds_toArray, List.set_cons_zero, List.set_cons_succ, List.getElem_toArray, List.getElem_cons_succ, List.getElem_cons_zero]
                        refine wpAnyH_take (i := 13) (oi := _) (v := Value.bool true) rfl (by kernel_rfl) (by kernel_rfl) (by kernel_rfl) (fun _ _ _ h => h) (Or.inl ⟨by rfl, fun w' hSw => ?_⟩) hHeld ?_
                        · obtain ⟨t0, t1⟩ := hSw
                          go_simp
                          try simp [*]
                          try (intro hh; exfalso; omega)
                          try omega
                        try simp only [Act.put, List.setIfInBounds_toArray, List.set_cons_zero, List.set_cons_succ, List.getElem_toArray, List.getElem_cons_succ, List.getElem_cons_zero]
                        refine wpAnyH_take (i := 14) (oi := _) (v := Value.bool true) rfl (by kernel_rfl) (by kernel_rfl) (by kernel_rfl) (fun _ _ _ h => h) (Or.inl ⟨by rfl, fun w' hSw => ?_⟩) hHeld ?_
                        · obtain ⟨t0, t1⟩ := hSw
                          go_simp
                          try simp [*]
                          try (intro hh; exfalso; omega)
                          try omega
                        try simp only [Act.put, List.setIfInBounds_toArray, List.set_cons_zero, List.set_cons_succ, List.getElem_toArray, List.getElem_cons_succ, List.getElem_cons_zero]
                        refine wpAnyH_take (i := 15) (oi := _) (v := Value.slice (some ⟨g1, 0, none⟩) ln c1) rfl (by kernel_rfl) (by kernel_rfl) (by kernel_rfl) (fun _ _ _ h => h) (Or.inl ⟨by rfl, fun w' hSw => ?_⟩) hHeld ?_
                        · obtain ⟨t0, t1⟩ := hSw
                          go_simp
                          try simp [*]
                          try (intro hh; exfalso; omega)
                          try omega
                        try simp only [Act.put, List.setIfInBounds_toArray, List.set_cons_zero, List.set_cons_succ, List.getElem_toArray, List.getElem_cons_succ, List.getElem_cons_zero]
                        refine wpAnyH_take (i := 16) (oi := _) (v := Value.int .i64 (k2 : Int)) rfl (by kernel_rfl) (by kernel_rfl) (by kernel_rfl) (fun _ _ _ h => h) (Or.inl ⟨by rfl, fun w' hSw => ?_⟩) hHeld ?_
                        · obtain ⟨t0, t1⟩ := hSw
                          go_simp
                          try simp [*]
                          try (intro hh; exfalso; omega)
                          try omega
                        try simp only [Act.put, List.setIfInBounds_toArray, List.set_cons_zero, List.set_cons_succ, List.getElem_toArray, List.getElem_cons_succ, List.getElem_cons_zero]
                        refine wpAnyH_take (i := 17) (oi := _) (v := Value.pointer (some ⟨g1, k2 * 7, none⟩)) rfl (by kernel_rfl) (by kernel_rfl) (by kernel_rfl) (fun _ _ _ h => h) (Or.inl ⟨by rfl, fun w' hSw => ?_⟩) hHeld ?_
                        · obtain ⟨t0, t1⟩ := hSw
                          go_simp
                          try simp [*]
                          try (intro hh; exfalso; omega)
                          try omega
                        try simp only [Act.put, List.setIfInBounds_toArray, List.set_cons_zero, List.set_cons_succ, List.getElem_toArray, List.getElem_cons_succ, List.getElem_cons_zero]
                        refine wpAnyH_take (i := 18) (oi := _) (v := Value.pointer (some ⟨g1, k2 * 7 + 5, none⟩)) rfl (by kernel_rfl) (by kernel_rfl) (by kernel_rfl) (fun _ _ _ h => h) (Or.inl ⟨by rfl, fun w' hSw => ?_⟩) hHeld ?_
                        · obtain ⟨t0, t1⟩ := hSw
                          go_simp
                          try simp [*]
                          try (intro hh; exfalso; omega)
                          try omega
                        try simp only [Act.put, List.setIfInBounds_toArray, List.set_cons_zero, List.set_cons_succ, List.getElem_toArray, List.getElem_cons_succ, List.getElem_cons_zero]
                        refine wpAnyH_take (i := 19) (oi := _) (v := Value.bool false) rfl (by kernel_rfl) (by kernel_rfl) (by kernel_rfl) (fun _ _ _ h => h) (Or.inl ⟨by rfl, fun w' hSw => ?_⟩) hHeld ?_
                        · obtain ⟨t0, t1⟩ := hSw
                          go_simp
                          try simp [*]
                          try (intro hh; exfalso; omega)
                          try omega
                        try simp only [Act.put, List.setIfInBounds_toArray, List.set_cons_zero, List.set_cons_succ, List.getElem_toArray, List.getElem_cons_succ, List.getElem_cons_zero]
                        refine wpAnyH_take (i := 20) (oi := _) (v := Value.bool false) rfl (by kernel_rfl) (by kernel_rfl) (by kernel_rfl) (fun _ _ _ h => h) (Or.inl ⟨by rfl, fun w' hSw => ?_⟩) hHeld ?_
                        · obtain ⟨t0, t1⟩ := hSw
                          go_simp
                          try simp [*]
                          try (intro hh; exfalso; omega)
                          try omega
                        try simp only [Act.put, List.setIfInBounds_toArray, List.set_cons_zero, List.set_cons_succ, List.getElem_toArray, List.getElem_cons_succ, List.getElem_cons_zero]
                        refine wpAnyH_take (i := 21) (oi := _) (v := Value.bool false) rfl (by kernel_rfl) (by kernel_rfl) (by kernel_rfl) (fun _ _ _ h => h) (Or.inl ⟨by rfl, fun w' hSw => ?_⟩) hHeld ?_
                        · obtain ⟨t0, t1⟩ := hSw
                          go_simp
                          try simp [*]
                          try (intro hh; exfalso; omega)
                          try omega
                        try simp only [Act.put, List.setIfInBounds_toArray, List.set_cons_zero, List.set_cons_succ, List.getElem_toArray, List.getElem_cons_succ, List.getElem_cons_zero]
                        refine wpAnyH_take (i := 22) (oi := _) (v := undef) rfl (by kernel_rfl) (by kernel_rfl) (by kernel_rfl) (fun _ _ _ h => h) (Or.inr ⟨by rfl, rfl⟩) hHeld ?_
                        try simp only [Act.put, List.setIfInBounds_toArray, List.set_cons_zero, List.set_cons_succ, List.getElem_toArray, List.getElem_cons_succ, List.getElem_cons_zero]
                        refine wpAnyH_take (i := 23) (oi := _) (v := undef) rfl (by kernel_rfl) (by kernel_rfl) (by kernel_rfl) (fun _ _ _ h => h) (Or.inr ⟨by rfl, rfl⟩) hHeld ?_
                        try simp only [Act.put, List.setIfInBounds_toArray, List.set_cons_zero, List.set_cons_succ, List.getElem_toArray, List.getElem_cons_succ, List.getElem_cons_zero]
                        refine wpAnyH_take (i := 24) (oi := _) (v := undef) rfl (by kernel_rfl) (by kernel_rfl) (by kernel_rfl) (fun _ _ _ h => h) (Or.inr ⟨by rfl, rfl⟩) hHeld ?_
                        try simp only [Act.put, List.setIfInBounds_toArray, List.set_cons_zero, List.set_cons_succ, List.getElem_toArray, List.getElem_cons_succ, List.getElem_cons_zero]
                        refine wpAnyH_take (i := 25) (oi := _) (v := undef) rfl (by kernel_rfl) (by kernel_rfl) (by kernel_rfl) (fun _ _ _ h => h) (Or.inr ⟨by rfl, rfl⟩) hHeld ?_
                        try simp only [Act.put, List.setIfInBounds_toArray, List.set_cons_zero, List.set_cons_succ, List.getElem_toArray, List.getElem_cons_succ, List.getElem_cons_zero]
                        refine wpAnyH_take (i := 26) (oi := _) (v := undef) rfl (by kernel_rfl) (by kernel_rfl) (by kernel_rfl) (fun _ _ _ h => h) (Or.inr ⟨by rfl, rfl⟩) hHeld ?_
                        try simp only [Act.put, List.setIfInBounds_toArray, List.set_cons_zero, List.set_cons_succ, List.getElem_toArray, List.getElem_cons_succ, List.getElem_cons_zero]
                        refine wpAnyH_take (i := 27) (oi := _) (v := undef) rfl (by kernel_rfl) (by kernel_rfl) (by kernel_rfl) (fun _ _ _ h => h) (Or.inr ⟨by rfl, rfl⟩) hHeld ?_
                        try simp only [Act.put, List.setIfInBounds_toArray, List.set_cons_zero, List.set_cons_succ, List.getElem_toArray, List.getElem_cons_succ, List.getElem_cons_zero]
                        refine wpAnyH_take (i := 28) (oi := _) (v := Value.bool false) rfl (by kernel_rfl) (by kernel_rfl) (by kernel_rfl) (fun _ _ _ h => h) (Or.inl ⟨by rfl, fun w' hSw => ?_⟩) hHeld ?_
                        · obtain ⟨t0, t1⟩ := hSw
                          go_simp
                          try simp [*]
                          try (intro hh; exfalso; omega)
                          try omega
                        try simp only [Act.put, List.setIfInBounds_toArray, List.set_cons_zero, List.set_cons_succ, List.getElem_toArray, List.getElem_cons_succ, List.getElem_cons_zero]
                        refine wpAnyH_take (i := 29) (oi := _) (v := Value.bool false) rfl (by kernel_rfl) (by kernel_rfl) (by kernel_rfl) (fun _ _ _ h => h) (Or.inl ⟨by rfl, fun w' hSw => ?_⟩) hHeld ?_
                        · obtain ⟨t0, t1⟩ := hSw
                          go_simp
                          try simp [*]
                          try (intro hh; exfalso; omega)
                          try omega
                        try simp only [Act.put, List.setIfInBounds_toArray, List.set_cons_zero, List.set_cons_succ, List.getElem_toArray, List.getElem_cons_succ, List.getElem_cons_zero]
                        refine wpAnyH_done (by kernel_rfl) ?_ _
                        clear hHeld
                        go_wp2_with fail
                        go_meet
                        case rel => exact ⟨rfl, HD.out⟩
                      · have hxs := hyx hys
                        have HYC2 := Lib.hid (show ∀ W1, Below V.heap.size V W1 → W1.cell? ⟨g1, k2 * 7 + 5, none⟩ = some (Value.bool true) from fun W1 h => by have := HYC.out W1 h; rwa [hys] at this)
                        have HXS := Lib.hid (show ∀ W1, Below V.heap.size V W1 → W1.cell? ⟨g2, k * 7 + 5, none⟩ = some (Value.bool true) from fun W1 h => by have := (HXC.out W1 h).2.2.2.2.2.1; rwa [hxs] at this)
                        clear hyx hys hxs
                        have KQ := Lib.hid (show ∀ W1, Below V.heap.size V W1 → W1.cell? ⟨g2, k * 7 + 5, none⟩ = some (Value.bool true) ∧ W1.cell? ⟨g1, k2 * 7 + 5, none⟩ = some (Value.bool true) from fun W1 h => by
                          exact ⟨HXS.out W1 h, HYC2.out W1 h⟩)
                        have HD := Lib.hid (show Below V.heap.size V w10.drew from HB9.out.drew)
                        go_upto_region 28 with fail
                        refine wp_region_held_drew (S := fun w' => w'.cell? ⟨g2, k * 7 + 5, none⟩ = some (Value.bool true) ∧ w'.cell? ⟨g1, k2 * 7 + 5, none⟩ = some (Value.bool true)) (by kernel_rfl) (KQ.out _ HD.out) (fun hHeld => ?_)
                        refine wpAnyH_take (i := 0) (oi := _) (v := Value.int .i64 (k2 : Int)) rfl (by kernel_rfl) (by kernel_rfl) (by kernel_rfl) (fun _ _ _ h => h) (Or.inl ⟨by rfl, fun w' hSw => ?_⟩) hHeld ?_
                        · obtain ⟨t0, t1⟩ := hSw
                          go_simp
                          try simp [*]
                          try (intro hh; exfalso; omega)
                          try omega
                        try simp only [Act.put, List.setIfInBounds_toArray, List.set_cons_zero, List.set_cons_succ, List.getElem_toArray, List.getElem_cons_succ, List.getElem_cons_zero]
                        refine wpAnyH_take (i := 1) (oi := _) (v := Value.bool false) rfl (by kernel_rfl) (by kernel_rfl) (by kernel_rfl) (fun _ _ _ h => h) (Or.inl ⟨by rfl, fun w' hSw => ?_⟩) hHeld ?_
                        · obtain ⟨t0, t1⟩ := hSw
                          go_simp
                          try simp [*]
                          try (intro hh; exfalso; omega)
                          try omega
                        try simp only [Act.put, List.setIfInBounds_toArray, List.set_cons_zero, List.set_cons_succ, List.getElem_toArray, List.getElem_cons_succ, List.getElem_cons_zero]
                        refine wpAnyH_take (i := 2) (oi := _) (v := Value.bool false) rfl (by kernel_rfl) (by kernel_rfl) (by kernel_rfl) (fun _ _ _ h => h) (Or.inl ⟨by rfl, fun w' hSw => ?_⟩) hHeld ?_
                        · obtain ⟨t0, t1⟩ := hSw
                          go_simp
                          try simp [*]
                          try (intro hh; exfalso; omega)
                          try omega
                        try simp only [Act.put, List.setIfInBounds_toArray, List.set_cons_zero, List.set_cons_succ, List.getElem_toArray, List.getElem_cons_succ, List.getElem_cons_zero]
                        refine wpAnyH_take (i := 3) (oi := _) (v := undef) rfl (by kernel_rfl) (by kernel_rfl) (by kernel_rfl) (fun _ _ _ h => h) (Or.inr ⟨by rfl, rfl⟩) hHeld ?_
                        try simp only [Act.put, List.setIfInBounds_toArray, List.set_cons_zero, List.set_cons_succ, List.getElem_toArray, List.getElem_cons_succ, List.getElem_cons_zero]
                        refine wpAnyH_take (i := 4) (oi := _) (v := undef) rfl (by kernel_rfl) (by kernel_rfl) (by kernel_rfl) (fun _ _ _ h => h) (Or.inr ⟨by rfl, rfl⟩) hHeld ?_
                        try simp only [Act.put, List.setIfInBounds_toArray, List.set_cons_zero, List.set_cons_succ, List.getElem_toArray, List.getElem_cons_succ, List.getElem_cons_zero]
                        refine wpAnyH_take (i := 5) (oi := _) (v := undef) rfl (by kernel_rfl) (by kernel_rfl) (by kernel_rfl) (fun _ _ _ h => h) (Or.inr ⟨by rfl, rfl⟩) hHeld ?_
                        try simp only [Act.put, List.setIfInBounds_toArray, List.set_cons_zero, List.set_cons_succ, List.getElem_toArray, List.getElem_cons_succ, List.getElem_cons_zero]
                        refine wpAnyH_take (i := 6) (oi := _) (v := undef) rfl (by kernel_rfl) (by kernel_rfl) (by kernel_rfl) (fun _ _ _ h => h) (Or.inr ⟨by rfl, rfl⟩) hHeld ?_
                        try simp only [Act.put, List.setIfInBounds_toArray, List.set_cons_zero, List.set_cons_succ, List.getElem_toArray, List.getElem_cons_succ, List.getElem_cons_zero]
                        refine wpAnyH_take (i := 7) (oi := _) (v := undef) rfl (by kernel_rfl) (by kernel_rfl) (by kernel_rfl) (fun _ _ _ h => h) (Or.inr ⟨by rfl, rfl⟩) hHeld ?_
                        try simp only [Act.put, List.setIfInBounds_toArray, List.set_cons_zero, List.set_cons_succ, List.getElem_toArray, List.getElem_cons_succ, List.getElem_cons_zero]
                        refine wpAnyH_take (i := 8) (oi := _) (v := undef) rfl (by kernel_rfl) (by kernel_rfl) (by kernel_rfl) (fun _ _ _ h => h) (Or.inr ⟨by rfl, rfl⟩) hHeld ?_
                        try simp only [Act.put, List.setIfInBounds_toArray, List.set_cons_zero, List.set_cons_succ, List.getElem_toArray, List.getElem_cons_succ, List.getElem_cons_zero]
                        refine wpAnyH_take (i := 9) (oi := _) (v := undef) rfl (by kernel_rfl) (by kernel_rfl) (by kernel_rfl) (fun _ _ _ h => h) (Or.inr ⟨by rfl, rfl⟩) hHeld ?_
                        try simp only [Act.put, List.setIfInBounds_toArray, List.set_cons_zero, List.set_cons_succ, List.getElem_toArray, List.getElem_cons_succ, List.getElem_cons_zero]
                        refine wpAnyH_take (i := 10) (oi := _) (v := Value.bool false) rfl (by kernel_rfl) (by kernel_rfl) (by kernel_rfl) (fun _ _ _ h => h) (Or.inl ⟨by rfl, fun w' hSw => ?_⟩) hHeld ?_
                        · obtain ⟨t0, t1⟩ := hSw
                          go_simp
                          try simp [*]
                          try (intro hh; exfalso; omega)
                          try omega
                        try simp only [Act.put, List.setIfInBounds_toArray, List.set_cons_zero, List.set_cons_succ, List.getElem_toArray, List.getElem_cons_succ, List.getElem_cons_zero]
                        refine wpAnyH_take (i := 11) (oi := _) (v := Value.bool false) rfl (by kernel_rfl) (by kernel_rfl) (by kernel_rfl) (fun _ _ _ h => h) (Or.inl ⟨by rfl, fun w' hSw => ?_⟩) hHeld ?_
                        · obtain ⟨t0, t1⟩ := hSw
                          go_simp
                          try simp [*]
                          try (intro hh; exfalso; omega)
                          try omega
                        try simp only [Act.put, List.setIfInBounds_toArray, List.set_cons_zero, List.set_cons_succ, List.getElem_toArray, List.getElem_cons_succ, List.getElem_cons_zero]
                        refine wpAnyH_take (i := 12) (oi := _) (v := Value.int .i64 (k2 : Int)) rfl (by kernel_rfl) (by kernel_rfl) (by kernel_rfl) (fun _ _ _ h => h) (Or.inl ⟨by rfl, fun w' hSw => ?_⟩) hHeld ?_
                        · obtain ⟨t0, t1⟩ := hSw
                          go_simp
                          try simp [*]
                          try (intro hh; exfalso; omega)
                          try omega
                        try simp only [Act.put, List.setIfInBounds_toArray, List.set_cons_zero, List.set_cons_succ, List.getElem_toArray, List.getElem_cons_succ, List.getElem_cons_zero]
                        refine wpAnyH_take (i := 13) (oi := _) (v := Value.bool true) rfl (by kernel_rfl) (by kernel_rfl) (by kernel_rfl) (fun _ _ _ h => h) (Or.inl ⟨by rfl, fun w' hSw => ?_⟩) hHeld ?_
                        · obtain ⟨t0, t1⟩ := hSw
                          go_simp
                          try simp [*]
                          try (intro hh; exfalso; omega)
                          try omega
                        try simp only [Act.put, List.setIfInBounds_toArray, List.set_cons_zero, List.set_cons_succ, List.getElem_toArray, List.getElem_cons_succ, List.getElem_cons_zero]
                        refine wpAnyH_take (i := 14) (oi := _) (v := Value.bool true) rfl (by kernel_rfl) (by kernel_rfl) (by kernel_rfl) (fun _ _ _ h => h) (Or.inl ⟨by rfl, fun w' hSw => ?_⟩) hHeld ?_
                        · obtain ⟨t0, t1⟩ := hSw
                          go_simp
                          try simp [*]
                          try (intro hh; exfalso; omega)
                          try omega
                        try simp only [Act.put, List.setIfInBounds_toArray, List.set_cons_zero, List.set_cons_succ, List.getElem_toArray, List.getElem_cons_succ, List.getElem_cons_zero]
                        refine wpAnyH_take (i := 15) (oi := _) (v := Value.slice (some ⟨g1, 0, none⟩) ln c1) rfl (by kernel_rfl) (by kernel_rfl) (by kernel_rfl) (fun _ _ _ h => h) (Or.inl ⟨by rfl, fun w' hSw => ?_⟩) hHeld ?_
                        · obtain ⟨t0, t1⟩ := hSw
                          go_simp
                          try simp [*]
                          try (intro hh; exfalso; omega)
                          try omega
                        try simp only [Act.put, List.setIfInBounds_toArray, List.set_cons_zero, List.set_cons_succ, List.getElem_toArray, List.getElem_cons_succ, List.getElem_cons_zero]
                        refine wpAnyH_take (i := 16) (oi := _) (v := Value.int .i64 (k2 : Int)) rfl (by kernel_rfl) (by kernel_rfl) (by kernel_rfl) (fun _ _ _ h => h) (Or.inl ⟨by rfl, fun w' hSw => ?_⟩) hHeld ?_
                        · obtain ⟨t0, t1⟩ := hSw
                          go_simp
                          try simp [*]
                          try (intro hh; exfalso; omega)
                          try omega
                        try simp only [Act.put, List.setIfInBounds_toArray, List.set_cons_zero, List.set_cons_succ, List.getElem_toArray, List.getElem_cons_succ, List.getElem_cons_zero]
                        refine wpAnyH_take (i := 17) (oi := _) (v := Value.pointer (some ⟨g1, k2 * 7, none⟩)) rfl (by kernel_rfl) (by kernel_rfl) (by kernel_rfl) (fun _ _ _ h => h) (Or.inl ⟨by rfl, fun w' hSw => ?_⟩) hHeld ?_
                        · obtain ⟨t0, t1⟩ := hSw
                          go_simp
                          try simp [*]
                          try (intro hh; exfalso; omega)
                          try omega
                        try simp only [Act.put, List.setIfInBounds_toArray, List.set_cons_zero, List.set_cons_succ, List.getElem_toArray, List.getElem_cons_succ, List.getElem_cons_zero]
                        refine wpAnyH_take (i := 18) (oi := _) (v := Value.pointer (some ⟨g1, k2 * 7 + 5, none⟩)) rfl (by kernel_rfl) (by kernel_rfl) (by kernel_rfl) (fun _ _ _ h => h) (Or.inl ⟨by rfl, fun w' hSw => ?_⟩) hHeld ?_
                        · obtain ⟨t0, t1⟩ := hSw
                          go_simp
                          try simp [*]
                          try (intro hh; exfalso; omega)
                          try omega
                        try simp only [Act.put, List.setIfInBounds_toArray, List.set_cons_zero, List.set_cons_succ, List.getElem_toArray, List.getElem_cons_succ, List.getElem_cons_zero]
                        refine wpAnyH_take (i := 19) (oi := _) (v := Value.bool true) rfl (by kernel_rfl) (by kernel_rfl) (by kernel_rfl) (fun _ _ _ h => h) (Or.inl ⟨by rfl, fun w' hSw => ?_⟩) hHeld ?_
                        · obtain ⟨t0, t1⟩ := hSw
                          go_simp
                          try simp [*]
                          try (intro hh; exfalso; omega)
                          try omega
                        try simp only [Act.put, List.setIfInBounds_toArray, List.set_cons_zero, List.set_cons_succ, List.getElem_toArray, List.getElem_cons_succ, List.getElem_cons_zero]
                        refine wpAnyH_take (i := 20) (oi := _) (v := Value.bool true) rfl (by kernel_rfl) (by kernel_rfl) (by kernel_rfl) (fun _ _ _ h => h) (Or.inl ⟨by rfl, fun w' hSw => ?_⟩) hHeld ?_
                        · obtain ⟨t0, t1⟩ := hSw
                          go_simp
                          try simp [*]
                          try (intro hh; exfalso; omega)
                          try omega
                        try simp only [Act.put, List.setIfInBounds_toArray, List.set_cons_zero, List.set_cons_succ, List.getElem_toArray, List.getElem_cons_succ, List.getElem_cons_zero]
                        refine wpAnyH_take (i := 21) (oi := _) (v := Value.bool true) rfl (by kernel_rfl) (by kernel_rfl) (by kernel_rfl) (fun _ _ _ h => h) (Or.inl ⟨by rfl, fun w' hSw => ?_⟩) hHeld ?_
                        · obtain ⟨t0, t1⟩ := hSw
                          go_simp
                          try simp [*]
                          try (intro hh; exfalso; omega)
                          try omega
                        try simp only [Act.put, List.setIfInBounds_toArray, List.set_cons_zero, List.set_cons_succ, List.getElem_toArray, List.getElem_cons_succ, List.getElem_cons_zero]
                        refine wpAnyH_take (i := 22) (oi := _) (v := Value.slice (some ⟨g2, 0, none⟩) m c2) rfl (by kernel_rfl) (by kernel_rfl) (by kernel_rfl) (fun _ _ _ h => h) (Or.inl ⟨by rfl, fun w' hSw => ?_⟩) hHeld ?_
                        · obtain ⟨t0, t1⟩ := hSw
                          go_simp
                          try simp [*]
                          try (intro hh; exfalso; omega)
                          try omega
                        try simp only [Act.put, List.setIfInBounds_toArray, List.set_cons_zero, List.set_cons_succ, List.getElem_toArray, List.getElem_cons_succ, List.getElem_cons_zero]
                        refine wpAnyH_take (i := 23) (oi := _) (v := Value.int .i64 (k : Int)) rfl (by kernel_rfl) (by kernel_rfl) (by kernel_rfl) (fun _ _ _ h => h) (Or.inl ⟨by rfl, fun w' hSw => ?_⟩) hHeld ?_
                        · obtain ⟨t0, t1⟩ := hSw
                          go_simp
                          try simp [*]
                          try (intro hh; exfalso; omega)
                          try omega
                        try simp only [Act.put, List.setIfInBounds_toArray, List.set_cons_zero, List.set_cons_succ, List.getElem_toArray, List.getElem_cons_succ, List.getElem_cons_zero]
                        refine wpAnyH_take (i := 24) (oi := _) (v := Value.pointer (some ⟨g2, k * 7, none⟩)) rfl (by kernel_rfl) (by kernel_rfl) (by kernel_rfl) (fun _ _ _ h => h) (Or.inl ⟨by rfl, fun w' hSw => ?_⟩) hHeld ?_
                        · obtain ⟨t0, t1⟩ := hSw
                          go_simp
                          try simp [*]
                          try (intro hh; exfalso; omega)
                          try omega
                        try simp only [Act.put, List.setIfInBounds_toArray, List.set_cons_zero, List.set_cons_succ, List.getElem_toArray, List.getElem_cons_succ, List.getElem_cons_zero]
                        refine wpAnyH_take (i := 25) (oi := _) (v := Value.pointer (some ⟨g2, k * 7 + 5, none⟩)) rfl (by kernel_rfl) (by kernel_rfl) (by kernel_rfl) (fun _ _ _ h => h) (Or.inl ⟨by rfl, fun w' hSw => ?_⟩) hHeld ?_
                        · obtain ⟨t0, t1⟩ := hSw
                          go_simp
                          try simp [*]
                          try (intro hh; exfalso; omega)
                          try omega
                        try simp only [Act.put, List.setIfInBounds_toArray, List.set_cons_zero, List.set_cons_succ, List.getElem_toArray, List.getElem_cons_succ, List.getElem_cons_zero]
                        refine wpAnyH_take (i := 26) (oi := _) (v := Value.bool true) rfl (by kernel_rfl) (by kernel_rfl) (by kernel_rfl) (fun _ _ _ h => h) (Or.inl ⟨by rfl, fun w' hSw => ?_⟩) hHeld ?_
                        · obtain ⟨t0, t1⟩ := hSw
                          go_simp
                          try simp [*]
                          try (intro hh; exfalso; omega)
                          try omega
                        try simp only [Act.put, List.setIfInBounds_toArray, List.set_cons_zero, List.set_cons_succ, List.getElem_toArray, List.getElem_cons_succ, List.getElem_cons_zero]
                        refine wpAnyH_take (i := 27) (oi := _) (v := Value.bool false) rfl (by kernel_rfl) (by kernel_rfl) (by kernel_rfl) (fun _ _ _ h => h) (Or.inl ⟨by rfl, fun w' hSw => ?_⟩) hHeld ?_
                        · obtain ⟨t0, t1⟩ := hSw
                          go_simp
                          try simp [*]
                          try (intro hh; exfalso; omega)
                          try omega
                        try simp only [Act.put, List.setIfInBounds_toArray, List.set_cons_zero, List.set_cons_succ, List.getElem_toArray, List.getElem_cons_succ, List.getElem_cons_zero]
                        refine wpAnyH_take (i := 28) (oi := _) (v := Value.bool false) rfl (by kernel_rfl) (by kernel_rfl) (by kernel_rfl) (fun _ _ _ h => h) (Or.inl ⟨by rfl, fun w' hSw => ?_⟩) hHeld ?_
                        · obtain ⟨t0, t1⟩ := hSw
                          go_simp
                          try simp [*]
                          try (intro hh; exfalso; omega)
                          try omega
                        try simp only [Act.put, List.setIfInBounds_toArray, List.set_cons_zero, List.set_cons_succ, List.getElem_toArray, List.getElem_cons_succ, List.getElem_cons_zero]
                        refine wpAnyH_take (i := 29) (oi := _) (v := Value.bool false) rfl (by kernel_rfl) (by kernel_rfl) (by kernel_rfl) (fun _ _ _ h => h) (Or.inl ⟨by rfl, fun w' hSw => ?_⟩) hHeld ?_
                        · obtain ⟨t0, t1⟩ := hSw
                          go_simp
                          try simp [*]
                          try (intro hh; exfalso; omega)
                          try omega
                        try simp only [Act.put, List.setIfInBounds_toArray, List.set_cons_zero, List.set_cons_succ, List.getElem_toArray, List.getElem_cons_succ, List.getElem_cons_zero]
                        refine wpAnyH_done (by kernel_rfl) ?_ _
                        clear hHeld
                        go_wp2_with fail
                        go_meet
                        case rel => exact ⟨rfl, HD.out⟩
                  case rest => as_aux_lemma =>
                    obtain ⟨rfl, hW⟩ := hcut
                    have HB11 := Lib.hid hW
                    clear hW
                    obtain ⟨w11, rfl⟩ : ∃ W0, W0 = wc := ⟨_, rfl⟩
                    clear HZF
                    go_wp2_with fail
                    go_loopw [17] (fun jv wz => ∃ j : Nat, j ≤ dn ∧ jv = .int .i64 j ∧ Below V.heap.size V wz) (fun jv _ => dn - (intOf jv).toNat)
                    case atStart => exact ⟨0, Nat.zero_le _, rfl, HB11.out⟩
                    case round => as_aux_lemma =>
                      obtain ⟨j, hj, rfl, hBz⟩ := hrel
                      have HBz := Lib.hid hBz
                      clear hBz
                      obtain ⟨wz, rfl⟩ : ∃ W0, W0 = wr := ⟨_, rfl⟩
                      clear hw8 hby hub hwc hwt hw1
                      by_cases hjd : j < dn
                      · obtain ⟨gd, e, rfl, heok, hex, hec⟩ := HCDX.out j hjd
                        obtain ⟨z0, hlk⟩ := hec _ HBz.out
                        obtain ⟨hel, hfu⟩ := hex x HXL.out
                        have c46 := fun W => lesser_any e x.r W
                        rw [lessV_okR heok (HOKL.out x HXL.out), hel] at c46
                        have hji : (j : Int) < (dn : Int) := by omega
                        obtain ⟨A, hA⟩ : ∃ A, A = wz.alloc (.cells #[.int .i64 e.id, .int .i64 e.cls, .int .i64 e.made, .int .i64 e.size, .int .i64 e.packed] 23) := ⟨_, rfl⟩
                        obtain ⟨Be, hBe⟩ : ∃ B, B = wz.heap.size := ⟨_, rfl⟩
                        have hXE : BxR A Be e := by rw [hA, hBe]; exact BxR.new wz e
                        have HXE := Lib.hid hXE
                        have HVA := Lib.hid (show Below V.heap.size V A by rw [hA]; exact HBz.out.alloc HBz.out.size _)
                        clear hXE heok hex hec hel
                        go_upto_region 34 with fail
                        rw [← hA, ← hBe]
                        clear hA hBe hlk z0
                        by_cases hxs : x.small = true
                        · have HXSM := Lib.hid hxs
                          clear hfu hxs
                          have KQ := Lib.hid (show ∀ W1, Below A.heap.size A W1 → W1.cell? ⟨Be, 0, none⟩ = some (Value.int .i64 e.id) ∧ W1.cell? ⟨Be, 1, none⟩ = some (Value.int .i64 e.cls) ∧ W1.cell? ⟨Be, 2, none⟩ = some (Value.int .i64 e.made) ∧ W1.cell? ⟨Be, 3, none⟩ = some (Value.int .i64 e.size) ∧ W1.cell? ⟨Be, 4, none⟩ = some (Value.int .i64 e.packed) ∧ W1.cell? ⟨g2, k * 7, none⟩ = some (Value.int .i64 x.r.id) ∧ W1.cell? ⟨g2, k * 7 + 1, none⟩ = some (Value.int .i64 x.r.cls) ∧ W1.cell? ⟨g2, k * 7 + 2, none⟩ = some (Value.int .i64 x.r.made) ∧ W1.cell? ⟨g2, k * 7 + 3, none⟩ = some (Value.int .i64 x.r.size) ∧ W1.cell? ⟨g2, k * 7 + 4, none⟩ = some (Value.int .i64 x.r.packed) ∧ W1.cell? ⟨g2, k * 7 + 5, none⟩ = some (Value.bool true) from fun W1 h => by
                            obtain ⟨a0, a1, a2, a3, a4, a5, a6⟩ := HXC.out W1 (HVA.out.trans (h.mono HVA.out.size))
                            rw [HXSM.out] at a5
                            obtain ⟨b0, b1, b2, b3, b4⟩ := (HXE.out.keep h).all
                            exact ⟨b0, b1, b2, b3, b4, a0, a1, a2, a3, a4, a5⟩)
                          have HD := Lib.hid (show Below A.heap.size A A.drew from (Below.refl _ _).drew)
                          refine wp_region_held_drew (S := fun w' => w'.cell? ⟨Be, 0, none⟩ = some (Value.int .i64 e.id) ∧ w'.cell? ⟨Be, 1, none⟩ = some (Value.int .i64 e.cls) ∧ w'.cell? ⟨Be, 2, none⟩ = some (Value.int .i64 e.made) ∧ w'.cell? ⟨Be, 3, none⟩ = some (Value.int .i64 e.size) ∧ w'.cell? ⟨Be, 4, none⟩ = some (Value.int .i64 e.packed) ∧ w'.cell? ⟨g2, k * 7, none⟩ = some (Value.int .i64 x.r.id) ∧ w'.cell? ⟨g2, k * 7 + 1, none⟩ = some (Value.int .i64 x.r.cls) ∧ w'.cell? ⟨g2, k * 7 + 2, none⟩ = some (Value.int .i64 x.r.made) ∧ w'.cell? ⟨g2, k * 7 + 3, none⟩ = some (Value.int .i64 x.r.size) ∧ w'.cell? ⟨g2, k * 7 + 4, none⟩ = some (Value.int .i64 x.r.packed) ∧ w'.cell? ⟨g2, k * 7 + 5, none⟩ = some (Value.bool true)) (by kernel_rfl) (KQ.out _ HD.out) (fun hHeld => ?_)
                          refine wpAnyH_take (i := 0) (oi := _) (v := Value.bool true) rfl (by kernel_rfl) (by kernel_rfl) (by kernel_rfl) (fun _ _ _ h => h) (Or.inl ⟨by rfl, fun w' hSw => ?_⟩) hHeld ?_
                          · obtain ⟨t0, t1, t2, t3, t4, t5, t6, t7, t8, t9, t10⟩ := hSw
                            go_simp
                            try simp [*]
                            try (intro hh; exfalso; omega)
                            try omega
                          try simp only [Act.put, List.setIfInBounds_toArray, List.set_cons_zero, List.set_cons_succ, List.getElem_toArray, List.getElem_cons_succ, List.getElem_cons_zero]
                          refine wpAnyH_take (i := 1) (oi := _) (v := Value.bool false) rfl (by kernel_rfl) (by kernel_rfl) (by kernel_rfl) (fun _ _ _ h => h) (Or.inl ⟨by rfl, fun w' hSw => ?_⟩) hHeld ?_
                          · obtain ⟨t0, t1, t2, t3, t4, t5, t6, t7, t8, t9, t10⟩ := hSw
                            go_simp
                            try simp [*]
                            try (intro hh; exfalso; omega)
                            try omega
                          try simp only [Act.put, List.setIfInBounds_toArray, List.set_cons_zero, List.set_cons_succ, List.getElem_toArray, List.getElem_cons_succ, List.getElem_cons_zero]
                          refine wpAnyH_take (i := 2) (oi := _) (v := Value.bool false) rfl (by kernel_rfl) (by kernel_rfl) (by kernel_rfl) (fun _ _ _ h => h) (Or.inl ⟨by rfl, fun w' hSw => ?_⟩) hHeld ?_
                          · obtain ⟨t0, t1, t2, t3, t4, t5, t6, t7, t8, t9, t10⟩ := hSw
                            go_simp
                            try simp [*]
                            try (intro hh; exfalso; omega)
                            try omega
                          try simp only [Act.put, List.setIfInBounds_toArray, List.set_cons_zero, List.set_cons_succ, List.getElem_toArray, List.getElem_cons_succ, List.getElem_cons_zero]
                          refine wpAnyH_take (i := 3) (oi := _) (v := Value.agg #[Value.int .i64 e.id, Value.int .i64 e.cls, Value.int .i64 e.made, Value.int .i64 e.size, Value.int .i64 e.packed]) rfl (by kernel_rfl) (by kernel_rfl) (by kernel_rfl) (fun _ _ _ h => h) (Or.inl ⟨by rfl, fun w' hSw => ?_⟩) hHeld ?_
                          · obtain ⟨t0, t1, t2, t3, t4, t5, t6, t7, t8, t9, t10⟩ := hSw
                            go_simp
                            try simp [*]
                            try (intro hh; exfalso; omega)
                            try omega
                          try simp only [Act.put, List.setIfInBounds_toArray, List.set_cons_zero, List.set_cons_succ, List.getElem_toArray, List.getElem_cons_succ, List.getElem_cons_zero]
                          refine wpAnyH_take (i := 4) (oi := _) (v := Value.slice (some ⟨g2, 0, none⟩) m c2) rfl (by kernel_rfl) (by kernel_rfl) (by kernel_rfl) (fun _ _ _ h => h) (Or.inl ⟨by rfl, fun w' hSw => ?_⟩) hHeld ?_
                          · obtain ⟨t0, t1, t2, t3, t4, t5, t6, t7, t8, t9, t10⟩ := hSw
                            go_simp
                            try simp [*]
                            try (intro hh; exfalso; omega)
                            try omega
                          try simp only [Act.put, List.setIfInBounds_toArray, List.set_cons_zero, List.set_cons_succ, List.getElem_toArray, List.getElem_cons_succ, List.getElem_cons_zero]
                          refine wpAnyH_take (i := 5) (oi := _) (v := Value.int .i64 (k : Int)) rfl (by kernel_rfl) (by kernel_rfl) (by kernel_rfl) (fun _ _ _ h => h) (Or.inl ⟨by rfl, fun w' hSw => ?_⟩) hHeld ?_
                          · obtain ⟨t0, t1, t2, t3, t4, t5, t6, t7, t8, t9, t10⟩ := hSw
                            go_simp
                            try simp [*]
                            try (intro hh; exfalso; omega)
                            try omega
                          try simp only [Act.put, List.setIfInBounds_toArray, List.set_cons_zero, List.set_cons_succ, List.getElem_toArray, List.getElem_cons_succ, List.getElem_cons_zero]
                          refine wpAnyH_take (i := 6) (oi := _) (v := Value.pointer (some ⟨g2, k * 7, none⟩)) rfl (by kernel_rfl) (by kernel_rfl) (by kernel_rfl) (fun _ _ _ h => h) (Or.inl ⟨by rfl, fun w' hSw => ?_⟩) hHeld ?_
                          · obtain ⟨t0, t1, t2, t3, t4, t5, t6, t7, t8, t9, t10⟩ := hSw
                            go_simp
                            try simp [*]
                            try (intro hh; exfalso; omega)
                            try omega
                          try simp only [Act.put, List.setIfInBounds_toArray, List.set_cons_zero, List.set_cons_succ, List.getElem_toArray, List.getElem_cons_succ, List.getElem_cons_zero]
                          refine wpAnyH_take (i := 7) (oi := _) (v := Value.pointer (some ⟨g2, k * 7, none⟩)) rfl (by kernel_rfl) (by kernel_rfl) (by kernel_rfl) (fun _ _ _ h => h) (Or.inl ⟨by rfl, fun w' hSw => ?_⟩) hHeld ?_
                          · obtain ⟨t0, t1, t2, t3, t4, t5, t6, t7, t8, t9, t10⟩ := hSw
                            go_simp
                            try simp [*]
                            try (intro hh; exfalso; omega)
                            try omega
                          try simp only [Act.put, List.setIfInBounds_toArray, List.set_cons_zero, List.set_cons_succ, List.getElem_toArray, List.getElem_cons_succ, List.getElem_cons_zero]
                          refine wpAnyH_take (i := 8) (oi := _) (v := Value.agg #[Value.int .i64 x.r.id, Value.int .i64 x.r.cls, Value.int .i64 x.r.made, Value.int .i64 x.r.size, Value.int .i64 x.r.packed]) rfl (by kernel_rfl) (by kernel_rfl) (by kernel_rfl) (fun _ _ _ h => h) (Or.inl ⟨by rfl, fun w' hSw => ?_⟩) hHeld ?_
                          · obtain ⟨t0, t1, t2, t3, t4, t5, t6, t7, t8, t9, t10⟩ := hSw
                            go_simp
                            try simp [*]
                            try (intro hh; exfalso; omega)
                            try omega
                          try simp only [Act.put, List.setIfInBounds_toArray, List.set_cons_zero, List.set_cons_succ, List.getElem_toArray, List.getElem_cons_succ, List.getElem_cons_zero]
                          refine wpAnyH_ready (rs := [9]) (by kernel_rfl) (by simp) ?_
                          refine AllReadyH.cons (o := _) rfl (fun K hK => ?_) (AllReadyH.nil)
                          go_simp
                          go_at_call 46
                          refine Calls.mono (c46 _) ?_
                          rintro e t0 ⟨rfl, hb⟩
                          have HT0 := Lib.hid (HD.out.trans (hb.mono HD.out.size))
                          clear hb
                          clear hHeld
                          refine hK.out _ _ (KQ.out _ HT0.out) (fun hHeld => ?_)
                          clear hK K
                          try simp only [Act.put, List.setIfInBounds_toArray, List.set_cons_zero, List.set_cons_succ, List.getElem_toArray, List.getElem_cons_succ, List.getElem_cons_zero]
                          refine wpAnyH_take (i := 10) (oi := _) (v := Value.bool false) rfl (by kernel_rfl) (by kernel_rfl) (by kernel_rfl) (fun _ _ _ h => h) (Or.inl ⟨by rfl, fun w' hSw => ?_⟩) hHeld ?_
                          · obtain ⟨t0, t1, t2, t3, t4, t5, t6, t7, t8, t9, t10⟩ := hSw
                            go_simp
                            try simp [*]
                            try (intro hh; exfalso; omega)
                            try omega
                          try simp only [Act.put, List.setIfInBounds_toArray, List.set_cons_zero, List.set_cons_succ, List.getElem_toArray, List.getElem_cons_succ, List.getElem_cons_zero]
                          refine wpAnyH_take (i := 11) (oi := _) (v := Value.bool false) rfl (by kernel_rfl) (by kernel_rfl) (by kernel_rfl) (fun _ _ _ h => h) (Or.inl ⟨by rfl, fun w' hSw => ?_⟩) hHeld ?_
                          · obtain ⟨t0, t1, t2, t3, t4, t5, t6, t7, t8, t9, t10⟩ := hSw
                            go_simp
                            try simp [*]
                            try (intro hh; exfalso; omega)
                            try omega
                          try simp only [Act.put, List.setIfInBounds_toArray, List.set_cons_zero, List.set_cons_succ, List.getElem_toArray, List.getElem_cons_succ, List.getElem_cons_zero]
                          refine wpAnyH_take (i := 12) (oi := _) (v := Value.bool false) rfl (by kernel_rfl) (by kernel_rfl) (by kernel_rfl) (fun _ _ _ h => h) (Or.inl ⟨by rfl, fun w' hSw => ?_⟩) hHeld ?_
                          · obtain ⟨t0, t1, t2, t3, t4, t5, t6, t7, t8, t9, t10⟩ := hSw
                            go_simp
                            try simp [*]
                            try (intro hh; exfalso; omega)
                            try omega
                          try simp only [Act.put, List.setIfInBounds_toArray, List.set_cons_zero, List.set_cons_succ, List.getElem_toArray, List.getElem_cons_succ, List.getElem_cons_zero]
                          refine wpAnyH_take (i := 13) (oi := _) (v := Value.slice (some ⟨g2, 0, none⟩) m c2) rfl (by kernel_rfl) (by kernel_rfl) (by kernel_rfl) (fun _ _ _ h => h) (Or.inl ⟨by rfl, fun w' hSw => ?_⟩) hHeld ?_
                          · obtain ⟨t0, t1, t2, t3, t4, t5, t6, t7, t8, t9, t10⟩ := hSw
                            go_simp
                            try simp [*]
                            try (intro hh; exfalso; omega)
                            try omega
                          try simp only [Act.put, List.setIfInBounds_toArray, List.set_cons_zero, List.set_cons_succ, List.getElem_toArray, List.getElem_cons_succ, List.getElem_cons_zero]
                          refine wpAnyH_take (i := 14) (oi := _) (v := Value.int .i64 (k : Int)) rfl (by kernel_rfl) (by kernel_rfl) (by kernel_rfl) (fun _ _ _ h => h) (Or.inl ⟨by rfl, fun w' hSw => ?_⟩) hHeld ?_
                          · obtain ⟨t0, t1, t2, t3, t4, t5, t6, t7, t8, t9, t10⟩ := hSw
                            go_simp
                            try simp [*]
                            try (intro hh; exfalso; omega)
                            try omega
                          try simp only [Act.put, List.setIfInBounds_toArray, List.set_cons_zero, List.set_cons_succ, List.getElem_toArray, List.getElem_cons_succ, List.getElem_cons_zero]
                          refine wpAnyH_take (i := 15) (oi := _) (v := Value.pointer (some ⟨g2, k * 7, none⟩)) rfl (by kernel_rfl) (by kernel_rfl) (by kernel_rfl) (fun _ _ _ h => h) (Or.inl ⟨by rfl, fun w' hSw => ?_⟩) hHeld ?_
                          · obtain ⟨t0, t1, t2, t3, t4, t5, t6, t7, t8, t9, t10⟩ := hSw
                            go_simp
                            try simp [*]
                            try (intro hh; exfalso; omega)
                            try omega
                          try simp only [Act.put, List.setIfInBounds_toArray, List.set_cons_zero, List.set_cons_succ, List.getElem_toArray, List.getElem_cons_succ, List.getElem_cons_zero]
                          refine wpAnyH_take (i := 16) (oi := _) (v := Value.pointer (some ⟨g2, k * 7 + 5, none⟩)) rfl (by kernel_rfl) (by kernel_rfl) (by kernel_rfl) (fun _ _ _ h => h) (Or.inl ⟨by rfl, fun w' hSw => ?_⟩) hHeld ?_
                          · obtain ⟨t0, t1, t2, t3, t4, t5, t6, t7, t8, t9, t10⟩ := hSw
                            go_simp
                            try simp [*]
                            try (intro hh; exfalso; omega)
                            try omega
                          try simp only [Act.put, List.setIfInBounds_toArray, List.set_cons_zero, List.set_cons_succ, List.getElem_toArray, List.getElem_cons_succ, List.getElem_cons_zero]
                          refine wpAnyH_take (i := 17) (oi := _) (v := Value.bool true) rfl (by kernel_rfl) (by kernel_rfl) (by kernel_rfl) (fun _ _ _ h => h) (Or.inl ⟨by rfl, fun w' hSw => ?_⟩) hHeld ?_
                          · obtain ⟨t0, t1, t2, t3, t4, t5, t6, t7, t8, t9, t10⟩ := hSw
                            go_simp
                            try simp [*]
                            try (intro hh; exfalso; omega)
                            try omega
                          try simp only [Act.put, List.setIfInBounds_toArray, List.set_cons_zero, List.set_cons_succ, List.getElem_toArray, List.getElem_cons_succ, List.getElem_cons_zero]
                          refine wpAnyH_take (i := 18) (oi := _) (v := Value.bool false) rfl (by kernel_rfl) (by kernel_rfl) (by kernel_rfl) (fun _ _ _ h => h) (Or.inl ⟨by rfl, fun w' hSw => ?_⟩) hHeld ?_
                          · obtain ⟨t0, t1, t2, t3, t4, t5, t6, t7, t8, t9, t10⟩ := hSw
                            go_simp
                            try simp [*]
                            try (intro hh; exfalso; omega)
                            try omega
                          try simp only [Act.put, List.setIfInBounds_toArray, List.set_cons_zero, List.set_cons_succ, List.getElem_toArray, List.getElem_cons_succ, List.getElem_cons_zero]
                          refine wpAnyH_take (i := 19) (oi := _) (v := Value.bool false) rfl (by kernel_rfl) (by kernel_rfl) (by kernel_rfl) (fun _ _ _ h => h) (Or.inl ⟨by rfl, fun w' hSw => ?_⟩) hHeld ?_
                          · obtain ⟨t0, t1, t2, t3, t4, t5, t6, t7, t8, t9, t10⟩ := hSw
                            go_simp
                            try simp [*]
                            try (intro hh; exfalso; omega)
                            try omega
                          try simp only [Act.put, List.setIfInBounds_toArray, List.set_cons_zero, List.set_cons_succ, List.getElem_toArray, List.getElem_cons_succ, List.getElem_cons_zero]
                          refine wpAnyH_take (i := 20) (oi := _) (v := undef) rfl (by kernel_rfl) (by kernel_rfl) (by kernel_rfl) (fun _ _ _ h => h) (Or.inr ⟨by rfl, rfl⟩) hHeld ?_
                          try simp only [Act.put, List.setIfInBounds_toArray, List.set_cons_zero, List.set_cons_succ, List.getElem_toArray, List.getElem_cons_succ, List.getElem_cons_zero]
                          refine wpAnyH_take (i := 21) (oi := _) (v := undef) rfl (by kernel_rfl) (by kernel_rfl) (by kernel_rfl) (fun _ _ _ h => h) (Or.inr ⟨by rfl, rfl⟩) hHeld ?_
                          try simp only [Act.put, List.setIfInBounds_toArray, List.set_cons_zero, List.set_cons_succ, List.getElem_toArray, List.getElem_cons_succ, List.getElem_cons_zero]
                          refine wpAnyH_take (i := 22) (oi := _) (v := undef) rfl (by kernel_rfl) (by kernel_rfl) (by kernel_rfl) (fun _ _ _ h => h) (Or.inr ⟨by rfl, rfl⟩) hHeld ?_
                          try simp only [Act.put, List.setIfInBounds_toArray, List.set_cons_zero, List.set_cons_succ, List.getElem_toArray, List.getElem_cons_succ, List.getElem_cons_zero]
                          refine wpAnyH_take (i := 23) (oi := _) (v := undef) rfl (by kernel_rfl) (by kernel_rfl) (by kernel_rfl) (fun _ _ _ h => h) (Or.inr ⟨by rfl, rfl⟩) hHeld ?_
                          try simp only [Act.put, List.setIfInBounds_toArray, List.set_cons_zero, List.set_cons_succ, List.getElem_toArray, List.getElem_cons_succ, List.getElem_cons_zero]
                          refine wpAnyH_take (i := 24) (oi := _) (v := undef) rfl (by kernel_rfl) (by kernel_rfl) (by kernel_rfl) (fun _ _ _ h => h) (Or.inr ⟨by rfl, rfl⟩) hHeld ?_
                          try simp only [Act.put, List.setIfInBounds_toArray, List.set_cons_zero, List.set_cons_succ, List.getElem_toArray, List.getElem_cons_succ, List.getElem_cons_zero]
                          refine wpAnyH_take (i := 25) (oi := _) (v := undef) rfl (by kernel_rfl) (by kernel_rfl) (by kernel_rfl) (fun _ _ _ h => h) (Or.inr ⟨by rfl, rfl⟩) hHeld ?_
                          try simp only [Act.put, List.setIfInBounds_toArray, List.set_cons_zero, List.set_cons_succ, List.getElem_toArray, List.getElem_cons_succ, List.getElem_cons_zero]
                          refine wpAnyH_take (i := 26) (oi := _) (v := undef) rfl (by kernel_rfl) (by kernel_rfl) (by kernel_rfl) (fun _ _ _ h => h) (Or.inr ⟨by rfl, rfl⟩) hHeld ?_
                          try simp only [Act.put, List.setIfInBounds_toArray, List.set_cons_zero, List.set_cons_succ, List.getElem_toArray, List.getElem_cons_succ, List.getElem_cons_zero]
                          refine wpAnyH_take (i := 27) (oi := _) (v := undef) rfl (by kernel_rfl) (by kernel_rfl) (by kernel_rfl) (fun _ _ _ h => h) (Or.inr ⟨by rfl, rfl⟩) hHeld ?_
                          try simp only [Act.put, List.setIfInBounds_toArray, List.set_cons_zero, List.set_cons_succ, List.getElem_toArray, List.getElem_cons_succ, List.getElem_cons_zero]
                          refine wpAnyH_take (i := 28) (oi := _) (v := undef) rfl (by kernel_rfl) (by kernel_rfl) (by kernel_rfl) (fun _ _ _ h => h) (Or.inr ⟨by rfl, rfl⟩) hHeld ?_
                          try simp only [Act.put, List.setIfInBounds_toArray, List.set_cons_zero, List.set_cons_succ, List.getElem_toArray, List.getElem_cons_succ, List.getElem_cons_zero]
                          refine wpAnyH_take (i := 29) (oi := _) (v := undef) rfl (by kernel_rfl) (by kernel_rfl) (by kernel_rfl) (fun _ _ _ h => h) (Or.inr ⟨by rfl, rfl⟩) hHeld ?_
                          try simp only [Act.put, List.setIfInBounds_toArray, List.set_cons_zero, List.set_cons_succ, List.getElem_toArray, List.getElem_cons_succ, List.getElem_cons_zero]
                          refine wpAnyH_take (i := 30) (oi := _) (v := undef) rfl (by kernel_rfl) (by kernel_rfl) (by kernel_rfl) (fun _ _ _ h => h) (Or.inr ⟨by rfl, rfl⟩) hHeld ?_
                          try simp only [Act.put, List.setIfInBounds_toArray, List.set_cons_zero, List.set_cons_succ, List.getElem_toArray, List.getElem_cons_succ, List.getElem_cons_zero]
                          refine wpAnyH_take (i := 31) (oi := _) (v := undef) rfl (by kernel_rfl) (by kernel_rfl) (by kernel_rfl) (fun _ _ _ h => h) (Or.inr ⟨by rfl, rfl⟩) hHeld ?_
                          try simp only [Act.put, List.setIfInBounds_toArray, List.set_cons_zero, List.set_cons_succ, List.getElem_toArray, List.getElem_cons_succ, List.getElem_cons_zero]
                          refine wpAnyH_take (i := 32) (oi := _) (v := undef) rfl (by kernel_rfl) (by kernel_rfl) (by kernel_rfl) (fun _ _ _ h => h) (Or.inr ⟨by rfl, rfl⟩) hHeld ?_
                          try simp only [Act.put, List.setIfInBounds_toArray, List.set_cons_zero, List.set_cons_succ, List.getElem_toArray, List.getElem_cons_succ, List.getElem_cons_zero]
                          refine wpAnyH_take (i := 33) (oi := _) (v := Value.bool false) rfl (by kernel_rfl) (by kernel_rfl) (by kernel_rfl) (fun _ _ _ h => h) (Or.inl ⟨by rfl, fun w' hSw => ?_⟩) hHeld ?_
                          · obtain ⟨t0, t1, t2, t3, t4, t5, t6, t7, t8, t9, t10⟩ := hSw
                            go_simp
                            try simp [*]
                            try (intro hh; exfalso; omega)
                            try omega
                          try simp only [Act.put, List.setIfInBounds_toArray, List.set_cons_zero, List.set_cons_succ, List.getElem_toArray, List.getElem_cons_succ, List.getElem_cons_zero]
                          refine wpAnyH_take (i := 34) (oi := _) (v := Value.bool false) rfl (by kernel_rfl) (by kernel_rfl) (by kernel_rfl) (fun _ _ _ h => h) (Or.inl ⟨by rfl, fun w' hSw => ?_⟩) hHeld ?_
                          · obtain ⟨t0, t1, t2, t3, t4, t5, t6, t7, t8, t9, t10⟩ := hSw
                            go_simp
                            try simp [*]
                            try (intro hh; exfalso; omega)
                            try omega
                          try simp only [Act.put, List.setIfInBounds_toArray, List.set_cons_zero, List.set_cons_succ, List.getElem_toArray, List.getElem_cons_succ, List.getElem_cons_zero]
                          refine wpAnyH_done (by kernel_rfl) ?_ _
                          clear hHeld
                          go_wp2_with fail
                          go_roundw
                          case rel => exact ⟨j + 1, by omega, by go_num, HVA.out.trans (HT0.out.mono HVA.out.size)⟩
                          case measure => simp [intOf]; omega
                        · have HXSM := Lib.hid (show x.small = false from Bool.eq_false_iff.2 hxs)
                          have hsp : ¬(x.r.packed < x.r.size) := fun h => hfu ⟨HXSM.out, h⟩
                          clear hfu hxs
                          have KQ := Lib.hid (show ∀ W1, Below A.heap.size A W1 → W1.cell? ⟨Be, 0, none⟩ = some (Value.int .i64 e.id) ∧ W1.cell? ⟨Be, 1, none⟩ = some (Value.int .i64 e.cls) ∧ W1.cell? ⟨Be, 2, none⟩ = some (Value.int .i64 e.made) ∧ W1.cell? ⟨Be, 3, none⟩ = some (Value.int .i64 e.size) ∧ W1.cell? ⟨Be, 4, none⟩ = some (Value.int .i64 e.packed) ∧ W1.cell? ⟨g2, k * 7, none⟩ = some (Value.int .i64 x.r.id) ∧ W1.cell? ⟨g2, k * 7 + 1, none⟩ = some (Value.int .i64 x.r.cls) ∧ W1.cell? ⟨g2, k * 7 + 2, none⟩ = some (Value.int .i64 x.r.made) ∧ W1.cell? ⟨g2, k * 7 + 3, none⟩ = some (Value.int .i64 x.r.size) ∧ W1.cell? ⟨g2, k * 7 + 4, none⟩ = some (Value.int .i64 x.r.packed) ∧ W1.cell? ⟨g2, k * 7 + 5, none⟩ = some (Value.bool false) from fun W1 h => by
                            obtain ⟨a0, a1, a2, a3, a4, a5, a6⟩ := HXC.out W1 (HVA.out.trans (h.mono HVA.out.size))
                            rw [HXSM.out] at a5
                            obtain ⟨b0, b1, b2, b3, b4⟩ := (HXE.out.keep h).all
                            exact ⟨b0, b1, b2, b3, b4, a0, a1, a2, a3, a4, a5⟩)
                          have HD := Lib.hid (show Below A.heap.size A A.drew from (Below.refl _ _).drew)
                          refine wp_region_held_drew (S := fun w' => w'.cell? ⟨Be, 0, none⟩ = some (Value.int .i64 e.id) ∧ w'.cell? ⟨Be, 1, none⟩ = some (Value.int .i64 e.cls) ∧ w'.cell? ⟨Be, 2, none⟩ = some (Value.int .i64 e.made) ∧ w'.cell? ⟨Be, 3, none⟩ = some (Value.int .i64 e.size) ∧ w'.cell? ⟨Be, 4, none⟩ = some (Value.int .i64 e.packed) ∧ w'.cell? ⟨g2, k * 7, none⟩ = some (Value.int .i64 x.r.id) ∧ w'.cell? ⟨g2, k * 7 + 1, none⟩ = some (Value.int .i64 x.r.cls) ∧ w'.cell? ⟨g2, k * 7 + 2, none⟩ = some (Value.int .i64 x.r.made) ∧ w'.cell? ⟨g2, k * 7 + 3, none⟩ = some (Value.int .i64 x.r.size) ∧ w'.cell? ⟨g2, k * 7 + 4, none⟩ = some (Value.int .i64 x.r.packed) ∧ w'.cell? ⟨g2, k * 7 + 5, none⟩ = some (Value.bool false)) (by kernel_rfl) (KQ.out _ HD.out) (fun hHeld => ?_)
                          refine wpAnyH_take (i := 0) (oi := _) (v := Value.bool true) rfl (by kernel_rfl) (by kernel_rfl) (by kernel_rfl) (fun _ _ _ h => h) (Or.inl ⟨by rfl, fun w' hSw => ?_⟩) hHeld ?_
                          · obtain ⟨t0, t1, t2, t3, t4, t5, t6, t7, t8, t9, t10⟩ := hSw
                            go_simp
                            try simp [*]
                            try (intro hh; exfalso; omega)
                            try omega
                          try simp only [Act.put, List.setIfInBounds_toArray, List.set_cons_zero, List.set_cons_succ, List.getElem_toArray, List.getElem_cons_succ, List.getElem_cons_zero]
                          refine wpAnyH_take (i := 1) (oi := _) (v := Value.bool false) rfl (by kernel_rfl) (by kernel_rfl) (by kernel_rfl) (fun _ _ _ h => h) (Or.inl ⟨by rfl, fun w' hSw => ?_⟩) hHeld ?_
                          · obtain ⟨t0, t1, t2, t3, t4, t5, t6, t7, t8, t9, t10⟩ := hSw
                            go_simp
                            try simp [*]
                            try (intro hh; exfalso; omega)
                            try omega
                          try simp only [Act.put, List.setIfInBounds_toArray, List.set_cons_zero, List.set_cons_succ, List.getElem_toArray, List.getElem_cons_succ, List.getElem_cons_zero]
                          refine wpAnyH_take (i := 2) (oi := _) (v := Value.bool false) rfl (by kernel_rfl) (by kernel_rfl) (by kernel_rfl) (fun _ _ _ h => h) (Or.inl ⟨by rfl, fun w' hSw => ?_⟩) hHeld ?_
                          · obtain ⟨t0, t1, t2, t3, t4, t5, t6, t7, t8, t9, t10⟩ := hSw
                            go_simp
                            try simp [*]
                            try (intro hh; exfalso; omega)
                            try omega
                          try simp only [Act.put, List.setIfInBounds_toArray, List.set_cons_zero, List.set_cons_succ, List.getElem_toArray, List.getElem_cons_succ, List.getElem_cons_zero]
                          refine wpAnyH_take (i := 3) (oi := _) (v := Value.agg #[Value.int .i64 e.id, Value.int .i64 e.cls, Value.int .i64 e.made, Value.int .i64 e.size, Value.int .i64 e.packed]) rfl (by kernel_rfl) (by kernel_rfl) (by kernel_rfl) (fun _ _ _ h => h) (Or.inl ⟨by rfl, fun w' hSw => ?_⟩) hHeld ?_
                          · obtain ⟨t0, t1, t2, t3, t4, t5, t6, t7, t8, t9, t10⟩ := hSw
                            go_simp
                            try simp [*]
                            try (intro hh; exfalso; omega)
                            try omega
                          try simp only [Act.put, List.setIfInBounds_toArray, List.set_cons_zero, List.set_cons_succ, List.getElem_toArray, List.getElem_cons_succ, List.getElem_cons_zero]
                          refine wpAnyH_take (i := 4) (oi := _) (v := Value.slice (some ⟨g2, 0, none⟩) m c2) rfl (by kernel_rfl) (by kernel_rfl) (by kernel_rfl) (fun _ _ _ h => h) (Or.inl ⟨by rfl, fun w' hSw => ?_⟩) hHeld ?_
                          · obtain ⟨t0, t1, t2, t3, t4, t5, t6, t7, t8, t9, t10⟩ := hSw
                            go_simp
                            try simp [*]
                            try (intro hh; exfalso; omega)
                            try omega
                          try simp only [Act.put, List.setIfInBounds_toArray, List.set_cons_zero, List.set_cons_succ, List.getElem_toArray, List.getElem_cons_succ, List.getElem_cons_zero]
                          refine wpAnyH_take (i := 5) (oi := _) (v := Value.int .i64 (k : Int)) rfl (by kernel_rfl) (by kernel_rfl) (by kernel_rfl) (fun _ _ _ h => h) (Or.inl ⟨by rfl, fun w' hSw => ?_⟩) hHeld ?_
                          · obtain ⟨t0, t1, t2, t3, t4, t5, t6, t7, t8, t9, t10⟩ := hSw
                            go_simp
                            try simp [*]
                            try (intro hh; exfalso; omega)
                            try omega
                          try simp only [Act.put, List.setIfInBounds_toArray, List.set_cons_zero, List.set_cons_succ, List.getElem_toArray, List.getElem_cons_succ, List.getElem_cons_zero]
                          refine wpAnyH_take (i := 6) (oi := _) (v := Value.pointer (some ⟨g2, k * 7, none⟩)) rfl (by kernel_rfl) (by kernel_rfl) (by kernel_rfl) (fun _ _ _ h => h) (Or.inl ⟨by rfl, fun w' hSw => ?_⟩) hHeld ?_
                          · obtain ⟨t0, t1, t2, t3, t4, t5, t6, t7, t8, t9, t10⟩ := hSw
                            go_simp
                            try simp [*]
                            try (intro hh; exfalso; omega)
                            try omega
                          try simp only [Act.put, List.setIfInBounds_toArray, List.set_cons_zero, List.set_cons_succ, List.getElem_toArray, List.getElem_cons_succ, List.getElem_cons_zero]
                          refine wpAnyH_take (i := 7) (oi := _) (v := Value.pointer (some ⟨g2, k * 7, none⟩)) rfl (by kernel_rfl) (by kernel_rfl) (by kernel_rfl) (fun _ _ _ h => h) (Or.inl ⟨by rfl, fun w' hSw => ?_⟩) hHeld ?_
                          · obtain ⟨t0, t1, t2, t3, t4, t5, t6, t7, t8, t9, t10⟩ := hSw
                            go_simp
                            try simp [*]
                            try (intro hh; exfalso; omega)
                            try omega
                          try simp only [Act.put, List.setIfInBounds_toArray, List.set_cons_zero, List.set_cons_succ, List.getElem_toArray, List.getElem_cons_succ, List.getElem_cons_zero]
                          refine wpAnyH_take (i := 8) (oi := _) (v := Value.agg #[Value.int .i64 x.r.id, Value.int .i64 x.r.cls, Value.int .i64 x.r.made, Value.int .i64 x.r.size, Value.int .i64 x.r.packed]) rfl (by kernel_rfl) (by kernel_rfl) (by kernel_rfl) (fun _ _ _ h => h) (Or.inl ⟨by rfl, fun w' hSw => ?_⟩) hHeld ?_
                          · obtain ⟨t0, t1, t2, t3, t4, t5, t6, t7, t8, t9, t10⟩ := hSw
                            go_simp
                            try simp [*]
                            try (intro hh; exfalso; omega)
                            try omega
                          try simp only [Act.put, List.setIfInBounds_toArray, List.set_cons_zero, List.set_cons_succ, List.getElem_toArray, List.getElem_cons_succ, List.getElem_cons_zero]
                          refine wpAnyH_ready (rs := [9]) (by kernel_rfl) (by simp) ?_
                          refine AllReadyH.cons (o := _) rfl (fun K hK => ?_) (AllReadyH.nil)
                          go_simp
                          go_at_call 46
                          refine Calls.mono (c46 _) ?_
                          rintro e t0 ⟨rfl, hb⟩
                          have HT0 := Lib.hid (HD.out.trans (hb.mono HD.out.size))
                          clear hb
                          clear hHeld
                          refine hK.out _ _ (KQ.out _ HT0.out) (fun hHeld => ?_)
                          clear hK K
                          try simp only [Act.put, List.setIfInBounds_toArray, List.set_cons_zero, List.set_cons_succ, List.getElem_toArray, List.getElem_cons_succ, List.getElem_cons_zero]
                          refine wpAnyH_take (i := 10) (oi := _) (v := Value.bool false) rfl (by kernel_rfl) (by kernel_rfl) (by kernel_rfl) (fun _ _ _ h => h) (Or.inl ⟨by rfl, fun w' hSw => ?_⟩) hHeld ?_
                          · obtain ⟨t0, t1, t2, t3, t4, t5, t6, t7, t8, t9, t10⟩ := hSw
                            go_simp
                            try simp [*]
                            try (intro hh; exfalso; omega)
                            try omega
                          try simp only [Act.put, List.setIfInBounds_toArray, List.set_cons_zero, List.set_cons_succ, List.getElem_toArray, List.getElem_cons_succ, List.getElem_cons_zero]
                          refine wpAnyH_take (i := 11) (oi := _) (v := Value.bool false) rfl (by kernel_rfl) (by kernel_rfl) (by kernel_rfl) (fun _ _ _ h => h) (Or.inl ⟨by rfl, fun w' hSw => ?_⟩) hHeld ?_
                          · obtain ⟨t0, t1, t2, t3, t4, t5, t6, t7, t8, t9, t10⟩ := hSw
                            go_simp
                            try simp [*]
                            try (intro hh; exfalso; omega)
                            try omega
                          try simp only [Act.put, List.setIfInBounds_toArray, List.set_cons_zero, List.set_cons_succ, List.getElem_toArray, List.getElem_cons_succ, List.getElem_cons_zero]
                          refine wpAnyH_take (i := 12) (oi := _) (v := Value.bool false) rfl (by kernel_rfl) (by kernel_rfl) (by kernel_rfl) (fun _ _ _ h => h) (Or.inl ⟨by rfl, fun w' hSw => ?_⟩) hHeld ?_
                          · obtain ⟨t0, t1, t2, t3, t4, t5, t6, t7, t8, t9, t10⟩ := hSw
                            go_simp
                            try simp [*]
                            try (intro hh; exfalso; omega)
                            try omega
                          try simp only [Act.put, List.setIfInBounds_toArray, List.set_cons_zero, List.set_cons_succ, List.getElem_toArray, List.getElem_cons_succ, List.getElem_cons_zero]
                          refine wpAnyH_take (i := 13) (oi := _) (v := Value.slice (some ⟨g2, 0, none⟩) m c2) rfl (by kernel_rfl) (by kernel_rfl) (by kernel_rfl) (fun _ _ _ h => h) (Or.inl ⟨by rfl, fun w' hSw => ?_⟩) hHeld ?_
                          · obtain ⟨t0, t1, t2, t3, t4, t5, t6, t7, t8, t9, t10⟩ := hSw
                            go_simp
                            try simp [*]
                            try (intro hh; exfalso; omega)
                            try omega
                          try simp only [Act.put, List.setIfInBounds_toArray, List.set_cons_zero, List.set_cons_succ, List.getElem_toArray, List.getElem_cons_succ, List.getElem_cons_zero]
                          refine wpAnyH_take (i := 14) (oi := _) (v := Value.int .i64 (k : Int)) rfl (by kernel_rfl) (by kernel_rfl) (by kernel_rfl) (fun _ _ _ h => h) (Or.inl ⟨by rfl, fun w' hSw => ?_⟩) hHeld ?_
                          · obtain ⟨t0, t1, t2, t3, t4, t5, t6, t7, t8, t9, t10⟩ := hSw
                            go_simp
                            try simp [*]
                            try (intro hh; exfalso; omega)
                            try omega
                          try simp only [Act.put, List.setIfInBounds_toArray, List.set_cons_zero, List.set_cons_succ, List.getElem_toArray, List.getElem_cons_succ, List.getElem_cons_zero]
                          refine wpAnyH_take (i := 15) (oi := _) (v := Value.pointer (some ⟨g2, k * 7, none⟩)) rfl (by kernel_rfl) (by kernel_rfl) (by kernel_rfl) (fun _ _ _ h => h) (Or.inl ⟨by rfl, fun w' hSw => ?_⟩) hHeld ?_
                          · obtain ⟨t0, t1, t2, t3, t4, t5, t6, t7, t8, t9, t10⟩ := hSw
                            go_simp
                            try simp [*]
                            try (intro hh; exfalso; omega)
                            try omega
                          try simp only [Act.put, List.setIfInBounds_toArray, List.set_cons_zero, List.set_cons_succ, List.getElem_toArray, List.getElem_cons_succ, List.getElem_cons_zero]
                          refine wpAnyH_take (i := 16) (oi := _) (v := Value.pointer (some ⟨g2, k * 7 + 5, none⟩)) rfl (by kernel_rfl) (by kernel_rfl) (by kernel_rfl) (fun _ _ _ h => h) (Or.inl ⟨by rfl, fun w' hSw => ?_⟩) hHeld ?_
                          · obtain ⟨t0, t1, t2, t3, t4, t5, t6, t7, t8, t9, t10⟩ := hSw
                            go_simp
                            try simp [*]
                            try (intro hh; exfalso; omega)
                            try omega
                          try simp only [Act.put, List.setIfInBounds_toArray, List.set_cons_zero, List.set_cons_succ, List.getElem_toArray, List.getElem_cons_succ, List.getElem_cons_zero]
                          refine wpAnyH_take (i := 17) (oi := _) (v := Value.bool false) rfl (by kernel_rfl) (by kernel_rfl) (by kernel_rfl) (fun _ _ _ h => h) (Or.inl ⟨by rfl, fun w' hSw => ?_⟩) hHeld ?_
                          · obtain ⟨t0, t1, t2, t3, t4, t5, t6, t7, t8, t9, t10⟩ := hSw
                            go_simp
                            try simp [*]
                            try (intro hh; exfalso; omega)
                            try omega
                          try simp only [Act.put, List.setIfInBounds_toArray, List.set_cons_zero, List.set_cons_succ, List.getElem_toArray, List.getElem_cons_succ, List.getElem_cons_zero]
                          refine wpAnyH_take (i := 18) (oi := _) (v := Value.bool true) rfl (by kernel_rfl) (by kernel_rfl) (by kernel_rfl) (fun _ _ _ h => h) (Or.inl ⟨by rfl, fun w' hSw => ?_⟩) hHeld ?_
                          · obtain ⟨t0, t1, t2, t3, t4, t5, t6, t7, t8, t9, t10⟩ := hSw
                            go_simp
                            try simp [*]
                            try (intro hh; exfalso; omega)
                            try omega
                          try simp only [Act.put, List.setIfInBounds_toArray, List.set_cons_zero, List.set_cons_succ, List.getElem_toArray, List.getElem_cons_succ, List.getElem_cons_zero]
                          refine wpAnyH_take (i := 19) (oi := _) (v := Value.bool true) rfl (by kernel_rfl) (by kernel_rfl) (by kernel_rfl) (fun _ _ _ h => h) (Or.inl ⟨by rfl, fun w' hSw => ?_⟩) hHeld ?_
                          · obtain ⟨t0, t1, t2, t3, t4, t5, t6, t7, t8, t9, t10⟩ := hSw
                            go_simp
                            try simp [*]
                            try (intro hh; exfalso; omega)
                            try omega
                          try simp only [Act.put, List.setIfInBounds_toArray, List.set_cons_zero, List.set_cons_succ, List.getElem_toArray, List.getElem_cons_succ, List.getElem_cons_zero]
                          refine wpAnyH_take (i := 20) (oi := _) (v := Value.slice (some ⟨g2, 0, none⟩) m c2) rfl (by kernel_rfl) (by kernel_rfl) (by kernel_rfl) (fun _ _ _ h => h) (Or.inl ⟨by rfl, fun w' hSw => ?_⟩) hHeld ?_
                          · obtain ⟨t0, t1, t2, t3, t4, t5, t6, t7, t8, t9, t10⟩ := hSw
                            go_simp
                            try simp [*]
                            try (intro hh; exfalso; omega)
                            try omega
                          try simp only [Act.put, List.setIfInBounds_toArray, List.set_cons_zero, List.set_cons_succ, List.getElem_toArray, List.getElem_cons_succ, List.getElem_cons_zero]
                          refine wpAnyH_take (i := 21) (oi := _) (v := Value.int .i64 (k : Int)) rfl (by kernel_rfl) (by kernel_rfl) (by kernel_rfl) (fun _ _ _ h => h) (Or.inl ⟨by rfl, fun w' hSw => ?_⟩) hHeld ?_
                          · obtain ⟨t0, t1, t2, t3, t4, t5, t6, t7, t8, t9, t10⟩ := hSw
                            go_simp
                            try simp [*]
                            try (intro hh; exfalso; omega)
                            try omega
                          try simp only [Act.put, List.setIfInBounds_toArray, List.set_cons_zero, List.set_cons_succ, List.getElem_toArray, List.getElem_cons_succ, List.getElem_cons_zero]
                          refine wpAnyH_take (i := 22) (oi := _) (v := Value.pointer (some ⟨g2, k * 7, none⟩)) rfl (by kernel_rfl) (by kernel_rfl) (by kernel_rfl) (fun _ _ _ h => h) (Or.inl ⟨by rfl, fun w' hSw => ?_⟩) hHeld ?_
                          · obtain ⟨t0, t1, t2, t3, t4, t5, t6, t7, t8, t9, t10⟩ := hSw
                            go_simp
                            try simp [*]
                            try (intro hh; exfalso; omega)
                            try omega
                          try simp only [Act.put, List.setIfInBounds_toArray, List.set_cons_zero, List.set_cons_succ, List.getElem_toArray, List.getElem_cons_succ, List.getElem_cons_zero]
                          refine wpAnyH_take (i := 23) (oi := _) (v := Value.pointer (some ⟨g2, k * 7, none⟩)) rfl (by kernel_rfl) (by kernel_rfl) (by kernel_rfl) (fun _ _ _ h => h) (Or.inl ⟨by rfl, fun w' hSw => ?_⟩) hHeld ?_
                          · obtain ⟨t0, t1, t2, t3, t4, t5, t6, t7, t8, t9, t10⟩ := hSw
                            go_simp
                            try simp [*]
                            try (intro hh; exfalso; omega)
                            try omega
                          try simp only [Act.put, List.setIfInBounds_toArray, List.set_cons_zero, List.set_cons_succ, List.getElem_toArray, List.getElem_cons_succ, List.getElem_cons_zero]
                          refine wpAnyH_take (i := 24) (oi := _) (v := Value.pointer (some ⟨g2, k * 7 + 4, none⟩)) rfl (by kernel_rfl) (by kernel_rfl) (by kernel_rfl) (fun _ _ _ h => h) (Or.inl ⟨by rfl, fun w' hSw => ?_⟩) hHeld ?_
                          · obtain ⟨t0, t1, t2, t3, t4, t5, t6, t7, t8, t9, t10⟩ := hSw
                            go_simp
                            try simp [*]
                            try (intro hh; exfalso; omega)
                            try omega
                          try simp only [Act.put, List.setIfInBounds_toArray, List.set_cons_zero, List.set_cons_succ, List.getElem_toArray, List.getElem_cons_succ, List.getElem_cons_zero]
                          refine wpAnyH_take (i := 25) (oi := _) (v := Value.int .i64 x.r.packed) rfl (by kernel_rfl) (by kernel_rfl) (by kernel_rfl) (fun _ _ _ h => h) (Or.inl ⟨by rfl, fun w' hSw => ?_⟩) hHeld ?_
                          · obtain ⟨t0, t1, t2, t3, t4, t5, t6, t7, t8, t9, t10⟩ := hSw
                            go_simp
                            try simp [*]
                            try (intro hh; exfalso; omega)
                            try omega
                          try simp only [Act.put, List.setIfInBounds_toArray, List.set_cons_zero, List.set_cons_succ, List.getElem_toArray, List.getElem_cons_succ, List.getElem_cons_zero]
                          refine wpAnyH_take (i := 26) (oi := _) (v := Value.slice (some ⟨g2, 0, none⟩) m c2) rfl (by kernel_rfl) (by kernel_rfl) (by kernel_rfl) (fun _ _ _ h => h) (Or.inl ⟨by rfl, fun w' hSw => ?_⟩) hHeld ?_
                          · obtain ⟨t0, t1, t2, t3, t4, t5, t6, t7, t8, t9, t10⟩ := hSw
                            go_simp
                            try simp [*]
                            try (intro hh; exfalso; omega)
                            try omega
                          try simp only [Act.put, List.setIfInBounds_toArray, List.set_cons_zero, List.set_cons_succ, List.getElem_toArray, List.getElem_cons_succ, List.getElem_cons_zero]
                          refine wpAnyH_take (i := 27) (oi := _) (v := Value.int .i64 (k : Int)) rfl (by kernel_rfl) (by kernel_rfl) (by kernel_rfl) (fun _ _ _ h => h) (Or.inl ⟨by rfl, fun w' hSw => ?_⟩) hHeld ?_
                          · obtain ⟨t0, t1, t2, t3, t4, t5, t6, t7, t8, t9, t10⟩ := hSw
                            go_simp
                            try simp [*]
                            try (intro hh; exfalso; omega)
                            try omega
                          try simp only [Act.put, List.setIfInBounds_toArray, List.set_cons_zero, List.set_cons_succ, List.getElem_toArray, List.getElem_cons_succ, List.getElem_cons_zero]
                          refine wpAnyH_take (i := 28) (oi := _) (v := Value.pointer (some ⟨g2, k * 7, none⟩)) rfl (by kernel_rfl) (by kernel_rfl) (by kernel_rfl) (fun _ _ _ h => h) (Or.inl ⟨by rfl, fun w' hSw => ?_⟩) hHeld ?_
                          · obtain ⟨t0, t1, t2, t3, t4, t5, t6, t7, t8, t9, t10⟩ := hSw
                            go_simp
                            try simp [*]
                            try (intro hh; exfalso; omega)
                            try omega
                          try simp only [Act.put, List.setIfInBounds_toArray, List.set_cons_zero, List.set_cons_succ, List.getElem_toArray, List.getElem_cons_succ, List.getElem_cons_zero]
                          refine wpAnyH_take (i := 29) (oi := _) (v := Value.pointer (some ⟨g2, k * 7, none⟩)) rfl (by kernel_rfl) (by kernel_rfl) (by kernel_rfl) (fun _ _ _ h => h) (Or.inl ⟨by rfl, fun w' hSw => ?_⟩) hHeld ?_
                          · obtain ⟨t0, t1, t2, t3, t4, t5, t6, t7, t8, t9, t10⟩ := hSw
                            go_simp
                            try simp [*]
                            try (intro hh; exfalso; omega)
                            try omega
                          try simp only [Act.put, List.setIfInBounds_toArray, List.set_cons_zero, List.set_cons_succ, List.getElem_toArray, List.getElem_cons_succ, List.getElem_cons_zero]
                          refine wpAnyH_take (i := 30) (oi := _) (v := Value.pointer (some ⟨g2, k * 7 + 3, none⟩)) rfl (by kernel_rfl) (by kernel_rfl) (by kernel_rfl) (fun _ _ _ h => h) (Or.inl ⟨by rfl, fun w' hSw => ?_⟩) hHeld ?_
                          · obtain ⟨t0, t1, t2, t3, t4, t5, t6, t7, t8, t9, t10⟩ := hSw
                            go_simp
                            try simp [*]
                            try (intro hh; exfalso; omega)
                            try omega
                          try simp only [Act.put, List.setIfInBounds_toArray, List.set_cons_zero, List.set_cons_succ, List.getElem_toArray, List.getElem_cons_succ, List.getElem_cons_zero]
                          refine wpAnyH_take (i := 31) (oi := _) (v := Value.int .i64 x.r.size) rfl (by kernel_rfl) (by kernel_rfl) (by kernel_rfl) (fun _ _ _ h => h) (Or.inl ⟨by rfl, fun w' hSw => ?_⟩) hHeld ?_
                          · obtain ⟨t0, t1, t2, t3, t4, t5, t6, t7, t8, t9, t10⟩ := hSw
                            go_simp
                            try simp [*]
                            try (intro hh; exfalso; omega)
                            try omega
                          try simp only [Act.put, List.setIfInBounds_toArray, List.set_cons_zero, List.set_cons_succ, List.getElem_toArray, List.getElem_cons_succ, List.getElem_cons_zero]
                          refine wpAnyH_take (i := 32) (oi := _) (v := Value.bool false) rfl (by kernel_rfl) (by kernel_rfl) (by kernel_rfl) (fun _ _ _ h => h) (Or.inl ⟨by rfl, fun w' hSw => ?_⟩) hHeld ?_
                          · obtain ⟨t0, t1, t2, t3, t4, t5, t6, t7, t8, t9, t10⟩ := hSw
                            go_simp
                            try simp [*]
                            try (intro hh; exfalso; omega)
                            try omega
                          try simp only [Act.put, List.setIfInBounds_toArray, List.set_cons_zero, List.set_cons_succ, List.getElem_toArray, List.getElem_cons_succ, List.getElem_cons_zero]
                          refine wpAnyH_take (i := 33) (oi := _) (v := Value.bool false) rfl (by kernel_rfl) (by kernel_rfl) (by kernel_rfl) (fun _ _ _ h => h) (Or.inl ⟨by rfl, fun w' hSw => ?_⟩) hHeld ?_
                          · obtain ⟨t0, t1, t2, t3, t4, t5, t6, t7, t8, t9, t10⟩ := hSw
                            go_simp
                            try simp [*]
                            try (intro hh; exfalso; omega)
                            try omega
                          try simp only [Act.put, List.setIfInBounds_toArray, List.set_cons_zero, List.set_cons_succ, List.getElem_toArray, List.getElem_cons_succ, List.getElem_cons_zero]
                          refine wpAnyH_take (i := 34) (oi := _) (v := Value.bool false) rfl (by kernel_rfl) (by kernel_rfl) (by kernel_rfl) (fun _ _ _ h => h) (Or.inl ⟨by rfl, fun w' hSw => ?_⟩) hHeld ?_
                          · obtain ⟨t0, t1, t2, t3, t4, t5, t6, t7, t8, t9, t10⟩ := hSw
                            go_simp
                            try simp [*]
                            try (intro hh; exfalso; omega)
                            try omega
                          try simp only [Act.put, List.setIfInBounds_toArray, List.set_cons_zero, List.set_cons_succ, List.getElem_toArray, List.getElem_cons_succ, List.getElem_cons_zero]
                          refine wpAnyH_done (by kernel_rfl) ?_ _
                          clear hHeld
                          go_wp2_with fail
                          go_roundw
                          case rel => exact ⟨j + 1, by omega, by go_num, HVA.out.trans (HT0.out.mono HVA.out.size)⟩
                          case measure => simp [intOf]; omega
                      · obtain rfl : j = dn := Nat.le_antisymm hj (Nat.le_of_not_lt hjd)
                        go_wp2_with fail
                        go_roundw
                        case rel => exact ⟨k + 1, by omega, by rw [HUK.out], by go_num, HBz.out⟩
                        case measure => simp [intOf]; omega
              · obtain rfl : k = m := Nat.le_antisymm hk (Nat.le_of_not_lt hkm)
                have c32 := C32.out wr HB7.out
                rw [HUE.out]
                obtain ⟨us, hus⟩ : ∃ us, us = usL L2 := ⟨_, rfl⟩
                have hul : us ≤ 1 + cv % 1000 := by rw [hus]; exact HUS.out
                rw [← hus] at c32
                rw [← hus]
                clear hus
                go_wp2_with fail
                refine c32.mono ?_
                rintro e w12 ⟨rfl, hb⟩
                have HB12 := Lib.hid (HB7.out.trans (hb.mono HB7.out.size))
                clear hb c32
                go_wp2_with fail
                go_roundw
                case rel => exact ⟨i + 1, by omega, by go_num, L2, S5, v5, putF f r, _, HBFV.out.below HB12.out, HMV.out.same (HB12.out.block M2 HMV.out.lt), HKF.out, by have := HLEN.out; have := HLI.out; omega, by have := HLI.out; split <;> omega, HBwV.out.trans (HB12.out.mono HBwV.out.size), HSy.out, HM2.out⟩
                case measure => simp [intOf]; omega
    · obtain rfl : i = n := by omega
      obtain ⟨L, S, v, f, c, hBF, hMR, hf, hLi, hci, hB, hS, hM2w⟩ := hK
      have HB := Lib.hid hB
      clear hBF hMR hf hLi hci hB hS hM2w
      go_wp2_with fail
      refine (fine_any _).mono ?_
      rintro e wf ⟨rfl, hb⟩
      have HBF := Lib.hid (HB.out.trans (hb.mono HB.out.size))
      clear hb
      go_wp2_with fail
      go_ret
      exact ⟨by first | rfl | simp, HBF.out⟩

end Go.Proofs.Ytbbaehmfadpgeaa

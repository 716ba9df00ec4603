/-
  Cables: true currents and voltages lie in their spans.
-/
import Derived.Test.YtdohfpnnmppdkaaEvFn
import Derived.Test.YtdohfpnnmppdkaaCbR
import Derived.Test.YtdohfpnnmppdkaaCbQ
import Derived.Test.YtdohfpnnmppdkaaCbT
namespace Go.Proofs.Ytdohfpnnmppdkaa
open Go.RowKit Go.Shelf
set_option linter.unusedSimpArgs false
attribute [local go_sem] Oper.semAt_some
/-- a made row of numbers -/
theorem make_longs (w : World) (n : Nat) (hn : n ≤ 1000) : ∃ w', (Instr.makeSlice 50 (.int .i64 (n : Int)) (.int .i64 (n : Int))).run Try.prog w = .ok (.slice (some ⟨w.heap.size, 0, none⟩) n n) w' ∧
    RowC w' w.heap.size 2 n (fun _ => .int .i64 0) ∧ Below w.heap.size w w' ∧ w.heap.size < w'.heap.size := by
  obtain ⟨i0, hi0, hz0, hz1, hz2⟩ := info_parts (t := 2) (z := .int .i64 0) (size := 1) (bytes := 8) (by kernel_rfl)
  obtain ⟨w2, hM, hS, hg⟩ := run_make_full (P := Try.prog) w w.heap.size 50 2 i0 _ 1 Try.underlying50 hi0 hz0 hz1 .i64 .i64 n (by rw [hz2]; omega) (by unfold maxLen; omega) (Nat.le_refl _)
  obtain ⟨-, hR⟩ := rowC_of_own hS rfl
  rw [Nat.mul_one] at hR
  have hR0 : RowC w2 w.heap.size 2 n (fun _ => .int .i64 0) := hR.ext fun j hj => by simp [madeCells, Value.cells, hj, Nat.mod_one]
  exact ⟨w2, hM, hR0, (Below.refl _ w).grown hg (Nat.le_refl _) (fun r e => by cases e), hR0.lt⟩
set_option maxRecDepth 100000 in
set_option maxHeartbeats 32000000 in
theorem every_any (sl sh s : Int) (sv lv ov : Value) (ns : List Nd) (ls os : List Int) (w : World) (hs0 : 0 ≤ s) (hs1 : s ≤ 255) (hN : Nds w.heap.size w sv ns) (hL : Sk .u8 w.heap.size w lv ls) (hO : Sk .u8 w.heap.size w ov os) :
    Calls Try.prog 7 #[.agg #[.int .i64 sl, .int .i64 sh, sv], lv, ov, .int .u8 s] w fun e w' => e = .returned (.bool true) ∧ Below w.heap.size w w' := by
  have c1 := Lib.hid (fun W (h : Below w.heap.size w W) => valid_any sl sh sv ns W (hN.at h))
  have HV := Lib.hid (fun (h : valB sl sh ns = true) => valB_ok h)
  have c2 := Lib.hid (fun (hv : ValidC sl sh ns) W (h : Below w.heap.size w W) => currents_ok sl sh sv ns hv W (hN.at h))
  have c3 := Lib.hid (fun (hv : ValidC sl sh ns) W (h : Below w.heap.size w W) => voltages_ok sl sh sv ns hv W (hN.at h))
  have cL := Lib.hid (fun (i : Nat) W (h : Below w.heap.size w W) => at_any lv ls i W (hL.at h))
  have cO := Lib.hid (fun (i : Nat) W (h : Below w.heap.size w W) => at_any ov os i W (hO.at h))
  have hbl := hL.byt
  have hbo := hO.byt
  obtain ⟨la, lc, rfl⟩ := hL.form
  obtain ⟨oa, oc, rfl⟩ := hO.form
  obtain ⟨a, cap, hsv, -, hcc⟩ := hN
  subst hsv
  clear hL hO
  generalize ls.length = nl at *
  generalize os.length = no at *
  generalize valB sl sh ns = VB at *
  cases VB
  · clear HV c2 c3 cL cO hcc hbl hbo
    generalize ns.length = n at *
    obtain ⟨A, hA⟩ : ∃ A, A = w.alloc (.cells #[.int .i64 sl, .int .i64 sh, .slice a n cap] 26) := ⟨_, rfl⟩
    have HBA := Lib.hid (show Below w.heap.size w A by rw [hA]; exact ((Below.refl _ _).alloc (Nat.le_refl _) _))
    have hltA : w.heap.size + 1 ≤ A.heap.size := by rw [hA]; simp
    have q0 : A.cell? ⟨w.heap.size, 0, none⟩ = some (.int .i64 sl) := by rw [hA]; exact (cellHB (World.alloc_heap_new w _) 0).trans (by simp)
    have q1 : A.cell? ⟨w.heap.size, 1, none⟩ = some (.int .i64 sh) := by rw [hA]; exact (cellHB (World.alloc_heap_new w _) 1).trans (by simp)
    have q2 : A.cell? ⟨w.heap.size, 2, none⟩ = some (.slice a n cap) := by rw [hA]; exact (cellHB (World.alloc_heap_new w _) 2).trans (by simp)
    have KK := Lib.hid (show ∀ W, Below A.heap.size A W → W.cell? ⟨w.heap.size, 0, none⟩ = some (.int .i64 sl) ∧ W.cell? ⟨w.heap.size, 1, none⟩ = some (.int .i64 sh) ∧ W.cell? ⟨w.heap.size, 2, none⟩ = some (.slice a n cap) from fun W h => ⟨(h.cell (p := ⟨w.heap.size, 0, none⟩) (by show w.heap.size < A.heap.size; omega)).trans q0, (h.cell (p := ⟨w.heap.size, 1, none⟩) (by show w.heap.size < A.heap.size; omega)).trans q1, (h.cell (p := ⟨w.heap.size, 2, none⟩) (by show w.heap.size < A.heap.size; omega)).trans q2⟩)
    have HLT := Lib.hid hltA
    clear hltA q0 q1 q2
    obtain ⟨k0, k1, k2⟩ := KK.out _ (Below.refl _ _)
    go_enter Try.func7, Try.ntmps7
    go_upto_region 1 with fail
    rw [← hA]
    clear hA
    go_wp2_with fail
    refine (c1.out _ HBA.out).mono ?_
    rintro e w1 ⟨rfl, hb⟩
    have HB1 := Lib.hid hb
    clear hb k0 k1 k2
    obtain ⟨k0, k1, k2⟩ := KK.out _ HB1.out
    go_wp2_with fail
    refine (fine_any _).mono ?_
    rintro e w2 ⟨rfl, hb⟩
    have HB2 := Lib.hid (HB1.out.trans (hb.mono HB1.out.size))
    clear hb k0 k1 k2
    obtain ⟨k0, k1, k2⟩ := KK.out _ HB2.out
    go_wp2_with fail
    go_ret
    exact ⟨rfl, HBA.out.trans (HB2.out.mono HBA.out.size)⟩
  obtain ⟨hv, hn20⟩ := HV.out rfl
  have hpos := hv.pos
  obtain ⟨nb, off, rfl, hnb, -⟩ := hcc 0 hpos
  have HC := Lib.hid (show ∀ W k, Below w.heap.size w W → k < ns.length → W.cell? ⟨nb, off + k * 8, none⟩ = some (.int .i64 (nd ns k).par) ∧ W.cell? ⟨nb, off + k * 8 + 1, none⟩ = some (.int .i64 (nd ns k).ol) ∧ W.cell? ⟨nb, off + k * 8 + 2, none⟩ = some (.int .i64 (nd ns k).oh) ∧ W.cell? ⟨nb, off + k * 8 + 4, none⟩ = some (.int .i64 (nd ns k).ll) ∧ W.cell? ⟨nb, off + k * 8 + 5, none⟩ = some (.int .i64 (nd ns k).lh) from fun W k hb hk => by
    obtain ⟨b, o, h1, h2, e0, e1, e2, e3, e4, e5, e6, e7⟩ := hcc k hk
    simp only [Option.some.injEq, Addr.mk.injEq] at h1
    obtain ⟨rfl, rfl, -⟩ := h1
    exact ⟨(hb.cell (p := ⟨_, _, none⟩) h2).trans e0, (hb.cell (p := ⟨_, _, none⟩) h2).trans e1, (hb.cell (p := ⟨_, _, none⟩) h2).trans e2, (hb.cell (p := ⟨_, _, none⟩) h2).trans e4, (hb.cell (p := ⟨_, _, none⟩) h2).trans e5⟩)
  have HPE := Lib.hid (fun j (h : j < ns.length) (h0 : 0 < j) => hv.all.par_eq h h0)
  have HPT := Lib.hid (fun j (h0 : 0 < j) => hv.all.tree j h0)
  have HLD := Lib.hid (fun k (h : k < ns.length) => hv.all.node h)
  have HLO := Lib.hid (fun k (h : k < ns.length) => loT_in hv.all hbl h)
  have HRE := Lib.hid (fun k (h : k < ns.length) => reT_in hv.all hbo h)
  have HFR := Lib.hid (fun k (h : k < ns.length) => fl_re hv hbl hbo h)
  have HFL := Lib.hid (fun k (h : k < ns.length) => show 0 ≤ curL ns k ∧ curL ns k ≤ flT ns ls k ∧ flT ns ls k ≤ curH ns k ∧ curH ns k ≤ 3932160 by
    have q := flT_in hv.all hbl k
    have d := drop_bd hv h
    exact ⟨d.1.1, q.1, q.2, d.2.1.2⟩)
  have HGB := Lib.hid (fun m j (h : j < ns.length) => gF_bd hv.all hbl h m)
  have HG0 := Lib.hid (fun j (h : j < ns.length) => gF_start (ls := ls) h)
  have HGO := Lib.hid (fun k (h : k < ns.length) => gF_own (ls := ls) hv.all h)
  have HGS := Lib.hid (fun k (h : k < ns.length) (h0 : 0 < k) j => gF_step (ls := ls) h h0 (hv.all.tree k h0) j)
  have HGZ := Lib.hid (fun j => gF_zero (ns := ns) (ls := ls) j)
  have HGL := Lib.hid (fun j => gF_last (ns := ns) (ls := ls) j)
  have HPK := Lib.hid (show (sl ≤ pickV sl sh s ∧ pickV sl sh s ≤ sh) ∧ 0 ≤ sl ∧ sl ≤ sh ∧ sh ≤ 67108864 from ⟨pickV_in hv.sup.1 hs0 hs1, hv.sup.2.1, hv.sup.1, hv.sup.2.2⟩)
  have HVT := Lib.hid (fun k (h : k < ns.length) => show (1000 * (vol sl sh ns k).1 ≤ voT (pickV sl sh s) ns ls os k ∧ voT (pickV sl sh s) ns ls os k ≤ 1000 * (vol sl sh ns k).2) ∧ -4000000000000 ≤ (vol sl sh ns k).1 ∧ (vol sl sh ns k).2 ≤ 4000000000000 ∧ (vol sl sh ns k).1 ≤ 4000000000000 ∧ -4000000000000 ≤ (vol sl sh ns k).2 from by
    have q := voT_in hv hbl hbo HPK.out.1 k h
    have d := vol_in hv h
    refine ⟨q, ?_, ?_, ?_, ?_⟩ <;> omega)
  have HV0 := Lib.hid (voT_zero (pickV sl sh s) ns ls os)
  have HVP := Lib.hid (fun k (h0 : 0 < k) => voT_pos (s := pickV sl sh s) (ls := ls) (os := os) hv.all.tree h0)
  have HAT := Lib.hid (fun k => And.intro (atV_in hbl k) (atV_in hbo k))
  have HLT0 := Lib.hid (show ∀ k, pickV (nd ns k).ll (nd ns k).lh (atV ls k) = loT ns ls k from fun _ => rfl)
  have HRT0 := Lib.hid (show ∀ k, pickV (nd ns k).ol (nd ns k).oh (atV os k) = reT ns os k from fun _ => rfl)
  have cS := Lib.hid (fun W => pick_any sl sh s HPK.out.2.1 HPK.out.2.2.1 (by have := HPK.out.2.2.2; omega) hs0 hs1 W)
  have c2' := Lib.hid (c2.out hv)
  have c3' := Lib.hid (c3.out hv)
  clear c2 c3 hcc HV hbl hbo hv
  generalize pickV sl sh s = S0 at *
  generalize voT S0 ns ls os = VT at *
  generalize reT ns os = RT at *
  generalize loT ns ls = LT at *
  generalize flT ns ls = FT at *
  generalize gF ns ls = GF at *
  generalize vol sl sh ns = VO at *
  generalize hnn : ns.length = n at *
  clear hnn
  obtain ⟨A, hA⟩ : ∃ A, A = w.alloc (.cells #[.int .i64 sl, .int .i64 sh, .slice (some ⟨nb, off, none⟩) n cap] 26) := ⟨_, rfl⟩
  have HBA := Lib.hid (show Below w.heap.size w A by rw [hA]; exact ((Below.refl _ _).alloc (Nat.le_refl _) _))
  have hltA : w.heap.size + 1 ≤ A.heap.size := by rw [hA]; simp
  have q0 : A.cell? ⟨w.heap.size, 0, none⟩ = some (.int .i64 sl) := by rw [hA]; exact (cellHB (World.alloc_heap_new w _) 0).trans (by simp)
  have q1 : A.cell? ⟨w.heap.size, 1, none⟩ = some (.int .i64 sh) := by rw [hA]; exact (cellHB (World.alloc_heap_new w _) 1).trans (by simp)
  have q2 : A.cell? ⟨w.heap.size, 2, none⟩ = some (.slice (some ⟨nb, off, none⟩) n cap) := by rw [hA]; exact (cellHB (World.alloc_heap_new w _) 2).trans (by simp)
  have KK := Lib.hid (show ∀ W, Below A.heap.size A W → W.cell? ⟨w.heap.size, 0, none⟩ = some (.int .i64 sl) ∧ W.cell? ⟨w.heap.size, 1, none⟩ = some (.int .i64 sh) ∧ W.cell? ⟨w.heap.size, 2, none⟩ = some (.slice (some ⟨nb, off, none⟩) n cap) from fun W h => ⟨(h.cell (p := ⟨w.heap.size, 0, none⟩) (by show w.heap.size < A.heap.size; omega)).trans q0, (h.cell (p := ⟨w.heap.size, 1, none⟩) (by show w.heap.size < A.heap.size; omega)).trans q1, (h.cell (p := ⟨w.heap.size, 2, none⟩) (by show w.heap.size < A.heap.size; omega)).trans q2⟩)
  have HLT := Lib.hid hltA
  clear hltA q0 q1 q2
  obtain ⟨k0, k1, k2⟩ := KK.out _ (Below.refl _ _)
  go_enter Try.func7, Try.ntmps7
  go_upto_region 1 with fail
  rw [← hA]
  clear hA
  go_wp2_with fail
  refine (c1.out _ HBA.out).mono ?_
  rintro e w1 ⟨rfl, hb⟩
  have HB1 := Lib.hid hb
  clear hb k0 k1 k2
  obtain ⟨k0, k1, k2⟩ := KK.out _ HB1.out
  go_wp2_with fail
  refine (c2'.out _ (HBA.out.trans (HB1.out.mono HBA.out.size))).mono ?_
  rintro e w2 ⟨gi, rfl, hr, hg, hb⟩
  have HRI := Lib.hid hr
  have HB2 := Lib.hid (HB1.out.trans (hb.mono HB1.out.size))
  clear hr hg hb k0 k1 k2
  obtain ⟨k0, k1, k2⟩ := KK.out _ HB2.out
  go_wp2_with fail
  refine (c3'.out _ (HBA.out.trans (HB2.out.mono HBA.out.size))).mono ?_
  rintro e w3 ⟨gv, rfl, hr, hg, hb⟩
  have HRV := Lib.hid hr
  replace HRI := Lib.hid (HRI.out.keep hb)
  have HB3 := Lib.hid (HB2.out.trans (hb.mono HB2.out.size))
  clear hr hg hb k0 k1 k2
  obtain ⟨k0, k1, k2⟩ := KK.out _ HB3.out
  obtain ⟨w4, hM, hR4, hb4, hz4⟩ := make_longs w3 n (by omega)
  have HR4 := Lib.hid (show RowC w4 w3.heap.size 2 n (fun j => .int .i64 (GF n j)) from hR4.ext fun j hj => by rw [HG0.out j hj])
  have HB4 := Lib.hid hb4
  have hgil := HRI.out.lt
  have hgvl := HRV.out.lt
  clear hR4 hb4
  go_upto_region 9 with fail
  clear hM k0 k1 k2
  have HW3 := Lib.hid (HBA.out.trans (HB3.out.mono HBA.out.size))
  have hnG : nb < w3.heap.size := by have := HW3.out.size; omega
  have hwG : w.heap.size < w3.heap.size := by have h1 := HB3.out.size; have h2 := HLT.out; omega
  have KW := Lib.hid (show ∀ Z, Below w3.heap.size w3 Z → (Z.cell? ⟨w.heap.size, 0, none⟩ = some (.int .i64 sl) ∧ Z.cell? ⟨w.heap.size, 1, none⟩ = some (.int .i64 sh) ∧ Z.cell? ⟨w.heap.size, 2, none⟩ = some (.slice (some ⟨nb, off, none⟩) n cap)) ∧ Below w.heap.size w Z from fun Z h => ⟨KK.out Z (HB3.out.trans (h.mono HB3.out.size)), HW3.out.trans (h.mono HW3.out.size)⟩)
  go_wp2_with fail
  go_loopw [15] (fun iv wr => ∃ m : Nat, m ≤ n ∧ iv = .int .i64 ((m : Int) - 1) ∧ RowC wr w3.heap.size 2 n (fun j => .int .i64 (GF m j)) ∧ Below w3.heap.size w3 wr) (fun iv _ => (intOf iv + 1).toNat)
  case atStart => exact ⟨n, Nat.le_refl _, by go_num, HR4.out, HB4.out⟩
  case round =>
    obtain ⟨m, hm, rfl, hr, hB⟩ := hrel
    obtain ⟨W1, rfl⟩ : ∃ W1, W1 = wr := ⟨_, rfl⟩
    have HR := Lib.hid hr
    have HB := Lib.hid hB
    clear hr hB
    by_cases hm0 : m = 0
    rotate_left
    · obtain ⟨k, rfl⟩ : ∃ k, m = k + 1 := ⟨m - 1, by omega⟩
      have hkn : k < n := by omega
      have hki : (k : Int) < (n : Int) := by omega
      have hk0 : (0 : Int) ≤ (k : Int) := by omega
      rw [show (((k + 1 : Nat) : Int) - 1) = (k : Int) by omega]
      obtain ⟨⟨k0, k1, k2⟩, hbw⟩ := KW.out _ HB.out
      have HBw := Lib.hid hbw
      obtain ⟨n0, -, -, n4, n5⟩ := HC.out _ k hbw hkn
      have hgl := HR.out.lt
      have cA := Lib.hid (fun Z (h : Below W1.heap.size W1 Z) => cL.out k Z (HBw.out.trans (h.mono HBw.out.size)))
      have cP := Lib.hid (show ∀ Z, Calls Try.prog 51 #[.agg #[.int .i64 (nd ns k).ll, .int .i64 (nd ns k).lh], .int .u8 (atV ls k)] Z fun e Z' => e = .returned (.int .i64 (LT k)) ∧ Below Z.heap.size Z Z' from fun Z => by
        have q := HLD.out k hkn
        have t := HAT.out k
        rw [← HLT0.out k]
        exact pick_any _ _ _ q.2.2.1.2.1 q.2.2.1.1 (by have := q.2.2.1.2.2; omega) t.1.1 t.1.2 Z)
      have hgo := HGO.out k hkn
      have hgb := HGB.out (k + 1) k hkn
      have hfb := HFL.out k hkn
      have hlb := HLO.out k hkn
      have KS := Lib.hid (show ∀ Z, Below W1.heap.size W1 Z → (Z.cell? ⟨w.heap.size, 2, none⟩ = some (Value.slice (some ⟨nb, off, none⟩) n cap) ∧ Z.cell? ⟨nb, off + k * 8 + 4, none⟩ = some (Value.int .i64 (nd ns k).ll) ∧ Z.cell? ⟨nb, off + k * 8 + 5, none⟩ = some (Value.int .i64 (nd ns k).lh)) from fun Z h => by
        obtain ⟨⟨_, _, x2⟩, hz⟩ := KW.out _ (HB.out.trans (h.mono HB.out.size))
        obtain ⟨-, -, -, y4, y5⟩ := HC.out _ k hz hkn
        exact ⟨x2, y4, y5⟩)
      have KF := Lib.hid (show ∀ Z, Below W1.heap.size W1 Z → Z.cell? ⟨w3.heap.size, k, none⟩ = some (.int .i64 (GF (k + 1) k)) ∧ Z.frozen? ⟨w3.heap.size, k, none⟩ = false from fun Z h => ⟨(HR.out.keep h).cell hkn, (HR.out.keep h).froz k⟩)
      -- behind the first store
      have HNX := Lib.hid (show ∀ Z, Below W1.heap.size W1 Z → RowC (Z.setCell ⟨w3.heap.size, k, none⟩ (.int .i64 (GF (k + 1) k + LT k))) w3.heap.size 2 n (fun j => .int .i64 (if j = k then FT k else GF (k + 1) j)) ∧ Below w3.heap.size w3 (Z.setCell ⟨w3.heap.size, k, none⟩ (.int .i64 (GF (k + 1) k + LT k))) from fun Z h => by
        refine ⟨((HR.out.keep h).set k _).ext fun j hj => ?_, (HB.out.trans (h.mono HB.out.size)).setCell (p := ⟨w3.heap.size, k, none⟩) (by show w3.heap.size ≤ w3.heap.size; omega) _⟩
        by_cases e : j = k
        · simp [e, hgo]
        · simp [e])
      have hsum : IntKind.wrap .i64 (GF (k + 1) k + LT k) = GF (k + 1) k + LT k := by rw [IntKind.wrap_i64]; omega
      have hsum2 : wrap64 (GF (k + 1) k + LT k) = GF (k + 1) k + LT k := by unfold wrap64; omega
      clear hgo hgb hfb hlb
      generalize (nd ns k).ll = xll at *
      generalize (nd ns k).lh = xlh at *
      generalize hg0 : GF (k + 1) k = g0 at *
      generalize hl0 : LT k = l0 at *
      generalize hat : atV ls k = at0 at *
      clear hg0 hl0 hat
      go_upto_region 12 with fail
      clear k0 k1 n0
      refine wp_region_held_drew (S := fun w' => w'.cell? ⟨w.heap.size, 2, none⟩ = some (Value.slice (some ⟨nb, off, none⟩) n cap) ∧ w'.cell? ⟨nb, off + k * 8 + 4, none⟩ = some (Value.int .i64 xll) ∧ w'.cell? ⟨nb, off + k * 8 + 5, none⟩ = some (Value.int .i64 xlh)) (by kernel_rfl) ⟨by simpa [go_sem] using k2, by simpa [go_sem] using n4, by simpa [go_sem] using n5⟩ (fun hHeld => ?_)
      have HD0 := Lib.hid (show Below W1.heap.size W1 _ from (Below.refl W1.heap.size W1).drew)
      clear k2 n4 n5
      refine wpAnyH_take (i := 0) (oi := _) (v := Value.slice (some ⟨w3.heap.size, 0, none⟩) n n) rfl (by kernel_rfl) (by kernel_rfl) (by kernel_rfl) (fun _ _ _ h => h) (Or.inl ⟨by rfl, fun w' hSw => ?_⟩) hHeld ?_
      · obtain ⟨t0, t1, t2⟩ := hSw
        go_simp
        try simp [*]
        try (intro hh; exfalso; omega)
        try omega
      try simp only [Act.put, List.setIfInBounds_toArray, List.set_cons_zero, List.set_cons_succ, List.getElem_toArray, List.getElem_cons_succ, List.getElem_cons_zero]
      refine wpAnyH_take (i := 1) (oi := _) (v := Value.int .i64 (k : Int)) rfl (by kernel_rfl) (by kernel_rfl) (by kernel_rfl) (fun _ _ _ h => h) (Or.inl ⟨by rfl, fun w' hSw => ?_⟩) hHeld ?_
      · obtain ⟨t0, t1, t2⟩ := hSw
        go_simp
        try simp [*]
        try (intro hh; exfalso; omega)
        try omega
      try simp only [Act.put, List.setIfInBounds_toArray, List.set_cons_zero, List.set_cons_succ, List.getElem_toArray, List.getElem_cons_succ, List.getElem_cons_zero]
      refine wpAnyH_take (i := 2) (oi := _) (v := Value.slice (some ⟨w3.heap.size, 0, none⟩) n n) rfl (by kernel_rfl) (by kernel_rfl) (by kernel_rfl) (fun _ _ _ h => h) (Or.inl ⟨by rfl, fun w' hSw => ?_⟩) hHeld ?_
      · obtain ⟨t0, t1, t2⟩ := hSw
        go_simp
        try simp [*]
        try (intro hh; exfalso; omega)
        try omega
      try simp only [Act.put, List.setIfInBounds_toArray, List.set_cons_zero, List.set_cons_succ, List.getElem_toArray, List.getElem_cons_succ, List.getElem_cons_zero]
      refine wpAnyH_take (i := 3) (oi := _) (v := Value.int .i64 (k : Int)) rfl (by kernel_rfl) (by kernel_rfl) (by kernel_rfl) (fun _ _ _ h => h) (Or.inl ⟨by rfl, fun w' hSw => ?_⟩) hHeld ?_
      · obtain ⟨t0, t1, t2⟩ := hSw
        go_simp
        try simp [*]
        try (intro hh; exfalso; omega)
        try omega
      try simp only [Act.put, List.setIfInBounds_toArray, List.set_cons_zero, List.set_cons_succ, List.getElem_toArray, List.getElem_cons_succ, List.getElem_cons_zero]
      refine wpAnyH_take (i := 4) (oi := _) (v := Value.pointer (some ⟨w3.heap.size, k, none⟩)) rfl (by kernel_rfl) (by kernel_rfl) (by kernel_rfl) (fun _ _ _ h => h) (Or.inl ⟨by rfl, fun w' hSw => ?_⟩) hHeld ?_
      · obtain ⟨t0, t1, t2⟩ := hSw
        go_simp
        try simp [*]
        try (intro hh; exfalso; omega)
        try omega
      try simp only [Act.put, List.setIfInBounds_toArray, List.set_cons_zero, List.set_cons_succ, List.getElem_toArray, List.getElem_cons_succ, List.getElem_cons_zero]
      refine wpAnyH_take (i := 6) (oi := _) (v := Value.pointer (some ⟨w.heap.size, 2, none⟩)) rfl (by kernel_rfl) (by kernel_rfl) (by kernel_rfl) (fun _ _ _ h => h) (Or.inl ⟨by rfl, fun w' hSw => ?_⟩) hHeld ?_
      · obtain ⟨t0, t1, t2⟩ := hSw
        go_simp
        try simp [*]
        try (intro hh; exfalso; omega)
        try omega
      try simp only [Act.put, List.setIfInBounds_toArray, List.set_cons_zero, List.set_cons_succ, List.getElem_toArray, List.getElem_cons_succ, List.getElem_cons_zero]
      refine wpAnyH_take (i := 7) (oi := _) (v := Value.slice (some ⟨nb, off, none⟩) n cap) rfl (by kernel_rfl) (by kernel_rfl) (by kernel_rfl) (fun _ _ _ h => h) (Or.inl ⟨by rfl, fun w' hSw => ?_⟩) hHeld ?_
      · obtain ⟨t0, t1, t2⟩ := hSw
        go_simp
        try simp [*]
        try (intro hh; exfalso; omega)
        try omega
      try simp only [Act.put, List.setIfInBounds_toArray, List.set_cons_zero, List.set_cons_succ, List.getElem_toArray, List.getElem_cons_succ, List.getElem_cons_zero]
      refine wpAnyH_take (i := 8) (oi := _) (v := Value.int .i64 (k : Int)) rfl (by kernel_rfl) (by kernel_rfl) (by kernel_rfl) (fun _ _ _ h => h) (Or.inl ⟨by rfl, fun w' hSw => ?_⟩) hHeld ?_
      · obtain ⟨t0, t1, t2⟩ := hSw
        go_simp
        try simp [*]
        try (intro hh; exfalso; omega)
        try omega
      try simp only [Act.put, List.setIfInBounds_toArray, List.set_cons_zero, List.set_cons_succ, List.getElem_toArray, List.getElem_cons_succ, List.getElem_cons_zero]
      refine wpAnyH_take (i := 9) (oi := _) (v := Value.pointer (some ⟨nb, off + k * 8, none⟩)) rfl (by kernel_rfl) (by kernel_rfl) (by kernel_rfl) (fun _ _ _ h => h) (Or.inl ⟨by rfl, fun w' hSw => ?_⟩) hHeld ?_
      · obtain ⟨t0, t1, t2⟩ := hSw
        go_simp
        try simp [*]
        try (intro hh; exfalso; omega)
        try omega
      try simp only [Act.put, List.setIfInBounds_toArray, List.set_cons_zero, List.set_cons_succ, List.getElem_toArray, List.getElem_cons_succ, List.getElem_cons_zero]
      refine wpAnyH_take (i := 10) (oi := _) (v := Value.pointer (some ⟨nb, off + k * 8 + 4, none⟩)) rfl (by kernel_rfl) (by kernel_rfl) (by kernel_rfl) (fun _ _ _ h => h) (Or.inl ⟨by rfl, fun w' hSw => ?_⟩) hHeld ?_
      · obtain ⟨t0, t1, t2⟩ := hSw
        go_simp
        try simp [*]
        try (intro hh; exfalso; omega)
        try omega
      try simp only [Act.put, List.setIfInBounds_toArray, List.set_cons_zero, List.set_cons_succ, List.getElem_toArray, List.getElem_cons_succ, List.getElem_cons_zero]
      refine wpAnyH_take (i := 11) (oi := _) (v := Value.agg #[Value.int .i64 xll, Value.int .i64 xlh]) rfl (by kernel_rfl) (by kernel_rfl) (by kernel_rfl) (fun _ _ _ h => h) (Or.inl ⟨by rfl, fun w' hSw => ?_⟩) hHeld ?_
      · obtain ⟨t0, t1, t2⟩ := hSw
        go_simp
        try simp [*]
        try (intro hh; exfalso; omega)
        try omega
      try simp only [Act.put, List.setIfInBounds_toArray, List.set_cons_zero, List.set_cons_succ, List.getElem_toArray, List.getElem_cons_succ, List.getElem_cons_zero]
      refine wpAnyH_take (i := 12) (oi := _) (v := Value.slice la nl lc) rfl (by kernel_rfl) (by kernel_rfl) (by kernel_rfl) (fun _ _ _ h => h) (Or.inl ⟨by rfl, fun w' hSw => ?_⟩) hHeld ?_
      · obtain ⟨t0, t1, t2⟩ := hSw
        go_simp
        try simp [*]
        try (intro hh; exfalso; omega)
        try omega
      try simp only [Act.put, List.setIfInBounds_toArray, List.set_cons_zero, List.set_cons_succ, List.getElem_toArray, List.getElem_cons_succ, List.getElem_cons_zero]
      refine wpAnyH_take (i := 13) (oi := _) (v := Value.int .i64 (k : Int)) rfl (by kernel_rfl) (by kernel_rfl) (by kernel_rfl) (fun _ _ _ h => h) (Or.inl ⟨by rfl, fun w' hSw => ?_⟩) hHeld ?_
      · obtain ⟨t0, t1, t2⟩ := hSw
        go_simp
        try simp [*]
        try (intro hh; exfalso; omega)
        try omega
      try simp only [Act.put, List.setIfInBounds_toArray, List.set_cons_zero, List.set_cons_succ, List.getElem_toArray, List.getElem_cons_succ, List.getElem_cons_zero]
      refine wpAnyH_ready (rs := [5, 14]) (by kernel_rfl) (by simp) ?_
      refine AllReadyH.cons (o := _) rfl (fun K hK => ?_) (AllReadyH.cons (o := _) rfl (fun K hK => ?_) (AllReadyH.nil))
      · obtain ⟨f0, -⟩ := KF.out _ HD0.out
        go_simp
        clear f0
        clear hHeld
        refine hK.out _ _ (KS.out _ HD0.out) (fun hHeld => ?_)
        clear hK K
        try simp only [Act.put, List.setIfInBounds_toArray, List.set_cons_zero, List.set_cons_succ, List.getElem_toArray, List.getElem_cons_succ, List.getElem_cons_zero]
        refine wpAnyH_ready (rs := [14]) (by kernel_rfl) (by simp) ?_
        refine AllReadyH.cons (o := _) rfl (fun K hK => ?_) (AllReadyH.nil)
        go_simp
        go_at_call 52
        refine Calls.mono (cA.out _ HD0.out) ?_
        rintro e v14 ⟨rfl, rfl⟩
        clear hHeld
        refine hK.out _ _ (KS.out _ HD0.out) (fun hHeld => ?_)
        clear hK K
        try simp only [Act.put, List.setIfInBounds_toArray, List.set_cons_zero, List.set_cons_succ, List.getElem_toArray, List.getElem_cons_succ, List.getElem_cons_zero]
        refine wpAnyH_ready (rs := [15]) (by kernel_rfl) (by simp) ?_
        refine AllReadyH.cons (o := _) rfl (fun K hK => ?_) (AllReadyH.nil)
        go_simp
        go_at_call 51
        refine Calls.mono (cP.out _) ?_
        rintro e v15 ⟨rfl, hb⟩
        have HD1 := Lib.hid (HD0.out.trans (hb.mono HD0.out.size))
        clear hb
        clear hHeld
        refine hK.out _ _ (KS.out _ HD1.out) (fun hHeld => ?_)
        clear hK K
        try simp only [Act.put, List.setIfInBounds_toArray, List.set_cons_zero, List.set_cons_succ, List.getElem_toArray, List.getElem_cons_succ, List.getElem_cons_zero]
        refine wpAnyH_take (i := 16) (oi := _) (v := Value.int .i64 (g0 + l0)) rfl (by kernel_rfl) (by kernel_rfl) (by kernel_rfl) (fun _ _ _ h => h) (Or.inl ⟨by rfl, fun w' hSw => ?_⟩) hHeld ?_
        · obtain ⟨t0, t1, t2⟩ := hSw
          go_simp
          try simp [*]
          try (intro hh; exfalso; omega)
          try omega
        try simp only [Act.put, List.setIfInBounds_toArray, List.set_cons_zero, List.set_cons_succ, List.getElem_toArray, List.getElem_cons_succ, List.getElem_cons_zero]
        refine wpAnyH_take (i := 17) (oi := _) (v := Value.pointer (some ⟨w3.heap.size, k, none⟩)) rfl (by kernel_rfl) (by kernel_rfl) (by kernel_rfl) (fun _ _ _ h => h) (Or.inl ⟨by rfl, fun w' hSw => ?_⟩) hHeld ?_
        · obtain ⟨t0, t1, t2⟩ := hSw
          go_simp
          try simp [*]
          try (intro hh; exfalso; omega)
          try omega
        try simp only [Act.put, List.setIfInBounds_toArray, List.set_cons_zero, List.set_cons_succ, List.getElem_toArray, List.getElem_cons_succ, List.getElem_cons_zero]
        obtain ⟨f0, ff⟩ := KF.out _ HD1.out
        obtain ⟨s0, s1, s2⟩ := KS.out _ HD1.out
        have e1 : ¬ w.heap.size = w3.heap.size := by omega
        have e2 : ¬ nb = w3.heap.size := by omega
        refine wpAnyH_ready (rs := [18]) (by kernel_rfl) (by simp) ?_
        refine AllReadyH.cons (o := _) rfl (fun K hK => ?_) AllReadyH.nil
        go_simp
        clear hHeld
        refine hK.out _ _ ⟨by simp [go_sem, *], by simp [go_sem, *], by simp [go_sem, *]⟩ (fun hHeld => ?_)
        clear hK K
        try simp only [Act.put, List.setIfInBounds_toArray, List.set_cons_zero, List.set_cons_succ, List.getElem_toArray, List.getElem_cons_succ, List.getElem_cons_zero]
        refine wpAnyH_done (by kernel_rfl) ?_ _
        clear hHeld
        obtain ⟨hr2, hb2⟩ := HNX.out _ HD1.out
        generalize v15.setCell ⟨w3.heap.size, k, none⟩ (Value.int .i64 (g0 + l0)) = Z at *
        have HR2 := Lib.hid hr2
        have HBZ := Lib.hid hb2
        clear hr2 hb2 f0 ff s0 s1 s2
        by_cases h0 : k = 0
        · subst h0
          have HR0 := Lib.hid (show RowC Z w3.heap.size 2 n (fun j => .int .i64 (GF 0 j)) from HR2.out.ext fun j hj => by rw [HGZ.out])
          go_wp2_with fail
          go_roundw
          case rel => exact ⟨0, Nat.zero_le _, by go_num, HR0.out, HBZ.out⟩
          case measure => simp [intOf]
        · have hk1 : (0 : Int) < (k : Int) := by omega
          have hpt := HPT.out k (by omega)
          have hpe := HPE.out k hkn (by omega)
          have hgs := HGS.out k hkn (by omega)
          have hgb := HGB.out (k + 1) (par ns k) (by omega)
          have hfb := HFL.out k hkn
          have hfp := HFL.out (par ns k) (by omega)
          obtain ⟨⟨_, _, x2⟩, hbz⟩ := KW.out _ HBZ.out
          obtain ⟨n0, -⟩ := HC.out _ k hbz hkn
          have KT := Lib.hid (show ∀ Y, Below Z.heap.size Z Y → (Y.cell? ⟨w.heap.size, 2, none⟩ = some (Value.slice (some ⟨nb, off, none⟩) n cap) ∧ Y.cell? ⟨nb, off + k * 8, none⟩ = some (Value.int .i64 (nd ns k).par) ∧ Y.cell? ⟨w3.heap.size, k, none⟩ = some (.int .i64 (FT k))) from fun Y h => by
            obtain ⟨⟨_, _, x2⟩, hz⟩ := KW.out _ (HBZ.out.trans (h.mono HBZ.out.size))
            have q := (HR2.out.keep h).cell hkn
            rw [if_pos rfl] at q
            exact ⟨x2, (HC.out _ k hz hkn).1, q⟩)
          have fk := (KT.out _ (Below.refl _ _)).2.2
          have KG := Lib.hid (show ∀ Y, Below Z.heap.size Z Y → Y.cell? ⟨w3.heap.size, par ns k, none⟩ = some (.int .i64 (GF (k + 1) (par ns k))) ∧ Y.frozen? ⟨w3.heap.size, par ns k, none⟩ = false from fun Y h => by
            have q := (HR2.out.keep h).cell (j := par ns k) (by omega)
            rw [if_neg (by omega)] at q
            exact ⟨q, (HR2.out.keep h).froz _⟩)
          have HN5 := Lib.hid (show ∀ Y, Below Z.heap.size Z Y → RowC (Y.setCell ⟨w3.heap.size, par ns k, none⟩ (.int .i64 (GF (k + 1) (par ns k) + FT k))) w3.heap.size 2 n (fun j => .int .i64 (GF k j)) ∧ Below w3.heap.size w3 (Y.setCell ⟨w3.heap.size, par ns k, none⟩ (.int .i64 (GF (k + 1) (par ns k) + FT k))) from fun Y h => by
            refine ⟨((HR2.out.keep h).set (par ns k) _).ext fun j hj => ?_, (HBZ.out.trans (h.mono HBZ.out.size)).setCell (p := ⟨w3.heap.size, par ns k, none⟩) (by show w3.heap.size ≤ w3.heap.size; omega) _⟩
            rw [hgs j]
            by_cases e : j = par ns k
            · simp [e]
            · simp [e])
          have hsm : IntKind.wrap .i64 (GF (k + 1) (par ns k) + FT k) = GF (k + 1) (par ns k) + FT k := by rw [IntKind.wrap_i64]; omega
          have hsm2 : wrap64 (GF (k + 1) (par ns k) + FT k) = GF (k + 1) (par ns k) + FT k := by unfold wrap64; omega
          rw [hpe] at n0 KT
          clear hgb hfb hfp hgs hbz hpe HR2
          generalize GF (k + 1) (par ns k) = g1 at *
          generalize FT k = f1 at *
          generalize par ns k = p at *
          have hpn : (p : Int) < (n : Int) := by omega
          go_upto_region 14 with fail
          refine wp_region_held_drew (S := fun w' => w'.cell? ⟨w.heap.size, 2, none⟩ = some (Value.slice (some ⟨nb, off, none⟩) n cap) ∧ w'.cell? ⟨nb, off + k * 8, none⟩ = some (Value.int .i64 (p : Int)) ∧ w'.cell? ⟨w3.heap.size, k, none⟩ = some (Value.int .i64 f1)) (by kernel_rfl) ⟨by simpa [go_sem] using x2, by simpa [go_sem] using n0, by simpa [go_sem] using fk⟩ (fun hHeld => ?_)
          have HE0 := Lib.hid (show Below Z.heap.size Z _ from (Below.refl Z.heap.size Z).drew)
          clear x2 n0 fk
          refine wpAnyH_take (i := 0) (oi := _) (v := Value.slice (some ⟨w3.heap.size, 0, none⟩) n n) rfl (by kernel_rfl) (by kernel_rfl) (by kernel_rfl) (fun _ _ _ h => h) (Or.inl ⟨by rfl, fun w' hSw => ?_⟩) hHeld ?_
          · obtain ⟨t0, t1, t2⟩ := hSw
            go_simp
            try simp [*]
            try (intro hh; exfalso; omega)
            try omega
          try simp only [Act.put, List.setIfInBounds_toArray, List.set_cons_zero, List.set_cons_succ, List.getElem_toArray, List.getElem_cons_succ, List.getElem_cons_zero]
          refine wpAnyH_take (i := 1) (oi := _) (v := Value.pointer (some ⟨w.heap.size, 2, none⟩)) rfl (by kernel_rfl) (by kernel_rfl) (by kernel_rfl) (fun _ _ _ h => h) (Or.inl ⟨by rfl, fun w' hSw => ?_⟩) hHeld ?_
          · obtain ⟨t0, t1, t2⟩ := hSw
            go_simp
            try simp [*]
            try (intro hh; exfalso; omega)
            try omega
          try simp only [Act.put, List.setIfInBounds_toArray, List.set_cons_zero, List.set_cons_succ, List.getElem_toArray, List.getElem_cons_succ, List.getElem_cons_zero]
          refine wpAnyH_take (i := 2) (oi := _) (v := Value.slice (some ⟨nb, off, none⟩) n cap) rfl (by kernel_rfl) (by kernel_rfl) (by kernel_rfl) (fun _ _ _ h => h) (Or.inl ⟨by rfl, fun w' hSw => ?_⟩) hHeld ?_
          · obtain ⟨t0, t1, t2⟩ := hSw
            go_simp
            try simp [*]
            try (intro hh; exfalso; omega)
            try omega
          try simp only [Act.put, List.setIfInBounds_toArray, List.set_cons_zero, List.set_cons_succ, List.getElem_toArray, List.getElem_cons_succ, List.getElem_cons_zero]
          refine wpAnyH_take (i := 3) (oi := _) (v := Value.int .i64 (k : Int)) rfl (by kernel_rfl) (by kernel_rfl) (by kernel_rfl) (fun _ _ _ h => h) (Or.inl ⟨by rfl, fun w' hSw => ?_⟩) hHeld ?_
          · obtain ⟨t0, t1, t2⟩ := hSw
            go_simp
            try simp [*]
            try (intro hh; exfalso; omega)
            try omega
          try simp only [Act.put, List.setIfInBounds_toArray, List.set_cons_zero, List.set_cons_succ, List.getElem_toArray, List.getElem_cons_succ, List.getElem_cons_zero]
          refine wpAnyH_take (i := 4) (oi := _) (v := Value.pointer (some ⟨nb, off + k * 8, none⟩)) rfl (by kernel_rfl) (by kernel_rfl) (by kernel_rfl) (fun _ _ _ h => h) (Or.inl ⟨by rfl, fun w' hSw => ?_⟩) hHeld ?_
          · obtain ⟨t0, t1, t2⟩ := hSw
            go_simp
            try simp [*]
            try (intro hh; exfalso; omega)
            try omega
          try simp only [Act.put, List.setIfInBounds_toArray, List.set_cons_zero, List.set_cons_succ, List.getElem_toArray, List.getElem_cons_succ, List.getElem_cons_zero]
          refine wpAnyH_take (i := 5) (oi := _) (v := Value.pointer (some ⟨nb, off + k * 8, none⟩)) rfl (by kernel_rfl) (by kernel_rfl) (by kernel_rfl) (fun _ _ _ h => h) (Or.inl ⟨by rfl, fun w' hSw => ?_⟩) hHeld ?_
          · obtain ⟨t0, t1, t2⟩ := hSw
            go_simp
            try simp [*]
            try (intro hh; exfalso; omega)
            try omega
          try simp only [Act.put, List.setIfInBounds_toArray, List.set_cons_zero, List.set_cons_succ, List.getElem_toArray, List.getElem_cons_succ, List.getElem_cons_zero]
          refine wpAnyH_take (i := 6) (oi := _) (v := Value.int .i64 (p : Int)) rfl (by kernel_rfl) (by kernel_rfl) (by kernel_rfl) (fun _ _ _ h => h) (Or.inl ⟨by rfl, fun w' hSw => ?_⟩) hHeld ?_
          · obtain ⟨t0, t1, t2⟩ := hSw
            go_simp
            try simp [*]
            try (intro hh; exfalso; omega)
            try omega
          try simp only [Act.put, List.setIfInBounds_toArray, List.set_cons_zero, List.set_cons_succ, List.getElem_toArray, List.getElem_cons_succ, List.getElem_cons_zero]
          refine wpAnyH_take (i := 7) (oi := _) (v := Value.slice (some ⟨w3.heap.size, 0, none⟩) n n) rfl (by kernel_rfl) (by kernel_rfl) (by kernel_rfl) (fun _ _ _ h => h) (Or.inl ⟨by rfl, fun w' hSw => ?_⟩) hHeld ?_
          · obtain ⟨t0, t1, t2⟩ := hSw
            go_simp
            try simp [*]
            try (intro hh; exfalso; omega)
            try omega
          try simp only [Act.put, List.setIfInBounds_toArray, List.set_cons_zero, List.set_cons_succ, List.getElem_toArray, List.getElem_cons_succ, List.getElem_cons_zero]
          refine wpAnyH_take (i := 8) (oi := _) (v := Value.pointer (some ⟨w.heap.size, 2, none⟩)) rfl (by kernel_rfl) (by kernel_rfl) (by kernel_rfl) (fun _ _ _ h => h) (Or.inl ⟨by rfl, fun w' hSw => ?_⟩) hHeld ?_
          · obtain ⟨t0, t1, t2⟩ := hSw
            go_simp
            try simp [*]
            try (intro hh; exfalso; omega)
            try omega
          try simp only [Act.put, List.setIfInBounds_toArray, List.set_cons_zero, List.set_cons_succ, List.getElem_toArray, List.getElem_cons_succ, List.getElem_cons_zero]
          refine wpAnyH_take (i := 9) (oi := _) (v := Value.slice (some ⟨nb, off, none⟩) n cap) rfl (by kernel_rfl) (by kernel_rfl) (by kernel_rfl) (fun _ _ _ h => h) (Or.inl ⟨by rfl, fun w' hSw => ?_⟩) hHeld ?_
          · obtain ⟨t0, t1, t2⟩ := hSw
            go_simp
            try simp [*]
            try (intro hh; exfalso; omega)
            try omega
          try simp only [Act.put, List.setIfInBounds_toArray, List.set_cons_zero, List.set_cons_succ, List.getElem_toArray, List.getElem_cons_succ, List.getElem_cons_zero]
          refine wpAnyH_take (i := 10) (oi := _) (v := Value.int .i64 (k : Int)) rfl (by kernel_rfl) (by kernel_rfl) (by kernel_rfl) (fun _ _ _ h => h) (Or.inl ⟨by rfl, fun w' hSw => ?_⟩) hHeld ?_
          · obtain ⟨t0, t1, t2⟩ := hSw
            go_simp
            try simp [*]
            try (intro hh; exfalso; omega)
            try omega
          try simp only [Act.put, List.setIfInBounds_toArray, List.set_cons_zero, List.set_cons_succ, List.getElem_toArray, List.getElem_cons_succ, List.getElem_cons_zero]
          refine wpAnyH_take (i := 11) (oi := _) (v := Value.pointer (some ⟨nb, off + k * 8, none⟩)) rfl (by kernel_rfl) (by kernel_rfl) (by kernel_rfl) (fun _ _ _ h => h) (Or.inl ⟨by rfl, fun w' hSw => ?_⟩) hHeld ?_
          · obtain ⟨t0, t1, t2⟩ := hSw
            go_simp
            try simp [*]
            try (intro hh; exfalso; omega)
            try omega
          try simp only [Act.put, List.setIfInBounds_toArray, List.set_cons_zero, List.set_cons_succ, List.getElem_toArray, List.getElem_cons_succ, List.getElem_cons_zero]
          refine wpAnyH_take (i := 12) (oi := _) (v := Value.pointer (some ⟨nb, off + k * 8, none⟩)) rfl (by kernel_rfl) (by kernel_rfl) (by kernel_rfl) (fun _ _ _ h => h) (Or.inl ⟨by rfl, fun w' hSw => ?_⟩) hHeld ?_
          · obtain ⟨t0, t1, t2⟩ := hSw
            go_simp
            try simp [*]
            try (intro hh; exfalso; omega)
            try omega
          try simp only [Act.put, List.setIfInBounds_toArray, List.set_cons_zero, List.set_cons_succ, List.getElem_toArray, List.getElem_cons_succ, List.getElem_cons_zero]
          refine wpAnyH_take (i := 13) (oi := _) (v := Value.int .i64 (p : Int)) rfl (by kernel_rfl) (by kernel_rfl) (by kernel_rfl) (fun _ _ _ h => h) (Or.inl ⟨by rfl, fun w' hSw => ?_⟩) hHeld ?_
          · obtain ⟨t0, t1, t2⟩ := hSw
            go_simp
            try simp [*]
            try (intro hh; exfalso; omega)
            try omega
          try simp only [Act.put, List.setIfInBounds_toArray, List.set_cons_zero, List.set_cons_succ, List.getElem_toArray, List.getElem_cons_succ, List.getElem_cons_zero]
          refine wpAnyH_take (i := 14) (oi := _) (v := Value.pointer (some ⟨w3.heap.size, p, none⟩)) rfl (by kernel_rfl) (by kernel_rfl) (by kernel_rfl) (fun _ _ _ h => h) (Or.inl ⟨by rfl, fun w' hSw => ?_⟩) hHeld ?_
          · obtain ⟨t0, t1, t2⟩ := hSw
            go_simp
            try simp [*]
            try (intro hh; exfalso; omega)
            try omega
          try simp only [Act.put, List.setIfInBounds_toArray, List.set_cons_zero, List.set_cons_succ, List.getElem_toArray, List.getElem_cons_succ, List.getElem_cons_zero]
          refine wpAnyH_take (i := 16) (oi := _) (v := Value.slice (some ⟨w3.heap.size, 0, none⟩) n n) rfl (by kernel_rfl) (by kernel_rfl) (by kernel_rfl) (fun _ _ _ h => h) (Or.inl ⟨by rfl, fun w' hSw => ?_⟩) hHeld ?_
          · obtain ⟨t0, t1, t2⟩ := hSw
            go_simp
            try simp [*]
            try (intro hh; exfalso; omega)
            try omega
          try simp only [Act.put, List.setIfInBounds_toArray, List.set_cons_zero, List.set_cons_succ, List.getElem_toArray, List.getElem_cons_succ, List.getElem_cons_zero]
          refine wpAnyH_take (i := 17) (oi := _) (v := Value.int .i64 (k : Int)) rfl (by kernel_rfl) (by kernel_rfl) (by kernel_rfl) (fun _ _ _ h => h) (Or.inl ⟨by rfl, fun w' hSw => ?_⟩) hHeld ?_
          · obtain ⟨t0, t1, t2⟩ := hSw
            go_simp
            try simp [*]
            try (intro hh; exfalso; omega)
            try omega
          try simp only [Act.put, List.setIfInBounds_toArray, List.set_cons_zero, List.set_cons_succ, List.getElem_toArray, List.getElem_cons_succ, List.getElem_cons_zero]
          refine wpAnyH_take (i := 18) (oi := _) (v := Value.pointer (some ⟨w3.heap.size, k, none⟩)) rfl (by kernel_rfl) (by kernel_rfl) (by kernel_rfl) (fun _ _ _ h => h) (Or.inl ⟨by rfl, fun w' hSw => ?_⟩) hHeld ?_
          · obtain ⟨t0, t1, t2⟩ := hSw
            go_simp
            try simp [*]
            try (intro hh; exfalso; omega)
            try omega
          try simp only [Act.put, List.setIfInBounds_toArray, List.set_cons_zero, List.set_cons_succ, List.getElem_toArray, List.getElem_cons_succ, List.getElem_cons_zero]
          refine wpAnyH_take (i := 19) (oi := _) (v := Value.int .i64 f1) rfl (by kernel_rfl) (by kernel_rfl) (by kernel_rfl) (fun _ _ _ h => h) (Or.inl ⟨by rfl, fun w' hSw => ?_⟩) hHeld ?_
          · obtain ⟨t0, t1, t2⟩ := hSw
            go_simp
            try simp [*]
            try (intro hh; exfalso; omega)
            try omega
          try simp only [Act.put, List.setIfInBounds_toArray, List.set_cons_zero, List.set_cons_succ, List.getElem_toArray, List.getElem_cons_succ, List.getElem_cons_zero]
          refine wpAnyH_ready (rs := [15]) (by kernel_rfl) (by simp) ?_
          refine AllReadyH.cons (o := _) rfl (fun K hK => ?_) AllReadyH.nil
          have fp := (KG.out _ HE0.out).1
          go_simp
          clear fp
          clear hHeld
          refine hK.out _ _ (KT.out _ HE0.out) (fun hHeld => ?_)
          clear hK K
          try simp only [Act.put, List.setIfInBounds_toArray, List.set_cons_zero, List.set_cons_succ, List.getElem_toArray, List.getElem_cons_succ, List.getElem_cons_zero]
          refine wpAnyH_take (i := 20) (oi := _) (v := Value.int .i64 (g1 + f1)) rfl (by kernel_rfl) (by kernel_rfl) (by kernel_rfl) (fun _ _ _ h => h) (Or.inl ⟨by rfl, fun w' hSw => ?_⟩) hHeld ?_
          · obtain ⟨t0, t1, t2⟩ := hSw
            go_simp
            try simp [*]
            try (intro hh; exfalso; omega)
            try omega
          try simp only [Act.put, List.setIfInBounds_toArray, List.set_cons_zero, List.set_cons_succ, List.getElem_toArray, List.getElem_cons_succ, List.getElem_cons_zero]
          refine wpAnyH_take (i := 21) (oi := _) (v := Value.pointer (some ⟨w3.heap.size, p, none⟩)) rfl (by kernel_rfl) (by kernel_rfl) (by kernel_rfl) (fun _ _ _ h => h) (Or.inl ⟨by rfl, fun w' hSw => ?_⟩) hHeld ?_
          · obtain ⟨t0, t1, t2⟩ := hSw
            go_simp
            try simp [*]
            try (intro hh; exfalso; omega)
            try omega
          try simp only [Act.put, List.setIfInBounds_toArray, List.set_cons_zero, List.set_cons_succ, List.getElem_toArray, List.getElem_cons_succ, List.getElem_cons_zero]
          obtain ⟨fp, ff⟩ := KG.out _ (Below.refl _ _)
          obtain ⟨s0, s1, s2⟩ := KT.out _ (Below.refl _ _)
          have e1 : ¬ w.heap.size = w3.heap.size := by omega
          have e2 : ¬ nb = w3.heap.size := by omega
          have e3 : ¬ k = p := by omega
          refine wpAnyH_ready (rs := [22]) (by kernel_rfl) (by simp) ?_
          refine AllReadyH.cons (o := _) rfl (fun K hK => ?_) AllReadyH.nil
          go_simp
          clear hHeld
          refine hK.out _ _ ⟨by simp [go_sem, *], by simp [go_sem, *], by simp [go_sem, *]⟩ (fun hHeld => ?_)
          clear hK K
          try simp only [Act.put, List.setIfInBounds_toArray, List.set_cons_zero, List.set_cons_succ, List.getElem_toArray, List.getElem_cons_succ, List.getElem_cons_zero]
          refine wpAnyH_done (by kernel_rfl) ?_ _
          clear hHeld
          obtain ⟨hr5, hb5⟩ := HN5.out _ HE0.out
          have HR5 := Lib.hid hr5
          have HB5 := Lib.hid hb5
          clear hr5 hb5 fp ff s0 s1 s2
          go_wp2_with fail
          go_roundw
          case rel => exact ⟨k, by omega, by go_num, HR5.out, HB5.out⟩
          case measure => first | (simp [intOf]; done) | (simp [intOf]; omega)
      · go_simp
        go_at_call 52
        refine Calls.mono (cA.out _ HD0.out) ?_
        rintro e v14 ⟨rfl, rfl⟩
        clear hHeld
        refine hK.out _ _ (KS.out _ HD0.out) (fun hHeld => ?_)
        clear hK K
        try simp only [Act.put, List.setIfInBounds_toArray, List.set_cons_zero, List.set_cons_succ, List.getElem_toArray, List.getElem_cons_succ, List.getElem_cons_zero]
        refine wpAnyH_ready (rs := [5, 15]) (by kernel_rfl) (by simp) ?_
        refine AllReadyH.cons (o := _) rfl (fun K hK => ?_) (AllReadyH.cons (o := _) rfl (fun K hK => ?_) (AllReadyH.nil))
        · obtain ⟨f0, -⟩ := KF.out _ HD0.out
          go_simp
          clear f0
          clear hHeld
          refine hK.out _ _ (KS.out _ HD0.out) (fun hHeld => ?_)
          clear hK K
          try simp only [Act.put, List.setIfInBounds_toArray, List.set_cons_zero, List.set_cons_succ, List.getElem_toArray, List.getElem_cons_succ, List.getElem_cons_zero]
          refine wpAnyH_ready (rs := [15]) (by kernel_rfl) (by simp) ?_
          refine AllReadyH.cons (o := _) rfl (fun K hK => ?_) (AllReadyH.nil)
          go_simp
          go_at_call 51
          refine Calls.mono (cP.out _) ?_
          rintro e v15 ⟨rfl, hb⟩
          have HD1 := Lib.hid (HD0.out.trans (hb.mono HD0.out.size))
          clear hb
          clear hHeld
          refine hK.out _ _ (KS.out _ HD1.out) (fun hHeld => ?_)
          clear hK K
          try simp only [Act.put, List.setIfInBounds_toArray, List.set_cons_zero, List.set_cons_succ, List.getElem_toArray, List.getElem_cons_succ, List.getElem_cons_zero]
          refine wpAnyH_take (i := 16) (oi := _) (v := Value.int .i64 (g0 + l0)) rfl (by kernel_rfl) (by kernel_rfl) (by kernel_rfl) (fun _ _ _ h => h) (Or.inl ⟨by rfl, fun w' hSw => ?_⟩) hHeld ?_
          · obtain ⟨t0, t1, t2⟩ := hSw
            go_simp
            try simp [*]
            try (intro hh; exfalso; omega)
            try omega
          try simp only [Act.put, List.setIfInBounds_toArray, List.set_cons_zero, List.set_cons_succ, List.getElem_toArray, List.getElem_cons_succ, List.getElem_cons_zero]
          refine wpAnyH_take (i := 17) (oi := _) (v := Value.pointer (some ⟨w3.heap.size, k, none⟩)) rfl (by kernel_rfl) (by kernel_rfl) (by kernel_rfl) (fun _ _ _ h => h) (Or.inl ⟨by rfl, fun w' hSw => ?_⟩) hHeld ?_
          · obtain ⟨t0, t1, t2⟩ := hSw
            go_simp
            try simp [*]
            try (intro hh; exfalso; omega)
            try omega
          try simp only [Act.put, List.setIfInBounds_toArray, List.set_cons_zero, List.set_cons_succ, List.getElem_toArray, List.getElem_cons_succ, List.getElem_cons_zero]
          obtain ⟨f0, ff⟩ := KF.out _ HD1.out
          obtain ⟨s0, s1, s2⟩ := KS.out _ HD1.out
          have e1 : ¬ w.heap.size = w3.heap.size := by omega
          have e2 : ¬ nb = w3.heap.size := by omega
          refine wpAnyH_ready (rs := [18]) (by kernel_rfl) (by simp) ?_
          refine AllReadyH.cons (o := _) rfl (fun K hK => ?_) AllReadyH.nil
          go_simp
          clear hHeld
          refine hK.out _ _ ⟨by simp [go_sem, *], by simp [go_sem, *], by simp [go_sem, *]⟩ (fun hHeld => ?_)
          clear hK K
          try simp only [Act.put, List.setIfInBounds_toArray, List.set_cons_zero, List.set_cons_succ, List.getElem_toArray, List.getElem_cons_succ, List.getElem_cons_zero]
          refine wpAnyH_done (by kernel_rfl) ?_ _
          clear hHeld
          obtain ⟨hr2, hb2⟩ := HNX.out _ HD1.out
          generalize v15.setCell ⟨w3.heap.size, k, none⟩ (Value.int .i64 (g0 + l0)) = Z at *
          have HR2 := Lib.hid hr2
          have HBZ := Lib.hid hb2
          clear hr2 hb2 f0 ff s0 s1 s2
          by_cases h0 : k = 0
          · subst h0
            have HR0 := Lib.hid (show RowC Z w3.heap.size 2 n (fun j => .int .i64 (GF 0 j)) from HR2.out.ext fun j hj => by rw [HGZ.out])
            go_wp2_with fail
            go_roundw
            case rel => exact ⟨0, Nat.zero_le _, by go_num, HR0.out, HBZ.out⟩
            case measure => simp [intOf]
          · have hk1 : (0 : Int) < (k : Int) := by omega
            have hpt := HPT.out k (by omega)
            have hpe := HPE.out k hkn (by omega)
            have hgs := HGS.out k hkn (by omega)
            have hgb := HGB.out (k + 1) (par ns k) (by omega)
            have hfb := HFL.out k hkn
            have hfp := HFL.out (par ns k) (by omega)
            obtain ⟨⟨_, _, x2⟩, hbz⟩ := KW.out _ HBZ.out
            obtain ⟨n0, -⟩ := HC.out _ k hbz hkn
            have KT := Lib.hid (show ∀ Y, Below Z.heap.size Z Y → (Y.cell? ⟨w.heap.size, 2, none⟩ = some (Value.slice (some ⟨nb, off, none⟩) n cap) ∧ Y.cell? ⟨nb, off + k * 8, none⟩ = some (Value.int .i64 (nd ns k).par) ∧ Y.cell? ⟨w3.heap.size, k, none⟩ = some (.int .i64 (FT k))) from fun Y h => by
              obtain ⟨⟨_, _, x2⟩, hz⟩ := KW.out _ (HBZ.out.trans (h.mono HBZ.out.size))
              have q := (HR2.out.keep h).cell hkn
              rw [if_pos rfl] at q
              exact ⟨x2, (HC.out _ k hz hkn).1, q⟩)
            have fk := (KT.out _ (Below.refl _ _)).2.2
            have KG := Lib.hid (show ∀ Y, Below Z.heap.size Z Y → Y.cell? ⟨w3.heap.size, par ns k, none⟩ = some (.int .i64 (GF (k + 1) (par ns k))) ∧ Y.frozen? ⟨w3.heap.size, par ns k, none⟩ = false from fun Y h => by
              have q := (HR2.out.keep h).cell (j := par ns k) (by omega)
              rw [if_neg (by omega)] at q
              exact ⟨q, (HR2.out.keep h).froz _⟩)
            have HN5 := Lib.hid (show ∀ Y, Below Z.heap.size Z Y → RowC (Y.setCell ⟨w3.heap.size, par ns k, none⟩ (.int .i64 (GF (k + 1) (par ns k) + FT k))) w3.heap.size 2 n (fun j => .int .i64 (GF k j)) ∧ Below w3.heap.size w3 (Y.setCell ⟨w3.heap.size, par ns k, none⟩ (.int .i64 (GF (k + 1) (par ns k) + FT k))) from fun Y h => by
              refine ⟨((HR2.out.keep h).set (par ns k) _).ext fun j hj => ?_, (HBZ.out.trans (h.mono HBZ.out.size)).setCell (p := ⟨w3.heap.size, par ns k, none⟩) (by show w3.heap.size ≤ w3.heap.size; omega) _⟩
              rw [hgs j]
              by_cases e : j = par ns k
              · simp [e]
              · simp [e])
            have hsm : IntKind.wrap .i64 (GF (k + 1) (par ns k) + FT k) = GF (k + 1) (par ns k) + FT k := by rw [IntKind.wrap_i64]; omega
            have hsm2 : wrap64 (GF (k + 1) (par ns k) + FT k) = GF (k + 1) (par ns k) + FT k := by unfold wrap64; omega
            rw [hpe] at n0 KT
            clear hgb hfb hfp hgs hbz hpe HR2
            generalize GF (k + 1) (par ns k) = g1 at *
            generalize FT k = f1 at *
            generalize par ns k = p at *
            have hpn : (p : Int) < (n : Int) := by omega
            go_upto_region 14 with fail
            refine wp_region_held_drew (S := fun w' => w'.cell? ⟨w.heap.size, 2, none⟩ = some (Value.slice (some ⟨nb, off, none⟩) n cap) ∧ w'.cell? ⟨nb, off + k * 8, none⟩ = some (Value.int .i64 (p : Int)) ∧ w'.cell? ⟨w3.heap.size, k, none⟩ = some (Value.int .i64 f1)) (by kernel_rfl) ⟨by simpa [go_sem] using x2, by simpa [go_sem] using n0, by simpa [go_sem] using fk⟩ (fun hHeld => ?_)
            have HE0 := Lib.hid (show Below Z.heap.size Z _ from (Below.refl Z.heap.size Z).drew)
            clear x2 n0 fk
            refine wpAnyH_take (i := 0) (oi := _) (v := Value.slice (some ⟨w3.heap.size, 0, none⟩) n n) rfl (by kernel_rfl) (by kernel_rfl) (by kernel_rfl) (fun _ _ _ h => h) (Or.inl ⟨by rfl, fun w' hSw => ?_⟩) hHeld ?_
            · obtain ⟨t0, t1, t2⟩ := hSw
              go_simp
              try simp [*]
              try (intro hh; exfalso; omega)
              try omega
            try simp only [Act.put, List.setIfInBounds_toArray, List.set_cons_zero, List.set_cons_succ, List.getElem_toArray, List.getElem_cons_succ, List.getElem_cons_zero]
            refine wpAnyH_take (i := 1) (oi := _) (v := Value.pointer (some ⟨w.heap.size, 2, none⟩)) rfl (by kernel_rfl) (by kernel_rfl) (by kernel_rfl) (fun _ _ _ h => h) (Or.inl ⟨by rfl, fun w' hSw => ?_⟩) hHeld ?_
            · obtain ⟨t0, t1, t2⟩ := hSw
              go_simp
              try simp [*]
              try (intro hh; exfalso; omega)
              try omega
            try simp only [Act.put, List.setIfInBounds_toArray, List.set_cons_zero, List.set_cons_succ, List.getElem_toArray, List.getElem_cons_succ, List.getElem_cons_zero]
            refine wpAnyH_take (i := 2) (oi := _) (v := Value.slice (some ⟨nb, off, none⟩) n cap) rfl (by kernel_rfl) (by kernel_rfl) (by kernel_rfl) (fun _ _ _ h => h) (Or.inl ⟨by rfl, fun w' hSw => ?_⟩) hHeld ?_
            · obtain ⟨t0, t1, t2⟩ := hSw
              go_simp
              try simp [*]
              try (intro hh; exfalso; omega)
              try omega
            try simp only [Act.put, List.setIfInBounds_toArray, List.set_cons_zero, List.set_cons_succ, List.getElem_toArray, List.getElem_cons_succ, List.getElem_cons_zero]
            refine wpAnyH_take (i := 3) (oi := _) (v := Value.int .i64 (k : Int)) rfl (by kernel_rfl) (by kernel_rfl) (by kernel_rfl) (fun _ _ _ h => h) (Or.inl ⟨by rfl, fun w' hSw => ?_⟩) hHeld ?_
            · obtain ⟨t0, t1, t2⟩ := hSw
              go_simp
              try simp [*]
              try (intro hh; exfalso; omega)
              try omega
            try simp only [Act.put, List.setIfInBounds_toArray, List.set_cons_zero, List.set_cons_succ, List.getElem_toArray, List.getElem_cons_succ, List.getElem_cons_zero]
            refine wpAnyH_take (i := 4) (oi := _) (v := Value.pointer (some ⟨nb, off + k * 8, none⟩)) rfl (by kernel_rfl) (by kernel_rfl) (by kernel_rfl) (fun _ _ _ h => h) (Or.inl ⟨by rfl, fun w' hSw => ?_⟩) hHeld ?_
            · obtain ⟨t0, t1, t2⟩ := hSw
              go_simp
              try simp [*]
              try (intro hh; exfalso; omega)
              try omega
            try simp only [Act.put, List.setIfInBounds_toArray, List.set_cons_zero, List.set_cons_succ, List.getElem_toArray, List.getElem_cons_succ, List.getElem_cons_zero]
            refine wpAnyH_take (i := 5) (oi := _) (v := Value.pointer (some ⟨nb, off + k * 8, none⟩)) rfl (by kernel_rfl) (by kernel_rfl) (by kernel_rfl) (fun _ _ _ h => h) (Or.inl ⟨by rfl, fun w' hSw => ?_⟩) hHeld ?_
            · obtain ⟨t0, t1, t2⟩ := hSw
              go_simp
              try simp [*]
              try (intro hh; exfalso; omega)
              try omega
            try simp only [Act.put, List.setIfInBounds_toArray, List.set_cons_zero, List.set_cons_succ, List.getElem_toArray, List.getElem_cons_succ, List.getElem_cons_zero]
            refine wpAnyH_take (i := 6) (oi := _) (v := Value.int .i64 (p : Int)) rfl (by kernel_rfl) (by kernel_rfl) (by kernel_rfl) (fun _ _ _ h => h) (Or.inl ⟨by rfl, fun w' hSw => ?_⟩) hHeld ?_
            · obtain ⟨t0, t1, t2⟩ := hSw
              go_simp
              try simp [*]
              try (intro hh; exfalso; omega)
              try omega
            try simp only [Act.put, List.setIfInBounds_toArray, List.set_cons_zero, List.set_cons_succ, List.getElem_toArray, List.getElem_cons_succ, List.getElem_cons_zero]
            refine wpAnyH_take (i := 7) (oi := _) (v := Value.slice (some ⟨w3.heap.size, 0, none⟩) n n) rfl (by kernel_rfl) (by kernel_rfl) (by kernel_rfl) (fun _ _ _ h => h) (Or.inl ⟨by rfl, fun w' hSw => ?_⟩) hHeld ?_
            · obtain ⟨t0, t1, t2⟩ := hSw
              go_simp
              try simp [*]
              try (intro hh; exfalso; omega)
              try omega
            try simp only [Act.put, List.setIfInBounds_toArray, List.set_cons_zero, List.set_cons_succ, List.getElem_toArray, List.getElem_cons_succ, List.getElem_cons_zero]
            refine wpAnyH_take (i := 8) (oi := _) (v := Value.pointer (some ⟨w.heap.size, 2, none⟩)) rfl (by kernel_rfl) (by kernel_rfl) (by kernel_rfl) (fun _ _ _ h => h) (Or.inl ⟨by rfl, fun w' hSw => ?_⟩) hHeld ?_
            · obtain ⟨t0, t1, t2⟩ := hSw
              go_simp
              try simp [*]
              try (intro hh; exfalso; omega)
              try omega
            try simp only [Act.put, List.setIfInBounds_toArray, List.set_cons_zero, List.set_cons_succ, List.getElem_toArray, List.getElem_cons_succ, List.getElem_cons_zero]
            refine wpAnyH_take (i := 9) (oi := _) (v := Value.slice (some ⟨nb, off, none⟩) n cap) rfl (by kernel_rfl) (by kernel_rfl) (by kernel_rfl) (fun _ _ _ h => h) (Or.inl ⟨by rfl, fun w' hSw => ?_⟩) hHeld ?_
            · obtain ⟨t0, t1, t2⟩ := hSw
              go_simp
              try simp [*]
              try (intro hh; exfalso; omega)
              try omega
            try simp only [Act.put, List.setIfInBounds_toArray, List.set_cons_zero, List.set_cons_succ, List.getElem_toArray, List.getElem_cons_succ, List.getElem_cons_zero]
            refine wpAnyH_take (i := 10) (oi := _) (v := Value.int .i64 (k : Int)) rfl (by kernel_rfl) (by kernel_rfl) (by kernel_rfl) (fun _ _ _ h => h) (Or.inl ⟨by rfl, fun w' hSw => ?_⟩) hHeld ?_
            · obtain ⟨t0, t1, t2⟩ := hSw
              go_simp
              try simp [*]
              try (intro hh; exfalso; omega)
              try omega
            try simp only [Act.put, List.setIfInBounds_toArray, List.set_cons_zero, List.set_cons_succ, List.getElem_toArray, List.getElem_cons_succ, List.getElem_cons_zero]
            refine wpAnyH_take (i := 11) (oi := _) (v := Value.pointer (some ⟨nb, off + k * 8, none⟩)) rfl (by kernel_rfl) (by kernel_rfl) (by kernel_rfl) (fun _ _ _ h => h) (Or.inl ⟨by rfl, fun w' hSw => ?_⟩) hHeld ?_
            · obtain ⟨t0, t1, t2⟩ := hSw
              go_simp
              try simp [*]
              try (intro hh; exfalso; omega)
              try omega
            try simp only [Act.put, List.setIfInBounds_toArray, List.set_cons_zero, List.set_cons_succ, List.getElem_toArray, List.getElem_cons_succ, List.getElem_cons_zero]
            refine wpAnyH_take (i := 12) (oi := _) (v := Value.pointer (some ⟨nb, off + k * 8, none⟩)) rfl (by kernel_rfl) (by kernel_rfl) (by kernel_rfl) (fun _ _ _ h => h) (Or.inl ⟨by rfl, fun w' hSw => ?_⟩) hHeld ?_
            · obtain ⟨t0, t1, t2⟩ := hSw
              go_simp
              try simp [*]
              try (intro hh; exfalso; omega)
              try omega
            try simp only [Act.put, List.setIfInBounds_toArray, List.set_cons_zero, List.set_cons_succ, List.getElem_toArray, List.getElem_cons_succ, List.getElem_cons_zero]
            refine wpAnyH_take (i := 13) (oi := _) (v := Value.int .i64 (p : Int)) rfl (by kernel_rfl) (by kernel_rfl) (by kernel_rfl) (fun _ _ _ h => h) (Or.inl ⟨by rfl, fun w' hSw => ?_⟩) hHeld ?_
            · obtain ⟨t0, t1, t2⟩ := hSw
              go_simp
              try simp [*]
              try (intro hh; exfalso; omega)
              try omega
            try simp only [Act.put, List.setIfInBounds_toArray, List.set_cons_zero, List.set_cons_succ, List.getElem_toArray, List.getElem_cons_succ, List.getElem_cons_zero]
            refine wpAnyH_take (i := 14) (oi := _) (v := Value.pointer (some ⟨w3.heap.size, p, none⟩)) rfl (by kernel_rfl) (by kernel_rfl) (by kernel_rfl) (fun _ _ _ h => h) (Or.inl ⟨by rfl, fun w' hSw => ?_⟩) hHeld ?_
            · obtain ⟨t0, t1, t2⟩ := hSw
              go_simp
              try simp [*]
              try (intro hh; exfalso; omega)
              try omega
            try simp only [Act.put, List.setIfInBounds_toArray, List.set_cons_zero, List.set_cons_succ, List.getElem_toArray, List.getElem_cons_succ, List.getElem_cons_zero]
            refine wpAnyH_take (i := 16) (oi := _) (v := Value.slice (some ⟨w3.heap.size, 0, none⟩) n n) rfl (by kernel_rfl) (by kernel_rfl) (by kernel_rfl) (fun _ _ _ h => h) (Or.inl ⟨by rfl, fun w' hSw => ?_⟩) hHeld ?_
            · obtain ⟨t0, t1, t2⟩ := hSw
              go_simp
              try simp [*]
              try (intro hh; exfalso; omega)
              try omega
            try simp only [Act.put, List.setIfInBounds_toArray, List.set_cons_zero, List.set_cons_succ, List.getElem_toArray, List.getElem_cons_succ, List.getElem_cons_zero]
            refine wpAnyH_take (i := 17) (oi := _) (v := Value.int .i64 (k : Int)) rfl (by kernel_rfl) (by kernel_rfl) (by kernel_rfl) (fun _ _ _ h => h) (Or.inl ⟨by rfl, fun w' hSw => ?_⟩) hHeld ?_
            · obtain ⟨t0, t1, t2⟩ := hSw
              go_simp
              try simp [*]
              try (intro hh; exfalso; omega)
              try omega
            try simp only [Act.put, List.setIfInBounds_toArray, List.set_cons_zero, List.set_cons_succ, List.getElem_toArray, List.getElem_cons_succ, List.getElem_cons_zero]
            refine wpAnyH_take (i := 18) (oi := _) (v := Value.pointer (some ⟨w3.heap.size, k, none⟩)) rfl (by kernel_rfl) (by kernel_rfl) (by kernel_rfl) (fun _ _ _ h => h) (Or.inl ⟨by rfl, fun w' hSw => ?_⟩) hHeld ?_
            · obtain ⟨t0, t1, t2⟩ := hSw
              go_simp
              try simp [*]
              try (intro hh; exfalso; omega)
              try omega
            try simp only [Act.put, List.setIfInBounds_toArray, List.set_cons_zero, List.set_cons_succ, List.getElem_toArray, List.getElem_cons_succ, List.getElem_cons_zero]
            refine wpAnyH_take (i := 19) (oi := _) (v := Value.int .i64 f1) rfl (by kernel_rfl) (by kernel_rfl) (by kernel_rfl) (fun _ _ _ h => h) (Or.inl ⟨by rfl, fun w' hSw => ?_⟩) hHeld ?_
            · obtain ⟨t0, t1, t2⟩ := hSw
              go_simp
              try simp [*]
              try (intro hh; exfalso; omega)
              try omega
            try simp only [Act.put, List.setIfInBounds_toArray, List.set_cons_zero, List.set_cons_succ, List.getElem_toArray, List.getElem_cons_succ, List.getElem_cons_zero]
            refine wpAnyH_ready (rs := [15]) (by kernel_rfl) (by simp) ?_
            refine AllReadyH.cons (o := _) rfl (fun K hK => ?_) AllReadyH.nil
            have fp := (KG.out _ HE0.out).1
            go_simp
            clear fp
            clear hHeld
            refine hK.out _ _ (KT.out _ HE0.out) (fun hHeld => ?_)
            clear hK K
            try simp only [Act.put, List.setIfInBounds_toArray, List.set_cons_zero, List.set_cons_succ, List.getElem_toArray, List.getElem_cons_succ, List.getElem_cons_zero]
            refine wpAnyH_take (i := 20) (oi := _) (v := Value.int .i64 (g1 + f1)) rfl (by kernel_rfl) (by kernel_rfl) (by kernel_rfl) (fun _ _ _ h => h) (Or.inl ⟨by rfl, fun w' hSw => ?_⟩) hHeld ?_
            · obtain ⟨t0, t1, t2⟩ := hSw
              go_simp
              try simp [*]
              try (intro hh; exfalso; omega)
              try omega
            try simp only [Act.put, List.setIfInBounds_toArray, List.set_cons_zero, List.set_cons_succ, List.getElem_toArray, List.getElem_cons_succ, List.getElem_cons_zero]
            refine wpAnyH_take (i := 21) (oi := _) (v := Value.pointer (some ⟨w3.heap.size, p, none⟩)) rfl (by kernel_rfl) (by kernel_rfl) (by kernel_rfl) (fun _ _ _ h => h) (Or.inl ⟨by rfl, fun w' hSw => ?_⟩) hHeld ?_
            · obtain ⟨t0, t1, t2⟩ := hSw
              go_simp
              try simp [*]
              try (intro hh; exfalso; omega)
              try omega
            try simp only [Act.put, List.setIfInBounds_toArray, List.set_cons_zero, List.set_cons_succ, List.getElem_toArray, List.getElem_cons_succ, List.getElem_cons_zero]
            obtain ⟨fp, ff⟩ := KG.out _ (Below.refl _ _)
            obtain ⟨s0, s1, s2⟩ := KT.out _ (Below.refl _ _)
            have e1 : ¬ w.heap.size = w3.heap.size := by omega
            have e2 : ¬ nb = w3.heap.size := by omega
            have e3 : ¬ k = p := by omega
            refine wpAnyH_ready (rs := [22]) (by kernel_rfl) (by simp) ?_
            refine AllReadyH.cons (o := _) rfl (fun K hK => ?_) AllReadyH.nil
            go_simp
            clear hHeld
            refine hK.out _ _ ⟨by simp [go_sem, *], by simp [go_sem, *], by simp [go_sem, *]⟩ (fun hHeld => ?_)
            clear hK K
            try simp only [Act.put, List.setIfInBounds_toArray, List.set_cons_zero, List.set_cons_succ, List.getElem_toArray, List.getElem_cons_succ, List.getElem_cons_zero]
            refine wpAnyH_done (by kernel_rfl) ?_ _
            clear hHeld
            obtain ⟨hr5, hb5⟩ := HN5.out _ HE0.out
            have HR5 := Lib.hid hr5
            have HB5 := Lib.hid hb5
            clear hr5 hb5 fp ff s0 s1 s2
            go_wp2_with fail
            go_roundw
            case rel => exact ⟨k, by omega, by go_num, HR5.out, HB5.out⟩
            case measure => first | (simp [intOf]; done) | (simp [intOf]; omega)
        · go_simp
          go_at_call 51
          refine Calls.mono (cP.out _) ?_
          rintro e v15 ⟨rfl, hb⟩
          have HD1 := Lib.hid (HD0.out.trans (hb.mono HD0.out.size))
          clear hb
          clear hHeld
          refine hK.out _ _ (KS.out _ HD1.out) (fun hHeld => ?_)
          clear hK K
          try simp only [Act.put, List.setIfInBounds_toArray, List.set_cons_zero, List.set_cons_succ, List.getElem_toArray, List.getElem_cons_succ, List.getElem_cons_zero]
          refine wpAnyH_ready (rs := [5]) (by kernel_rfl) (by simp) ?_
          refine AllReadyH.cons (o := _) rfl (fun K hK => ?_) (AllReadyH.nil)
          obtain ⟨f0, -⟩ := KF.out _ HD1.out
          go_simp
          clear f0
          clear hHeld
          refine hK.out _ _ (KS.out _ HD1.out) (fun hHeld => ?_)
          clear hK K
          try simp only [Act.put, List.setIfInBounds_toArray, List.set_cons_zero, List.set_cons_succ, List.getElem_toArray, List.getElem_cons_succ, List.getElem_cons_zero]
          refine wpAnyH_take (i := 16) (oi := _) (v := Value.int .i64 (g0 + l0)) rfl (by kernel_rfl) (by kernel_rfl) (by kernel_rfl) (fun _ _ _ h => h) (Or.inl ⟨by rfl, fun w' hSw => ?_⟩) hHeld ?_
          · obtain ⟨t0, t1, t2⟩ := hSw
            go_simp
            try simp [*]
            try (intro hh; exfalso; omega)
            try omega
          try simp only [Act.put, List.setIfInBounds_toArray, List.set_cons_zero, List.set_cons_succ, List.getElem_toArray, List.getElem_cons_succ, List.getElem_cons_zero]
          refine wpAnyH_take (i := 17) (oi := _) (v := Value.pointer (some ⟨w3.heap.size, k, none⟩)) rfl (by kernel_rfl) (by kernel_rfl) (by kernel_rfl) (fun _ _ _ h => h) (Or.inl ⟨by rfl, fun w' hSw => ?_⟩) hHeld ?_
          · obtain ⟨t0, t1, t2⟩ := hSw
            go_simp
            try simp [*]
            try (intro hh; exfalso; omega)
            try omega
          try simp only [Act.put, List.setIfInBounds_toArray, List.set_cons_zero, List.set_cons_succ, List.getElem_toArray, List.getElem_cons_succ, List.getElem_cons_zero]
          obtain ⟨f0, ff⟩ := KF.out _ HD1.out
          obtain ⟨s0, s1, s2⟩ := KS.out _ HD1.out
          have e1 : ¬ w.heap.size = w3.heap.size := by omega
          have e2 : ¬ nb = w3.heap.size := by omega
          refine wpAnyH_ready (rs := [18]) (by kernel_rfl) (by simp) ?_
          refine AllReadyH.cons (o := _) rfl (fun K hK => ?_) AllReadyH.nil
          go_simp
          clear hHeld
          refine hK.out _ _ ⟨by simp [go_sem, *], by simp [go_sem, *], by simp [go_sem, *]⟩ (fun hHeld => ?_)
          clear hK K
          try simp only [Act.put, List.setIfInBounds_toArray, List.set_cons_zero, List.set_cons_succ, List.getElem_toArray, List.getElem_cons_succ, List.getElem_cons_zero]
          refine wpAnyH_done (by kernel_rfl) ?_ _
          clear hHeld
          obtain ⟨hr2, hb2⟩ := HNX.out _ HD1.out
          generalize v15.setCell ⟨w3.heap.size, k, none⟩ (Value.int .i64 (g0 + l0)) = Z at *
          have HR2 := Lib.hid hr2
          have HBZ := Lib.hid hb2
          clear hr2 hb2 f0 ff s0 s1 s2
          by_cases h0 : k = 0
          · subst h0
            have HR0 := Lib.hid (show RowC Z w3.heap.size 2 n (fun j => .int .i64 (GF 0 j)) from HR2.out.ext fun j hj => by rw [HGZ.out])
            go_wp2_with fail
            go_roundw
            case rel => exact ⟨0, Nat.zero_le _, by go_num, HR0.out, HBZ.out⟩
            case measure => simp [intOf]
          · have hk1 : (0 : Int) < (k : Int) := by omega
            have hpt := HPT.out k (by omega)
            have hpe := HPE.out k hkn (by omega)
            have hgs := HGS.out k hkn (by omega)
            have hgb := HGB.out (k + 1) (par ns k) (by omega)
            have hfb := HFL.out k hkn
            have hfp := HFL.out (par ns k) (by omega)
            obtain ⟨⟨_, _, x2⟩, hbz⟩ := KW.out _ HBZ.out
            obtain ⟨n0, -⟩ := HC.out _ k hbz hkn
            have KT := Lib.hid (show ∀ Y, Below Z.heap.size Z Y → (Y.cell? ⟨w.heap.size, 2, none⟩ = some (Value.slice (some ⟨nb, off, none⟩) n cap) ∧ Y.cell? ⟨nb, off + k * 8, none⟩ = some (Value.int .i64 (nd ns k).par) ∧ Y.cell? ⟨w3.heap.size, k, none⟩ = some (.int .i64 (FT k))) from fun Y h => by
              obtain ⟨⟨_, _, x2⟩, hz⟩ := KW.out _ (HBZ.out.trans (h.mono HBZ.out.size))
              have q := (HR2.out.keep h).cell hkn
              rw [if_pos rfl] at q
              exact ⟨x2, (HC.out _ k hz hkn).1, q⟩)
            have fk := (KT.out _ (Below.refl _ _)).2.2
            have KG := Lib.hid (show ∀ Y, Below Z.heap.size Z Y → Y.cell? ⟨w3.heap.size, par ns k, none⟩ = some (.int .i64 (GF (k + 1) (par ns k))) ∧ Y.frozen? ⟨w3.heap.size, par ns k, none⟩ = false from fun Y h => by
              have q := (HR2.out.keep h).cell (j := par ns k) (by omega)
              rw [if_neg (by omega)] at q
              exact ⟨q, (HR2.out.keep h).froz _⟩)
            have HN5 := Lib.hid (show ∀ Y, Below Z.heap.size Z Y → RowC (Y.setCell ⟨w3.heap.size, par ns k, none⟩ (.int .i64 (GF (k + 1) (par ns k) + FT k))) w3.heap.size 2 n (fun j => .int .i64 (GF k j)) ∧ Below w3.heap.size w3 (Y.setCell ⟨w3.heap.size, par ns k, none⟩ (.int .i64 (GF (k + 1) (par ns k) + FT k))) from fun Y h => by
              refine ⟨((HR2.out.keep h).set (par ns k) _).ext fun j hj => ?_, (HBZ.out.trans (h.mono HBZ.out.size)).setCell (p := ⟨w3.heap.size, par ns k, none⟩) (by show w3.heap.size ≤ w3.heap.size; omega) _⟩
              rw [hgs j]
              by_cases e : j = par ns k
              · simp [e]
              · simp [e])
            have hsm : IntKind.wrap .i64 (GF (k + 1) (par ns k) + FT k) = GF (k + 1) (par ns k) + FT k := by rw [IntKind.wrap_i64]; omega
            have hsm2 : wrap64 (GF (k + 1) (par ns k) + FT k) = GF (k + 1) (par ns k) + FT k := by unfold wrap64; omega
            rw [hpe] at n0 KT
            clear hgb hfb hfp hgs hbz hpe HR2
            generalize GF (k + 1) (par ns k) = g1 at *
            generalize FT k = f1 at *
            generalize par ns k = p at *
            have hpn : (p : Int) < (n : Int) := by omega
            go_upto_region 14 with fail
            refine wp_region_held_drew (S := fun w' => w'.cell? ⟨w.heap.size, 2, none⟩ = some (Value.slice (some ⟨nb, off, none⟩) n cap) ∧ w'.cell? ⟨nb, off + k * 8, none⟩ = some (Value.int .i64 (p : Int)) ∧ w'.cell? ⟨w3.heap.size, k, none⟩ = some (Value.int .i64 f1)) (by kernel_rfl) ⟨by simpa [go_sem] using x2, by simpa [go_sem] using n0, by simpa [go_sem] using fk⟩ (fun hHeld => ?_)
            have HE0 := Lib.hid (show Below Z.heap.size Z _ from (Below.refl Z.heap.size Z).drew)
            clear x2 n0 fk
            refine wpAnyH_take (i := 0) (oi := _) (v := Value.slice (some ⟨w3.heap.size, 0, none⟩) n n) rfl (by kernel_rfl) (by kernel_rfl) (by kernel_rfl) (fun _ _ _ h => h) (Or.inl ⟨by rfl, fun w' hSw => ?_⟩) hHeld ?_
            · obtain ⟨t0, t1, t2⟩ := hSw
              go_simp
              try simp [*]
              try (intro hh; exfalso; omega)
              try omega
            try simp only [Act.put, List.setIfInBounds_toArray, List.set_cons_zero, List.set_cons_succ, List.getElem_toArray, List.getElem_cons_succ, List.getElem_cons_zero]
            refine wpAnyH_take (i := 1) (oi := _) (v := Value.pointer (some ⟨w.heap.size, 2, none⟩)) rfl (by kernel_rfl) (by kernel_rfl) (by kernel_rfl) (fun _ _ _ h => h) (Or.inl ⟨by rfl, fun w' hSw => ?_⟩) hHeld ?_
            · obtain ⟨t0, t1, t2⟩ := hSw
              go_simp
              try simp [*]
              try (intro hh; exfalso; omega)
              try omega
            try simp only [Act.put, List.setIfInBounds_toArray, List.set_cons_zero, List.set_cons_succ, List.getElem_toArray, List.getElem_cons_succ, List.getElem_cons_zero]
            refine wpAnyH_take (i := 2) (oi := _) (v := Value.slice (some ⟨nb, off, none⟩) n cap) rfl (by kernel_rfl) (by kernel_rfl) (by kernel_rfl) (fun _ _ _ h => h) (Or.inl ⟨by rfl, fun w' hSw => ?_⟩) hHeld ?_
            · obtain ⟨t0, t1, t2⟩ := hSw
              go_simp
              try simp [*]
              try (intro hh; exfalso; omega)
              try omega
            try simp only [Act.put, List.setIfInBounds_toArray, List.set_cons_zero, List.set_cons_succ, List.getElem_toArray, List.getElem_cons_succ, List.getElem_cons_zero]
            refine wpAnyH_take (i := 3) (oi := _) (v := Value.int .i64 (k : Int)) rfl (by kernel_rfl) (by kernel_rfl) (by kernel_rfl) (fun _ _ _ h => h) (Or.inl ⟨by rfl, fun w' hSw => ?_⟩) hHeld ?_
            · obtain ⟨t0, t1, t2⟩ := hSw
              go_simp
              try simp [*]
              try (intro hh; exfalso; omega)
              try omega
            try simp only [Act.put, List.setIfInBounds_toArray, List.set_cons_zero, List.set_cons_succ, List.getElem_toArray, List.getElem_cons_succ, List.getElem_cons_zero]
            refine wpAnyH_take (i := 4) (oi := _) (v := Value.pointer (some ⟨nb, off + k * 8, none⟩)) rfl (by kernel_rfl) (by kernel_rfl) (by kernel_rfl) (fun _ _ _ h => h) (Or.inl ⟨by rfl, fun w' hSw => ?_⟩) hHeld ?_
            · obtain ⟨t0, t1, t2⟩ := hSw
              go_simp
              try simp [*]
              try (intro hh; exfalso; omega)
              try omega
            try simp only [Act.put, List.setIfInBounds_toArray, List.set_cons_zero, List.set_cons_succ, List.getElem_toArray, List.getElem_cons_succ, List.getElem_cons_zero]
            refine wpAnyH_take (i := 5) (oi := _) (v := Value.pointer (some ⟨nb, off + k * 8, none⟩)) rfl (by kernel_rfl) (by kernel_rfl) (by kernel_rfl) (fun _ _ _ h => h) (Or.inl ⟨by rfl, fun w' hSw => ?_⟩) hHeld ?_
            · obtain ⟨t0, t1, t2⟩ := hSw
              go_simp
              try simp [*]
              try (intro hh; exfalso; omega)
              try omega
            try simp only [Act.put, List.setIfInBounds_toArray, List.set_cons_zero, List.set_cons_succ, List.getElem_toArray, List.getElem_cons_succ, List.getElem_cons_zero]
            refine wpAnyH_take (i := 6) (oi := _) (v := Value.int .i64 (p : Int)) rfl (by kernel_rfl) (by kernel_rfl) (by kernel_rfl) (fun _ _ _ h => h) (Or.inl ⟨by rfl, fun w' hSw => ?_⟩) hHeld ?_
            · obtain ⟨t0, t1, t2⟩ := hSw
              go_simp
              try simp [*]
              try (intro hh; exfalso; omega)
              try omega
            try simp only [Act.put, List.setIfInBounds_toArray, List.set_cons_zero, List.set_cons_succ, List.getElem_toArray, List.getElem_cons_succ, List.getElem_cons_zero]
            refine wpAnyH_take (i := 7) (oi := _) (v := Value.slice (some ⟨w3.heap.size, 0, none⟩) n n) rfl (by kernel_rfl) (by kernel_rfl) (by kernel_rfl) (fun _ _ _ h => h) (Or.inl ⟨by rfl, fun w' hSw => ?_⟩) hHeld ?_
            · obtain ⟨t0, t1, t2⟩ := hSw
              go_simp
              try simp [*]
              try (intro hh; exfalso; omega)
              try omega
            try simp only [Act.put, List.setIfInBounds_toArray, List.set_cons_zero, List.set_cons_succ, List.getElem_toArray, List.getElem_cons_succ, List.getElem_cons_zero]
            refine wpAnyH_take (i := 8) (oi := _) (v := Value.pointer (some ⟨w.heap.size, 2, none⟩)) rfl (by kernel_rfl) (by kernel_rfl) (by kernel_rfl) (fun _ _ _ h => h) (Or.inl ⟨by rfl, fun w' hSw => ?_⟩) hHeld ?_
            · obtain ⟨t0, t1, t2⟩ := hSw
              go_simp
              try simp [*]
              try (intro hh; exfalso; omega)
              try omega
            try simp only [Act.put, List.setIfInBounds_toArray, List.set_cons_zero, List.set_cons_succ, List.getElem_toArray, List.getElem_cons_succ, List.getElem_cons_zero]
            refine wpAnyH_take (i := 9) (oi := _) (v := Value.slice (some ⟨nb, off, none⟩) n cap) rfl (by kernel_rfl) (by kernel_rfl) (by kernel_rfl) (fun _ _ _ h => h) (Or.inl ⟨by rfl, fun w' hSw => ?_⟩) hHeld ?_
            · obtain ⟨t0, t1, t2⟩ := hSw
              go_simp
              try simp [*]
              try (intro hh; exfalso; omega)
              try omega
            try simp only [Act.put, List.setIfInBounds_toArray, List.set_cons_zero, List.set_cons_succ, List.getElem_toArray, List.getElem_cons_succ, List.getElem_cons_zero]
            refine wpAnyH_take (i := 10) (oi := _) (v := Value.int .i64 (k : Int)) rfl (by kernel_rfl) (by kernel_rfl) (by kernel_rfl) (fun _ _ _ h => h) (Or.inl ⟨by rfl, fun w' hSw => ?_⟩) hHeld ?_
            · obtain ⟨t0, t1, t2⟩ := hSw
              go_simp
              try simp [*]
              try (intro hh; exfalso; omega)
              try omega
            try simp only [Act.put, List.setIfInBounds_toArray, List.set_cons_zero, List.set_cons_succ, List.getElem_toArray, List.getElem_cons_succ, List.getElem_cons_zero]
            refine wpAnyH_take (i := 11) (oi := _) (v := Value.pointer (some ⟨nb, off + k * 8, none⟩)) rfl (by kernel_rfl) (by kernel_rfl) (by kernel_rfl) (fun _ _ _ h => h) (Or.inl ⟨by rfl, fun w' hSw => ?_⟩) hHeld ?_
            · obtain ⟨t0, t1, t2⟩ := hSw
              go_simp
              try simp [*]
              try (intro hh; exfalso; omega)
              try omega
            try simp only [Act.put, List.setIfInBounds_toArray, List.set_cons_zero, List.set_cons_succ, List.getElem_toArray, List.getElem_cons_succ, List.getElem_cons_zero]
            refine wpAnyH_take (i := 12) (oi := _) (v := Value.pointer (some ⟨nb, off + k * 8, none⟩)) rfl (by kernel_rfl) (by kernel_rfl) (by kernel_rfl) (fun _ _ _ h => h) (Or.inl ⟨by rfl, fun w' hSw => ?_⟩) hHeld ?_
            · obtain ⟨t0, t1, t2⟩ := hSw
              go_simp
              try simp [*]
              try (intro hh; exfalso; omega)
              try omega
            try simp only [Act.put, List.setIfInBounds_toArray, List.set_cons_zero, List.set_cons_succ, List.getElem_toArray, List.getElem_cons_succ, List.getElem_cons_zero]
            refine wpAnyH_take (i := 13) (oi := _) (v := Value.int .i64 (p : Int)) rfl (by kernel_rfl) (by kernel_rfl) (by kernel_rfl) (fun _ _ _ h => h) (Or.inl ⟨by rfl, fun w' hSw => ?_⟩) hHeld ?_
            · obtain ⟨t0, t1, t2⟩ := hSw
              go_simp
              try simp [*]
              try (intro hh; exfalso; omega)
              try omega
            try simp only [Act.put, List.setIfInBounds_toArray, List.set_cons_zero, List.set_cons_succ, List.getElem_toArray, List.getElem_cons_succ, List.getElem_cons_zero]
            refine wpAnyH_take (i := 14) (oi := _) (v := Value.pointer (some ⟨w3.heap.size, p, none⟩)) rfl (by kernel_rfl) (by kernel_rfl) (by kernel_rfl) (fun _ _ _ h => h) (Or.inl ⟨by rfl, fun w' hSw => ?_⟩) hHeld ?_
            · obtain ⟨t0, t1, t2⟩ := hSw
              go_simp
              try simp [*]
              try (intro hh; exfalso; omega)
              try omega
            try simp only [Act.put, List.setIfInBounds_toArray, List.set_cons_zero, List.set_cons_succ, List.getElem_toArray, List.getElem_cons_succ, List.getElem_cons_zero]
            refine wpAnyH_take (i := 16) (oi := _) (v := Value.slice (some ⟨w3.heap.size, 0, none⟩) n n) rfl (by kernel_rfl) (by kernel_rfl) (by kernel_rfl) (fun _ _ _ h => h) (Or.inl ⟨by rfl, fun w' hSw => ?_⟩) hHeld ?_
            · obtain ⟨t0, t1, t2⟩ := hSw
              go_simp
              try simp [*]
              try (intro hh; exfalso; omega)
              try omega
            try simp only [Act.put, List.setIfInBounds_toArray, List.set_cons_zero, List.set_cons_succ, List.getElem_toArray, List.getElem_cons_succ, List.getElem_cons_zero]
            refine wpAnyH_take (i := 17) (oi := _) (v := Value.int .i64 (k : Int)) rfl (by kernel_rfl) (by kernel_rfl) (by kernel_rfl) (fun _ _ _ h => h) (Or.inl ⟨by rfl, fun w' hSw => ?_⟩) hHeld ?_
            · obtain ⟨t0, t1, t2⟩ := hSw
              go_simp
              try simp [*]
              try (intro hh; exfalso; omega)
              try omega
            try simp only [Act.put, List.setIfInBounds_toArray, List.set_cons_zero, List.set_cons_succ, List.getElem_toArray, List.getElem_cons_succ, List.getElem_cons_zero]
            refine wpAnyH_take (i := 18) (oi := _) (v := Value.pointer (some ⟨w3.heap.size, k, none⟩)) rfl (by kernel_rfl) (by kernel_rfl) (by kernel_rfl) (fun _ _ _ h => h) (Or.inl ⟨by rfl, fun w' hSw => ?_⟩) hHeld ?_
            · obtain ⟨t0, t1, t2⟩ := hSw
              go_simp
              try simp [*]
              try (intro hh; exfalso; omega)
              try omega
            try simp only [Act.put, List.setIfInBounds_toArray, List.set_cons_zero, List.set_cons_succ, List.getElem_toArray, List.getElem_cons_succ, List.getElem_cons_zero]
            refine wpAnyH_take (i := 19) (oi := _) (v := Value.int .i64 f1) rfl (by kernel_rfl) (by kernel_rfl) (by kernel_rfl) (fun _ _ _ h => h) (Or.inl ⟨by rfl, fun w' hSw => ?_⟩) hHeld ?_
            · obtain ⟨t0, t1, t2⟩ := hSw
              go_simp
              try simp [*]
              try (intro hh; exfalso; omega)
              try omega
            try simp only [Act.put, List.setIfInBounds_toArray, List.set_cons_zero, List.set_cons_succ, List.getElem_toArray, List.getElem_cons_succ, List.getElem_cons_zero]
            refine wpAnyH_ready (rs := [15]) (by kernel_rfl) (by simp) ?_
            refine AllReadyH.cons (o := _) rfl (fun K hK => ?_) AllReadyH.nil
            have fp := (KG.out _ HE0.out).1
            go_simp
            clear fp
            clear hHeld
            refine hK.out _ _ (KT.out _ HE0.out) (fun hHeld => ?_)
            clear hK K
            try simp only [Act.put, List.setIfInBounds_toArray, List.set_cons_zero, List.set_cons_succ, List.getElem_toArray, List.getElem_cons_succ, List.getElem_cons_zero]
            refine wpAnyH_take (i := 20) (oi := _) (v := Value.int .i64 (g1 + f1)) rfl (by kernel_rfl) (by kernel_rfl) (by kernel_rfl) (fun _ _ _ h => h) (Or.inl ⟨by rfl, fun w' hSw => ?_⟩) hHeld ?_
            · obtain ⟨t0, t1, t2⟩ := hSw
              go_simp
              try simp [*]
              try (intro hh; exfalso; omega)
              try omega
            try simp only [Act.put, List.setIfInBounds_toArray, List.set_cons_zero, List.set_cons_succ, List.getElem_toArray, List.getElem_cons_succ, List.getElem_cons_zero]
            refine wpAnyH_take (i := 21) (oi := _) (v := Value.pointer (some ⟨w3.heap.size, p, none⟩)) rfl (by kernel_rfl) (by kernel_rfl) (by kernel_rfl) (fun _ _ _ h => h) (Or.inl ⟨by rfl, fun w' hSw => ?_⟩) hHeld ?_
            · obtain ⟨t0, t1, t2⟩ := hSw
              go_simp
              try simp [*]
              try (intro hh; exfalso; omega)
              try omega
            try simp only [Act.put, List.setIfInBounds_toArray, List.set_cons_zero, List.set_cons_succ, List.getElem_toArray, List.getElem_cons_succ, List.getElem_cons_zero]
            obtain ⟨fp, ff⟩ := KG.out _ (Below.refl _ _)
            obtain ⟨s0, s1, s2⟩ := KT.out _ (Below.refl _ _)
            have e1 : ¬ w.heap.size = w3.heap.size := by omega
            have e2 : ¬ nb = w3.heap.size := by omega
            have e3 : ¬ k = p := by omega
            refine wpAnyH_ready (rs := [22]) (by kernel_rfl) (by simp) ?_
            refine AllReadyH.cons (o := _) rfl (fun K hK => ?_) AllReadyH.nil
            go_simp
            clear hHeld
            refine hK.out _ _ ⟨by simp [go_sem, *], by simp [go_sem, *], by simp [go_sem, *]⟩ (fun hHeld => ?_)
            clear hK K
            try simp only [Act.put, List.setIfInBounds_toArray, List.set_cons_zero, List.set_cons_succ, List.getElem_toArray, List.getElem_cons_succ, List.getElem_cons_zero]
            refine wpAnyH_done (by kernel_rfl) ?_ _
            clear hHeld
            obtain ⟨hr5, hb5⟩ := HN5.out _ HE0.out
            have HR5 := Lib.hid hr5
            have HB5 := Lib.hid hb5
            clear hr5 hb5 fp ff s0 s1 s2
            go_wp2_with fail
            go_roundw
            case rel => exact ⟨k, by omega, by go_num, HR5.out, HB5.out⟩
            case measure => first | (simp [intOf]; done) | (simp [intOf]; omega)
    · subst hm0
      rw [show (((0 : Nat) : Int) - 1) = -1 from rfl]
      have HF := Lib.hid (show RowC W1 w3.heap.size 2 n (fun j => .int .i64 (FT j)) from HR.out.ext fun j hj => by rw [HGL.out])
      obtain ⟨w5, hM, hR5, hb5, hz5⟩ := make_longs W1 n (by omega)
      have HR5 := Lib.hid hR5
      have HB5 := Lib.hid hb5
      obtain ⟨⟨k0, k1, k2⟩, -⟩ := KW.out _ (HB.out.trans (hb5.mono HB.out.size))
      have hGW := HF.out.lt
      have hsz3 := HB.out.size
      clear hR5 hb5
      go_upto_region 16 with fail
      clear hM
      go_wp2_with fail
      refine (cS.out _).mono ?_
      rintro e w6 ⟨rfl, hb6⟩
      have HR6 := Lib.hid (HR5.out.keep hb6)
      have HB6 := Lib.hid (HB5.out.trans (hb6.mono HB5.out.size))
      have f0 := HR6.out.cell hpos
      have ff := HR6.out.froz 0
      have hpk := HPK.out
      have hw0 : IntKind.wrap .i64 (1000 * S0) = 1000 * S0 := by rw [IntKind.wrap_i64]; omega
      clear hb6 k0 k1 k2
      obtain ⟨X, hX⟩ : ∃ X, X = w6.setCell ⟨W1.heap.size, 0, none⟩ (.int .i64 (1000 * S0)) := ⟨_, rfl⟩
      have HRX := Lib.hid (show RowC X W1.heap.size 2 n (fun j => .int .i64 (if j = 0 ∨ j < 0 then VT j else 0)) from by
        rw [hX]
        refine (HR6.out.set 0 _).ext fun j hj => ?_
        by_cases e : j = 0
        · subst e; simp [HV0.out]
        · simp [e])
      have HBX := Lib.hid (show Below W1.heap.size W1 X from by rw [hX]; exact HB6.out.setCell (p := ⟨W1.heap.size, 0, none⟩) (Nat.le_refl _) _)
      go_upto_region 17 with fail
      rw [← hX]
      clear hX f0 ff hpk hw0
      go_wp2_with fail
      go_loopw [17] (fun iv wr => ∃ k : Nat, k ≤ n ∧ iv = .int .i64 k ∧ RowC wr W1.heap.size 2 n (fun j => .int .i64 (if j = 0 ∨ j < k then VT j else 0)) ∧ Below W1.heap.size W1 wr) (fun iv _ => n - (intOf iv).toNat)
      case atStart => exact ⟨0, Nat.zero_le _, rfl, HRX.out, HBX.out⟩
      case round =>
        obtain ⟨k, hk, rfl, hr, hB⟩ := hrel
        obtain ⟨W2, rfl⟩ : ∃ W2, W2 = wr := ⟨_, rfl⟩
        have HRK := Lib.hid hr
        have HBK := Lib.hid hB
        clear hr hB
        by_cases hkn : k < n
        · have hki : (k : Int) < (n : Int) := by omega
          have HROWS := Lib.hid (show ∀ Z, Below W1.heap.size W1 Z → Z.cell? ⟨w3.heap.size, k, none⟩ = some (.int .i64 (FT k)) ∧ Z.cell? ⟨gi, k * 2, none⟩ = some (.int .i64 (curL ns k)) ∧ Z.cell? ⟨gi, k * 2 + 1, none⟩ = some (.int .i64 (curH ns k)) ∧ Z.cell? ⟨gv, k * 2, none⟩ = some (.int .i64 (VO k).1) ∧ Z.cell? ⟨gv, k * 2 + 1, none⟩ = some (.int .i64 (VO k).2) from fun Z h => by
            have hz := HB.out.trans (h.mono HB.out.size)
            have q0 := (HRI.out.keep hz).cell (j := k * 2) (by omega)
            have q1 := (HRI.out.keep hz).cell (j := k * 2 + 1) (by omega)
            have q2 := (HRV.out.keep hz).cell (j := k * 2) (by omega)
            have q3 := (HRV.out.keep hz).cell (j := k * 2 + 1) (by omega)
            rw [spc_even] at q0 q2
            rw [spc_odd] at q1 q3
            exact ⟨(HF.out.keep h).cell hkn, q0, q1, q2, q3⟩)
          have hvt := HVT.out k hkn
          have hfl := HFL.out k hkn
          have ht1 : ¬ FT k < curL ns k := by omega
          have ht2 : ¬ curH ns k < FT k := by omega
          have ht3 : ¬ VT k < 1000 * (VO k).1 := by omega
          have ht4 : ¬ 1000 * (VO k).2 < VT k := by omega
          have hm1 : IntKind.wrap .i64 (1000 * (VO k).1) = 1000 * (VO k).1 := by rw [IntKind.wrap_i64]; omega
          have hm2 : IntKind.wrap .i64 (1000 * (VO k).2) = 1000 * (VO k).2 := by rw [IntKind.wrap_i64]; omega
          by_cases h0 : k = 0
          · have HRN := Lib.hid (show RowC W2 W1.heap.size 2 n (fun j => .int .i64 (if j = 0 ∨ j < k + 1 then VT j else 0)) from HRK.out.ext fun j hj => by
              subst h0
              by_cases e : j = 0
              · simp [e]
              · simp [e])
            have hk00 : ¬ (0 : Int) < (k : Int) := by omega
            clear h0
            obtain ⟨f0, i0, i1, u0, u1⟩ := HROWS.out _ HBK.out
            have tk := HRN.out.cell (j := k) hkn
            rw [if_pos (by omega)] at tk
            have HBY := Lib.hid (show Below W1.heap.size W1 W2.drew from HBK.out.trans (((Below.refl W2.heap.size W2).drew).mono HBK.out.size))
            have HRY := Lib.hid (HRN.out.drew)
            clear hvt hfl HROWS
            generalize FT k = f1 at *
            generalize curL ns k = c0 at *
            generalize curH ns k = c1 at *
            generalize (VO k).1 = y0 at *
            generalize (VO k).2 = y1 at *
            generalize hvk : VT k = t1 at *
            clear hvk
            go_upto_region 22 with fail
            refine wp_region_held_drew (S := fun w' => w'.cell? ⟨w3.heap.size, k, none⟩ = some (Value.int .i64 f1) ∧ w'.cell? ⟨gi, k * 2, none⟩ = some (Value.int .i64 c0) ∧ w'.cell? ⟨gi, k * 2 + 1, none⟩ = some (Value.int .i64 c1) ∧ w'.cell? ⟨gv, k * 2, none⟩ = some (Value.int .i64 y0) ∧ w'.cell? ⟨gv, k * 2 + 1, none⟩ = some (Value.int .i64 y1) ∧ w'.cell? ⟨W1.heap.size, k, none⟩ = some (Value.int .i64 t1)) (by kernel_rfl) ⟨by simpa [go_sem] using f0, by simpa [go_sem] using i0, by simpa [go_sem] using i1, by simpa [go_sem] using u0, by simpa [go_sem] using u1, by simpa [go_sem] using tk⟩ (fun hHeld => ?_)
            refine wpAnyH_take (i := 0) (oi := _) (v := Value.slice (some ⟨w3.heap.size, 0, none⟩) n n) rfl (by kernel_rfl) (by kernel_rfl) (by kernel_rfl) (fun _ _ _ h => h) (Or.inl ⟨by rfl, fun w' hSw => ?_⟩) hHeld ?_
            · obtain ⟨t0, t1, t2, t3, t4, t5⟩ := hSw
              go_simp
              try simp [*]
              try (intro hh; exfalso; omega)
              try omega
            try simp only [Act.put, List.setIfInBounds_toArray, List.set_cons_zero, List.set_cons_succ, List.getElem_toArray, List.getElem_cons_succ, List.getElem_cons_zero]
            refine wpAnyH_take (i := 1) (oi := _) (v := Value.int .i64 (k : Int)) rfl (by kernel_rfl) (by kernel_rfl) (by kernel_rfl) (fun _ _ _ h => h) (Or.inl ⟨by rfl, fun w' hSw => ?_⟩) hHeld ?_
            · obtain ⟨t0, t1, t2, t3, t4, t5⟩ := hSw
              go_simp
              try simp [*]
              try (intro hh; exfalso; omega)
              try omega
            try simp only [Act.put, List.setIfInBounds_toArray, List.set_cons_zero, List.set_cons_succ, List.getElem_toArray, List.getElem_cons_succ, List.getElem_cons_zero]
            refine wpAnyH_take (i := 2) (oi := _) (v := Value.pointer (some ⟨w3.heap.size, k, none⟩)) rfl (by kernel_rfl) (by kernel_rfl) (by kernel_rfl) (fun _ _ _ h => h) (Or.inl ⟨by rfl, fun w' hSw => ?_⟩) hHeld ?_
            · obtain ⟨t0, t1, t2, t3, t4, t5⟩ := hSw
              go_simp
              try simp [*]
              try (intro hh; exfalso; omega)
              try omega
            try simp only [Act.put, List.setIfInBounds_toArray, List.set_cons_zero, List.set_cons_succ, List.getElem_toArray, List.getElem_cons_succ, List.getElem_cons_zero]
            refine wpAnyH_take (i := 3) (oi := _) (v := Value.int .i64 f1) rfl (by kernel_rfl) (by kernel_rfl) (by kernel_rfl) (fun _ _ _ h => h) (Or.inl ⟨by rfl, fun w' hSw => ?_⟩) hHeld ?_
            · obtain ⟨t0, t1, t2, t3, t4, t5⟩ := hSw
              go_simp
              try simp [*]
              try (intro hh; exfalso; omega)
              try omega
            try simp only [Act.put, List.setIfInBounds_toArray, List.set_cons_zero, List.set_cons_succ, List.getElem_toArray, List.getElem_cons_succ, List.getElem_cons_zero]
            refine wpAnyH_take (i := 4) (oi := _) (v := Value.slice (some ⟨gi, 0, none⟩) n n) rfl (by kernel_rfl) (by kernel_rfl) (by kernel_rfl) (fun _ _ _ h => h) (Or.inl ⟨by rfl, fun w' hSw => ?_⟩) hHeld ?_
            · obtain ⟨t0, t1, t2, t3, t4, t5⟩ := hSw
              go_simp
              try simp [*]
              try (intro hh; exfalso; omega)
              try omega
            try simp only [Act.put, List.setIfInBounds_toArray, List.set_cons_zero, List.set_cons_succ, List.getElem_toArray, List.getElem_cons_succ, List.getElem_cons_zero]
            refine wpAnyH_take (i := 5) (oi := _) (v := Value.int .i64 (k : Int)) rfl (by kernel_rfl) (by kernel_rfl) (by kernel_rfl) (fun _ _ _ h => h) (Or.inl ⟨by rfl, fun w' hSw => ?_⟩) hHeld ?_
            · obtain ⟨t0, t1, t2, t3, t4, t5⟩ := hSw
              go_simp
              try simp [*]
              try (intro hh; exfalso; omega)
              try omega
            try simp only [Act.put, List.setIfInBounds_toArray, List.set_cons_zero, List.set_cons_succ, List.getElem_toArray, List.getElem_cons_succ, List.getElem_cons_zero]
            refine wpAnyH_take (i := 6) (oi := _) (v := Value.pointer (some ⟨gi, k * 2, none⟩)) rfl (by kernel_rfl) (by kernel_rfl) (by kernel_rfl) (fun _ _ _ h => h) (Or.inl ⟨by rfl, fun w' hSw => ?_⟩) hHeld ?_
            · obtain ⟨t0, t1, t2, t3, t4, t5⟩ := hSw
              go_simp
              try simp [*]
              try (intro hh; exfalso; omega)
              try omega
            try simp only [Act.put, List.setIfInBounds_toArray, List.set_cons_zero, List.set_cons_succ, List.getElem_toArray, List.getElem_cons_succ, List.getElem_cons_zero]
            refine wpAnyH_take (i := 7) (oi := _) (v := Value.pointer (some ⟨gi, k * 2, none⟩)) rfl (by kernel_rfl) (by kernel_rfl) (by kernel_rfl) (fun _ _ _ h => h) (Or.inl ⟨by rfl, fun w' hSw => ?_⟩) hHeld ?_
            · obtain ⟨t0, t1, t2, t3, t4, t5⟩ := hSw
              go_simp
              try simp [*]
              try (intro hh; exfalso; omega)
              try omega
            try simp only [Act.put, List.setIfInBounds_toArray, List.set_cons_zero, List.set_cons_succ, List.getElem_toArray, List.getElem_cons_succ, List.getElem_cons_zero]
            refine wpAnyH_take (i := 8) (oi := _) (v := Value.int .i64 c0) rfl (by kernel_rfl) (by kernel_rfl) (by kernel_rfl) (fun _ _ _ h => h) (Or.inl ⟨by rfl, fun w' hSw => ?_⟩) hHeld ?_
            · obtain ⟨t0, t1, t2, t3, t4, t5⟩ := hSw
              go_simp
              try simp [*]
              try (intro hh; exfalso; omega)
              try omega
            try simp only [Act.put, List.setIfInBounds_toArray, List.set_cons_zero, List.set_cons_succ, List.getElem_toArray, List.getElem_cons_succ, List.getElem_cons_zero]
            refine wpAnyH_take (i := 9) (oi := _) (v := Value.bool false) rfl (by kernel_rfl) (by kernel_rfl) (by kernel_rfl) (fun _ _ _ h => h) (Or.inl ⟨by rfl, fun w' hSw => ?_⟩) hHeld ?_
            · obtain ⟨t0, t1, t2, t3, t4, t5⟩ := hSw
              go_simp
              try simp [*]
              try (intro hh; exfalso; omega)
              try omega
            try simp only [Act.put, List.setIfInBounds_toArray, List.set_cons_zero, List.set_cons_succ, List.getElem_toArray, List.getElem_cons_succ, List.getElem_cons_zero]
            refine wpAnyH_take (i := 10) (oi := _) (v := Value.bool false) rfl (by kernel_rfl) (by kernel_rfl) (by kernel_rfl) (fun _ _ _ h => h) (Or.inl ⟨by rfl, fun w' hSw => ?_⟩) hHeld ?_
            · obtain ⟨t0, t1, t2, t3, t4, t5⟩ := hSw
              go_simp
              try simp [*]
              try (intro hh; exfalso; omega)
              try omega
            try simp only [Act.put, List.setIfInBounds_toArray, List.set_cons_zero, List.set_cons_succ, List.getElem_toArray, List.getElem_cons_succ, List.getElem_cons_zero]
            refine wpAnyH_take (i := 11) (oi := _) (v := Value.slice (some ⟨w3.heap.size, 0, none⟩) n n) rfl (by kernel_rfl) (by kernel_rfl) (by kernel_rfl) (fun _ _ _ h => h) (Or.inl ⟨by rfl, fun w' hSw => ?_⟩) hHeld ?_
            · obtain ⟨t0, t1, t2, t3, t4, t5⟩ := hSw
              go_simp
              try simp [*]
              try (intro hh; exfalso; omega)
              try omega
            try simp only [Act.put, List.setIfInBounds_toArray, List.set_cons_zero, List.set_cons_succ, List.getElem_toArray, List.getElem_cons_succ, List.getElem_cons_zero]
            refine wpAnyH_take (i := 12) (oi := _) (v := Value.int .i64 (k : Int)) rfl (by kernel_rfl) (by kernel_rfl) (by kernel_rfl) (fun _ _ _ h => h) (Or.inl ⟨by rfl, fun w' hSw => ?_⟩) hHeld ?_
            · obtain ⟨t0, t1, t2, t3, t4, t5⟩ := hSw
              go_simp
              try simp [*]
              try (intro hh; exfalso; omega)
              try omega
            try simp only [Act.put, List.setIfInBounds_toArray, List.set_cons_zero, List.set_cons_succ, List.getElem_toArray, List.getElem_cons_succ, List.getElem_cons_zero]
            refine wpAnyH_take (i := 13) (oi := _) (v := Value.pointer (some ⟨w3.heap.size, k, none⟩)) rfl (by kernel_rfl) (by kernel_rfl) (by kernel_rfl) (fun _ _ _ h => h) (Or.inl ⟨by rfl, fun w' hSw => ?_⟩) hHeld ?_
            · obtain ⟨t0, t1, t2, t3, t4, t5⟩ := hSw
              go_simp
              try simp [*]
              try (intro hh; exfalso; omega)
              try omega
            try simp only [Act.put, List.setIfInBounds_toArray, List.set_cons_zero, List.set_cons_succ, List.getElem_toArray, List.getElem_cons_succ, List.getElem_cons_zero]
            refine wpAnyH_take (i := 14) (oi := _) (v := Value.int .i64 f1) rfl (by kernel_rfl) (by kernel_rfl) (by kernel_rfl) (fun _ _ _ h => h) (Or.inl ⟨by rfl, fun w' hSw => ?_⟩) hHeld ?_
            · obtain ⟨t0, t1, t2, t3, t4, t5⟩ := hSw
              go_simp
              try simp [*]
              try (intro hh; exfalso; omega)
              try omega
            try simp only [Act.put, List.setIfInBounds_toArray, List.set_cons_zero, List.set_cons_succ, List.getElem_toArray, List.getElem_cons_succ, List.getElem_cons_zero]
            refine wpAnyH_take (i := 15) (oi := _) (v := Value.slice (some ⟨gi, 0, none⟩) n n) rfl (by kernel_rfl) (by kernel_rfl) (by kernel_rfl) (fun _ _ _ h => h) (Or.inl ⟨by rfl, fun w' hSw => ?_⟩) hHeld ?_
            · obtain ⟨t0, t1, t2, t3, t4, t5⟩ := hSw
              go_simp
              try simp [*]
              try (intro hh; exfalso; omega)
              try omega
            try simp only [Act.put, List.setIfInBounds_toArray, List.set_cons_zero, List.set_cons_succ, List.getElem_toArray, List.getElem_cons_succ, List.getElem_cons_zero]
            refine wpAnyH_take (i := 16) (oi := _) (v := Value.int .i64 (k : Int)) rfl (by kernel_rfl) (by kernel_rfl) (by kernel_rfl) (fun _ _ _ h => h) (Or.inl ⟨by rfl, fun w' hSw => ?_⟩) hHeld ?_
            · obtain ⟨t0, t1, t2, t3, t4, t5⟩ := hSw
              go_simp
              try simp [*]
              try (intro hh; exfalso; omega)
              try omega
            try simp only [Act.put, List.setIfInBounds_toArray, List.set_cons_zero, List.set_cons_succ, List.getElem_toArray, List.getElem_cons_succ, List.getElem_cons_zero]
            refine wpAnyH_take (i := 17) (oi := _) (v := Value.pointer (some ⟨gi, k * 2, none⟩)) rfl (by kernel_rfl) (by kernel_rfl) (by kernel_rfl) (fun _ _ _ h => h) (Or.inl ⟨by rfl, fun w' hSw => ?_⟩) hHeld ?_
            · obtain ⟨t0, t1, t2, t3, t4, t5⟩ := hSw
              go_simp
              try simp [*]
              try (intro hh; exfalso; omega)
              try omega
            try simp only [Act.put, List.setIfInBounds_toArray, List.set_cons_zero, List.set_cons_succ, List.getElem_toArray, List.getElem_cons_succ, List.getElem_cons_zero]
            refine wpAnyH_take (i := 18) (oi := _) (v := Value.pointer (some ⟨gi, k * 2 + 1, none⟩)) rfl (by kernel_rfl) (by kernel_rfl) (by kernel_rfl) (fun _ _ _ h => h) (Or.inl ⟨by rfl, fun w' hSw => ?_⟩) hHeld ?_
            · obtain ⟨t0, t1, t2, t3, t4, t5⟩ := hSw
              go_simp
              try simp [*]
              try (intro hh; exfalso; omega)
              try omega
            try simp only [Act.put, List.setIfInBounds_toArray, List.set_cons_zero, List.set_cons_succ, List.getElem_toArray, List.getElem_cons_succ, List.getElem_cons_zero]
            refine wpAnyH_take (i := 19) (oi := _) (v := Value.int .i64 c1) rfl (by kernel_rfl) (by kernel_rfl) (by kernel_rfl) (fun _ _ _ h => h) (Or.inl ⟨by rfl, fun w' hSw => ?_⟩) hHeld ?_
            · obtain ⟨t0, t1, t2, t3, t4, t5⟩ := hSw
              go_simp
              try simp [*]
              try (intro hh; exfalso; omega)
              try omega
            try simp only [Act.put, List.setIfInBounds_toArray, List.set_cons_zero, List.set_cons_succ, List.getElem_toArray, List.getElem_cons_succ, List.getElem_cons_zero]
            refine wpAnyH_take (i := 20) (oi := _) (v := Value.bool false) rfl (by kernel_rfl) (by kernel_rfl) (by kernel_rfl) (fun _ _ _ h => h) (Or.inl ⟨by rfl, fun w' hSw => ?_⟩) hHeld ?_
            · obtain ⟨t0, t1, t2, t3, t4, t5⟩ := hSw
              go_simp
              try simp [*]
              try (intro hh; exfalso; omega)
              try omega
            try simp only [Act.put, List.setIfInBounds_toArray, List.set_cons_zero, List.set_cons_succ, List.getElem_toArray, List.getElem_cons_succ, List.getElem_cons_zero]
            refine wpAnyH_take (i := 21) (oi := _) (v := Value.bool false) rfl (by kernel_rfl) (by kernel_rfl) (by kernel_rfl) (fun _ _ _ h => h) (Or.inl ⟨by rfl, fun w' hSw => ?_⟩) hHeld ?_
            · obtain ⟨t0, t1, t2, t3, t4, t5⟩ := hSw
              go_simp
              try simp [*]
              try (intro hh; exfalso; omega)
              try omega
            try simp only [Act.put, List.setIfInBounds_toArray, List.set_cons_zero, List.set_cons_succ, List.getElem_toArray, List.getElem_cons_succ, List.getElem_cons_zero]
            refine wpAnyH_take (i := 22) (oi := _) (v := Value.bool false) rfl (by kernel_rfl) (by kernel_rfl) (by kernel_rfl) (fun _ _ _ h => h) (Or.inl ⟨by rfl, fun w' hSw => ?_⟩) hHeld ?_
            · obtain ⟨t0, t1, t2, t3, t4, t5⟩ := hSw
              go_simp
              try simp [*]
              try (intro hh; exfalso; omega)
              try omega
            try simp only [Act.put, List.setIfInBounds_toArray, List.set_cons_zero, List.set_cons_succ, List.getElem_toArray, List.getElem_cons_succ, List.getElem_cons_zero]
            refine wpAnyH_take (i := 23) (oi := _) (v := Value.slice (some ⟨W1.heap.size, 0, none⟩) n n) rfl (by kernel_rfl) (by kernel_rfl) (by kernel_rfl) (fun _ _ _ h => h) (Or.inl ⟨by rfl, fun w' hSw => ?_⟩) hHeld ?_
            · obtain ⟨t0, t1, t2, t3, t4, t5⟩ := hSw
              go_simp
              try simp [*]
              try (intro hh; exfalso; omega)
              try omega
            try simp only [Act.put, List.setIfInBounds_toArray, List.set_cons_zero, List.set_cons_succ, List.getElem_toArray, List.getElem_cons_succ, List.getElem_cons_zero]
            refine wpAnyH_take (i := 24) (oi := _) (v := Value.int .i64 (k : Int)) rfl (by kernel_rfl) (by kernel_rfl) (by kernel_rfl) (fun _ _ _ h => h) (Or.inl ⟨by rfl, fun w' hSw => ?_⟩) hHeld ?_
            · obtain ⟨t0, t1, t2, t3, t4, t5⟩ := hSw
              go_simp
              try simp [*]
              try (intro hh; exfalso; omega)
              try omega
            try simp only [Act.put, List.setIfInBounds_toArray, List.set_cons_zero, List.set_cons_succ, List.getElem_toArray, List.getElem_cons_succ, List.getElem_cons_zero]
            refine wpAnyH_take (i := 25) (oi := _) (v := Value.pointer (some ⟨W1.heap.size, k, none⟩)) rfl (by kernel_rfl) (by kernel_rfl) (by kernel_rfl) (fun _ _ _ h => h) (Or.inl ⟨by rfl, fun w' hSw => ?_⟩) hHeld ?_
            · obtain ⟨t0, t1, t2, t3, t4, t5⟩ := hSw
              go_simp
              try simp [*]
              try (intro hh; exfalso; omega)
              try omega
            try simp only [Act.put, List.setIfInBounds_toArray, List.set_cons_zero, List.set_cons_succ, List.getElem_toArray, List.getElem_cons_succ, List.getElem_cons_zero]
            refine wpAnyH_take (i := 26) (oi := _) (v := Value.int .i64 t1) rfl (by kernel_rfl) (by kernel_rfl) (by kernel_rfl) (fun _ _ _ h => h) (Or.inl ⟨by rfl, fun w' hSw => ?_⟩) hHeld ?_
            · obtain ⟨t0, t1, t2, t3, t4, t5⟩ := hSw
              go_simp
              try simp [*]
              try (intro hh; exfalso; omega)
              try omega
            try simp only [Act.put, List.setIfInBounds_toArray, List.set_cons_zero, List.set_cons_succ, List.getElem_toArray, List.getElem_cons_succ, List.getElem_cons_zero]
            refine wpAnyH_take (i := 27) (oi := _) (v := Value.slice (some ⟨gv, 0, none⟩) n n) rfl (by kernel_rfl) (by kernel_rfl) (by kernel_rfl) (fun _ _ _ h => h) (Or.inl ⟨by rfl, fun w' hSw => ?_⟩) hHeld ?_
            · obtain ⟨t0, t1, t2, t3, t4, t5⟩ := hSw
              go_simp
              try simp [*]
              try (intro hh; exfalso; omega)
              try omega
            try simp only [Act.put, List.setIfInBounds_toArray, List.set_cons_zero, List.set_cons_succ, List.getElem_toArray, List.getElem_cons_succ, List.getElem_cons_zero]
            refine wpAnyH_take (i := 28) (oi := _) (v := Value.int .i64 (k : Int)) rfl (by kernel_rfl) (by kernel_rfl) (by kernel_rfl) (fun _ _ _ h => h) (Or.inl ⟨by rfl, fun w' hSw => ?_⟩) hHeld ?_
            · obtain ⟨t0, t1, t2, t3, t4, t5⟩ := hSw
              go_simp
              try simp [*]
              try (intro hh; exfalso; omega)
              try omega
            try simp only [Act.put, List.setIfInBounds_toArray, List.set_cons_zero, List.set_cons_succ, List.getElem_toArray, List.getElem_cons_succ, List.getElem_cons_zero]
            refine wpAnyH_take (i := 29) (oi := _) (v := Value.pointer (some ⟨gv, k * 2, none⟩)) rfl (by kernel_rfl) (by kernel_rfl) (by kernel_rfl) (fun _ _ _ h => h) (Or.inl ⟨by rfl, fun w' hSw => ?_⟩) hHeld ?_
            · obtain ⟨t0, t1, t2, t3, t4, t5⟩ := hSw
              go_simp
              try simp [*]
              try (intro hh; exfalso; omega)
              try omega
            try simp only [Act.put, List.setIfInBounds_toArray, List.set_cons_zero, List.set_cons_succ, List.getElem_toArray, List.getElem_cons_succ, List.getElem_cons_zero]
            refine wpAnyH_take (i := 30) (oi := _) (v := Value.pointer (some ⟨gv, k * 2, none⟩)) rfl (by kernel_rfl) (by kernel_rfl) (by kernel_rfl) (fun _ _ _ h => h) (Or.inl ⟨by rfl, fun w' hSw => ?_⟩) hHeld ?_
            · obtain ⟨t0, t1, t2, t3, t4, t5⟩ := hSw
              go_simp
              try simp [*]
              try (intro hh; exfalso; omega)
              try omega
            try simp only [Act.put, List.setIfInBounds_toArray, List.set_cons_zero, List.set_cons_succ, List.getElem_toArray, List.getElem_cons_succ, List.getElem_cons_zero]
            refine wpAnyH_take (i := 31) (oi := _) (v := Value.int .i64 y0) rfl (by kernel_rfl) (by kernel_rfl) (by kernel_rfl) (fun _ _ _ h => h) (Or.inl ⟨by rfl, fun w' hSw => ?_⟩) hHeld ?_
            · obtain ⟨t0, t1, t2, t3, t4, t5⟩ := hSw
              go_simp
              try simp [*]
              try (intro hh; exfalso; omega)
              try omega
            try simp only [Act.put, List.setIfInBounds_toArray, List.set_cons_zero, List.set_cons_succ, List.getElem_toArray, List.getElem_cons_succ, List.getElem_cons_zero]
            refine wpAnyH_take (i := 32) (oi := _) (v := Value.int .i64 (1000 * y0)) rfl (by kernel_rfl) (by kernel_rfl) (by kernel_rfl) (fun _ _ _ h => h) (Or.inl ⟨by rfl, fun w' hSw => ?_⟩) hHeld ?_
            · obtain ⟨t0, t1, t2, t3, t4, t5⟩ := hSw
              go_simp
              try simp [*]
              try (intro hh; exfalso; omega)
              try omega
            try simp only [Act.put, List.setIfInBounds_toArray, List.set_cons_zero, List.set_cons_succ, List.getElem_toArray, List.getElem_cons_succ, List.getElem_cons_zero]
            refine wpAnyH_take (i := 33) (oi := _) (v := Value.bool false) rfl (by kernel_rfl) (by kernel_rfl) (by kernel_rfl) (fun _ _ _ h => h) (Or.inl ⟨by rfl, fun w' hSw => ?_⟩) hHeld ?_
            · obtain ⟨t0, t1, t2, t3, t4, t5⟩ := hSw
              go_simp
              try simp [*]
              try (intro hh; exfalso; omega)
              try omega
            try simp only [Act.put, List.setIfInBounds_toArray, List.set_cons_zero, List.set_cons_succ, List.getElem_toArray, List.getElem_cons_succ, List.getElem_cons_zero]
            refine wpAnyH_take (i := 34) (oi := _) (v := Value.bool false) rfl (by kernel_rfl) (by kernel_rfl) (by kernel_rfl) (fun _ _ _ h => h) (Or.inl ⟨by rfl, fun w' hSw => ?_⟩) hHeld ?_
            · obtain ⟨t0, t1, t2, t3, t4, t5⟩ := hSw
              go_simp
              try simp [*]
              try (intro hh; exfalso; omega)
              try omega
            try simp only [Act.put, List.setIfInBounds_toArray, List.set_cons_zero, List.set_cons_succ, List.getElem_toArray, List.getElem_cons_succ, List.getElem_cons_zero]
            refine wpAnyH_take (i := 35) (oi := _) (v := Value.bool false) rfl (by kernel_rfl) (by kernel_rfl) (by kernel_rfl) (fun _ _ _ h => h) (Or.inl ⟨by rfl, fun w' hSw => ?_⟩) hHeld ?_
            · obtain ⟨t0, t1, t2, t3, t4, t5⟩ := hSw
              go_simp
              try simp [*]
              try (intro hh; exfalso; omega)
              try omega
            try simp only [Act.put, List.setIfInBounds_toArray, List.set_cons_zero, List.set_cons_succ, List.getElem_toArray, List.getElem_cons_succ, List.getElem_cons_zero]
            refine wpAnyH_take (i := 36) (oi := _) (v := Value.slice (some ⟨W1.heap.size, 0, none⟩) n n) rfl (by kernel_rfl) (by kernel_rfl) (by kernel_rfl) (fun _ _ _ h => h) (Or.inl ⟨by rfl, fun w' hSw => ?_⟩) hHeld ?_
            · obtain ⟨t0, t1, t2, t3, t4, t5⟩ := hSw
              go_simp
              try simp [*]
              try (intro hh; exfalso; omega)
              try omega
            try simp only [Act.put, List.setIfInBounds_toArray, List.set_cons_zero, List.set_cons_succ, List.getElem_toArray, List.getElem_cons_succ, List.getElem_cons_zero]
            refine wpAnyH_take (i := 37) (oi := _) (v := Value.int .i64 (k : Int)) rfl (by kernel_rfl) (by kernel_rfl) (by kernel_rfl) (fun _ _ _ h => h) (Or.inl ⟨by rfl, fun w' hSw => ?_⟩) hHeld ?_
            · obtain ⟨t0, t1, t2, t3, t4, t5⟩ := hSw
              go_simp
              try simp [*]
              try (intro hh; exfalso; omega)
              try omega
            try simp only [Act.put, List.setIfInBounds_toArray, List.set_cons_zero, List.set_cons_succ, List.getElem_toArray, List.getElem_cons_succ, List.getElem_cons_zero]
            refine wpAnyH_take (i := 38) (oi := _) (v := Value.pointer (some ⟨W1.heap.size, k, none⟩)) rfl (by kernel_rfl) (by kernel_rfl) (by kernel_rfl) (fun _ _ _ h => h) (Or.inl ⟨by rfl, fun w' hSw => ?_⟩) hHeld ?_
            · obtain ⟨t0, t1, t2, t3, t4, t5⟩ := hSw
              go_simp
              try simp [*]
              try (intro hh; exfalso; omega)
              try omega
            try simp only [Act.put, List.setIfInBounds_toArray, List.set_cons_zero, List.set_cons_succ, List.getElem_toArray, List.getElem_cons_succ, List.getElem_cons_zero]
            refine wpAnyH_take (i := 39) (oi := _) (v := Value.int .i64 t1) rfl (by kernel_rfl) (by kernel_rfl) (by kernel_rfl) (fun _ _ _ h => h) (Or.inl ⟨by rfl, fun w' hSw => ?_⟩) hHeld ?_
            · obtain ⟨t0, t1, t2, t3, t4, t5⟩ := hSw
              go_simp
              try simp [*]
              try (intro hh; exfalso; omega)
              try omega
            try simp only [Act.put, List.setIfInBounds_toArray, List.set_cons_zero, List.set_cons_succ, List.getElem_toArray, List.getElem_cons_succ, List.getElem_cons_zero]
            refine wpAnyH_take (i := 40) (oi := _) (v := Value.slice (some ⟨gv, 0, none⟩) n n) rfl (by kernel_rfl) (by kernel_rfl) (by kernel_rfl) (fun _ _ _ h => h) (Or.inl ⟨by rfl, fun w' hSw => ?_⟩) hHeld ?_
            · obtain ⟨t0, t1, t2, t3, t4, t5⟩ := hSw
              go_simp
              try simp [*]
              try (intro hh; exfalso; omega)
              try omega
            try simp only [Act.put, List.setIfInBounds_toArray, List.set_cons_zero, List.set_cons_succ, List.getElem_toArray, List.getElem_cons_succ, List.getElem_cons_zero]
            refine wpAnyH_take (i := 41) (oi := _) (v := Value.int .i64 (k : Int)) rfl (by kernel_rfl) (by kernel_rfl) (by kernel_rfl) (fun _ _ _ h => h) (Or.inl ⟨by rfl, fun w' hSw => ?_⟩) hHeld ?_
            · obtain ⟨t0, t1, t2, t3, t4, t5⟩ := hSw
              go_simp
              try simp [*]
              try (intro hh; exfalso; omega)
              try omega
            try simp only [Act.put, List.setIfInBounds_toArray, List.set_cons_zero, List.set_cons_succ, List.getElem_toArray, List.getElem_cons_succ, List.getElem_cons_zero]
            refine wpAnyH_take (i := 42) (oi := _) (v := Value.pointer (some ⟨gv, k * 2, none⟩)) rfl (by kernel_rfl) (by kernel_rfl) (by kernel_rfl) (fun _ _ _ h => h) (Or.inl ⟨by rfl, fun w' hSw => ?_⟩) hHeld ?_
            · obtain ⟨t0, t1, t2, t3, t4, t5⟩ := hSw
              go_simp
              try simp [*]
              try (intro hh; exfalso; omega)
              try omega
            try simp only [Act.put, List.setIfInBounds_toArray, List.set_cons_zero, List.set_cons_succ, List.getElem_toArray, List.getElem_cons_succ, List.getElem_cons_zero]
            refine wpAnyH_take (i := 43) (oi := _) (v := Value.pointer (some ⟨gv, k * 2 + 1, none⟩)) rfl (by kernel_rfl) (by kernel_rfl) (by kernel_rfl) (fun _ _ _ h => h) (Or.inl ⟨by rfl, fun w' hSw => ?_⟩) hHeld ?_
            · obtain ⟨t0, t1, t2, t3, t4, t5⟩ := hSw
              go_simp
              try simp [*]
              try (intro hh; exfalso; omega)
              try omega
            try simp only [Act.put, List.setIfInBounds_toArray, List.set_cons_zero, List.set_cons_succ, List.getElem_toArray, List.getElem_cons_succ, List.getElem_cons_zero]
            refine wpAnyH_take (i := 44) (oi := _) (v := Value.int .i64 y1) rfl (by kernel_rfl) (by kernel_rfl) (by kernel_rfl) (fun _ _ _ h => h) (Or.inl ⟨by rfl, fun w' hSw => ?_⟩) hHeld ?_
            · obtain ⟨t0, t1, t2, t3, t4, t5⟩ := hSw
              go_simp
              try simp [*]
              try (intro hh; exfalso; omega)
              try omega
            try simp only [Act.put, List.setIfInBounds_toArray, List.set_cons_zero, List.set_cons_succ, List.getElem_toArray, List.getElem_cons_succ, List.getElem_cons_zero]
            refine wpAnyH_take (i := 45) (oi := _) (v := Value.int .i64 (1000 * y1)) rfl (by kernel_rfl) (by kernel_rfl) (by kernel_rfl) (fun _ _ _ h => h) (Or.inl ⟨by rfl, fun w' hSw => ?_⟩) hHeld ?_
            · obtain ⟨t0, t1, t2, t3, t4, t5⟩ := hSw
              go_simp
              try simp [*]
              try (intro hh; exfalso; omega)
              try omega
            try simp only [Act.put, List.setIfInBounds_toArray, List.set_cons_zero, List.set_cons_succ, List.getElem_toArray, List.getElem_cons_succ, List.getElem_cons_zero]
            refine wpAnyH_take (i := 46) (oi := _) (v := Value.bool false) rfl (by kernel_rfl) (by kernel_rfl) (by kernel_rfl) (fun _ _ _ h => h) (Or.inl ⟨by rfl, fun w' hSw => ?_⟩) hHeld ?_
            · obtain ⟨t0, t1, t2, t3, t4, t5⟩ := hSw
              go_simp
              try simp [*]
              try (intro hh; exfalso; omega)
              try omega
            try simp only [Act.put, List.setIfInBounds_toArray, List.set_cons_zero, List.set_cons_succ, List.getElem_toArray, List.getElem_cons_succ, List.getElem_cons_zero]
            refine wpAnyH_take (i := 47) (oi := _) (v := Value.bool false) rfl (by kernel_rfl) (by kernel_rfl) (by kernel_rfl) (fun _ _ _ h => h) (Or.inl ⟨by rfl, fun w' hSw => ?_⟩) hHeld ?_
            · obtain ⟨t0, t1, t2, t3, t4, t5⟩ := hSw
              go_simp
              try simp [*]
              try (intro hh; exfalso; omega)
              try omega
            try simp only [Act.put, List.setIfInBounds_toArray, List.set_cons_zero, List.set_cons_succ, List.getElem_toArray, List.getElem_cons_succ, List.getElem_cons_zero]
            refine wpAnyH_done (by kernel_rfl) ?_ _
            clear hHeld
            go_wp2_with fail
            go_roundw
            case rel => exact ⟨k + 1, by omega, by go_num, HRY.out, HBY.out⟩
            case measure => simp [intOf]; omega
          · have hk1 : (0 : Int) < (k : Int) := by omega
            have hpt := HPT.out k (by omega)
            have hpe := HPE.out k hkn (by omega)
            have hvp := HVP.out k (by omega)
            have hfr := HFR.out k hkn
            have hvq := HVT.out (par ns k) (by omega)
            obtain ⟨f0, -⟩ := HROWS.out _ HBK.out
            obtain ⟨⟨_, _, x2⟩, hbz⟩ := KW.out _ (HB.out.trans (HBK.out.mono HB.out.size))
            obtain ⟨n0, n1, n2, -⟩ := HC.out _ k hbz hkn
            have tp := HRK.out.cell (j := par ns k) (by omega)
            rw [if_pos (by omega)] at tp
            have HBw := Lib.hid hbz
            have cA := Lib.hid (fun Z (h : Below W2.heap.size W2 Z) => cO.out k Z (HBw.out.trans (h.mono HBw.out.size)))
            have cP := Lib.hid (show ∀ Z, Calls Try.prog 51 #[.agg #[.int .i64 (nd ns k).ol, .int .i64 (nd ns k).oh], .int .u8 (atV os k)] Z fun e Z' => e = .returned (.int .i64 (RT k)) ∧ Below Z.heap.size Z Z' from fun Z => by
              have q := HLD.out k hkn
              have t := HAT.out k
              rw [← HRT0.out k]
              exact pick_any _ _ _ q.1.2.1 q.1.1 (by have := q.1.2.2; omega) t.2.1 t.2.2 Z)
            have KT := Lib.hid (show ∀ Y, Below W2.heap.size W2 Y → (Y.cell? ⟨w.heap.size, 2, none⟩ = some (Value.slice (some ⟨nb, off, none⟩) n cap) ∧ Y.cell? ⟨nb, off + k * 8, none⟩ = some (Value.int .i64 (nd ns k).par) ∧ Y.cell? ⟨nb, off + k * 8 + 1, none⟩ = some (Value.int .i64 (nd ns k).ol) ∧ Y.cell? ⟨nb, off + k * 8 + 2, none⟩ = some (Value.int .i64 (nd ns k).oh) ∧ Y.cell? ⟨w3.heap.size, k, none⟩ = some (Value.int .i64 (FT k)) ∧ Y.cell? ⟨W1.heap.size, par ns k, none⟩ = some (Value.int .i64 (VT (par ns k)))) from fun Y h => by
              have hy := HBK.out.trans (h.mono HBK.out.size)
              obtain ⟨⟨_, _, x2⟩, hz⟩ := KW.out _ (HB.out.trans (hy.mono HB.out.size))
              obtain ⟨n0, n1, n2, -⟩ := HC.out _ k hz hkn
              have tp := (HRK.out.keep h).cell (j := par ns k) (by omega)
              rw [if_pos (by omega)] at tp
              exact ⟨x2, n0, n1, n2, (HROWS.out _ hy).1, tp⟩)
            have KG := Lib.hid (show ∀ Y, Below W2.heap.size W2 Y → Y.cell? ⟨W1.heap.size, k, none⟩ = some (.int .i64 (if k = 0 ∨ k < k then VT k else 0)) ∧ Y.frozen? ⟨W1.heap.size, k, none⟩ = false from fun Y h => ⟨(HRK.out.keep h).cell hkn, (HRK.out.keep h).froz k⟩)
            have HN5 := Lib.hid (show ∀ Y, Below W2.heap.size W2 Y → RowC (Y.setCell ⟨W1.heap.size, k, none⟩ (.int .i64 (VT (par ns k) - FT k * RT k))) W1.heap.size 2 n (fun j => .int .i64 (if j = 0 ∨ j < k + 1 then VT j else 0)) ∧ Below W1.heap.size W1 (Y.setCell ⟨W1.heap.size, k, none⟩ (.int .i64 (VT (par ns k) - FT k * RT k))) from fun Y h => by
              refine ⟨((HRK.out.keep h).set k _).ext fun j hj => ?_, (HBK.out.trans (h.mono HBK.out.size)).setCell (p := ⟨W1.heap.size, k, none⟩) (Nat.le_refl _) _⟩
              by_cases e : j = k
              · subst e
                rw [if_pos rfl, if_pos (by omega), ← hvp]
              · rw [if_neg e]
                by_cases e2 : j = 0 ∨ j < k
                · rw [if_pos e2, if_pos (by omega)]
                · rw [if_neg e2, if_neg (by omega)])
            have hwm : IntKind.wrap .i64 (FT k * RT k) = FT k * RT k := by rw [IntKind.wrap_i64]; omega
            have hws : IntKind.wrap .i64 (VT (par ns k) - FT k * RT k) = VT (par ns k) - FT k * RT k := by rw [IntKind.wrap_i64]; omega
            have hws2 : wrap64 (VT (par ns k) - FT k * RT k) = VT (par ns k) - FT k * RT k := by unfold wrap64; omega
            have hwm2 : wrap64 (FT k * RT k) = FT k * RT k := by unfold wrap64; omega
            rw [hpe] at n0 KT
            have HFK := Lib.hid (show ∀ P : Int → Prop, P (FT k) → P (FT k) from fun _ h => h)
            clear hvp hfr hvq hbz hpe HFK
            generalize hat : atV os k = at0 at *
            clear hat
            generalize (nd ns k).ol = xol at *
            generalize (nd ns k).oh = xoh at *
            generalize RT k = r1 at *
            generalize VT (par ns k) = v1 at *
            generalize par ns k = p at *
            have hpn : (p : Int) < (n : Int) := by omega
            go_upto_region 21 with fail
            refine wp_region_held_drew (S := fun w' => w'.cell? ⟨w.heap.size, 2, none⟩ = some (Value.slice (some ⟨nb, off, none⟩) n cap) ∧ w'.cell? ⟨nb, off + k * 8, none⟩ = some (Value.int .i64 (p : Int)) ∧ w'.cell? ⟨nb, off + k * 8 + 1, none⟩ = some (Value.int .i64 xol) ∧ w'.cell? ⟨nb, off + k * 8 + 2, none⟩ = some (Value.int .i64 xoh) ∧ w'.cell? ⟨w3.heap.size, k, none⟩ = some (Value.int .i64 (FT k)) ∧ w'.cell? ⟨W1.heap.size, p, none⟩ = some (Value.int .i64 v1)) (by kernel_rfl) ⟨by simpa [go_sem] using x2, by simpa [go_sem] using n0, by simpa [go_sem] using n1, by simpa [go_sem] using n2, by simpa [go_sem] using f0, by simpa [go_sem] using tp⟩ (fun hHeld => ?_)
            have HE0 := Lib.hid (show Below W2.heap.size W2 _ from (Below.refl W2.heap.size W2).drew)
            clear x2 n0 n1 n2 f0 tp
            refine wpAnyH_take (i := 0) (oi := _) (v := Value.slice (some ⟨W1.heap.size, 0, none⟩) n n) rfl (by kernel_rfl) (by kernel_rfl) (by kernel_rfl) (fun _ _ _ h => h) (Or.inl ⟨by rfl, fun w' hSw => ?_⟩) hHeld ?_
            · obtain ⟨t0, t1, t2, t3, t4, t5⟩ := hSw
              go_simp
              try simp [*]
              try (intro hh; exfalso; omega)
              try omega
            try simp only [Act.put, List.setIfInBounds_toArray, List.set_cons_zero, List.set_cons_succ, List.getElem_toArray, List.getElem_cons_succ, List.getElem_cons_zero]
            refine wpAnyH_take (i := 1) (oi := _) (v := Value.int .i64 (k : Int)) rfl (by kernel_rfl) (by kernel_rfl) (by kernel_rfl) (fun _ _ _ h => h) (Or.inl ⟨by rfl, fun w' hSw => ?_⟩) hHeld ?_
            · obtain ⟨t0, t1, t2, t3, t4, t5⟩ := hSw
              go_simp
              try simp [*]
              try (intro hh; exfalso; omega)
              try omega
            try simp only [Act.put, List.setIfInBounds_toArray, List.set_cons_zero, List.set_cons_succ, List.getElem_toArray, List.getElem_cons_succ, List.getElem_cons_zero]
            refine wpAnyH_take (i := 2) (oi := _) (v := Value.slice (some ⟨W1.heap.size, 0, none⟩) n n) rfl (by kernel_rfl) (by kernel_rfl) (by kernel_rfl) (fun _ _ _ h => h) (Or.inl ⟨by rfl, fun w' hSw => ?_⟩) hHeld ?_
            · obtain ⟨t0, t1, t2, t3, t4, t5⟩ := hSw
              go_simp
              try simp [*]
              try (intro hh; exfalso; omega)
              try omega
            try simp only [Act.put, List.setIfInBounds_toArray, List.set_cons_zero, List.set_cons_succ, List.getElem_toArray, List.getElem_cons_succ, List.getElem_cons_zero]
            refine wpAnyH_take (i := 3) (oi := _) (v := Value.pointer (some ⟨w.heap.size, 2, none⟩)) rfl (by kernel_rfl) (by kernel_rfl) (by kernel_rfl) (fun _ _ _ h => h) (Or.inl ⟨by rfl, fun w' hSw => ?_⟩) hHeld ?_
            · obtain ⟨t0, t1, t2, t3, t4, t5⟩ := hSw
              go_simp
              try simp [*]
              try (intro hh; exfalso; omega)
              try omega
            try simp only [Act.put, List.setIfInBounds_toArray, List.set_cons_zero, List.set_cons_succ, List.getElem_toArray, List.getElem_cons_succ, List.getElem_cons_zero]
            refine wpAnyH_take (i := 4) (oi := _) (v := Value.slice (some ⟨nb, off, none⟩) n cap) rfl (by kernel_rfl) (by kernel_rfl) (by kernel_rfl) (fun _ _ _ h => h) (Or.inl ⟨by rfl, fun w' hSw => ?_⟩) hHeld ?_
            · obtain ⟨t0, t1, t2, t3, t4, t5⟩ := hSw
              go_simp
              try simp [*]
              try (intro hh; exfalso; omega)
              try omega
            try simp only [Act.put, List.setIfInBounds_toArray, List.set_cons_zero, List.set_cons_succ, List.getElem_toArray, List.getElem_cons_succ, List.getElem_cons_zero]
            refine wpAnyH_take (i := 5) (oi := _) (v := Value.int .i64 (k : Int)) rfl (by kernel_rfl) (by kernel_rfl) (by kernel_rfl) (fun _ _ _ h => h) (Or.inl ⟨by rfl, fun w' hSw => ?_⟩) hHeld ?_
            · obtain ⟨t0, t1, t2, t3, t4, t5⟩ := hSw
              go_simp
              try simp [*]
              try (intro hh; exfalso; omega)
              try omega
            try simp only [Act.put, List.setIfInBounds_toArray, List.set_cons_zero, List.set_cons_succ, List.getElem_toArray, List.getElem_cons_succ, List.getElem_cons_zero]
            refine wpAnyH_take (i := 6) (oi := _) (v := Value.pointer (some ⟨nb, off + k * 8, none⟩)) rfl (by kernel_rfl) (by kernel_rfl) (by kernel_rfl) (fun _ _ _ h => h) (Or.inl ⟨by rfl, fun w' hSw => ?_⟩) hHeld ?_
            · obtain ⟨t0, t1, t2, t3, t4, t5⟩ := hSw
              go_simp
              try simp [*]
              try (intro hh; exfalso; omega)
              try omega
            try simp only [Act.put, List.setIfInBounds_toArray, List.set_cons_zero, List.set_cons_succ, List.getElem_toArray, List.getElem_cons_succ, List.getElem_cons_zero]
            refine wpAnyH_take (i := 7) (oi := _) (v := Value.pointer (some ⟨nb, off + k * 8, none⟩)) rfl (by kernel_rfl) (by kernel_rfl) (by kernel_rfl) (fun _ _ _ h => h) (Or.inl ⟨by rfl, fun w' hSw => ?_⟩) hHeld ?_
            · obtain ⟨t0, t1, t2, t3, t4, t5⟩ := hSw
              go_simp
              try simp [*]
              try (intro hh; exfalso; omega)
              try omega
            try simp only [Act.put, List.setIfInBounds_toArray, List.set_cons_zero, List.set_cons_succ, List.getElem_toArray, List.getElem_cons_succ, List.getElem_cons_zero]
            refine wpAnyH_take (i := 8) (oi := _) (v := Value.int .i64 (p : Int)) rfl (by kernel_rfl) (by kernel_rfl) (by kernel_rfl) (fun _ _ _ h => h) (Or.inl ⟨by rfl, fun w' hSw => ?_⟩) hHeld ?_
            · obtain ⟨t0, t1, t2, t3, t4, t5⟩ := hSw
              go_simp
              try simp [*]
              try (intro hh; exfalso; omega)
              try omega
            try simp only [Act.put, List.setIfInBounds_toArray, List.set_cons_zero, List.set_cons_succ, List.getElem_toArray, List.getElem_cons_succ, List.getElem_cons_zero]
            refine wpAnyH_take (i := 9) (oi := _) (v := Value.pointer (some ⟨W1.heap.size, p, none⟩)) rfl (by kernel_rfl) (by kernel_rfl) (by kernel_rfl) (fun _ _ _ h => h) (Or.inl ⟨by rfl, fun w' hSw => ?_⟩) hHeld ?_
            · obtain ⟨t0, t1, t2, t3, t4, t5⟩ := hSw
              go_simp
              try simp [*]
              try (intro hh; exfalso; omega)
              try omega
            try simp only [Act.put, List.setIfInBounds_toArray, List.set_cons_zero, List.set_cons_succ, List.getElem_toArray, List.getElem_cons_succ, List.getElem_cons_zero]
            refine wpAnyH_take (i := 10) (oi := _) (v := Value.int .i64 v1) rfl (by kernel_rfl) (by kernel_rfl) (by kernel_rfl) (fun _ _ _ h => h) (Or.inl ⟨by rfl, fun w' hSw => ?_⟩) hHeld ?_
            · obtain ⟨t0, t1, t2, t3, t4, t5⟩ := hSw
              go_simp
              try simp [*]
              try (intro hh; exfalso; omega)
              try omega
            try simp only [Act.put, List.setIfInBounds_toArray, List.set_cons_zero, List.set_cons_succ, List.getElem_toArray, List.getElem_cons_succ, List.getElem_cons_zero]
            refine wpAnyH_take (i := 11) (oi := _) (v := Value.slice (some ⟨w3.heap.size, 0, none⟩) n n) rfl (by kernel_rfl) (by kernel_rfl) (by kernel_rfl) (fun _ _ _ h => h) (Or.inl ⟨by rfl, fun w' hSw => ?_⟩) hHeld ?_
            · obtain ⟨t0, t1, t2, t3, t4, t5⟩ := hSw
              go_simp
              try simp [*]
              try (intro hh; exfalso; omega)
              try omega
            try simp only [Act.put, List.setIfInBounds_toArray, List.set_cons_zero, List.set_cons_succ, List.getElem_toArray, List.getElem_cons_succ, List.getElem_cons_zero]
            refine wpAnyH_take (i := 12) (oi := _) (v := Value.int .i64 (k : Int)) rfl (by kernel_rfl) (by kernel_rfl) (by kernel_rfl) (fun _ _ _ h => h) (Or.inl ⟨by rfl, fun w' hSw => ?_⟩) hHeld ?_
            · obtain ⟨t0, t1, t2, t3, t4, t5⟩ := hSw
              go_simp
              try simp [*]
              try (intro hh; exfalso; omega)
              try omega
            try simp only [Act.put, List.setIfInBounds_toArray, List.set_cons_zero, List.set_cons_succ, List.getElem_toArray, List.getElem_cons_succ, List.getElem_cons_zero]
            refine wpAnyH_take (i := 13) (oi := _) (v := Value.pointer (some ⟨w3.heap.size, k, none⟩)) rfl (by kernel_rfl) (by kernel_rfl) (by kernel_rfl) (fun _ _ _ h => h) (Or.inl ⟨by rfl, fun w' hSw => ?_⟩) hHeld ?_
            · obtain ⟨t0, t1, t2, t3, t4, t5⟩ := hSw
              go_simp
              try simp [*]
              try (intro hh; exfalso; omega)
              try omega
            try simp only [Act.put, List.setIfInBounds_toArray, List.set_cons_zero, List.set_cons_succ, List.getElem_toArray, List.getElem_cons_succ, List.getElem_cons_zero]
            refine wpAnyH_take (i := 14) (oi := _) (v := Value.int .i64 (FT k)) rfl (by kernel_rfl) (by kernel_rfl) (by kernel_rfl) (fun _ _ _ h => h) (Or.inl ⟨by rfl, fun w' hSw => ?_⟩) hHeld ?_
            · obtain ⟨t0, t1, t2, t3, t4, t5⟩ := hSw
              go_simp
              try simp [*]
              try (intro hh; exfalso; omega)
              try omega
            try simp only [Act.put, List.setIfInBounds_toArray, List.set_cons_zero, List.set_cons_succ, List.getElem_toArray, List.getElem_cons_succ, List.getElem_cons_zero]
            refine wpAnyH_take (i := 15) (oi := _) (v := Value.pointer (some ⟨w.heap.size, 2, none⟩)) rfl (by kernel_rfl) (by kernel_rfl) (by kernel_rfl) (fun _ _ _ h => h) (Or.inl ⟨by rfl, fun w' hSw => ?_⟩) hHeld ?_
            · obtain ⟨t0, t1, t2, t3, t4, t5⟩ := hSw
              go_simp
              try simp [*]
              try (intro hh; exfalso; omega)
              try omega
            try simp only [Act.put, List.setIfInBounds_toArray, List.set_cons_zero, List.set_cons_succ, List.getElem_toArray, List.getElem_cons_succ, List.getElem_cons_zero]
            refine wpAnyH_take (i := 16) (oi := _) (v := Value.slice (some ⟨nb, off, none⟩) n cap) rfl (by kernel_rfl) (by kernel_rfl) (by kernel_rfl) (fun _ _ _ h => h) (Or.inl ⟨by rfl, fun w' hSw => ?_⟩) hHeld ?_
            · obtain ⟨t0, t1, t2, t3, t4, t5⟩ := hSw
              go_simp
              try simp [*]
              try (intro hh; exfalso; omega)
              try omega
            try simp only [Act.put, List.setIfInBounds_toArray, List.set_cons_zero, List.set_cons_succ, List.getElem_toArray, List.getElem_cons_succ, List.getElem_cons_zero]
            refine wpAnyH_take (i := 17) (oi := _) (v := Value.int .i64 (k : Int)) rfl (by kernel_rfl) (by kernel_rfl) (by kernel_rfl) (fun _ _ _ h => h) (Or.inl ⟨by rfl, fun w' hSw => ?_⟩) hHeld ?_
            · obtain ⟨t0, t1, t2, t3, t4, t5⟩ := hSw
              go_simp
              try simp [*]
              try (intro hh; exfalso; omega)
              try omega
            try simp only [Act.put, List.setIfInBounds_toArray, List.set_cons_zero, List.set_cons_succ, List.getElem_toArray, List.getElem_cons_succ, List.getElem_cons_zero]
            refine wpAnyH_take (i := 18) (oi := _) (v := Value.pointer (some ⟨nb, off + k * 8, none⟩)) rfl (by kernel_rfl) (by kernel_rfl) (by kernel_rfl) (fun _ _ _ h => h) (Or.inl ⟨by rfl, fun w' hSw => ?_⟩) hHeld ?_
            · obtain ⟨t0, t1, t2, t3, t4, t5⟩ := hSw
              go_simp
              try simp [*]
              try (intro hh; exfalso; omega)
              try omega
            try simp only [Act.put, List.setIfInBounds_toArray, List.set_cons_zero, List.set_cons_succ, List.getElem_toArray, List.getElem_cons_succ, List.getElem_cons_zero]
            refine wpAnyH_take (i := 19) (oi := _) (v := Value.pointer (some ⟨nb, off + k * 8 + 1, none⟩)) rfl (by kernel_rfl) (by kernel_rfl) (by kernel_rfl) (fun _ _ _ h => h) (Or.inl ⟨by rfl, fun w' hSw => ?_⟩) hHeld ?_
            · obtain ⟨t0, t1, t2, t3, t4, t5⟩ := hSw
              go_simp
              try simp [*]
              try (intro hh; exfalso; omega)
              try omega
            try simp only [Act.put, List.setIfInBounds_toArray, List.set_cons_zero, List.set_cons_succ, List.getElem_toArray, List.getElem_cons_succ, List.getElem_cons_zero]
            refine wpAnyH_take (i := 20) (oi := _) (v := Value.agg #[Value.int .i64 xol, Value.int .i64 xoh]) rfl (by kernel_rfl) (by kernel_rfl) (by kernel_rfl) (fun _ _ _ h => h) (Or.inl ⟨by rfl, fun w' hSw => ?_⟩) hHeld ?_
            · obtain ⟨t0, t1, t2, t3, t4, t5⟩ := hSw
              go_simp
              try simp [*]
              try (intro hh; exfalso; omega)
              try omega
            try simp only [Act.put, List.setIfInBounds_toArray, List.set_cons_zero, List.set_cons_succ, List.getElem_toArray, List.getElem_cons_succ, List.getElem_cons_zero]
            refine wpAnyH_take (i := 21) (oi := _) (v := Value.slice oa no oc) rfl (by kernel_rfl) (by kernel_rfl) (by kernel_rfl) (fun _ _ _ h => h) (Or.inl ⟨by rfl, fun w' hSw => ?_⟩) hHeld ?_
            · obtain ⟨t0, t1, t2, t3, t4, t5⟩ := hSw
              go_simp
              try simp [*]
              try (intro hh; exfalso; omega)
              try omega
            try simp only [Act.put, List.setIfInBounds_toArray, List.set_cons_zero, List.set_cons_succ, List.getElem_toArray, List.getElem_cons_succ, List.getElem_cons_zero]
            refine wpAnyH_take (i := 22) (oi := _) (v := Value.int .i64 (k : Int)) rfl (by kernel_rfl) (by kernel_rfl) (by kernel_rfl) (fun _ _ _ h => h) (Or.inl ⟨by rfl, fun w' hSw => ?_⟩) hHeld ?_
            · obtain ⟨t0, t1, t2, t3, t4, t5⟩ := hSw
              go_simp
              try simp [*]
              try (intro hh; exfalso; omega)
              try omega
            try simp only [Act.put, List.setIfInBounds_toArray, List.set_cons_zero, List.set_cons_succ, List.getElem_toArray, List.getElem_cons_succ, List.getElem_cons_zero]
            refine wpAnyH_ready (rs := [23]) (by kernel_rfl) (by simp) ?_
            refine AllReadyH.cons (o := _) rfl (fun K hK => ?_) AllReadyH.nil
            go_simp
            go_at_call 52
            refine Calls.mono (cA.out _ HE0.out) ?_
            rintro e v23 ⟨rfl, rfl⟩
            clear hHeld
            refine hK.out _ _ (KT.out _ HE0.out) (fun hHeld => ?_)
            clear hK K
            try simp only [Act.put, List.setIfInBounds_toArray, List.set_cons_zero, List.set_cons_succ, List.getElem_toArray, List.getElem_cons_succ, List.getElem_cons_zero]
            refine wpAnyH_ready (rs := [24]) (by kernel_rfl) (by simp) ?_
            refine AllReadyH.cons (o := _) rfl (fun K hK => ?_) AllReadyH.nil
            go_simp
            go_at_call 51
            refine Calls.mono (cP.out _) ?_
            rintro e v24 ⟨rfl, hb⟩
            have HE2 := Lib.hid (HE0.out.trans (hb.mono HE0.out.size))
            clear hb
            clear hHeld
            refine hK.out _ _ (KT.out _ HE2.out) (fun hHeld => ?_)
            clear hK K
            try simp only [Act.put, List.setIfInBounds_toArray, List.set_cons_zero, List.set_cons_succ, List.getElem_toArray, List.getElem_cons_succ, List.getElem_cons_zero]
            refine wpAnyH_take (i := 25) (oi := _) (v := Value.int .i64 (FT k * r1)) rfl (by kernel_rfl) (by kernel_rfl) (by kernel_rfl) (fun _ _ _ h => h) (Or.inl ⟨by rfl, fun w' hSw => ?_⟩) hHeld ?_
            · obtain ⟨t0, t1, t2, t3, t4, t5⟩ := hSw
              go_simp
              try simp [*]
              try (intro hh; exfalso; omega)
              try omega
            try simp only [Act.put, List.setIfInBounds_toArray, List.set_cons_zero, List.set_cons_succ, List.getElem_toArray, List.getElem_cons_succ, List.getElem_cons_zero]
            refine wpAnyH_take (i := 26) (oi := _) (v := Value.int .i64 (v1 - FT k * r1)) rfl (by kernel_rfl) (by kernel_rfl) (by kernel_rfl) (fun _ _ _ h => h) (Or.inl ⟨by rfl, fun w' hSw => ?_⟩) hHeld ?_
            · obtain ⟨t0, t1, t2, t3, t4, t5⟩ := hSw
              go_simp
              try simp [*]
              try (intro hh; exfalso; omega)
              try omega
            try simp only [Act.put, List.setIfInBounds_toArray, List.set_cons_zero, List.set_cons_succ, List.getElem_toArray, List.getElem_cons_succ, List.getElem_cons_zero]
            refine wpAnyH_take (i := 27) (oi := _) (v := Value.pointer (some ⟨W1.heap.size, k, none⟩)) rfl (by kernel_rfl) (by kernel_rfl) (by kernel_rfl) (fun _ _ _ h => h) (Or.inl ⟨by rfl, fun w' hSw => ?_⟩) hHeld ?_
            · obtain ⟨t0, t1, t2, t3, t4, t5⟩ := hSw
              go_simp
              try simp [*]
              try (intro hh; exfalso; omega)
              try omega
            try simp only [Act.put, List.setIfInBounds_toArray, List.set_cons_zero, List.set_cons_succ, List.getElem_toArray, List.getElem_cons_succ, List.getElem_cons_zero]
            obtain ⟨fz, ff⟩ := KG.out _ HE2.out
            obtain ⟨s0, s1, s2, s3, s4, s5⟩ := KT.out _ HE2.out
            have e1 : ¬ w.heap.size = W1.heap.size := by omega
            have e2 : ¬ nb = W1.heap.size := by omega
            have e3 : ¬ w3.heap.size = W1.heap.size := by omega
            have e4 : ¬ p = k := by omega
            refine wpAnyH_ready (rs := [28]) (by kernel_rfl) (by simp) ?_
            refine AllReadyH.cons (o := _) rfl (fun K hK => ?_) AllReadyH.nil
            go_simp
            clear hHeld
            refine hK.out _ _ ⟨by simp [go_sem, *], by simp [go_sem, *], by simp [go_sem, *], by simp [go_sem, *], by simp [go_sem, *], by simp [go_sem, *]⟩ (fun hHeld => ?_)
            clear hK K
            try simp only [Act.put, List.setIfInBounds_toArray, List.set_cons_zero, List.set_cons_succ, List.getElem_toArray, List.getElem_cons_succ, List.getElem_cons_zero]
            refine wpAnyH_done (by kernel_rfl) ?_ _
            clear hHeld
            obtain ⟨hr5, hb5⟩ := HN5.out _ HE2.out
            generalize v24.setCell ⟨W1.heap.size, k, none⟩ (Value.int .i64 (v1 - FT k * r1)) = Z at *
            have HRN := Lib.hid hr5
            have HBZ := Lib.hid hb5
            clear hr5 hb5 ff fz s0 s1 s2 s3 s4 s5
            obtain ⟨f0, i0, i1, u0, u1⟩ := HROWS.out _ HBZ.out
            have tk := HRN.out.cell (j := k) hkn
            rw [if_pos (by omega)] at tk
            have HBY := Lib.hid (show Below W1.heap.size W1 Z.drew from HBZ.out.trans (((Below.refl Z.heap.size Z).drew).mono HBZ.out.size))
            have HRY := Lib.hid (HRN.out.drew)
            clear hvt hfl HROWS
            generalize FT k = f1 at *
            generalize curL ns k = c0 at *
            generalize curH ns k = c1 at *
            generalize (VO k).1 = y0 at *
            generalize (VO k).2 = y1 at *
            generalize hvk : VT k = t1 at *
            clear hvk
            go_upto_region 22 with fail
            refine wp_region_held_drew (S := fun w' => w'.cell? ⟨w3.heap.size, k, none⟩ = some (Value.int .i64 f1) ∧ w'.cell? ⟨gi, k * 2, none⟩ = some (Value.int .i64 c0) ∧ w'.cell? ⟨gi, k * 2 + 1, none⟩ = some (Value.int .i64 c1) ∧ w'.cell? ⟨gv, k * 2, none⟩ = some (Value.int .i64 y0) ∧ w'.cell? ⟨gv, k * 2 + 1, none⟩ = some (Value.int .i64 y1) ∧ w'.cell? ⟨W1.heap.size, k, none⟩ = some (Value.int .i64 t1)) (by kernel_rfl) ⟨by simpa [go_sem] using f0, by simpa [go_sem] using i0, by simpa [go_sem] using i1, by simpa [go_sem] using u0, by simpa [go_sem] using u1, by simpa [go_sem] using tk⟩ (fun hHeld => ?_)
            refine wpAnyH_take (i := 0) (oi := _) (v := Value.slice (some ⟨w3.heap.size, 0, none⟩) n n) rfl (by kernel_rfl) (by kernel_rfl) (by kernel_rfl) (fun _ _ _ h => h) (Or.inl ⟨by rfl, fun w' hSw => ?_⟩) hHeld ?_
            · obtain ⟨t0, t1, t2, t3, t4, t5⟩ := hSw
              go_simp
              try simp [*]
              try (intro hh; exfalso; omega)
              try omega
            try simp only [Act.put, List.setIfInBounds_toArray, List.set_cons_zero, List.set_cons_succ, List.getElem_toArray, List.getElem_cons_succ, List.getElem_cons_zero]
            refine wpAnyH_take (i := 1) (oi := _) (v := Value.int .i64 (k : Int)) rfl (by kernel_rfl) (by kernel_rfl) (by kernel_rfl) (fun _ _ _ h => h) (Or.inl ⟨by rfl, fun w' hSw => ?_⟩) hHeld ?_
            · obtain ⟨t0, t1, t2, t3, t4, t5⟩ := hSw
              go_simp
              try simp [*]
              try (intro hh; exfalso; omega)
              try omega
            try simp only [Act.put, List.setIfInBounds_toArray, List.set_cons_zero, List.set_cons_succ, List.getElem_toArray, List.getElem_cons_succ, List.getElem_cons_zero]
            refine wpAnyH_take (i := 2) (oi := _) (v := Value.pointer (some ⟨w3.heap.size, k, none⟩)) rfl (by kernel_rfl) (by kernel_rfl) (by kernel_rfl) (fun _ _ _ h => h) (Or.inl ⟨by rfl, fun w' hSw => ?_⟩) hHeld ?_
            · obtain ⟨t0, t1, t2, t3, t4, t5⟩ := hSw
              go_simp
              try simp [*]
              try (intro hh; exfalso; omega)
              try omega
            try simp only [Act.put, List.setIfInBounds_toArray, List.set_cons_zero, List.set_cons_succ, List.getElem_toArray, List.getElem_cons_succ, List.getElem_cons_zero]
            refine wpAnyH_take (i := 3) (oi := _) (v := Value.int .i64 f1) rfl (by kernel_rfl) (by kernel_rfl) (by kernel_rfl) (fun _ _ _ h => h) (Or.inl ⟨by rfl, fun w' hSw => ?_⟩) hHeld ?_
            · obtain ⟨t0, t1, t2, t3, t4, t5⟩ := hSw
              go_simp
              try simp [*]
              try (intro hh; exfalso; omega)
              try omega
            try simp only [Act.put, List.setIfInBounds_toArray, List.set_cons_zero, List.set_cons_succ, List.getElem_toArray, List.getElem_cons_succ, List.getElem_cons_zero]
            refine wpAnyH_take (i := 4) (oi := _) (v := Value.slice (some ⟨gi, 0, none⟩) n n) rfl (by kernel_rfl) (by kernel_rfl) (by kernel_rfl) (fun _ _ _ h => h) (Or.inl ⟨by rfl, fun w' hSw => ?_⟩) hHeld ?_
            · obtain ⟨t0, t1, t2, t3, t4, t5⟩ := hSw
              go_simp
              try simp [*]
              try (intro hh; exfalso; omega)
              try omega
            try simp only [Act.put, List.setIfInBounds_toArray, List.set_cons_zero, List.set_cons_succ, List.getElem_toArray, List.getElem_cons_succ, List.getElem_cons_zero]
            refine wpAnyH_take (i := 5) (oi := _) (v := Value.int .i64 (k : Int)) rfl (by kernel_rfl) (by kernel_rfl) (by kernel_rfl) (fun _ _ _ h => h) (Or.inl ⟨by rfl, fun w' hSw => ?_⟩) hHeld ?_
            · obtain ⟨t0, t1, t2, t3, t4, t5⟩ := hSw
              go_simp
              try simp [*]
              try (intro hh; exfalso; omega)
              try omega
            try simp only [Act.put, List.setIfInBounds_toArray, List.set_cons_zero, List.set_cons_succ, List.getElem_toArray, List.getElem_cons_succ, List.getElem_cons_zero]
            refine wpAnyH_take (i := 6) (oi := _) (v := Value.pointer (some ⟨gi, k * 2, none⟩)) rfl (by kernel_rfl) (by kernel_rfl) (by kernel_rfl) (fun _ _ _ h => h) (Or.inl ⟨by rfl, fun w' hSw => ?_⟩) hHeld ?_
            · obtain ⟨t0, t1, t2, t3, t4, t5⟩ := hSw
              go_simp
              try simp [*]
              try (intro hh; exfalso; omega)
              try omega
            try simp only [Act.put, List.setIfInBounds_toArray, List.set_cons_zero, List.set_cons_succ, List.getElem_toArray, List.getElem_cons_succ, List.getElem_cons_zero]
            refine wpAnyH_take (i := 7) (oi := _) (v := Value.pointer (some ⟨gi, k * 2, none⟩)) rfl (by kernel_rfl) (by kernel_rfl) (by kernel_rfl) (fun _ _ _ h => h) (Or.inl ⟨by rfl, fun w' hSw => ?_⟩) hHeld ?_
            · obtain ⟨t0, t1, t2, t3, t4, t5⟩ := hSw
              go_simp
              try simp [*]
              try (intro hh; exfalso; omega)
              try omega
            try simp only [Act.put, List.setIfInBounds_toArray, List.set_cons_zero, List.set_cons_succ, List.getElem_toArray, List.getElem_cons_succ, List.getElem_cons_zero]
            refine wpAnyH_take (i := 8) (oi := _) (v := Value.int .i64 c0) rfl (by kernel_rfl) (by kernel_rfl) (by kernel_rfl) (fun _ _ _ h => h) (Or.inl ⟨by rfl, fun w' hSw => ?_⟩) hHeld ?_
            · obtain ⟨t0, t1, t2, t3, t4, t5⟩ := hSw
              go_simp
              try simp [*]
              try (intro hh; exfalso; omega)
              try omega
            try simp only [Act.put, List.setIfInBounds_toArray, List.set_cons_zero, List.set_cons_succ, List.getElem_toArray, List.getElem_cons_succ, List.getElem_cons_zero]
            refine wpAnyH_take (i := 9) (oi := _) (v := Value.bool false) rfl (by kernel_rfl) (by kernel_rfl) (by kernel_rfl) (fun _ _ _ h => h) (Or.inl ⟨by rfl, fun w' hSw => ?_⟩) hHeld ?_
            · obtain ⟨t0, t1, t2, t3, t4, t5⟩ := hSw
              go_simp
              try simp [*]
              try (intro hh; exfalso; omega)
              try omega
            try simp only [Act.put, List.setIfInBounds_toArray, List.set_cons_zero, List.set_cons_succ, List.getElem_toArray, List.getElem_cons_succ, List.getElem_cons_zero]
            refine wpAnyH_take (i := 10) (oi := _) (v := Value.bool false) rfl (by kernel_rfl) (by kernel_rfl) (by kernel_rfl) (fun _ _ _ h => h) (Or.inl ⟨by rfl, fun w' hSw => ?_⟩) hHeld ?_
            · obtain ⟨t0, t1, t2, t3, t4, t5⟩ := hSw
              go_simp
              try simp [*]
              try (intro hh; exfalso; omega)
              try omega
            try simp only [Act.put, List.setIfInBounds_toArray, List.set_cons_zero, List.set_cons_succ, List.getElem_toArray, List.getElem_cons_succ, List.getElem_cons_zero]
            refine wpAnyH_take (i := 11) (oi := _) (v := Value.slice (some ⟨w3.heap.size, 0, none⟩) n n) rfl (by kernel_rfl) (by kernel_rfl) (by kernel_rfl) (fun _ _ _ h => h) (Or.inl ⟨by rfl, fun w' hSw => ?_⟩) hHeld ?_
            · obtain ⟨t0, t1, t2, t3, t4, t5⟩ := hSw
              go_simp
              try simp [*]
              try (intro hh; exfalso; omega)
              try omega
            try simp only [Act.put, List.setIfInBounds_toArray, List.set_cons_zero, List.set_cons_succ, List.getElem_toArray, List.getElem_cons_succ, List.getElem_cons_zero]
            refine wpAnyH_take (i := 12) (oi := _) (v := Value.int .i64 (k : Int)) rfl (by kernel_rfl) (by kernel_rfl) (by kernel_rfl) (fun _ _ _ h => h) (Or.inl ⟨by rfl, fun w' hSw => ?_⟩) hHeld ?_
            · obtain ⟨t0, t1, t2, t3, t4, t5⟩ := hSw
              go_simp
              try simp [*]
              try (intro hh; exfalso; omega)
              try omega
            try simp only [Act.put, List.setIfInBounds_toArray, List.set_cons_zero, List.set_cons_succ, List.getElem_toArray, List.getElem_cons_succ, List.getElem_cons_zero]
            refine wpAnyH_take (i := 13) (oi := _) (v := Value.pointer (some ⟨w3.heap.size, k, none⟩)) rfl (by kernel_rfl) (by kernel_rfl) (by kernel_rfl) (fun _ _ _ h => h) (Or.inl ⟨by rfl, fun w' hSw => ?_⟩) hHeld ?_
            · obtain ⟨t0, t1, t2, t3, t4, t5⟩ := hSw
              go_simp
              try simp [*]
              try (intro hh; exfalso; omega)
              try omega
            try simp only [Act.put, List.setIfInBounds_toArray, List.set_cons_zero, List.set_cons_succ, List.getElem_toArray, List.getElem_cons_succ, List.getElem_cons_zero]
            refine wpAnyH_take (i := 14) (oi := _) (v := Value.int .i64 f1) rfl (by kernel_rfl) (by kernel_rfl) (by kernel_rfl) (fun _ _ _ h => h) (Or.inl ⟨by rfl, fun w' hSw => ?_⟩) hHeld ?_
            · obtain ⟨t0, t1, t2, t3, t4, t5⟩ := hSw
              go_simp
              try simp [*]
              try (intro hh; exfalso; omega)
              try omega
            try simp only [Act.put, List.setIfInBounds_toArray, List.set_cons_zero, List.set_cons_succ, List.getElem_toArray, List.getElem_cons_succ, List.getElem_cons_zero]
            refine wpAnyH_take (i := 15) (oi := _) (v := Value.slice (some ⟨gi, 0, none⟩) n n) rfl (by kernel_rfl) (by kernel_rfl) (by kernel_rfl) (fun _ _ _ h => h) (Or.inl ⟨by rfl, fun w' hSw => ?_⟩) hHeld ?_
            · obtain ⟨t0, t1, t2, t3, t4, t5⟩ := hSw
              go_simp
              try simp [*]
              try (intro hh; exfalso; omega)
              try omega
            try simp only [Act.put, List.setIfInBounds_toArray, List.set_cons_zero, List.set_cons_succ, List.getElem_toArray, List.getElem_cons_succ, List.getElem_cons_zero]
            refine wpAnyH_take (i := 16) (oi := _) (v := Value.int .i64 (k : Int)) rfl (by kernel_rfl) (by kernel_rfl) (by kernel_rfl) (fun _ _ _ h => h) (Or.inl ⟨by rfl, fun w' hSw => ?_⟩) hHeld ?_
            · obtain ⟨t0, t1, t2, t3, t4, t5⟩ := hSw
              go_simp
              try simp [*]
              try (intro hh; exfalso; omega)
              try omega
            try simp only [Act.put, List.setIfInBounds_toArray, List.set_cons_zero, List.set_cons_succ, List.getElem_toArray, List.getElem_cons_succ, List.getElem_cons_zero]
            refine wpAnyH_take (i := 17) (oi := _) (v := Value.pointer (some ⟨gi, k * 2, none⟩)) rfl (by kernel_rfl) (by kernel_rfl) (by kernel_rfl) (fun _ _ _ h => h) (Or.inl ⟨by rfl, fun w' hSw => ?_⟩) hHeld ?_
            · obtain ⟨t0, t1, t2, t3, t4, t5⟩ := hSw
              go_simp
              try simp [*]
              try (intro hh; exfalso; omega)
              try omega
            try simp only [Act.put, List.setIfInBounds_toArray, List.set_cons_zero, List.set_cons_succ, List.getElem_toArray, List.getElem_cons_succ, List.getElem_cons_zero]
            refine wpAnyH_take (i := 18) (oi := _) (v := Value.pointer (some ⟨gi, k * 2 + 1, none⟩)) rfl (by kernel_rfl) (by kernel_rfl) (by kernel_rfl) (fun _ _ _ h => h) (Or.inl ⟨by rfl, fun w' hSw => ?_⟩) hHeld ?_
            · obtain ⟨t0, t1, t2, t3, t4, t5⟩ := hSw
              go_simp
              try simp [*]
              try (intro hh; exfalso; omega)
              try omega
            try simp only [Act.put, List.setIfInBounds_toArray, List.set_cons_zero, List.set_cons_succ, List.getElem_toArray, List.getElem_cons_succ, List.getElem_cons_zero]
            refine wpAnyH_take (i := 19) (oi := _) (v := Value.int .i64 c1) rfl (by kernel_rfl) (by kernel_rfl) (by kernel_rfl) (fun _ _ _ h => h) (Or.inl ⟨by rfl, fun w' hSw => ?_⟩) hHeld ?_
            · obtain ⟨t0, t1, t2, t3, t4, t5⟩ := hSw
              go_simp
              try simp [*]
              try (intro hh; exfalso; omega)
              try omega
            try simp only [Act.put, List.setIfInBounds_toArray, List.set_cons_zero, List.set_cons_succ, List.getElem_toArray, List.getElem_cons_succ, List.getElem_cons_zero]
            refine wpAnyH_take (i := 20) (oi := _) (v := Value.bool false) rfl (by kernel_rfl) (by kernel_rfl) (by kernel_rfl) (fun _ _ _ h => h) (Or.inl ⟨by rfl, fun w' hSw => ?_⟩) hHeld ?_
            · obtain ⟨t0, t1, t2, t3, t4, t5⟩ := hSw
              go_simp
              try simp [*]
              try (intro hh; exfalso; omega)
              try omega
            try simp only [Act.put, List.setIfInBounds_toArray, List.set_cons_zero, List.set_cons_succ, List.getElem_toArray, List.getElem_cons_succ, List.getElem_cons_zero]
            refine wpAnyH_take (i := 21) (oi := _) (v := Value.bool false) rfl (by kernel_rfl) (by kernel_rfl) (by kernel_rfl) (fun _ _ _ h => h) (Or.inl ⟨by rfl, fun w' hSw => ?_⟩) hHeld ?_
            · obtain ⟨t0, t1, t2, t3, t4, t5⟩ := hSw
              go_simp
              try simp [*]
              try (intro hh; exfalso; omega)
              try omega
            try simp only [Act.put, List.setIfInBounds_toArray, List.set_cons_zero, List.set_cons_succ, List.getElem_toArray, List.getElem_cons_succ, List.getElem_cons_zero]
            refine wpAnyH_take (i := 22) (oi := _) (v := Value.bool false) rfl (by kernel_rfl) (by kernel_rfl) (by kernel_rfl) (fun _ _ _ h => h) (Or.inl ⟨by rfl, fun w' hSw => ?_⟩) hHeld ?_
            · obtain ⟨t0, t1, t2, t3, t4, t5⟩ := hSw
              go_simp
              try simp [*]
              try (intro hh; exfalso; omega)
              try omega
            try simp only [Act.put, List.setIfInBounds_toArray, List.set_cons_zero, List.set_cons_succ, List.getElem_toArray, List.getElem_cons_succ, List.getElem_cons_zero]
            refine wpAnyH_take (i := 23) (oi := _) (v := Value.slice (some ⟨W1.heap.size, 0, none⟩) n n) rfl (by kernel_rfl) (by kernel_rfl) (by kernel_rfl) (fun _ _ _ h => h) (Or.inl ⟨by rfl, fun w' hSw => ?_⟩) hHeld ?_
            · obtain ⟨t0, t1, t2, t3, t4, t5⟩ := hSw
              go_simp
              try simp [*]
              try (intro hh; exfalso; omega)
              try omega
            try simp only [Act.put, List.setIfInBounds_toArray, List.set_cons_zero, List.set_cons_succ, List.getElem_toArray, List.getElem_cons_succ, List.getElem_cons_zero]
            refine wpAnyH_take (i := 24) (oi := _) (v := Value.int .i64 (k : Int)) rfl (by kernel_rfl) (by kernel_rfl) (by kernel_rfl) (fun _ _ _ h => h) (Or.inl ⟨by rfl, fun w' hSw => ?_⟩) hHeld ?_
            · obtain ⟨t0, t1, t2, t3, t4, t5⟩ := hSw
              go_simp
              try simp [*]
              try (intro hh; exfalso; omega)
              try omega
            try simp only [Act.put, List.setIfInBounds_toArray, List.set_cons_zero, List.set_cons_succ, List.getElem_toArray, List.getElem_cons_succ, List.getElem_cons_zero]
            refine wpAnyH_take (i := 25) (oi := _) (v := Value.pointer (some ⟨W1.heap.size, k, none⟩)) rfl (by kernel_rfl) (by kernel_rfl) (by kernel_rfl) (fun _ _ _ h => h) (Or.inl ⟨by rfl, fun w' hSw => ?_⟩) hHeld ?_
            · obtain ⟨t0, t1, t2, t3, t4, t5⟩ := hSw
              go_simp
              try simp [*]
              try (intro hh; exfalso; omega)
              try omega
            try simp only [Act.put, List.setIfInBounds_toArray, List.set_cons_zero, List.set_cons_succ, List.getElem_toArray, List.getElem_cons_succ, List.getElem_cons_zero]
            refine wpAnyH_take (i := 26) (oi := _) (v := Value.int .i64 t1) rfl (by kernel_rfl) (by kernel_rfl) (by kernel_rfl) (fun _ _ _ h => h) (Or.inl ⟨by rfl, fun w' hSw => ?_⟩) hHeld ?_
            · obtain ⟨t0, t1, t2, t3, t4, t5⟩ := hSw
              go_simp
              try simp [*]
              try (intro hh; exfalso; omega)
              try omega
            try simp only [Act.put, List.setIfInBounds_toArray, List.set_cons_zero, List.set_cons_succ, List.getElem_toArray, List.getElem_cons_succ, List.getElem_cons_zero]
            refine wpAnyH_take (i := 27) (oi := _) (v := Value.slice (some ⟨gv, 0, none⟩) n n) rfl (by kernel_rfl) (by kernel_rfl) (by kernel_rfl) (fun _ _ _ h => h) (Or.inl ⟨by rfl, fun w' hSw => ?_⟩) hHeld ?_
            · obtain ⟨t0, t1, t2, t3, t4, t5⟩ := hSw
              go_simp
              try simp [*]
              try (intro hh; exfalso; omega)
              try omega
            try simp only [Act.put, List.setIfInBounds_toArray, List.set_cons_zero, List.set_cons_succ, List.getElem_toArray, List.getElem_cons_succ, List.getElem_cons_zero]
            refine wpAnyH_take (i := 28) (oi := _) (v := Value.int .i64 (k : Int)) rfl (by kernel_rfl) (by kernel_rfl) (by kernel_rfl) (fun _ _ _ h => h) (Or.inl ⟨by rfl, fun w' hSw => ?_⟩) hHeld ?_
            · obtain ⟨t0, t1, t2, t3, t4, t5⟩ := hSw
              go_simp
              try simp [*]
              try (intro hh; exfalso; omega)
              try omega
            try simp only [Act.put, List.setIfInBounds_toArray, List.set_cons_zero, List.set_cons_succ, List.getElem_toArray, List.getElem_cons_succ, List.getElem_cons_zero]
            refine wpAnyH_take (i := 29) (oi := _) (v := Value.pointer (some ⟨gv, k * 2, none⟩)) rfl (by kernel_rfl) (by kernel_rfl) (by kernel_rfl) (fun _ _ _ h => h) (Or.inl ⟨by rfl, fun w' hSw => ?_⟩) hHeld ?_
            · obtain ⟨t0, t1, t2, t3, t4, t5⟩ := hSw
              go_simp
              try simp [*]
              try (intro hh; exfalso; omega)
              try omega
            try simp only [Act.put, List.setIfInBounds_toArray, List.set_cons_zero, List.set_cons_succ, List.getElem_toArray, List.getElem_cons_succ, List.getElem_cons_zero]
            refine wpAnyH_take (i := 30) (oi := _) (v := Value.pointer (some ⟨gv, k * 2, none⟩)) rfl (by kernel_rfl) (by kernel_rfl) (by kernel_rfl) (fun _ _ _ h => h) (Or.inl ⟨by rfl, fun w' hSw => ?_⟩) hHeld ?_
            · obtain ⟨t0, t1, t2, t3, t4, t5⟩ := hSw
              go_simp
              try simp [*]
              try (intro hh; exfalso; omega)
              try omega
            try simp only [Act.put, List.setIfInBounds_toArray, List.set_cons_zero, List.set_cons_succ, List.getElem_toArray, List.getElem_cons_succ, List.getElem_cons_zero]
            refine wpAnyH_take (i := 31) (oi := _) (v := Value.int .i64 y0) rfl (by kernel_rfl) (by kernel_rfl) (by kernel_rfl) (fun _ _ _ h => h) (Or.inl ⟨by rfl, fun w' hSw => ?_⟩) hHeld ?_
            · obtain ⟨t0, t1, t2, t3, t4, t5⟩ := hSw
              go_simp
              try simp [*]
              try (intro hh; exfalso; omega)
              try omega
            try simp only [Act.put, List.setIfInBounds_toArray, List.set_cons_zero, List.set_cons_succ, List.getElem_toArray, List.getElem_cons_succ, List.getElem_cons_zero]
            refine wpAnyH_take (i := 32) (oi := _) (v := Value.int .i64 (1000 * y0)) rfl (by kernel_rfl) (by kernel_rfl) (by kernel_rfl) (fun _ _ _ h => h) (Or.inl ⟨by rfl, fun w' hSw => ?_⟩) hHeld ?_
            · obtain ⟨t0, t1, t2, t3, t4, t5⟩ := hSw
              go_simp
              try simp [*]
              try (intro hh; exfalso; omega)
              try omega
            try simp only [Act.put, List.setIfInBounds_toArray, List.set_cons_zero, List.set_cons_succ, List.getElem_toArray, List.getElem_cons_succ, List.getElem_cons_zero]
            refine wpAnyH_take (i := 33) (oi := _) (v := Value.bool false) rfl (by kernel_rfl) (by kernel_rfl) (by kernel_rfl) (fun _ _ _ h => h) (Or.inl ⟨by rfl, fun w' hSw => ?_⟩) hHeld ?_
            · obtain ⟨t0, t1, t2, t3, t4, t5⟩ := hSw
              go_simp
              try simp [*]
              try (intro hh; exfalso; omega)
              try omega
            try simp only [Act.put, List.setIfInBounds_toArray, List.set_cons_zero, List.set_cons_succ, List.getElem_toArray, List.getElem_cons_succ, List.getElem_cons_zero]
            refine wpAnyH_take (i := 34) (oi := _) (v := Value.bool false) rfl (by kernel_rfl) (by kernel_rfl) (by kernel_rfl) (fun _ _ _ h => h) (Or.inl ⟨by rfl, fun w' hSw => ?_⟩) hHeld ?_
            · obtain ⟨t0, t1, t2, t3, t4, t5⟩ := hSw
              go_simp
              try simp [*]
              try (intro hh; exfalso; omega)
              try omega
            try simp only [Act.put, List.setIfInBounds_toArray, List.set_cons_zero, List.set_cons_succ, List.getElem_toArray, List.getElem_cons_succ, List.getElem_cons_zero]
            refine wpAnyH_take (i := 35) (oi := _) (v := Value.bool false) rfl (by kernel_rfl) (by kernel_rfl) (by kernel_rfl) (fun _ _ _ h => h) (Or.inl ⟨by rfl, fun w' hSw => ?_⟩) hHeld ?_
            · obtain ⟨t0, t1, t2, t3, t4, t5⟩ := hSw
              go_simp
              try simp [*]
              try (intro hh; exfalso; omega)
              try omega
            try simp only [Act.put, List.setIfInBounds_toArray, List.set_cons_zero, List.set_cons_succ, List.getElem_toArray, List.getElem_cons_succ, List.getElem_cons_zero]
            refine wpAnyH_take (i := 36) (oi := _) (v := Value.slice (some ⟨W1.heap.size, 0, none⟩) n n) rfl (by kernel_rfl) (by kernel_rfl) (by kernel_rfl) (fun _ _ _ h => h) (Or.inl ⟨by rfl, fun w' hSw => ?_⟩) hHeld ?_
            · obtain ⟨t0, t1, t2, t3, t4, t5⟩ := hSw
              go_simp
              try simp [*]
              try (intro hh; exfalso; omega)
              try omega
            try simp only [Act.put, List.setIfInBounds_toArray, List.set_cons_zero, List.set_cons_succ, List.getElem_toArray, List.getElem_cons_succ, List.getElem_cons_zero]
            refine wpAnyH_take (i := 37) (oi := _) (v := Value.int .i64 (k : Int)) rfl (by kernel_rfl) (by kernel_rfl) (by kernel_rfl) (fun _ _ _ h => h) (Or.inl ⟨by rfl, fun w' hSw => ?_⟩) hHeld ?_
            · obtain ⟨t0, t1, t2, t3, t4, t5⟩ := hSw
              go_simp
              try simp [*]
              try (intro hh; exfalso; omega)
              try omega
            try simp only [Act.put, List.setIfInBounds_toArray, List.set_cons_zero, List.set_cons_succ, List.getElem_toArray, List.getElem_cons_succ, List.getElem_cons_zero]
            refine wpAnyH_take (i := 38) (oi := _) (v := Value.pointer (some ⟨W1.heap.size, k, none⟩)) rfl (by kernel_rfl) (by kernel_rfl) (by kernel_rfl) (fun _ _ _ h => h) (Or.inl ⟨by rfl, fun w' hSw => ?_⟩) hHeld ?_
            · obtain ⟨t0, t1, t2, t3, t4, t5⟩ := hSw
              go_simp
              try simp [*]
              try (intro hh; exfalso; omega)
              try omega
            try simp only [Act.put, List.setIfInBounds_toArray, List.set_cons_zero, List.set_cons_succ, List.getElem_toArray, List.getElem_cons_succ, List.getElem_cons_zero]
            refine wpAnyH_take (i := 39) (oi := _) (v := Value.int .i64 t1) rfl (by kernel_rfl) (by kernel_rfl) (by kernel_rfl) (fun _ _ _ h => h) (Or.inl ⟨by rfl, fun w' hSw => ?_⟩) hHeld ?_
            · obtain ⟨t0, t1, t2, t3, t4, t5⟩ := hSw
              go_simp
              try simp [*]
              try (intro hh; exfalso; omega)
              try omega
            try simp only [Act.put, List.setIfInBounds_toArray, List.set_cons_zero, List.set_cons_succ, List.getElem_toArray, List.getElem_cons_succ, List.getElem_cons_zero]
            refine wpAnyH_take (i := 40) (oi := _) (v := Value.slice (some ⟨gv, 0, none⟩) n n) rfl (by kernel_rfl) (by kernel_rfl) (by kernel_rfl) (fun _ _ _ h => h) (Or.inl ⟨by rfl, fun w' hSw => ?_⟩) hHeld ?_
            · obtain ⟨t0, t1, t2, t3, t4, t5⟩ := hSw
              go_simp
              try simp [*]
              try (intro hh; exfalso; omega)
              try omega
            try simp only [Act.put, List.setIfInBounds_toArray, List.set_cons_zero, List.set_cons_succ, List.getElem_toArray, List.getElem_cons_succ, List.getElem_cons_zero]
            refine wpAnyH_take (i := 41) (oi := _) (v := Value.int .i64 (k : Int)) rfl (by kernel_rfl) (by kernel_rfl) (by kernel_rfl) (fun _ _ _ h => h) (Or.inl ⟨by rfl, fun w' hSw => ?_⟩) hHeld ?_
            · obtain ⟨t0, t1, t2, t3, t4, t5⟩ := hSw
              go_simp
              try simp [*]
              try (intro hh; exfalso; omega)
              try omega
            try simp only [Act.put, List.setIfInBounds_toArray, List.set_cons_zero, List.set_cons_succ, List.getElem_toArray, List.getElem_cons_succ, List.getElem_cons_zero]
            refine wpAnyH_take (i := 42) (oi := _) (v := Value.pointer (some ⟨gv, k * 2, none⟩)) rfl (by kernel_rfl) (by kernel_rfl) (by kernel_rfl) (fun _ _ _ h => h) (Or.inl ⟨by rfl, fun w' hSw => ?_⟩) hHeld ?_
            · obtain ⟨t0, t1, t2, t3, t4, t5⟩ := hSw
              go_simp
              try simp [*]
              try (intro hh; exfalso; omega)
              try omega
            try simp only [Act.put, List.setIfInBounds_toArray, List.set_cons_zero, List.set_cons_succ, List.getElem_toArray, List.getElem_cons_succ, List.getElem_cons_zero]
            refine wpAnyH_take (i := 43) (oi := _) (v := Value.pointer (some ⟨gv, k * 2 + 1, none⟩)) rfl (by kernel_rfl) (by kernel_rfl) (by kernel_rfl) (fun _ _ _ h => h) (Or.inl ⟨by rfl, fun w' hSw => ?_⟩) hHeld ?_
            · obtain ⟨t0, t1, t2, t3, t4, t5⟩ := hSw
              go_simp
              try simp [*]
              try (intro hh; exfalso; omega)
              try omega
            try simp only [Act.put, List.setIfInBounds_toArray, List.set_cons_zero, List.set_cons_succ, List.getElem_toArray, List.getElem_cons_succ, List.getElem_cons_zero]
            refine wpAnyH_take (i := 44) (oi := _) (v := Value.int .i64 y1) rfl (by kernel_rfl) (by kernel_rfl) (by kernel_rfl) (fun _ _ _ h => h) (Or.inl ⟨by rfl, fun w' hSw => ?_⟩) hHeld ?_
            · obtain ⟨t0, t1, t2, t3, t4, t5⟩ := hSw
              go_simp
              try simp [*]
              try (intro hh; exfalso; omega)
              try omega
            try simp only [Act.put, List.setIfInBounds_toArray, List.set_cons_zero, List.set_cons_succ, List.getElem_toArray, List.getElem_cons_succ, List.getElem_cons_zero]
            refine wpAnyH_take (i := 45) (oi := _) (v := Value.int .i64 (1000 * y1)) rfl (by kernel_rfl) (by kernel_rfl) (by kernel_rfl) (fun _ _ _ h => h) (Or.inl ⟨by rfl, fun w' hSw => ?_⟩) hHeld ?_
            · obtain ⟨t0, t1, t2, t3, t4, t5⟩ := hSw
              go_simp
              try simp [*]
              try (intro hh; exfalso; omega)
              try omega
            try simp only [Act.put, List.setIfInBounds_toArray, List.set_cons_zero, List.set_cons_succ, List.getElem_toArray, List.getElem_cons_succ, List.getElem_cons_zero]
            refine wpAnyH_take (i := 46) (oi := _) (v := Value.bool false) rfl (by kernel_rfl) (by kernel_rfl) (by kernel_rfl) (fun _ _ _ h => h) (Or.inl ⟨by rfl, fun w' hSw => ?_⟩) hHeld ?_
            · obtain ⟨t0, t1, t2, t3, t4, t5⟩ := hSw
              go_simp
              try simp [*]
              try (intro hh; exfalso; omega)
              try omega
            try simp only [Act.put, List.setIfInBounds_toArray, List.set_cons_zero, List.set_cons_succ, List.getElem_toArray, List.getElem_cons_succ, List.getElem_cons_zero]
            refine wpAnyH_take (i := 47) (oi := _) (v := Value.bool false) rfl (by kernel_rfl) (by kernel_rfl) (by kernel_rfl) (fun _ _ _ h => h) (Or.inl ⟨by rfl, fun w' hSw => ?_⟩) hHeld ?_
            · obtain ⟨t0, t1, t2, t3, t4, t5⟩ := hSw
              go_simp
              try simp [*]
              try (intro hh; exfalso; omega)
              try omega
            try simp only [Act.put, List.setIfInBounds_toArray, List.set_cons_zero, List.set_cons_succ, List.getElem_toArray, List.getElem_cons_succ, List.getElem_cons_zero]
            refine wpAnyH_done (by kernel_rfl) ?_ _
            clear hHeld
            go_wp2_with fail
            go_roundw
            case rel => exact ⟨k + 1, by omega, by go_num, HRY.out, HBY.out⟩
            case measure => simp [intOf]; omega
        · obtain rfl : k = n := by omega
          go_wp2_with fail
          refine (fine_any _).mono ?_
          rintro e w9 ⟨rfl, hb9⟩
          have HB9 := Lib.hid (HBK.out.trans (hb9.mono HBK.out.size))
          have hz := HB.out.trans (HB9.out.mono HB.out.size)
          have HB10 := Lib.hid (HW3.out.trans (hz.mono HW3.out.size))
          clear hb9 hz
          go_wp2_with fail
          go_ret
          exact ⟨rfl, HB10.out⟩
end Go.Proofs.Ytdohfpnnmppdkaa

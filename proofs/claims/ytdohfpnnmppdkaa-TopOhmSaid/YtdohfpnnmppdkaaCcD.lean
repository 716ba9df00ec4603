/-
  Cables: whether segments are within their limits, whether nodes are fed.
-/
import Derived.Test.YtdohfpnnmppdkaaCcC
namespace Go.Proofs.Ytdohfpnnmppdkaa
open Go.RowKit Go.Shelf
set_option linter.unusedSimpArgs false
attribute [local go_sem] Oper.semAt_some
set_option maxRecDepth 100000 in
set_option maxHeartbeats 8000000 in
theorem allowed_any (sl sh : Int) (sv : Value) (ns : List Nd) (hv : ValidC sl sh ns) (w : World) (hN : Nds w.heap.size w sv ns) :
    Calls Try.prog 96 #[.agg #[.int .i64 sl, .int .i64 sh, sv]] w fun e w' => ∃ v, e = .returned v ∧ w'.ownsRow w.heap.size 66 1 v ns.length ((fL (ansW ns) ns.length).map (fun x => Value.int .i64 x)) ∧ Below w.heap.size w w' := by
  obtain ⟨i0, hi0, hz0, hz1, hz2⟩ := info_parts infoI66
  have hn0 := hv.pos
  have hl := hv.len
  have c1 := Lib.hid (fun W (h : Below w.heap.size w W) => currents_any sl sh sv ns hv W (hN.at h))
  obtain ⟨a, cap, hsv, -, hcc⟩ := hN
  obtain ⟨nb, off, hab, hnb, -⟩ := hcc 0 hn0
  subst hab
  subst hsv
  have HC := Lib.hid (show ∀ W k, Below w.heap.size w W → k < ns.length → W.cell? ⟨nb, off + k * 8 + 3, none⟩ = some (.int .i64 (nd ns k).lim) ∧ W.cell? ⟨nb, off + k * 8 + 6, none⟩ = some (.int .i64 (nd ns k).lea) from fun W k hb hk => by
    obtain ⟨b, o, h1, h2, e0, e1, e2, e3, e4, e5, e6, e7⟩ := hcc k hk
    simp only [Option.some.injEq, Addr.mk.injEq] at h1
    obtain ⟨rfl, rfl, -⟩ := h1
    exact ⟨(hb.cell (p := ⟨_, _, none⟩) h2).trans e3, (hb.cell (p := ⟨_, _, none⟩) h2).trans e6⟩)
  clear hcc hv
  generalize hnn : ns.length = n at *
  clear hnn
  obtain ⟨A, hA⟩ : ∃ A, A = w.alloc (.cells #[.int .i64 sl, .int .i64 sh, .slice (some ⟨nb, off, none⟩) n cap] 26) := ⟨_, rfl⟩
  have HBA := Lib.hid (show Below w.heap.size w A by rw [hA]; exact ((Below.refl _ _).alloc (Nat.le_refl _) _))
  have hltA : w.heap.size + 1 ≤ A.heap.size := by rw [hA]; simp
  have q0 : A.cell? ⟨w.heap.size, 0, none⟩ = some (.int .i64 sl) := by rw [hA]; exact (cellHB (World.alloc_heap_new w _) 0).trans (by simp)
  have q1 : A.cell? ⟨w.heap.size, 1, none⟩ = some (.int .i64 sh) := by rw [hA]; exact (cellHB (World.alloc_heap_new w _) 1).trans (by simp)
  have q2 : A.cell? ⟨w.heap.size, 2, none⟩ = some (.slice (some ⟨nb, off, none⟩) n cap) := by rw [hA]; exact (cellHB (World.alloc_heap_new w _) 2).trans (by simp)
  have KK := Lib.hid (show ∀ W, Below A.heap.size A W → W.cell? ⟨w.heap.size, 0, none⟩ = some (.int .i64 sl) ∧ W.cell? ⟨w.heap.size, 1, none⟩ = some (.int .i64 sh) ∧ W.cell? ⟨w.heap.size, 2, none⟩ = some (.slice (some ⟨nb, off, none⟩) n cap) from fun W h => ⟨(h.cell (p := ⟨w.heap.size, 0, none⟩) (by show w.heap.size < A.heap.size; omega)).trans q0, (h.cell (p := ⟨w.heap.size, 1, none⟩) (by show w.heap.size < A.heap.size; omega)).trans q1, (h.cell (p := ⟨w.heap.size, 2, none⟩) (by show w.heap.size < A.heap.size; omega)).trans q2⟩)
  have HLT := Lib.hid hltA
  clear hltA q0 q1 q2
  obtain ⟨k0, k1, k2⟩ := KK.out _ (Below.refl _ _)
  go_enter Try.func96, Try.ntmps96
  go_upto_region 1 with fail
  rw [← hA]
  clear hA
  go_wp2_with fail
  refine (c1.out _ HBA.out).mono ?_
  rintro e w1 ⟨g, rfl, hr, -, hb⟩
  have HB1 := Lib.hid hb
  have HSV := Lib.hid (sv_of_row hr)
  clear hr hb k0 k1 k2
  obtain ⟨k0, k1, k2⟩ := KK.out _ HB1.out
  go_wp2_with fail
  go_loopw [3, 10] (fun ov iv wr => ∃ k : Nat, k ≤ n ∧ iv = .int .i64 k ∧ wr.ownsRow w1.heap.size 66 1 ov k ((fL (ansW ns) k).map (fun x => Value.int .i64 x)) ∧ Below w1.heap.size w1 wr) (fun _ iv _ => n - (intOf iv).toNat)
  case atStart => exact ⟨0, Nat.zero_le _, rfl, World.ownsRow_nil _ _ _ _, Below.refl _ _⟩
  case round =>
    obtain ⟨k, hk, rfl, hrow, hB⟩ := hrel
    have HBR := Lib.hid hB
    have HB := Lib.hid (HB1.out.trans (hB.mono HB1.out.size))
    have HROW := Lib.hid hrow
    obtain ⟨oa, oc, rfl⟩ := own_form hrow
    clear hrow hB k0 k1 k2
    obtain ⟨k0, k1, k2⟩ := KK.out _ HB.out
    by_cases hlt : k < n
    · have hki : (k : Int) < (n : Int) := by omega
      obtain ⟨n3, n6⟩ := HC.out _ k (HBA.out.trans (HB.out.mono HBA.out.size)) hlt
      obtain ⟨qa, qc, hqe, -, hqv⟩ := HSV.out.at HBR.out
      simp only [Value.slice.injEq] at hqe
      obtain ⟨rfl, -, rfl⟩ := hqe
      obtain ⟨cb, co, hqq, hcl, u0, u1⟩ := hqv k hlt
      simp only [Option.some.injEq, Addr.mk.injEq] at hqq
      obtain ⟨rfl, rfl, -⟩ := hqq
      simp only [Nat.zero_add] at u0 u1
      clear hqv
      have HSP := Lib.hid (show (fL (ansW ns) (k + 1)).map (fun x => Value.int .i64 x) = (fL (ansW ns) k).map (fun x => Value.int .i64 x) ++ [.int .i64 (ansV (decide (curH ns k ≤ (nd ns k).lim)) (decide (curL ns k ≤ (nd ns k).lim)))] from fL_succ _ _)
      try dsimp only at u0 u1
      generalize curL ns k = cl at *
      generalize curH ns k = ch at *
      generalize (nd ns k).lim = li at *
      generalize (nd ns k).lea = le at *
      have hlw : w.heap.size < wr.heap.size ∧ nb < wr.heap.size := by have := HBA.out.size; have := HB.out.size; have := HLT.out; omega
      have KQ := Lib.hid (show ∀ Z, Below wr.heap.size wr Z → Z.cell? ⟨w.heap.size, 2, none⟩ = some (.slice (some ⟨nb, off, none⟩) n cap) ∧ Z.cell? ⟨nb, off + k * 8 + 3, none⟩ = some (.int .i64 li) ∧ Z.cell? ⟨nb, off + k * 8 + 6, none⟩ = some (.int .i64 le) from fun Z h => ⟨(h.cell (p := ⟨w.heap.size, 2, none⟩) hlw.1).trans k2, (h.cell (p := ⟨nb, _, none⟩) hlw.2).trans n3, (h.cell (p := ⟨nb, _, none⟩) hlw.2).trans n6⟩)
      obtain ⟨V, hV⟩ : ∃ V, V = wr.alloc (.cells #[.int .i64 cl, .int .i64 ch] 23) := ⟨_, rfl⟩
      have HBV := Lib.hid (show Below wr.heap.size wr V by rw [hV]; exact (Below.refl _ _).alloc (Nat.le_refl _) _)
      have HXV := Lib.hid (show Bx2 V wr.heap.size (.int .i64 cl) (.int .i64 ch) by rw [hV]; exact Bx2.new _ _ _)
      go_upto_region 5 with fail
      try rw [← hV]
      clear hV k0 k1 k2 n3 n6 u0 u1
      obtain ⟨k2, n3, n6⟩ := KQ.out _ HBV.out
      have z0 := HXV.out.c0
      have z1 := HXV.out.c1
      have HROWV := Lib.hid (own_below HROW.out HBV.out)
      have HBW := Lib.hid (HBR.out.trans (HBV.out.mono HBR.out.size))
      have HBWA := Lib.hid (HB.out.trans (HBV.out.mono HB.out.size))
      go_wp2_with fail
      refine (answer_any _ _ _).mono ?_
      rintro e w3 ⟨he, rfl⟩
      have HEQ := Lib.hid (show ansV (decide (ch ≤ li)) (decide (cl ≤ li)) = ansV (decide (ch ≤ li)) (decide (cl ≤ li)) from rfl)
      subst he
      generalize ansV (decide (ch ≤ li)) (decide (cl ≤ li)) = x at *
      go_wp2_with (at_builtin; refine wpList_append_own _ rfl _ _ 40 rfl w1.heap.size 66 i0 (.int .i64 0) 1 8 Try.underlying40 hi0 hz0 hz1 hz2 rfl (by decide) _ _ _ rfl (HROWV.out.alloc _) ⟨w3.heap.size, 0, none⟩ 1 1 [.int .i64 x] rfl rfl (one_new66 _ _) (by simp [Value.oneCell']) (by unfold maxLen; omega) (by omega) (by have := HBW.out.size; simp; omega) ?_; intro v' w5 hown' hgrow _; have HG := Lib.hid hgrow; have HO := Lib.hid hown'; obtain ⟨g', cap', rfl⟩ := ownsRow_succ hown'; clear hown' hgrow; have HB5 := Lib.hid (show Below w1.heap.size w1 w5 from (HBW.out.alloc HBW.out.size _).grown HG.out (by have := HBW.out.size; simp; omega) (fun r e => (((HROWV.out.alloc (.cells #[.int .i64 x] 66)).lt r e).1))))
      have HR5 := Lib.hid (show w5.ownsRow w1.heap.size 66 1 _ (k + 1) ((fL (ansW ns) (k + 1)).map (fun x => Value.int .i64 x)) by rw [HSP.out]; exact HO.out)
      go_roundw
      case rel => exact ⟨k + 1, by omega, by go_num, HR5.out, HB5.out⟩
      case measure => simp [intOf]; omega
    · obtain rfl : k = n := by omega
      have HR := Lib.hid (show wr.ownsRow w.heap.size 66 1 (.slice oa k oc) k _ from own_base HROW.out (Nat.le_trans HBA.out.size HB1.out.size))
      go_wp2_with fail
      go_ret
      exact ⟨_, rfl, HR.out, HBA.out.trans (HB.out.mono HBA.out.size)⟩
set_option maxHeartbeats 4000000 in
theorem within_all (sl sh : Int) (sv : Value) (ns : List Nd) (w : World) (hN : Nds w.heap.size w sv ns) :
    Calls Try.prog 33 #[.agg #[.int .i64 sl, .int .i64 sh, sv]] w (AnsR (cabE sl sh ns) ns.length (ansW ns) w) := by
  have c1 := Lib.hid (fun W (h : Below w.heap.size w W) => check25 sl sh sv ns W (hN.at h))
  have c2 := Lib.hid (fun (hv : ValidC sl sh ns) W (h : Below w.heap.size w W) => allowed_any sl sh sv ns hv W (hN.at h))
  have HV := Lib.hid (fun (h : cabE sl sh ns = 0) => cabE_ok h)
  obtain ⟨a, cap, hsv⟩ := hN.form
  subst hsv
  unfold AnsR
  clear hN
  generalize cabE sl sh ns = E at *
  generalize hnn : ns.length = n at *
  obtain ⟨A, hA⟩ : ∃ A, A = w.alloc (.cells #[.int .i64 sl, .int .i64 sh, .slice a n cap] 26) := ⟨_, rfl⟩
  have HBA := Lib.hid (show Below w.heap.size w A by rw [hA]; exact ((Below.refl _ _).alloc (Nat.le_refl _) _))
  have hltA : w.heap.size + 1 ≤ A.heap.size := by rw [hA]; simp
  have q0 : A.cell? ⟨w.heap.size, 0, none⟩ = some (.int .i64 sl) := by rw [hA]; exact (cellHB (World.alloc_heap_new w _) 0).trans (by simp)
  have q1 : A.cell? ⟨w.heap.size, 1, none⟩ = some (.int .i64 sh) := by rw [hA]; exact (cellHB (World.alloc_heap_new w _) 1).trans (by simp)
  have q2 : A.cell? ⟨w.heap.size, 2, none⟩ = some (.slice a n cap) := by rw [hA]; exact (cellHB (World.alloc_heap_new w _) 2).trans (by simp)
  have KK := Lib.hid (show ∀ W, Below A.heap.size A W → W.cell? ⟨w.heap.size, 0, none⟩ = some (.int .i64 sl) ∧ W.cell? ⟨w.heap.size, 1, none⟩ = some (.int .i64 sh) ∧ W.cell? ⟨w.heap.size, 2, none⟩ = some (.slice a n cap) from fun W h => ⟨(h.cell (p := ⟨w.heap.size, 0, none⟩) (by show w.heap.size < A.heap.size; omega)).trans q0, (h.cell (p := ⟨w.heap.size, 1, none⟩) (by show w.heap.size < A.heap.size; omega)).trans q1, (h.cell (p := ⟨w.heap.size, 2, none⟩) (by show w.heap.size < A.heap.size; omega)).trans q2⟩)
  have HLT := Lib.hid hltA
  clear hltA q0 q1 q2
  obtain ⟨k0, k1, k2⟩ := KK.out _ (Below.refl _ _)
  by_cases hE : E = 0
  rotate_left
  · have hE' : (E != 0) = true := by simpa using hE
    rw [if_neg hE]
    go_enter Try.func33, Try.ntmps33
    go_upto_region 1 with fail
    rw [← hA]
    clear hA
    go_wp2_with fail
    refine (c1.out _ HBA.out).mono ?_
    rintro e w1 ⟨rfl, hb⟩
    have HB1 := Lib.hid hb
    clear hb k0 k1 k2
    obtain ⟨k0, k1, k2⟩ := KK.out _ HB1.out
    go_wp2_with fail
    go_ret2
    exact ⟨_, rfl, il_nil _ _, HBA.out.trans (HB1.out.mono HBA.out.size)⟩
  have c3 := Lib.hid (c2.out (HV.out hE))
  subst hE
  rw [if_pos rfl]
  clear c2 HV
  go_enter Try.func33, Try.ntmps33
  go_upto_region 1 with fail
  rw [← hA]
  clear hA
  go_wp2_with fail
  refine (c1.out _ HBA.out).mono ?_
  rintro e w1 ⟨rfl, hb⟩
  have HB1 := Lib.hid hb
  clear hb k0 k1 k2
  obtain ⟨k0, k1, k2⟩ := KK.out _ HB1.out
  go_wp2_with fail
  refine (c3.out _ (HBA.out.trans (HB1.out.mono HBA.out.size))).mono ?_
  rintro e w2 ⟨v, rfl, hr, hb⟩
  have HI := Lib.hid (il_of_ints hr)
  have HB2 := Lib.hid (HB1.out.trans (hb.mono HB1.out.size))
  clear hr hb
  go_wp2_with fail
  go_ret2
  exact ⟨_, rfl, by first | exact HI.out | (rw [hnn] at *; exact HI.out), HBA.out.trans (HB2.out.mono HBA.out.size)⟩
set_option maxRecDepth 100000 in
set_option maxHeartbeats 8000000 in
theorem fed_all (sl sh : Int) (sv : Value) (ns : List Nd) (w : World) (hN : Nds w.heap.size w sv ns) :
    Calls Try.prog 35 #[.agg #[.int .i64 sl, .int .i64 sh, sv]] w (AnsR (cabE sl sh ns) ns.length (ansF sl sh ns) w) := by
  obtain ⟨i0, hi0, hz0, hz1, hz2⟩ := info_parts infoI66
  have c1 := Lib.hid (fun W (h : Below w.heap.size w W) => check25 sl sh sv ns W (hN.at h))
  have c2 := Lib.hid (fun (hv : ValidC sl sh ns) W (h : Below w.heap.size w W) => voltages_any sl sh sv ns hv W (hN.at h))
  have HV := Lib.hid (fun (h : cabE sl sh ns = 0) => cabE_ok h)
  obtain ⟨a, cap, hsv, -, hcc⟩ := hN
  subst hsv
  unfold AnsR
  generalize cabE sl sh ns = E at *
  by_cases hE : E = 0
  rotate_left
  · have hE' : (E != 0) = true := by simpa using hE
    rw [if_neg hE]
    clear hcc HV c2
    generalize ns.length = n at *
    obtain ⟨A, hA⟩ : ∃ A, A = w.alloc (.cells #[.int .i64 sl, .int .i64 sh, .slice a n cap] 26) := ⟨_, rfl⟩
    have HBA := Lib.hid (show Below w.heap.size w A by rw [hA]; exact ((Below.refl _ _).alloc (Nat.le_refl _) _))
    have hltA : w.heap.size + 1 ≤ A.heap.size := by rw [hA]; simp
    have q0 : A.cell? ⟨w.heap.size, 0, none⟩ = some (.int .i64 sl) := by rw [hA]; exact (cellHB (World.alloc_heap_new w _) 0).trans (by simp)
    have q1 : A.cell? ⟨w.heap.size, 1, none⟩ = some (.int .i64 sh) := by rw [hA]; exact (cellHB (World.alloc_heap_new w _) 1).trans (by simp)
    have q2 : A.cell? ⟨w.heap.size, 2, none⟩ = some (.slice a n cap) := by rw [hA]; exact (cellHB (World.alloc_heap_new w _) 2).trans (by simp)
    have KK := Lib.hid (show ∀ W, Below A.heap.size A W → W.cell? ⟨w.heap.size, 0, none⟩ = some (.int .i64 sl) ∧ W.cell? ⟨w.heap.size, 1, none⟩ = some (.int .i64 sh) ∧ W.cell? ⟨w.heap.size, 2, none⟩ = some (.slice a n cap) from fun W h => ⟨(h.cell (p := ⟨w.heap.size, 0, none⟩) (by show w.heap.size < A.heap.size; omega)).trans q0, (h.cell (p := ⟨w.heap.size, 1, none⟩) (by show w.heap.size < A.heap.size; omega)).trans q1, (h.cell (p := ⟨w.heap.size, 2, none⟩) (by show w.heap.size < A.heap.size; omega)).trans q2⟩)
    have HLT := Lib.hid hltA
    clear hltA q0 q1 q2
    obtain ⟨k0, k1, k2⟩ := KK.out _ (Below.refl _ _)
    go_enter Try.func35, Try.ntmps35
    go_upto_region 1 with fail
    rw [← hA]
    clear hA
    go_wp2_with fail
    refine (c1.out _ HBA.out).mono ?_
    rintro e w1 ⟨rfl, hb⟩
    have HB1 := Lib.hid hb
    clear hb k0 k1 k2
    obtain ⟨k0, k1, k2⟩ := KK.out _ HB1.out
    go_wp2_with fail
    go_ret2
    exact ⟨_, rfl, il_nil _ _, HBA.out.trans (HB1.out.mono HBA.out.size)⟩
  have hv := HV.out hE
  have hn0 := hv.pos
  have hl := hv.len
  subst hE
  rw [if_pos rfl]
  obtain ⟨nb, off, hab, hnb, -⟩ := hcc 0 hn0
  subst hab
  have HC := Lib.hid (show ∀ W k, Below w.heap.size w W → k < ns.length → W.cell? ⟨nb, off + k * 8 + 3, none⟩ = some (.int .i64 (nd ns k).lim) ∧ W.cell? ⟨nb, off + k * 8 + 6, none⟩ = some (.int .i64 (nd ns k).lea) from fun W k hb hk => by
    obtain ⟨b, o, h1, h2, e0, e1, e2, e3, e4, e5, e6, e7⟩ := hcc k hk
    simp only [Option.some.injEq, Addr.mk.injEq] at h1
    obtain ⟨rfl, rfl, -⟩ := h1
    exact ⟨(hb.cell (p := ⟨_, _, none⟩) h2).trans e3, (hb.cell (p := ⟨_, _, none⟩) h2).trans e6⟩)
  have c3 := Lib.hid (c2.out hv)
  clear hcc hv c2 HV
  generalize hnn : ns.length = n at *
  clear hnn
  obtain ⟨A, hA⟩ : ∃ A, A = w.alloc (.cells #[.int .i64 sl, .int .i64 sh, .slice (some ⟨nb, off, none⟩) n cap] 26) := ⟨_, rfl⟩
  have HBA := Lib.hid (show Below w.heap.size w A by rw [hA]; exact ((Below.refl _ _).alloc (Nat.le_refl _) _))
  have hltA : w.heap.size + 1 ≤ A.heap.size := by rw [hA]; simp
  have q0 : A.cell? ⟨w.heap.size, 0, none⟩ = some (.int .i64 sl) := by rw [hA]; exact (cellHB (World.alloc_heap_new w _) 0).trans (by simp)
  have q1 : A.cell? ⟨w.heap.size, 1, none⟩ = some (.int .i64 sh) := by rw [hA]; exact (cellHB (World.alloc_heap_new w _) 1).trans (by simp)
  have q2 : A.cell? ⟨w.heap.size, 2, none⟩ = some (.slice (some ⟨nb, off, none⟩) n cap) := by rw [hA]; exact (cellHB (World.alloc_heap_new w _) 2).trans (by simp)
  have KK := Lib.hid (show ∀ W, Below A.heap.size A W → W.cell? ⟨w.heap.size, 0, none⟩ = some (.int .i64 sl) ∧ W.cell? ⟨w.heap.size, 1, none⟩ = some (.int .i64 sh) ∧ W.cell? ⟨w.heap.size, 2, none⟩ = some (.slice (some ⟨nb, off, none⟩) n cap) from fun W h => ⟨(h.cell (p := ⟨w.heap.size, 0, none⟩) (by show w.heap.size < A.heap.size; omega)).trans q0, (h.cell (p := ⟨w.heap.size, 1, none⟩) (by show w.heap.size < A.heap.size; omega)).trans q1, (h.cell (p := ⟨w.heap.size, 2, none⟩) (by show w.heap.size < A.heap.size; omega)).trans q2⟩)
  have HLT := Lib.hid hltA
  clear hltA q0 q1 q2
  obtain ⟨k0, k1, k2⟩ := KK.out _ (Below.refl _ _)
  go_enter Try.func35, Try.ntmps35
  go_upto_region 1 with fail
  rw [← hA]
  clear hA
  go_wp2_with fail
  refine (c1.out _ HBA.out).mono ?_
  rintro e w1 ⟨rfl, hb⟩
  have HB1 := Lib.hid hb
  clear hb k0 k1 k2
  obtain ⟨k0, k1, k2⟩ := KK.out _ HB1.out
  go_wp2_with fail
  refine (c3.out _ (HBA.out.trans (HB1.out.mono HBA.out.size))).mono ?_
  rintro e w2 ⟨g, rfl, hr, -, hb⟩
  have HB2 := Lib.hid (HB1.out.trans (hb.mono HB1.out.size))
  have HSV := Lib.hid (sv_of_row hr)
  clear hr hb k0 k1 k2
  obtain ⟨k0, k1, k2⟩ := KK.out _ HB2.out
  go_wp2_with fail
  go_loopw [5, 17] (fun ov iv wr => ∃ k : Nat, k ≤ n ∧ iv = .int .i64 k ∧ wr.ownsRow w2.heap.size 66 1 ov k ((fL (ansF sl sh ns) k).map (fun x => Value.int .i64 x)) ∧ Below w2.heap.size w2 wr) (fun _ iv _ => n - (intOf iv).toNat)
  case atStart => exact ⟨0, Nat.zero_le _, rfl, World.ownsRow_nil _ _ _ _, Below.refl _ _⟩
  case round =>
    obtain ⟨k, hk, rfl, hrow, hB⟩ := hrel
    have HBR := Lib.hid hB
    have HB := Lib.hid (HB2.out.trans (hB.mono HB2.out.size))
    have HROW := Lib.hid hrow
    obtain ⟨oa, oc, rfl⟩ := own_form hrow
    clear hrow hB k0 k1 k2
    obtain ⟨k0, k1, k2⟩ := KK.out _ HB.out
    by_cases hlt : k < n
    · have hki : (k : Int) < (n : Int) := by omega
      obtain ⟨n3, n6⟩ := HC.out _ k (HBA.out.trans (HB.out.mono HBA.out.size)) hlt
      obtain ⟨qa, qc, hqe, -, hqv⟩ := HSV.out.at HBR.out
      simp only [Value.slice.injEq] at hqe
      obtain ⟨rfl, -, rfl⟩ := hqe
      obtain ⟨cb, co, hqq, hcl, u0, u1⟩ := hqv k hlt
      simp only [Option.some.injEq, Addr.mk.injEq] at hqq
      obtain ⟨rfl, rfl, -⟩ := hqq
      simp only [Nat.zero_add] at u0 u1
      clear hqv
      have HSP := Lib.hid (show (fL (ansF sl sh ns) (k + 1)).map (fun x => Value.int .i64 x) = (fL (ansF sl sh ns) k).map (fun x => Value.int .i64 x) ++ [.int .i64 (ansV (decide ((nd ns k).lea ≤ (vol sl sh ns k).1)) (decide ((nd ns k).lea ≤ (vol sl sh ns k).2)))] from fL_succ _ _)
      try dsimp only at u0 u1
      generalize (vol sl sh ns k).1 = cl at *
      generalize (vol sl sh ns k).2 = ch at *
      generalize (nd ns k).lim = li at *
      generalize (nd ns k).lea = le at *
      have hlw : w.heap.size < wr.heap.size ∧ nb < wr.heap.size := by have := HBA.out.size; have := HB.out.size; have := HLT.out; omega
      have KQ := Lib.hid (show ∀ Z, Below wr.heap.size wr Z → Z.cell? ⟨w.heap.size, 2, none⟩ = some (.slice (some ⟨nb, off, none⟩) n cap) ∧ Z.cell? ⟨nb, off + k * 8 + 3, none⟩ = some (.int .i64 li) ∧ Z.cell? ⟨nb, off + k * 8 + 6, none⟩ = some (.int .i64 le) from fun Z h => ⟨(h.cell (p := ⟨w.heap.size, 2, none⟩) hlw.1).trans k2, (h.cell (p := ⟨nb, _, none⟩) hlw.2).trans n3, (h.cell (p := ⟨nb, _, none⟩) hlw.2).trans n6⟩)
      obtain ⟨V, hV⟩ : ∃ V, V = wr.alloc (.cells #[.int .i64 cl, .int .i64 ch] 23) := ⟨_, rfl⟩
      have HBV := Lib.hid (show Below wr.heap.size wr V by rw [hV]; exact (Below.refl _ _).alloc (Nat.le_refl _) _)
      have HXV := Lib.hid (show Bx2 V wr.heap.size (.int .i64 cl) (.int .i64 ch) by rw [hV]; exact Bx2.new _ _ _)
      go_upto_region 8 with fail
      try rw [← hV]
      clear hV k0 k1 k2 n3 n6 u0 u1
      obtain ⟨k2, n3, n6⟩ := KQ.out _ HBV.out
      have z0 := HXV.out.c0
      have z1 := HXV.out.c1
      have HROWV := Lib.hid (own_below HROW.out HBV.out)
      have HBW := Lib.hid (HBR.out.trans (HBV.out.mono HBR.out.size))
      have HBWA := Lib.hid (HB.out.trans (HBV.out.mono HB.out.size))
      go_wp2_with fail
      refine (answer_any _ _ _).mono ?_
      rintro e w3 ⟨he, rfl⟩
      have HEQ := Lib.hid (show ansV (decide (le ≤ cl)) (decide (le ≤ ch)) = ansV (decide (le ≤ cl)) (decide (le ≤ ch)) from rfl)
      subst he
      generalize ansV (decide (le ≤ cl)) (decide (le ≤ ch)) = x at *
      go_wp2_with (at_builtin; refine wpList_append_own _ rfl _ _ 40 rfl w2.heap.size 66 i0 (.int .i64 0) 1 8 Try.underlying40 hi0 hz0 hz1 hz2 rfl (by decide) _ _ _ rfl (HROWV.out.alloc _) ⟨w3.heap.size, 0, none⟩ 1 1 [.int .i64 x] rfl rfl (one_new66 _ _) (by simp [Value.oneCell']) (by unfold maxLen; omega) (by omega) (by have := HBW.out.size; simp; omega) ?_; intro v' w5 hown' hgrow _; have HG := Lib.hid hgrow; have HO := Lib.hid hown'; obtain ⟨g', cap', rfl⟩ := ownsRow_succ hown'; clear hown' hgrow; have HB5 := Lib.hid (show Below w2.heap.size w2 w5 from (HBW.out.alloc HBW.out.size _).grown HG.out (by have := HBW.out.size; simp; omega) (fun r e => (((HROWV.out.alloc (.cells #[.int .i64 x] 66)).lt r e).1))))
      have HR5 := Lib.hid (show w5.ownsRow w2.heap.size 66 1 _ (k + 1) ((fL (ansF sl sh ns) (k + 1)).map (fun x => Value.int .i64 x)) by rw [HSP.out]; exact HO.out)
      go_roundw
      case rel => exact ⟨k + 1, by omega, by go_num, HR5.out, HB5.out⟩
      case measure => simp [intOf]; omega
    · obtain rfl : k = n := by omega
      have HR := Lib.hid (show Il wr.heap.size wr (.slice oa k oc) _ from il_of_ints HROW.out)
      go_wp2_with fail
      go_ret2
      exact ⟨_, rfl, HR.out, HBA.out.trans (HB.out.mono HBA.out.size)⟩
end Go.Proofs.Ytdohfpnnmppdkaa

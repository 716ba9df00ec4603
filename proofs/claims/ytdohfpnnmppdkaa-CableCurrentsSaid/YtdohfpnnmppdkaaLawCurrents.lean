/-
  Cables: currents, voltages and answers.
-/
import Derived.Test.YtdohfpnnmppdkaaCcD
import Derived.Test.YtdohfpnnmppdkaaCcE
namespace Go.Proofs.Ytdohfpnnmppdkaa
open Go.RowKit Go.Shelf
set_option linter.unusedSimpArgs false
attribute [local go_sem] Oper.semAt_some
set_option maxRecDepth 100000 in
set_option maxHeartbeats 16000000 in
theorem lawCurrents_any (sl sh : Int) (sv : Value) (ns : List Nd) (w : World) (hN : Nds w.heap.size w sv ns) :
    Calls Try.prog 4 #[.agg #[.int .i64 sl, .int .i64 sh, sv]] w fun e w' => e = .returned (.bool true) ∧ Below w.heap.size w w' := by
  have c28 := Lib.hid (fun W (h : Below w.heap.size w W) => cur28_all sl sh sv ns W (hN.at h))
  have c29 := Lib.hid (fun W (h : Below w.heap.size w W) => rcur_all sl sh sv ns W (hN.at h))
  have c30 := Lib.hid (fun W (h : Below w.heap.size w W) => vol30_all sl sh sv ns W (hN.at h))
  have c31 := Lib.hid (fun W (h : Below w.heap.size w W) => rvol_all sl sh sv ns W (hN.at h))
  have c33 := Lib.hid (fun W (h : Below w.heap.size w W) => within_all sl sh sv ns W (hN.at h))
  have c34 := Lib.hid (fun W (h : Below w.heap.size w W) => rwithin_all sl sh sv ns W (hN.at h))
  have c35 := Lib.hid (fun W (h : Below w.heap.size w W) => fed_all sl sh sv ns W (hN.at h))
  have c36 := Lib.hid (fun W (h : Below w.heap.size w W) => rfed_all sl sh sv ns W (hN.at h))
  have HM : (if cabE sl sh ns = 0 then ns.length else 0) ≤ 1000 := by
    split
    · have := (cabE_ok (by assumption)).len; omega
    · omega
  have cI := Lib.hid (fun av bv (f : Nat → Int) (m : Nat) (hm : m ≤ 1000) W (hX : Il W.heap.size W av (fL f m)) (hY : Il W.heap.size W bv (fL f m)) => show Calls Try.prog 37 #[av, bv] W fun e w' => e = .returned (.bool true) ∧ Below W.heap.size W w' by
    have q := answers_any av bv (fL f m) (fL f m) W hX hY (by rw [fL_len]; exact hm)
    rw [decide_eq_true rfl] at q
    exact q)
  obtain ⟨a, cap, hsv⟩ := hN.form
  subst hsv
  have c1 := fun W => long_any sl sh a ns.length cap W
  unfold SpsR at c28 c29 c30 c31
  unfold AnsR at c33 c34 c35 c36
  clear hN
  generalize (if cabE sl sh ns = 0 then ns.length else 0) = m at *
  generalize (fun j => (curL ns j, curH ns j)) = f1 at *
  generalize vol sl sh ns = f2 at *
  generalize ansW ns = f3 at *
  generalize ansF sl sh ns = f4 at *
  generalize cabE sl sh ns = E at *
  generalize lng ns.length = LB at *
  generalize ns.length = n at *
  obtain ⟨A, hA⟩ : ∃ A, A = w.alloc (.cells #[.int .i64 sl, .int .i64 sh, .slice a n cap] 26) := ⟨_, rfl⟩
  have HBA := Lib.hid (show Below w.heap.size w A by rw [hA]; exact ((Below.refl _ _).alloc (Nat.le_refl _) _))
  have hltA : w.heap.size + 1 ≤ A.heap.size := by rw [hA]; simp
  have q0 : A.cell? ⟨w.heap.size, 0, none⟩ = some (.int .i64 sl) := by rw [hA]; exact (cellHB (World.alloc_heap_new w _) 0).trans (by simp)
  have q1 : A.cell? ⟨w.heap.size, 1, none⟩ = some (.int .i64 sh) := by rw [hA]; exact (cellHB (World.alloc_heap_new w _) 1).trans (by simp)
  have q2 : A.cell? ⟨w.heap.size, 2, none⟩ = some (.slice a n cap) := by rw [hA]; exact (cellHB (World.alloc_heap_new w _) 2).trans (by simp)
  have KK := Lib.hid (show ∀ W, Below A.heap.size A W → W.cell? ⟨w.heap.size, 0, none⟩ = some (.int .i64 sl) ∧ W.cell? ⟨w.heap.size, 1, none⟩ = some (.int .i64 sh) ∧ W.cell? ⟨w.heap.size, 2, none⟩ = some (.slice a n cap) from fun W h => ⟨(h.cell (p := ⟨w.heap.size, 0, none⟩) (by show w.heap.size < A.heap.size; omega)).trans q0, (h.cell (p := ⟨w.heap.size, 1, none⟩) (by show w.heap.size < A.heap.size; omega)).trans q1, (h.cell (p := ⟨w.heap.size, 2, none⟩) (by show w.heap.size < A.heap.size; omega)).trans q2⟩)
  have HLT := Lib.hid hltA
  clear hltA q0 q1 q2
  obtain ⟨k0, k1, k2⟩ := KK.out _ (Below.refl _ _)
  cases LB
  rotate_left
  · go_enter Try.func4, Try.ntmps4
    go_upto_region 1 with fail
    rw [← hA]
    clear hA
    go_wp2_with fail
    refine (c1 _).mono ?_
    rintro e w1 ⟨rfl, hb⟩
    have HB1 := Lib.hid hb
    clear hb k0 k1 k2
    obtain ⟨k0, k1, k2⟩ := KK.out _ HB1.out
    go_wp2_with fail
    refine (fine_any _).mono ?_
    rintro e w2 ⟨rfl, hb⟩
    have HB2 := Lib.hid (HB1.out.trans (hb.mono HB1.out.size))
    clear hb k0 k1 k2
    obtain ⟨k0, k1, k2⟩ := KK.out _ HB2.out
    go_wp2_with fail
    go_ret
    exact ⟨rfl, HBA.out.trans (HB2.out.mono HBA.out.size)⟩
  go_enter Try.func4, Try.ntmps4
  go_upto_region 1 with fail
  rw [← hA]
  clear hA
  go_wp2_with fail
  refine (c1 _).mono ?_
  rintro e w1 ⟨rfl, hb⟩
  have HB1 := Lib.hid hb
  clear hb k0 k1 k2
  obtain ⟨k0, k1, k2⟩ := KK.out _ HB1.out
  go_wp2_with fail
  refine (c28.out _ (HBA.out.trans (HB1.out.mono HBA.out.size))).mono ?_
  rintro e w2 ⟨va, rfl, hia, hb⟩
  have HB2 := Lib.hid (HB1.out.trans (hb.mono HB1.out.size))
  have HIa := Lib.hid hia
  clear hb hia k0 k1 k2
  obtain ⟨k0, k1, k2⟩ := KK.out _ HB2.out
  go_wp2_with fail
  refine (c29.out _ (HBA.out.trans (HB2.out.mono HBA.out.size))).mono ?_
  rintro e w3 ⟨vb, rfl, hib, hb⟩
  have HB3 := Lib.hid (HB2.out.trans (hb.mono HB2.out.size))
  replace HIa := Lib.hid (HIa.out.at hb)
  have HIb := Lib.hid hib
  clear hb hib k0 k1 k2
  obtain ⟨k0, k1, k2⟩ := KK.out _ HB3.out
  go_wp2_with fail
  refine (c30.out _ (HBA.out.trans (HB3.out.mono HBA.out.size))).mono ?_
  rintro e w4 ⟨vx, rfl, hix, hb⟩
  have HB4 := Lib.hid (HB3.out.trans (hb.mono HB3.out.size))
  replace HIa := Lib.hid (HIa.out.at hb)
  replace HIb := Lib.hid (HIb.out.at hb)
  have HIx := Lib.hid hix
  clear hb hix k0 k1 k2
  obtain ⟨k0, k1, k2⟩ := KK.out _ HB4.out
  go_wp2_with fail
  refine (c31.out _ (HBA.out.trans (HB4.out.mono HBA.out.size))).mono ?_
  rintro e w5 ⟨vy, rfl, hiy, hb⟩
  have HB5 := Lib.hid (HB4.out.trans (hb.mono HB4.out.size))
  replace HIa := Lib.hid (HIa.out.at hb)
  replace HIb := Lib.hid (HIb.out.at hb)
  replace HIx := Lib.hid (HIx.out.at hb)
  have HIy := Lib.hid hiy
  clear hb hiy k0 k1 k2
  obtain ⟨k0, k1, k2⟩ := KK.out _ HB5.out
  go_wp2_with fail
  refine (spans_eq va vb m HM f1 _ HIa.out HIb.out).mono ?_
  rintro e w6 ⟨rfl, hb⟩
  have HB6 := Lib.hid (HB5.out.trans (hb.mono HB5.out.size))
  replace HIa := Lib.hid (HIa.out.at hb)
  replace HIb := Lib.hid (HIb.out.at hb)
  replace HIx := Lib.hid (HIx.out.at hb)
  replace HIy := Lib.hid (HIy.out.at hb)
  clear hb k0 k1 k2
  obtain ⟨k0, k1, k2⟩ := KK.out _ HB6.out
  go_wp2_with fail
  refine (spans_eq vx vy m HM f2 _ HIx.out HIy.out).mono ?_
  rintro e w7 ⟨rfl, hb⟩
  have HB7 := Lib.hid (HB6.out.trans (hb.mono HB6.out.size))
  replace HIa := Lib.hid (HIa.out.at hb)
  replace HIb := Lib.hid (HIb.out.at hb)
  replace HIx := Lib.hid (HIx.out.at hb)
  replace HIy := Lib.hid (HIy.out.at hb)
  clear hb k0 k1 k2
  obtain ⟨k0, k1, k2⟩ := KK.out _ HB7.out
  go_wp2_with fail
  refine (c33.out _ (HBA.out.trans (HB7.out.mono HBA.out.size))).mono ?_
  rintro e w8 ⟨vu, rfl, hiu, hb⟩
  have HB8 := Lib.hid (HB7.out.trans (hb.mono HB7.out.size))
  have HIu := Lib.hid hiu
  clear hb hiu k0 k1 k2
  obtain ⟨k0, k1, k2⟩ := KK.out _ HB8.out
  go_wp2_with fail
  refine (c34.out _ (HBA.out.trans (HB8.out.mono HBA.out.size))).mono ?_
  rintro e w9 ⟨vv, rfl, hiv, hb⟩
  have HB9 := Lib.hid (HB8.out.trans (hb.mono HB8.out.size))
  replace HIu := Lib.hid (HIu.out.at hb)
  have HIv := Lib.hid hiv
  clear hb hiv k0 k1 k2
  obtain ⟨k0, k1, k2⟩ := KK.out _ HB9.out
  go_wp2_with fail
  refine (c35.out _ (HBA.out.trans (HB9.out.mono HBA.out.size))).mono ?_
  rintro e w10 ⟨vw, rfl, hiw, hb⟩
  have HB10 := Lib.hid (HB9.out.trans (hb.mono HB9.out.size))
  replace HIu := Lib.hid (HIu.out.at hb)
  replace HIv := Lib.hid (HIv.out.at hb)
  have HIw := Lib.hid hiw
  clear hb hiw k0 k1 k2
  obtain ⟨k0, k1, k2⟩ := KK.out _ HB10.out
  go_wp2_with fail
  refine (c36.out _ (HBA.out.trans (HB10.out.mono HBA.out.size))).mono ?_
  rintro e w11 ⟨vz, rfl, hiz, hb⟩
  have HB11 := Lib.hid (HB10.out.trans (hb.mono HB10.out.size))
  replace HIu := Lib.hid (HIu.out.at hb)
  replace HIv := Lib.hid (HIv.out.at hb)
  replace HIw := Lib.hid (HIw.out.at hb)
  have HIz := Lib.hid hiz
  clear hb hiz k0 k1 k2
  obtain ⟨k0, k1, k2⟩ := KK.out _ HB11.out
  go_wp2_with fail
  refine (cI.out vu vv f3 m HM _ HIu.out HIv.out).mono ?_
  rintro e w12 ⟨rfl, hb⟩
  have HB12 := Lib.hid (HB11.out.trans (hb.mono HB11.out.size))
  replace HIu := Lib.hid (HIu.out.at hb)
  replace HIv := Lib.hid (HIv.out.at hb)
  replace HIw := Lib.hid (HIw.out.at hb)
  replace HIz := Lib.hid (HIz.out.at hb)
  clear hb k0 k1 k2
  obtain ⟨k0, k1, k2⟩ := KK.out _ HB12.out
  go_wp2_with fail
  refine (cI.out vw vz f4 m HM _ HIw.out HIz.out).mono ?_
  rintro e w13 ⟨rfl, hb⟩
  have HB13 := Lib.hid (HB12.out.trans (hb.mono HB12.out.size))
  replace HIu := Lib.hid (HIu.out.at hb)
  replace HIv := Lib.hid (HIv.out.at hb)
  replace HIw := Lib.hid (HIw.out.at hb)
  replace HIz := Lib.hid (HIz.out.at hb)
  clear hb k0 k1 k2
  obtain ⟨k0, k1, k2⟩ := KK.out _ HB13.out
  go_wp2_with fail
  refine (fine_any _).mono ?_
  rintro e w14 ⟨rfl, hb⟩
  have HB14 := Lib.hid (HB13.out.trans (hb.mono HB13.out.size))
  clear hb k0 k1 k2
  obtain ⟨k0, k1, k2⟩ := KK.out _ HB14.out
  go_wp2_with fail
  go_ret
  exact ⟨rfl, HBA.out.trans (HB14.out.mono HBA.out.size)⟩
end Go.Proofs.Ytdohfpnnmppdkaa

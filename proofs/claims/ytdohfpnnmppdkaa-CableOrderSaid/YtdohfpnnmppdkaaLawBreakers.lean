/-
  Cables: Opens, Lost and Coordinated.
-/
import Derived.Test.YtdohfpnnmppdkaaBkE
import Derived.Test.YtdohfpnnmppdkaaBkG
import Derived.Test.YtdohfpnnmppdkaaBkH
namespace Go.Proofs.Ytdohfpnnmppdkaa
open Go.RowKit Go.Shelf
set_option linter.unusedSimpArgs false
attribute [local go_sem] Oper.semAt_some
theorem ints_eq (av bv : Value) (zs : List Int) (hl : zs.length ≤ 1000) (W : World) (hX : Il W.heap.size W av zs) (hY : Il W.heap.size W bv zs) : Calls Try.prog 27 #[av, bv] W fun e w' => e = .returned (.bool true) ∧ Below W.heap.size W w' := by
  have q := ints_any av bv zs zs W hX hY hl
  rw [decide_eq_true rfl] at q
  exact q
theorem zs_len (l : List Nat) : (zs l).length = l.length := by unfold zs; simp
theorem lostL_len (ns : List Nd) (zs fs : List Int) : (lostL ns zs fs).length ≤ 60 := pick_le 60 _
set_option maxRecDepth 100000 in
set_option maxHeartbeats 16000000 in
theorem breakersLaw_any (sl sh : Int) (f m : Int) (sv fv zv : Value) (ns : List Nd) (fs ks : List Int) (w : World) (hN : Nds w.heap.size w sv ns) (hF : Il w.heap.size w fv fs) (hZ : Il w.heap.size w zv ks) :
    Calls Try.prog 5 #[.agg #[.int .i64 sl, .int .i64 sh, sv], .int .i64 f, fv, zv, .int .i64 m] w fun e w' => e = .returned (.bool true) ∧ Below w.heap.size w w' := by
  have c38 := Lib.hid (fun (hk : ks.length ≤ 1000) W (h : Below w.heap.size w W) => opens_any sl sh sv zv ns f ks W hk (hN.at h) (hZ.at h))
  have c39 := Lib.hid (fun (hk : ks.length ≤ 1000) W (h : Below w.heap.size w W) => ropens_any sl sh sv zv ns f ks W hk (hN.at h) (hZ.at h))
  have c40 := Lib.hid (fun (hf : fs.length ≤ 1000) (hk : ks.length ≤ 1000) W (h : Below w.heap.size w W) => lost_all sl sh sv fv zv ns fs ks W (hN.at h) (hF.at h) (hZ.at h) hf hk)
  have c41 := Lib.hid (fun (hf : fs.length ≤ 1000) (hk : ks.length ≤ 1000) W (h : Below w.heap.size w W) => rlost_all sl sh sv fv zv ns fs ks W (hN.at h) (hF.at h) (hZ.at h) hf hk)
  have c42 := Lib.hid (fun W (h : Below w.heap.size w W) => coord_any sl sh sv ns m W (hN.at h))
  have c43 := Lib.hid (fun W (h : Below w.heap.size w W) => rcoord_any sl sh sv ns m W (hN.at h))
  have HLL : (zs (if losE sl sh ns fs ks = 0 then lostL ns ks fs else [])).length ≤ 1000 := by
    rw [zs_len]
    split
    · have := lostL_len ns ks fs; omega
    · simp
  obtain ⟨a, cap, hsv⟩ := hN.form
  obtain ⟨fa, fc, hfv⟩ := hF.form
  obtain ⟨za, zc, hzv⟩ := hZ.form
  subst hsv
  subst hfv
  subst hzv
  have c1 := fun W => long_any sl sh a ns.length cap W
  unfold LostR at c40 c41
  clear hN hF hZ
  generalize (zs (if losE sl sh ns fs ks = 0 then lostL ns ks fs else [])) = LL at *
  generalize losE sl sh ns fs ks = E2 at *
  generalize opnK sl sh ns f ks = K1 at *
  generalize opnE sl sh ns f ks = E1 at *
  generalize (cooS sl sh ns m).1 = r1 at *
  generalize (cooS sl sh ns m).2.1 = r2 at *
  generalize (cooS sl sh ns m).2.2 = r3 at *
  generalize lng ns.length = LB at *
  generalize ns.length = n at *
  generalize fs.length = fm at *
  generalize ks.length = zm at *
  obtain ⟨A, hA⟩ : ∃ A, A = w.alloc (.cells #[.int .i64 sl, .int .i64 sh, .slice a n cap] 26) := ⟨_, rfl⟩
  have HBA := Lib.hid (show Below w.heap.size w A by rw [hA]; exact ((Below.refl _ _).alloc (Nat.le_refl _) _))
  have hltA : w.heap.size + 1 ≤ A.heap.size := by rw [hA]; simp
  have q0 : A.cell? ⟨w.heap.size, 0, none⟩ = some (.int .i64 sl) := by rw [hA]; exact (cellHB (World.alloc_heap_new w _) 0).trans (by simp)
  have q1 : A.cell? ⟨w.heap.size, 1, none⟩ = some (.int .i64 sh) := by rw [hA]; exact (cellHB (World.alloc_heap_new w _) 1).trans (by simp)
  have q2 : A.cell? ⟨w.heap.size, 2, none⟩ = some (.slice a n cap) := by rw [hA]; exact (cellHB (World.alloc_heap_new w _) 2).trans (by simp)
  have KK := Lib.hid (show ∀ W, Below A.heap.size A W → W.cell? ⟨w.heap.size, 0, none⟩ = some (.int .i64 sl) ∧ W.cell? ⟨w.heap.size, 1, none⟩ = some (.int .i64 sh) ∧ W.cell? ⟨w.heap.size, 2, none⟩ = some (.slice a n cap) from fun W h => ⟨(h.cell (p := ⟨w.heap.size, 0, none⟩) (by show w.heap.size < A.heap.size; omega)).trans q0, (h.cell (p := ⟨w.heap.size, 1, none⟩) (by show w.heap.size < A.heap.size; omega)).trans q1, (h.cell (p := ⟨w.heap.size, 2, none⟩) (by show w.heap.size < A.heap.size; omega)).trans q2⟩)
  have HLT := Lib.hid hltA
  clear hltA q0 q1 q2
  obtain ⟨k0, k1, k2⟩ := KK.out _ (Below.refl _ _)
  cases LB
  rotate_left
  · go_enter Try.func5, Try.ntmps5
    go_upto_region 1 with fail
    rw [← hA]
    clear hA
    go_wp2_with fail
    refine (c1 _).mono ?_
    rintro e w1 ⟨rfl, hb⟩
    have HB1 := Lib.hid hb
    clear hb k0 k1 k2
    obtain ⟨k0, k1, k2⟩ := KK.out _ HB1.out
    go_wp2_with fail
    refine (fine_any _).mono ?_
    rintro e w2 ⟨rfl, hb⟩
    have HB2 := Lib.hid (HB1.out.trans (hb.mono HB1.out.size))
    clear hb k0 k1 k2
    obtain ⟨k0, k1, k2⟩ := KK.out _ HB2.out
    go_wp2_with fail
    go_ret
    exact ⟨rfl, HBA.out.trans (HB2.out.mono HBA.out.size)⟩
  by_cases h1 : 100 < fm
  · have h1' : (100 : Int) < (fm : Int) := by omega
    clear c38 c39 c40 c41 c42 c43
    go_enter Try.func5, Try.ntmps5
    go_upto_region 1 with fail
    rw [← hA]
    clear hA
    go_wp2_with fail
    refine (c1 _).mono ?_
    rintro e w1 ⟨rfl, hb⟩
    have HB1 := Lib.hid hb
    clear hb k0 k1 k2
    obtain ⟨k0, k1, k2⟩ := KK.out _ HB1.out
    go_wp2_with fail
    refine (fine_any _).mono ?_
    rintro e w2 ⟨rfl, hb⟩
    have HB2 := Lib.hid (HB1.out.trans (hb.mono HB1.out.size))
    clear hb k0 k1 k2
    obtain ⟨k0, k1, k2⟩ := KK.out _ HB2.out
    go_wp2_with fail
    go_ret
    exact ⟨rfl, HBA.out.trans (HB2.out.mono HBA.out.size)⟩
  by_cases h2 : 100 < zm
  · have h2' : (100 : Int) < (zm : Int) := by omega
    clear c38 c39 c40 c41 c42 c43
    go_enter Try.func5, Try.ntmps5
    go_upto_region 1 with fail
    rw [← hA]
    clear hA
    go_wp2_with fail
    refine (c1 _).mono ?_
    rintro e w1 ⟨rfl, hb⟩
    have HB1 := Lib.hid hb
    clear hb k0 k1 k2
    obtain ⟨k0, k1, k2⟩ := KK.out _ HB1.out
    go_wp2_with fail
    refine (fine_any _).mono ?_
    rintro e w2 ⟨rfl, hb⟩
    have HB2 := Lib.hid (HB1.out.trans (hb.mono HB1.out.size))
    clear hb k0 k1 k2
    obtain ⟨k0, k1, k2⟩ := KK.out _ HB2.out
    go_wp2_with fail
    go_ret
    exact ⟨rfl, HBA.out.trans (HB2.out.mono HBA.out.size)⟩
  have d38 := Lib.hid (c38.out (by omega))
  have d39 := Lib.hid (c39.out (by omega))
  have d40 := Lib.hid (c40.out (by omega) (by omega))
  have d41 := Lib.hid (c41.out (by omega) (by omega))
  clear c38 c39 c40 c41
  go_enter Try.func5, Try.ntmps5
  go_upto_region 1 with fail
  rw [← hA]
  clear hA
  go_wp2_with fail
  refine (c1 _).mono ?_
  rintro e w1 ⟨rfl, hb⟩
  have HB1 := Lib.hid hb
  clear hb k0 k1 k2
  obtain ⟨k0, k1, k2⟩ := KK.out _ HB1.out
  go_wp2_with fail
  refine (d38.out _ (HBA.out.trans (HB1.out.mono HBA.out.size))).mono ?_
  rintro e w2 ⟨rfl, hb⟩
  have HB2 := Lib.hid (HB1.out.trans (hb.mono HB1.out.size))
  clear hb k0 k1 k2
  obtain ⟨k0, k1, k2⟩ := KK.out _ HB2.out
  go_wp2_with fail
  refine (d39.out _ (HBA.out.trans (HB2.out.mono HBA.out.size))).mono ?_
  rintro e w3 ⟨rfl, hb⟩
  have HB3 := Lib.hid (HB2.out.trans (hb.mono HB2.out.size))
  clear hb k0 k1 k2
  obtain ⟨k0, k1, k2⟩ := KK.out _ HB3.out
  go_wp2_with fail
  refine (d40.out _ (HBA.out.trans (HB3.out.mono HBA.out.size))).mono ?_
  rintro e w4 ⟨va, rfl, hia, hb⟩
  have HB4 := Lib.hid (HB3.out.trans (hb.mono HB3.out.size))
  have HIa := Lib.hid hia
  clear hb hia k0 k1 k2
  obtain ⟨k0, k1, k2⟩ := KK.out _ HB4.out
  go_wp2_with fail
  refine (d41.out _ (HBA.out.trans (HB4.out.mono HBA.out.size))).mono ?_
  rintro e w5 ⟨vb, rfl, hib, hb⟩
  have HB5 := Lib.hid (HB4.out.trans (hb.mono HB4.out.size))
  replace HIa := Lib.hid (HIa.out.at hb)
  have HIb := Lib.hid hib
  clear hb hib k0 k1 k2
  obtain ⟨k0, k1, k2⟩ := KK.out _ HB5.out
  go_wp2_with fail
  refine (ints_eq va vb LL HLL _ HIa.out HIb.out).mono ?_
  rintro e w6 ⟨rfl, hb⟩
  have HB6 := Lib.hid (HB5.out.trans (hb.mono HB5.out.size))
  clear hb k0 k1 k2
  obtain ⟨k0, k1, k2⟩ := KK.out _ HB6.out
  go_wp2_with fail
  refine (c42.out _ (HBA.out.trans (HB6.out.mono HBA.out.size))).mono ?_
  rintro e w7 ⟨rfl, hb⟩
  have HB7 := Lib.hid (HB6.out.trans (hb.mono HB6.out.size))
  clear hb k0 k1 k2
  obtain ⟨k0, k1, k2⟩ := KK.out _ HB7.out
  go_wp2_with fail
  refine (c43.out _ (HBA.out.trans (HB7.out.mono HBA.out.size))).mono ?_
  rintro e w8 ⟨rfl, hb⟩
  have HB8 := Lib.hid (HB7.out.trans (hb.mono HB7.out.size))
  clear hb k0 k1 k2
  obtain ⟨k0, k1, k2⟩ := KK.out _ HB8.out
  go_wp2_with fail
  refine (fine_any _).mono ?_
  rintro e w9 ⟨rfl, hb⟩
  have HB9 := Lib.hid (HB8.out.trans (hb.mono HB8.out.size))
  clear hb k0 k1 k2
  obtain ⟨k0, k1, k2⟩ := KK.out _ HB9.out
  go_wp2_with fail
  go_ret
  exact ⟨rfl, HBA.out.trans (HB9.out.mono HBA.out.size)⟩
end Go.Proofs.Ytdohfpnnmppdkaa

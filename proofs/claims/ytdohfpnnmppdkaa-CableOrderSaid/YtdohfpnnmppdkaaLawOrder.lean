/-
  Cables: several faults in any order.
-/
import Derived.Test.YtdohfpnnmppdkaaOrMath
import Derived.Test.YtdohfpnnmppdkaaEvFn
import Derived.Test.YtdohfpnnmppdkaaBkF
import Derived.Test.YtdohfpnnmppdkaaCbX
import Derived.Maps.AppendAt
import Derived.Laws.AppendOwnNone
import Derived.Deep.CutRange
namespace Go.Proofs.Ytdohfpnnmppdkaa
open Go.RowKit Go.Shelf
set_option linter.unusedSimpArgs false
attribute [local go_sem] Oper.semAt_some
theorem il_of_own' {W : World} {base m : Nat} {v : Value} {l : List Nat} (hm : l.length = m) (h : W.ownsRow base 3 1 v m (flatN l)) : Il W.heap.size W v (zs l) := by
  subst hm; exact il_of_own h
set_option maxRecDepth 100000 in
set_option maxHeartbeats 64000000 in
theorem order_any (sl sh : Int) (sv fv kv : Value) (ns : List Nd) (fs ks : List Int) (w : World) (hN : Nds w.heap.size w sv ns) (hF : Sk .u8 w.heap.size w fv fs) (hK : Sk .u8 w.heap.size w kv ks) :
    Calls Try.prog 12 #[.agg #[.int .i64 sl, .int .i64 sh, sv], fv, kv] w fun e w' => e = .returned (.bool true) ∧ Below w.heap.size w w' := by
  obtain ⟨i0, hi0, hz0, hz1, hz2⟩ := info_parts infoI3
  have c1 := Lib.hid (fun W (h : Below w.heap.size w W) => valid_any sl sh sv ns W (hN.at h))
  have HV := Lib.hid (fun (h : valB sl sh ns = true) => valB_ok h)
  have cB := Lib.hid (fun (x : Nat) (hx : x < ns.length) W (h : Below w.heap.size w W) => show Calls Try.prog 59 #[.agg #[.int .i64 sl, .int .i64 sh, sv], .int .i64 (x : Int)] W fun e w' => e = .returned (.bool (brk ns x)) ∧ Below W.heap.size W w' by
    have q := refBreaker_any sl sh sv ns (x : Int) W (hN.at h)
    rw [show okS ns (x : Int) = brk ns x by unfold okS; rw [decide_eq_true (by omega), Bool.true_and, Int.toNat_natCast]] at q
    exact q)
  have cC := Lib.hid (fun W (h : Below w.heap.size w W) => coord_any sl sh sv ns 1 W (hN.at h))
  have cS := Lib.hid (fun (hv : ValidC sl sh ns) (k : Nat) (hk : k < ns.length) W (h : Below w.heap.size w W) => subtree_ok sl sh sv ns k hv hk W (hN.at h))
  have cL := Lib.hid (fun (fv zv : Value) (fs zs : List Int) (hf : fs.length ≤ 1000) (hz : zs.length ≤ 1000) W (h : Below w.heap.size w W) (hF : Il W.heap.size W fv fs) (hZ : Il W.heap.size W zv zs) => lost_all sl sh sv fv zv ns fs zs W (hN.at h) hF hZ hf hz)
  have HKBY := Lib.hid (show ∀ i, i < ks.length → 0 ≤ ti ks i ∧ ti ks i ≤ 255 from hK.byt)
  have HFBY := Lib.hid (show ∀ i, i < fs.length → 0 ≤ ti fs i ∧ ti fs i ≤ 255 from hF.byt)
  obtain ⟨a, cap, hsv⟩ := hN.form
  have hs0 := hK
  have ht0 := hF
  obtain ⟨sa, sc, hsv, -, hs⟩ := hs0
  have HZs := Lib.hid (show ∀ W k, Below w.heap.size w W → k < ks.length → ∃ g o, sa = some ⟨g, o, none⟩ ∧ g < w.heap.size ∧ W.cell? ⟨g, o + k, none⟩ = some (.int .u8 (ti ks k)) from fun W k hb hk => by
    obtain ⟨_, g, o, h1, h2, e0⟩ := hs k hk
    exact ⟨g, o, h1, h2, (hb.cell (p := ⟨g, _, none⟩) h2).trans e0⟩)
  subst hsv
  obtain ⟨ta, tc, htv, -, ht⟩ := ht0
  have HZt := Lib.hid (show ∀ W k, Below w.heap.size w W → k < fs.length → ∃ g o, ta = some ⟨g, o, none⟩ ∧ g < w.heap.size ∧ W.cell? ⟨g, o + k, none⟩ = some (.int .u8 (ti fs k)) from fun W k hb hk => by
    obtain ⟨_, g, o, h1, h2, e0⟩ := ht k hk
    exact ⟨g, o, h1, h2, (hb.cell (p := ⟨g, _, none⟩) h2).trans e0⟩)
  subst htv
  subst hsv
  have HHY := Lib.hid (fun n i => hld_yes (ns := ns) (n := n) (zs := ks) (i := i))
  have HHN := Lib.hid (fun n i => hld_no (ns := ns) (n := n) (zs := ks) (i := i))
  have HHL := Lib.hid (fun n i => hld_len ns n ks i)
  have HH0 := Lib.hid (fun n => hld_zero ns n ks)
  have HHM := Lib.hid (fun n (hn : 0 < n) i x (h : x ∈ hldL ns n ks i) => hld_mem hn h)
  have HOS := Lib.hid (fun n i => ord_succ (n := n) (fs := fs) (i := i))
  have HOL := Lib.hid (fun n i => ord_len (n := n) (fs := fs) (i := i))
  have HOM := Lib.hid (fun n (hn : 2 ≤ n) i x (h : x ∈ ordL n fs i) => ord_mem hn h)
  clear hs ht hN hK hF
  generalize valB sl sh ns = VB at *
  generalize hzm : ks.length = zm at *
  generalize hfm : fs.length = fm at *
  cases VB
  · clear HV cB cC cS cL HZs HZt HHY HHN HHL HH0 HHM HKBY HFBY HOS HOL HOM hzm hfm
    generalize ns.length = n at *
    obtain ⟨A, hA⟩ : ∃ A, A = w.alloc (.cells #[.int .i64 sl, .int .i64 sh, .slice a n cap] 26) := ⟨_, rfl⟩
    have HBA := Lib.hid (show Below w.heap.size w A by rw [hA]; exact ((Below.refl _ _).alloc (Nat.le_refl _) _))
    have hltA : w.heap.size + 1 ≤ A.heap.size := by rw [hA]; simp
    have q0 : A.cell? ⟨w.heap.size, 0, none⟩ = some (.int .i64 sl) := by rw [hA]; exact (cellHB (World.alloc_heap_new w _) 0).trans (by simp)
    have q1 : A.cell? ⟨w.heap.size, 1, none⟩ = some (.int .i64 sh) := by rw [hA]; exact (cellHB (World.alloc_heap_new w _) 1).trans (by simp)
    have q2 : A.cell? ⟨w.heap.size, 2, none⟩ = some (.slice a n cap) := by rw [hA]; exact (cellHB (World.alloc_heap_new w _) 2).trans (by simp)
    have KK := Lib.hid (show ∀ W, Below A.heap.size A W → W.cell? ⟨w.heap.size, 0, none⟩ = some (.int .i64 sl) ∧ W.cell? ⟨w.heap.size, 1, none⟩ = some (.int .i64 sh) ∧ W.cell? ⟨w.heap.size, 2, none⟩ = some (.slice a n cap) from fun W h => ⟨(h.cell (p := ⟨w.heap.size, 0, none⟩) (by show w.heap.size < A.heap.size; omega)).trans q0, (h.cell (p := ⟨w.heap.size, 1, none⟩) (by show w.heap.size < A.heap.size; omega)).trans q1, (h.cell (p := ⟨w.heap.size, 2, none⟩) (by show w.heap.size < A.heap.size; omega)).trans q2⟩)
    have HLT := Lib.hid hltA
    clear hltA q0 q1 q2
    obtain ⟨k0, k1, k2⟩ := KK.out _ (Below.refl _ _)
    go_enter Try.func12, Try.ntmps12
    go_upto_region 1 with fail
    rw [← hA]
    clear hA
    go_wp2_with fail
    refine (c1.out _ HBA.out).mono ?_
    rintro e w1 ⟨rfl, hb⟩
    have HB1 := Lib.hid hb
    clear hb k0 k1 k2
    obtain ⟨k0, k1, k2⟩ := KK.out _ HB1.out
    go_wp2_with fail
    refine (fine_any _).mono ?_
    rintro e w2 ⟨rfl, hb⟩
    have HB2 := Lib.hid (HB1.out.trans (hb.mono HB1.out.size))
    clear hb k0 k1 k2
    obtain ⟨k0, k1, k2⟩ := KK.out _ HB2.out
    go_wp2_with fail
    go_ret
    exact ⟨rfl, HBA.out.trans (HB2.out.mono HBA.out.size)⟩
  obtain ⟨hv, hn20⟩ := HV.out rfl
  by_cases hn2 : ns.length < 2
  · have hn2' : (ns.length : Int) < 2 := by omega
    clear HV cB cC cS cL HZs HZt HHY HHN HHL HH0 HHM HKBY HFBY HOS HOL HOM hzm hfm hv
    generalize ns.length = n at *
    obtain ⟨A, hA⟩ : ∃ A, A = w.alloc (.cells #[.int .i64 sl, .int .i64 sh, .slice a n cap] 26) := ⟨_, rfl⟩
    have HBA := Lib.hid (show Below w.heap.size w A by rw [hA]; exact ((Below.refl _ _).alloc (Nat.le_refl _) _))
    have hltA : w.heap.size + 1 ≤ A.heap.size := by rw [hA]; simp
    have q0 : A.cell? ⟨w.heap.size, 0, none⟩ = some (.int .i64 sl) := by rw [hA]; exact (cellHB (World.alloc_heap_new w _) 0).trans (by simp)
    have q1 : A.cell? ⟨w.heap.size, 1, none⟩ = some (.int .i64 sh) := by rw [hA]; exact (cellHB (World.alloc_heap_new w _) 1).trans (by simp)
    have q2 : A.cell? ⟨w.heap.size, 2, none⟩ = some (.slice a n cap) := by rw [hA]; exact (cellHB (World.alloc_heap_new w _) 2).trans (by simp)
    have KK := Lib.hid (show ∀ W, Below A.heap.size A W → W.cell? ⟨w.heap.size, 0, none⟩ = some (.int .i64 sl) ∧ W.cell? ⟨w.heap.size, 1, none⟩ = some (.int .i64 sh) ∧ W.cell? ⟨w.heap.size, 2, none⟩ = some (.slice a n cap) from fun W h => ⟨(h.cell (p := ⟨w.heap.size, 0, none⟩) (by show w.heap.size < A.heap.size; omega)).trans q0, (h.cell (p := ⟨w.heap.size, 1, none⟩) (by show w.heap.size < A.heap.size; omega)).trans q1, (h.cell (p := ⟨w.heap.size, 2, none⟩) (by show w.heap.size < A.heap.size; omega)).trans q2⟩)
    have HLT := Lib.hid hltA
    clear hltA q0 q1 q2
    obtain ⟨k0, k1, k2⟩ := KK.out _ (Below.refl _ _)
    go_enter Try.func12, Try.ntmps12
    go_upto_region 1 with fail
    rw [← hA]
    clear hA
    go_wp2_with fail
    refine (c1.out _ HBA.out).mono ?_
    rintro e w1 ⟨rfl, hb⟩
    have HB1 := Lib.hid hb
    clear hb k0 k1 k2
    obtain ⟨k0, k1, k2⟩ := KK.out _ HB1.out
    go_wp2_with fail
    refine (fine_any _).mono ?_
    rintro e w2 ⟨rfl, hb⟩
    have HB2 := Lib.hid (HB1.out.trans (hb.mono HB1.out.size))
    clear hb k0 k1 k2
    obtain ⟨k0, k1, k2⟩ := KK.out _ HB2.out
    go_wp2_with fail
    go_ret
    exact ⟨rfl, HBA.out.trans (HB2.out.mono HBA.out.size)⟩
  have hn2' : ¬ (ns.length : Int) < 2 := by omega
  by_cases hf12 : 12 < fm
  · have hf12' : (12 : Int) < (fm : Int) := by omega
    clear HV cB cC cS cL HZs HZt HHY HHN HHL HH0 HHM HKBY HFBY HOS HOL HOM hzm hfm hv
    generalize ns.length = n at *
    obtain ⟨A, hA⟩ : ∃ A, A = w.alloc (.cells #[.int .i64 sl, .int .i64 sh, .slice a n cap] 26) := ⟨_, rfl⟩
    have HBA := Lib.hid (show Below w.heap.size w A by rw [hA]; exact ((Below.refl _ _).alloc (Nat.le_refl _) _))
    have hltA : w.heap.size + 1 ≤ A.heap.size := by rw [hA]; simp
    have q0 : A.cell? ⟨w.heap.size, 0, none⟩ = some (.int .i64 sl) := by rw [hA]; exact (cellHB (World.alloc_heap_new w _) 0).trans (by simp)
    have q1 : A.cell? ⟨w.heap.size, 1, none⟩ = some (.int .i64 sh) := by rw [hA]; exact (cellHB (World.alloc_heap_new w _) 1).trans (by simp)
    have q2 : A.cell? ⟨w.heap.size, 2, none⟩ = some (.slice a n cap) := by rw [hA]; exact (cellHB (World.alloc_heap_new w _) 2).trans (by simp)
    have KK := Lib.hid (show ∀ W, Below A.heap.size A W → W.cell? ⟨w.heap.size, 0, none⟩ = some (.int .i64 sl) ∧ W.cell? ⟨w.heap.size, 1, none⟩ = some (.int .i64 sh) ∧ W.cell? ⟨w.heap.size, 2, none⟩ = some (.slice a n cap) from fun W h => ⟨(h.cell (p := ⟨w.heap.size, 0, none⟩) (by show w.heap.size < A.heap.size; omega)).trans q0, (h.cell (p := ⟨w.heap.size, 1, none⟩) (by show w.heap.size < A.heap.size; omega)).trans q1, (h.cell (p := ⟨w.heap.size, 2, none⟩) (by show w.heap.size < A.heap.size; omega)).trans q2⟩)
    have HLT := Lib.hid hltA
    clear hltA q0 q1 q2
    obtain ⟨k0, k1, k2⟩ := KK.out _ (Below.refl _ _)
    go_enter Try.func12, Try.ntmps12
    go_upto_region 1 with fail
    rw [← hA]
    clear hA
    go_wp2_with fail
    refine (c1.out _ HBA.out).mono ?_
    rintro e w1 ⟨rfl, hb⟩
    have HB1 := Lib.hid hb
    clear hb k0 k1 k2
    obtain ⟨k0, k1, k2⟩ := KK.out _ HB1.out
    go_wp2_with fail
    refine (fine_any _).mono ?_
    rintro e w2 ⟨rfl, hb⟩
    have HB2 := Lib.hid (HB1.out.trans (hb.mono HB1.out.size))
    clear hb k0 k1 k2
    obtain ⟨k0, k1, k2⟩ := KK.out _ HB2.out
    go_wp2_with fail
    go_ret
    exact ⟨rfl, HBA.out.trans (HB2.out.mono HBA.out.size)⟩
  by_cases hk16 : 16 < zm
  · have hk16' : (16 : Int) < (zm : Int) := by omega
    have hf12' : ¬ (12 : Int) < (fm : Int) := by omega
    clear HV cB cC cS cL HZs HZt HHY HHN HHL HH0 HHM HKBY HFBY HOS HOL HOM hzm hfm hv
    generalize ns.length = n at *
    obtain ⟨A, hA⟩ : ∃ A, A = w.alloc (.cells #[.int .i64 sl, .int .i64 sh, .slice a n cap] 26) := ⟨_, rfl⟩
    have HBA := Lib.hid (show Below w.heap.size w A by rw [hA]; exact ((Below.refl _ _).alloc (Nat.le_refl _) _))
    have hltA : w.heap.size + 1 ≤ A.heap.size := by rw [hA]; simp
    have q0 : A.cell? ⟨w.heap.size, 0, none⟩ = some (.int .i64 sl) := by rw [hA]; exact (cellHB (World.alloc_heap_new w _) 0).trans (by simp)
    have q1 : A.cell? ⟨w.heap.size, 1, none⟩ = some (.int .i64 sh) := by rw [hA]; exact (cellHB (World.alloc_heap_new w _) 1).trans (by simp)
    have q2 : A.cell? ⟨w.heap.size, 2, none⟩ = some (.slice a n cap) := by rw [hA]; exact (cellHB (World.alloc_heap_new w _) 2).trans (by simp)
    have KK := Lib.hid (show ∀ W, Below A.heap.size A W → W.cell? ⟨w.heap.size, 0, none⟩ = some (.int .i64 sl) ∧ W.cell? ⟨w.heap.size, 1, none⟩ = some (.int .i64 sh) ∧ W.cell? ⟨w.heap.size, 2, none⟩ = some (.slice a n cap) from fun W h => ⟨(h.cell (p := ⟨w.heap.size, 0, none⟩) (by show w.heap.size < A.heap.size; omega)).trans q0, (h.cell (p := ⟨w.heap.size, 1, none⟩) (by show w.heap.size < A.heap.size; omega)).trans q1, (h.cell (p := ⟨w.heap.size, 2, none⟩) (by show w.heap.size < A.heap.size; omega)).trans q2⟩)
    have HLT := Lib.hid hltA
    clear hltA q0 q1 q2
    obtain ⟨k0, k1, k2⟩ := KK.out _ (Below.refl _ _)
    go_enter Try.func12, Try.ntmps12
    go_upto_region 1 with fail
    rw [← hA]
    clear hA
    go_wp2_with fail
    refine (c1.out _ HBA.out).mono ?_
    rintro e w1 ⟨rfl, hb⟩
    have HB1 := Lib.hid hb
    clear hb k0 k1 k2
    obtain ⟨k0, k1, k2⟩ := KK.out _ HB1.out
    go_wp2_with fail
    refine (fine_any _).mono ?_
    rintro e w2 ⟨rfl, hb⟩
    have HB2 := Lib.hid (HB1.out.trans (hb.mono HB1.out.size))
    clear hb k0 k1 k2
    obtain ⟨k0, k1, k2⟩ := KK.out _ HB2.out
    go_wp2_with fail
    go_ret
    exact ⟨rfl, HBA.out.trans (HB2.out.mono HBA.out.size)⟩
  have HCO := Lib.hid (show cooS sl sh ns 1 = cooR ns 1 by unfold cooS; rw [if_pos hv.err, if_pos (by omega)])
  have HCR := Lib.hid (cooR_cases ns 1)
  rw [HCO.out] at cC
  have HST := Lib.hid (fun (l : List Nat) (hl : l.length ≤ 16) (hm : ∀ x, x ∈ l → x < ns.length ∧ brk ns x = true) => hld_stu hv hl hm)
  have HLS := Lib.hid (fun (l : List Nat) ks (hs : stuE sl sh ns ks = 0) (hl : l.length ≤ 60) h => los_zs (l := l) hs hl h)
  have HLB := Lib.hid (fun (h : (cooR ns 1).2.2 = 0) (l : List Nat) ks hm => lost_back hv.all (cooR_ok h) (l := l) (ks := ks) hm)
  have HLT3 := Lib.hid (fun (l : List Nat) ks hm y hy => lost_lt hv.all (l := l) (ks := ks) hm (y := y) hy)
  have HLU := Lib.hid (fun (l : List Nat) ks hm x y hy hx => lost_sub hv.all hv.len (l := l) (ks := ks) hm (x := x) (y := y) hy hx)
  have HLM := Lib.hid (fun (l : List Nat) ks x y hm hy => lost_more hv.all (l := l) (ks := ks) (x := x) (y := y) hm hy)
  have HLF := Lib.hid (fun (l : List Nat) ks x hm => lost_self hv.all hv.len (l := l) (ks := ks) (x := x) hm)
  have HLN := Lib.hid (fun ks => lost_nil ns ks)
  have cS' := Lib.hid (cS.out hv)
  have HSL := Lib.hid (fun (c : Nat) => Nat.le_trans (sub_len (ns := ns) (k := c)) (show ns.length ≤ 20 from hn20))
  have cF := Lib.hid (fun (fv zv : Value) (l : List Nat) (H : List Nat) (hl : l.length ≤ 60) (hH : H.length ≤ 16) (hs : stuE sl sh ns (zs H) = 0) (hm : ∀ x, x ∈ l → 0 < x ∧ x < ns.length) W (h : Below w.heap.size w W) (hF : Il W.heap.size W fv (zs l)) (hZ : Il W.heap.size W zv (zs H)) => show Calls Try.prog 40 #[.agg #[.int .i64 sl, .int .i64 sh, .slice a ns.length cap], fv, zv] W fun e w' => ∃ v, e = .returned (.tuple #[v, .int .i64 0]) ∧ Il w'.heap.size w' v (zs (lostL ns (zs H) (zs l))) ∧ Below W.heap.size W w' by
    have q := cL.out fv zv (zs l) (zs H) (by rw [zs_len]; omega) (by rw [zs_len]; omega) W h hF hZ
    unfold LostR at q
    rw [HLS.out l _ hs hl hm, if_pos rfl] at q
    exact q)
  clear cS cL HV hv HCO HLS
  generalize cooR ns 1 = CR at *
  generalize hnn : ns.length = n at *
  clear hnn hzm hfm
  obtain ⟨A, hA⟩ : ∃ A, A = w.alloc (.cells #[.int .i64 sl, .int .i64 sh, .slice a n cap] 26) := ⟨_, rfl⟩
  have HBA := Lib.hid (show Below w.heap.size w A by rw [hA]; exact ((Below.refl _ _).alloc (Nat.le_refl _) _))
  have hltA : w.heap.size + 1 ≤ A.heap.size := by rw [hA]; simp
  have q0 : A.cell? ⟨w.heap.size, 0, none⟩ = some (.int .i64 sl) := by rw [hA]; exact (cellHB (World.alloc_heap_new w _) 0).trans (by simp)
  have q1 : A.cell? ⟨w.heap.size, 1, none⟩ = some (.int .i64 sh) := by rw [hA]; exact (cellHB (World.alloc_heap_new w _) 1).trans (by simp)
  have q2 : A.cell? ⟨w.heap.size, 2, none⟩ = some (.slice a n cap) := by rw [hA]; exact (cellHB (World.alloc_heap_new w _) 2).trans (by simp)
  have KK := Lib.hid (show ∀ W, Below A.heap.size A W → W.cell? ⟨w.heap.size, 0, none⟩ = some (.int .i64 sl) ∧ W.cell? ⟨w.heap.size, 1, none⟩ = some (.int .i64 sh) ∧ W.cell? ⟨w.heap.size, 2, none⟩ = some (.slice a n cap) from fun W h => ⟨(h.cell (p := ⟨w.heap.size, 0, none⟩) (by show w.heap.size < A.heap.size; omega)).trans q0, (h.cell (p := ⟨w.heap.size, 1, none⟩) (by show w.heap.size < A.heap.size; omega)).trans q1, (h.cell (p := ⟨w.heap.size, 2, none⟩) (by show w.heap.size < A.heap.size; omega)).trans q2⟩)
  have HLT := Lib.hid hltA
  clear hltA q0 q1 q2
  obtain ⟨k0, k1, k2⟩ := KK.out _ (Below.refl _ _)
  go_enter Try.func12, Try.ntmps12
  go_upto_region 1 with fail
  rw [← hA]
  clear hA
  go_wp2_with fail
  refine (c1.out _ HBA.out).mono ?_
  rintro e w1 ⟨rfl, hb⟩
  have HB1 := Lib.hid hb
  clear hb k0 k1 k2
  obtain ⟨k0, k1, k2⟩ := KK.out _ HB1.out
  go_wp2_with fail
  go_loopw [7, 8, 10] (fun lv bv iv wr => ∃ i : Nat, i ≤ fm ∧ iv = .int .i64 i ∧ wr.ownsRow A.heap.size 3 1 lv i (flatN (ordL n fs i)) ∧ wr.ownsRow A.heap.size 3 1 bv i (flatN (ordL n fs i).reverse) ∧ (lv.ownBlock = none ∨ lv.ownBlock ≠ bv.ownBlock) ∧ Below A.heap.size A wr) (fun _ _ iv _ => fm - (intOf iv).toNat)
  case atStart => exact ⟨0, Nat.zero_le _, rfl, World.ownsRow_nil _ _ _ _, World.ownsRow_nil _ _ _ _, .inl rfl, HB1.out⟩
  case round =>
    obtain ⟨i, hi, rfl, hrl, hrb, hdist, hB⟩ := hrel
    have HB := Lib.hid hB
    have HL := Lib.hid hrl
    have HK := Lib.hid hrb
    have HD := Lib.hid hdist
    obtain ⟨la, lc, rfl⟩ := own_form hrl
    obtain ⟨ba, bc, rfl⟩ := own_form hrb
    clear hB k0 k1 k2 hdist
    obtain ⟨k0, k1, k2⟩ := KK.out _ HB.out
    by_cases hlt : i < fm
    · clear hrl hrb
      have hii : (i : Int) < (fm : Int) := by omega
      have HWA := Lib.hid (HBA.out.trans (HB.out.mono HBA.out.size))
      obtain ⟨g, o, rfl, hg, c0⟩ := HZt.out _ i HWA.out hlt
      obtain ⟨hz1b, hz2b⟩ := HFBY.out i hlt
      have HY := Lib.hid (HOS.out n i hlt)
      obtain ⟨x, hx⟩ : ∃ x, x = 1 + (ti fs i).toNat % (n - 1) := ⟨_, rfl⟩
      rw [← hx] at HY
      have hxb : 0 < x ∧ x < n := by have := Nat.mod_lt (ti fs i).toNat (show 0 < n - 1 by omega); omega
      obtain ⟨q, hq⟩ : ∃ q, q = (ti fs i).tmod ((n : Int) - 1) := ⟨_, rfl⟩
      have hqx : (1 : Int) + q = (x : Int) := by
        rw [hq, Int.tmod_eq_emod_of_nonneg hz1b, hx]
        have e : ti fs i = ((ti fs i).toNat : Int) := by omega
        have e2 : ((n : Int) - 1) = ((n - 1 : Nat) : Int) := by omega
        rw [e2]
        conv => lhs; rw [e]
        rw [← Int.natCast_emod]
        omega
      generalize ti fs i = z at *
      have HTM := Lib.hid (show z.tmod ((n : Int) - 1) = q ∧ (1 : Int) + q = (x : Int) from ⟨hq.symm, hqx⟩)
      have hqb : 0 ≤ q ∧ q ≤ 20 := by omega
      have hn1 : ((n : Int) - 1 == 0) = false := by simp; omega
      have hzw : IntKind.wrap .i64 z = z := by rw [IntKind.wrap_i64]; omega
      have hnw : IntKind.wrap .i64 ((n : Int) - 1) = (n : Int) - 1 := by rw [IntKind.wrap_i64]; omega
      have hqw : IntKind.wrap .i64 q = q := by rw [IntKind.wrap_i64]; omega
      have hxw : IntKind.wrap .i64 (x : Int) = (x : Int) := by rw [IntKind.wrap_i64]; omega
      clear hx hq hqx
      go_upto_region 7 with fail
      obtain ⟨htm, hqx⟩ := HTM.out
      refine wp_region_held_drew (S := fun w' => w'.cell? ⟨w.heap.size, 2, none⟩ = some (Value.slice a n cap) ∧ w'.cell? ⟨g, o + i, none⟩ = some (Value.int .u8 z)) (by kernel_rfl) ⟨by simpa [go_sem] using k2, by simpa [go_sem] using c0⟩ (fun hHeld => ?_)
      refine wpAnyH_take (i := 0) (oi := _) (v := Value.slice (some ⟨g, o, none⟩) fm tc) rfl (by kernel_rfl) (by kernel_rfl) (by kernel_rfl) (fun _ _ _ h => h) (Or.inl ⟨by rfl, fun w' hSw => ?_⟩) hHeld ?_
      · obtain ⟨t0, t1⟩ := hSw
        go_simp
        try simp [*]
        try (intro hh; exfalso; omega)
        try omega
      try simp only [Act.put, List.setIfInBounds_toArray, List.set_cons_zero, List.set_cons_succ, List.getElem_toArray, List.getElem_cons_succ, List.getElem_cons_zero]
      refine wpAnyH_take (i := 1) (oi := _) (v := Value.int .i64 (i : Int)) rfl (by kernel_rfl) (by kernel_rfl) (by kernel_rfl) (fun _ _ _ h => h) (Or.inl ⟨by rfl, fun w' hSw => ?_⟩) hHeld ?_
      · obtain ⟨t0, t1⟩ := hSw
        go_simp
        try simp [*]
        try (intro hh; exfalso; omega)
        try omega
      try simp only [Act.put, List.setIfInBounds_toArray, List.set_cons_zero, List.set_cons_succ, List.getElem_toArray, List.getElem_cons_succ, List.getElem_cons_zero]
      refine wpAnyH_take (i := 2) (oi := _) (v := Value.pointer (some ⟨g, o + i, none⟩)) rfl (by kernel_rfl) (by kernel_rfl) (by kernel_rfl) (fun _ _ _ h => h) (Or.inl ⟨by rfl, fun w' hSw => ?_⟩) hHeld ?_
      · obtain ⟨t0, t1⟩ := hSw
        go_simp
        try simp [*]
        try (intro hh; exfalso; omega)
        try omega
      try simp only [Act.put, List.setIfInBounds_toArray, List.set_cons_zero, List.set_cons_succ, List.getElem_toArray, List.getElem_cons_succ, List.getElem_cons_zero]
      refine wpAnyH_take (i := 3) (oi := _) (v := Value.int .u8 z) rfl (by kernel_rfl) (by kernel_rfl) (by kernel_rfl) (fun _ _ _ h => h) (Or.inl ⟨by rfl, fun w' hSw => ?_⟩) hHeld ?_
      · obtain ⟨t0, t1⟩ := hSw
        go_simp
        try simp [*]
        try (intro hh; exfalso; omega)
        try omega
      try simp only [Act.put, List.setIfInBounds_toArray, List.set_cons_zero, List.set_cons_succ, List.getElem_toArray, List.getElem_cons_succ, List.getElem_cons_zero]
      refine wpAnyH_take (i := 4) (oi := _) (v := Value.int .i64 z) rfl (by kernel_rfl) (by kernel_rfl) (by kernel_rfl) (fun _ _ _ h => h) (Or.inl ⟨by rfl, fun w' hSw => ?_⟩) hHeld ?_
      · obtain ⟨t0, t1⟩ := hSw
        go_simp
        try simp [*]
        try (intro hh; exfalso; omega)
        try omega
      try simp only [Act.put, List.setIfInBounds_toArray, List.set_cons_zero, List.set_cons_succ, List.getElem_toArray, List.getElem_cons_succ, List.getElem_cons_zero]
      refine wpAnyH_take (i := 5) (oi := _) (v := Value.pointer (some ⟨w.heap.size, 2, none⟩)) rfl (by kernel_rfl) (by kernel_rfl) (by kernel_rfl) (fun _ _ _ h => h) (Or.inl ⟨by rfl, fun w' hSw => ?_⟩) hHeld ?_
      · obtain ⟨t0, t1⟩ := hSw
        go_simp
        try simp [*]
        try (intro hh; exfalso; omega)
        try omega
      try simp only [Act.put, List.setIfInBounds_toArray, List.set_cons_zero, List.set_cons_succ, List.getElem_toArray, List.getElem_cons_succ, List.getElem_cons_zero]
      refine wpAnyH_take (i := 6) (oi := _) (v := Value.slice a n cap) rfl (by kernel_rfl) (by kernel_rfl) (by kernel_rfl) (fun _ _ _ h => h) (Or.inl ⟨by rfl, fun w' hSw => ?_⟩) hHeld ?_
      · obtain ⟨t0, t1⟩ := hSw
        go_simp
        try simp [*]
        try (intro hh; exfalso; omega)
        try omega
      try simp only [Act.put, List.setIfInBounds_toArray, List.set_cons_zero, List.set_cons_succ, List.getElem_toArray, List.getElem_cons_succ, List.getElem_cons_zero]
      refine wpAnyH_take (i := 7) (oi := _) (v := Value.int .i64 n) rfl (by kernel_rfl) (by kernel_rfl) (by kernel_rfl) (fun _ _ _ h => h) (Or.inl ⟨by rfl, fun w' hSw => ?_⟩) hHeld ?_
      · obtain ⟨t0, t1⟩ := hSw
        go_simp
        try simp [*]
        try (intro hh; exfalso; omega)
        try omega
      try simp only [Act.put, List.setIfInBounds_toArray, List.set_cons_zero, List.set_cons_succ, List.getElem_toArray, List.getElem_cons_succ, List.getElem_cons_zero]
      refine wpAnyH_take (i := 8) (oi := _) (v := Value.int .i64 ((n : Int) - 1)) rfl (by kernel_rfl) (by kernel_rfl) (by kernel_rfl) (fun _ _ _ h => h) (Or.inl ⟨by rfl, fun w' hSw => ?_⟩) hHeld ?_
      · obtain ⟨t0, t1⟩ := hSw
        go_simp
        try simp [*]
        try (intro hh; exfalso; omega)
        try omega
      try simp only [Act.put, List.setIfInBounds_toArray, List.set_cons_zero, List.set_cons_succ, List.getElem_toArray, List.getElem_cons_succ, List.getElem_cons_zero]
      refine wpAnyH_take (i := 9) (oi := _) (v := Value.int .i64 q) rfl (by kernel_rfl) (by kernel_rfl) (by kernel_rfl) (fun _ _ _ h => h) (Or.inl ⟨by rfl, fun w' hSw => ?_⟩) hHeld ?_
      · obtain ⟨t0, t1⟩ := hSw
        go_simp
        try simp [*]
        try (intro hh; exfalso; omega)
        try omega
      try simp only [Act.put, List.setIfInBounds_toArray, List.set_cons_zero, List.set_cons_succ, List.getElem_toArray, List.getElem_cons_succ, List.getElem_cons_zero]
      refine wpAnyH_take (i := 10) (oi := _) (v := Value.int .i64 (x : Int)) rfl (by kernel_rfl) (by kernel_rfl) (by kernel_rfl) (fun _ _ _ h => h) (Or.inl ⟨by rfl, fun w' hSw => ?_⟩) hHeld ?_
      · obtain ⟨t0, t1⟩ := hSw
        go_simp
        try simp [*]
        try (intro hh; exfalso; omega)
        try omega
      try simp only [Act.put, List.setIfInBounds_toArray, List.set_cons_zero, List.set_cons_succ, List.getElem_toArray, List.getElem_cons_succ, List.getElem_cons_zero]
      refine wpAnyH_take (i := 11) (oi := _) (v := Value.int .i64 (x : Int)) rfl (by kernel_rfl) (by kernel_rfl) (by kernel_rfl) (fun _ _ _ h => h) (Or.inl ⟨by rfl, fun w' hSw => ?_⟩) hHeld ?_
      · obtain ⟨t0, t1⟩ := hSw
        go_simp
        try simp [*]
        try (intro hh; exfalso; omega)
        try omega
      try simp only [Act.put, List.setIfInBounds_toArray, List.set_cons_zero, List.set_cons_succ, List.getElem_toArray, List.getElem_cons_succ, List.getElem_cons_zero]
      refine wpAnyH_done (by kernel_rfl) ?_ _
      clear hHeld
      clear k0 k1 k2 c0 htm hqx hqw hnw hn1 hqb
      have HBD := Lib.hid (HB.out.drew)
      have HLD := Lib.hid (own_keep3 HL.out (Below.refl wr.heap.size wr).drew)
      have HKD := Lib.hid (own_keep3 HK.out (Below.refl wr.heap.size wr).drew)
      generalize wr.drew = D1 at *
      obtain ⟨k0, k1, k2⟩ := KK.out _ HBD.out
      go_upto_region 9 with (at_builtin; refine wpList_append_own_at _ rfl _ _ 29 rfl A.heap.size 3 i0 (.int .i64 0) 1 8 Try.underlying29 hi0 hz0 hz1 hz2 rfl (by decide) _ _ _ rfl (HLD.out.alloc _) ⟨D1.heap.size, 0, none⟩ 1 1 [.int .i64 (x : Int)] rfl rfl (one_new3 _ _) (by simp [Value.oneCell']) (by unfold maxLen; omega) (by omega) (by have := HBD.out.size; simp; omega) ?_; intro v1 w5 hown' hgrow _ hob; have HG := Lib.hid hgrow; have HO := Lib.hid hown'; have HOB := Lib.hid hob; clear hown' hgrow hob)
      have HR5 := Lib.hid (show w5.ownsRow A.heap.size 3 1 v1 (i + 1) (flatN (ordL n fs (i + 1))) by rw [HY.out, flatN_snoc]; exact HO.out)
      have HK5 := Lib.hid (show w5.ownsRow A.heap.size 3 1 (.slice ba i bc) i (flatN (ordL n fs i).reverse) from (HKD.out.alloc _).kept HG.out (dist_sym HD.out))
      have HB5 := Lib.hid (show Below A.heap.size A w5 from (HBD.out.alloc HBD.out.size _).grown HG.out (by have := HBD.out.size; simp; omega) (fun r e => (((HLD.out.alloc (.cells #[.int .i64 (x : Int)] 3)).lt r e).1)))
      have HLIT := Lib.hid (show (w5.alloc (.cells #[.int .i64 (x : Int)] 3)).ownsRow A.heap.size 3 1 (.slice (some ⟨w5.heap.size, 0, none⟩) 1 1) 1 [.int .i64 (x : Int)] from World.ownsRow_lit w5 #[.int .i64 (x : Int)] 1 HB5.out.size (by unfold maxLen; omega) rfl)
      have HREV := Lib.hid (show flatN (ordL n fs (i + 1)).reverse = [.int .i64 (x : Int)] ++ flatN (ordL n fs i).reverse by rw [HY.out, List.reverse_append]; rfl)
      have HL5 := Lib.hid (show ∀ r, v1.ownBlock = some r → r < w5.heap.size from fun r e => (HR5.out.lt r e).2)
      clear k0 k1 k2
      have hk5 := HK5.out
      rcases hk5.2 with ⟨e, h0⟩ | ⟨gb, cb, cur, e, -⟩
      · subst h0
        simp only [Value.slice.injEq] at e
        obtain ⟨rfl, -, rfl⟩ := e
        clear hk5
        have HRB := Lib.hid (show (w5.alloc (.cells #[.int .i64 (x : Int)] 3)).ownsRow A.heap.size 3 1 (.slice (some ⟨w5.heap.size, 0, none⟩) 1 1) (0 + 1) (flatN (ordL n fs (0 + 1)).reverse) by rw [HREV.out]; simpa [ordL, flatN] using HLIT.out)
        have HRA := Lib.hid (HR5.out.alloc (.cells #[.int .i64 (x : Int)] 3))
        have HDD := Lib.hid (show v1.ownBlock = none ∨ v1.ownBlock ≠ (Value.slice (some ⟨w5.heap.size, 0, none⟩) 1 1).ownBlock from dist_far HL5.out ⟨_, rfl, Nat.le_refl _⟩)
        have HBE := Lib.hid (HB5.out.alloc HB5.out.size (.cells #[.int .i64 (x : Int)] 3))
        go_wp2_with (at_builtin; refine wpList_append_own_none rfl _ _ 29 rfl A.heap.size 3 i0 1 Try.underlying29 hi0 _ _ _ rfl HLIT.out rfl ?_)
        go_roundw
        case rel => exact ⟨0 + 1, by omega, by go_num, HRA.out, HRB.out, HDD.out, HBE.out⟩
        case measure => simp [intOf]; omega
      · simp only [Value.slice.injEq] at e
        obtain ⟨rfl, -, rfl⟩ := e
        have HBC := Lib.hid (fun j u (h : (flatN (ordL n fs i).reverse)[j]? = some u) => ((hk5.alloc (.cells #[.int .i64 (x : Int)] 3)).cells (g := gb) rfl) j u h)
        have HRL := Lib.hid (show (flatN (ordL n fs i).reverse).length = i * 1 from hk5.1)
        have HONE := Lib.hid (show ∀ u, u ∈ flatN (ordL n fs i).reverse → u.oneCell' = true from fun u hu => by
          unfold flatN at hu
          obtain ⟨y, _, rfl⟩ := List.mem_map.1 hu
          simp [Value.oneCell'])
        clear hk5
        go_wp2_with (at_builtin; refine wpList_append_own_at _ rfl _ _ 29 rfl A.heap.size 3 i0 (.int .i64 0) 1 8 Try.underlying29 hi0 hz0 hz1 hz2 rfl (by decide) _ _ _ rfl HLIT.out ⟨gb, 0, none⟩ i bc (flatN (ordL n fs i).reverse) rfl HRL.out HBC.out HONE.out (by unfold maxLen; omega) (by omega) (by have := HB5.out.size; simp; omega) ?_; intro v2 w6 hown' hgrow _ hob; have HG6 := Lib.hid hgrow; have HO6 := Lib.hid hown'; have HOB6 := Lib.hid hob; clear hown' hgrow hob)
        have HRB := Lib.hid (show w6.ownsRow A.heap.size 3 1 v2 (i + 1) (flatN (ordL n fs (i + 1)).reverse) by rw [HREV.out, Nat.add_comm i 1]; exact HO6.out)
        have HRA := Lib.hid (show w6.ownsRow A.heap.size 3 1 v1 (i + 1) (flatN (ordL n fs (i + 1))) from (HR5.out.alloc (.cells #[.int .i64 (x : Int)] 3)).kept HG6.out (dist_far HL5.out ⟨_, rfl, Nat.le_refl _⟩))
        have HDD := Lib.hid (show v1.ownBlock = none ∨ v1.ownBlock ≠ v2.ownBlock from dist_far HL5.out (by
          rcases HOB6.out with e | e
          · exact ⟨w5.heap.size, by rw [e]; rfl, Nat.le_refl _⟩
          · exact ⟨_, e, by simp⟩))
        have HBE := Lib.hid (show Below A.heap.size A w6 from (HB5.out.alloc HB5.out.size _).grown HG6.out (by have := HB5.out.size; simp; omega) (fun r e => (HLIT.out.lt r e).1))
        go_roundw
        case rel => exact ⟨i + 1, by omega, by go_num, HRA.out, HRB.out, HDD.out, HBE.out⟩
        case measure => simp [intOf]; omega
    · obtain rfl : i = fm := by omega
      obtain ⟨W2, rfl⟩ : ∃ W2, W2 = wr := ⟨_, rfl⟩
      clear hrl hrb HFBY HZt
      go_wp2_with fail
      go_loopw [9, 12] (fun ov iv wr => ∃ j : Nat, j ≤ zm ∧ iv = .int .i64 j ∧ wr.ownsRow W2.heap.size 3 1 ov (hldL ns n ks j).length (flatN (hldL ns n ks j)) ∧ Below W2.heap.size W2 wr) (fun _ iv _ => zm - (intOf iv).toNat)
      case atStart => exact ⟨0, Nat.zero_le _, rfl, by rw [HH0.out]; exact World.ownsRow_nil _ _ _ _, Below.refl _ _⟩
      case round =>
        obtain ⟨j, hj, rfl, hrow, hBR⟩ := hrel
        have HBR := Lib.hid hBR
        have HBW := Lib.hid (HB.out.trans (hBR.mono HB.out.size))
        have HROW := Lib.hid hrow
        obtain ⟨oa, oc, rfl⟩ := own_form3 hrow
        clear hrow hBR k0 k1 k2
        obtain ⟨k0, k1, k2⟩ := KK.out _ HBW.out
        by_cases hlt : j < zm
        · have hjj : (j : Int) < (zm : Int) := by omega
          have HWA := Lib.hid (HBA.out.trans (HBW.out.mono HBA.out.size))
          obtain ⟨g, o, rfl, hg, c0⟩ := HZs.out _ j HWA.out hlt
          obtain ⟨hz1b, hz2b⟩ := HKBY.out j hlt
          have HY := Lib.hid (HHY.out n j hlt)
          have HN := Lib.hid (HHN.out n j hlt)
          have hhl := HHL.out n j
          obtain ⟨x, hx⟩ : ∃ x, x = (ti ks j).toNat % n := ⟨_, rfl⟩
          rw [← hx] at HY HN
          have hxn : x < n := by rw [hx]; exact Nat.mod_lt _ (by omega)
          have htm : (ti ks j).tmod (n : Int) = (x : Int) := by
            rw [Int.tmod_eq_emod_of_nonneg hz1b, hx, Int.natCast_emod]
            congr 1
            omega
          generalize ti ks j = z at *
          have cb := Lib.hid (cB.out x hxn)
          have HTM := Lib.hid htm
          have hnz : ((n : Int) == 0) = false := by simp; omega
          have hzw : IntKind.wrap .i64 z = z := by rw [IntKind.wrap_i64]; omega
          have hxw : IntKind.wrap .i64 (x : Int) = (x : Int) := by rw [IntKind.wrap_i64]; omega
          clear hx htm
          go_upto_region 13 with fail
          have htm := HTM.out
          refine wp_region_held_drew (S := fun w' => w'.cell? ⟨w.heap.size, 2, none⟩ = some (Value.slice a n cap) ∧ w'.cell? ⟨g, o + j, none⟩ = some (Value.int .u8 z)) (by kernel_rfl) ⟨by simpa [go_sem] using k2, by simpa [go_sem] using c0⟩ (fun hHeld => ?_)
          refine wpAnyH_take (i := 0) (oi := _) (v := Value.slice (some ⟨g, o, none⟩) zm sc) rfl (by kernel_rfl) (by kernel_rfl) (by kernel_rfl) (fun _ _ _ h => h) (Or.inl ⟨by rfl, fun w' hSw => ?_⟩) hHeld ?_
          · obtain ⟨t0, t1⟩ := hSw
            go_simp
            try simp [*]
            try (intro hh; exfalso; omega)
            try omega
          try simp only [Act.put, List.setIfInBounds_toArray, List.set_cons_zero, List.set_cons_succ, List.getElem_toArray, List.getElem_cons_succ, List.getElem_cons_zero]
          refine wpAnyH_take (i := 1) (oi := _) (v := Value.int .i64 (j : Int)) rfl (by kernel_rfl) (by kernel_rfl) (by kernel_rfl) (fun _ _ _ h => h) (Or.inl ⟨by rfl, fun w' hSw => ?_⟩) hHeld ?_
          · obtain ⟨t0, t1⟩ := hSw
            go_simp
            try simp [*]
            try (intro hh; exfalso; omega)
            try omega
          try simp only [Act.put, List.setIfInBounds_toArray, List.set_cons_zero, List.set_cons_succ, List.getElem_toArray, List.getElem_cons_succ, List.getElem_cons_zero]
          refine wpAnyH_take (i := 2) (oi := _) (v := Value.pointer (some ⟨g, o + j, none⟩)) rfl (by kernel_rfl) (by kernel_rfl) (by kernel_rfl) (fun _ _ _ h => h) (Or.inl ⟨by rfl, fun w' hSw => ?_⟩) hHeld ?_
          · obtain ⟨t0, t1⟩ := hSw
            go_simp
            try simp [*]
            try (intro hh; exfalso; omega)
            try omega
          try simp only [Act.put, List.setIfInBounds_toArray, List.set_cons_zero, List.set_cons_succ, List.getElem_toArray, List.getElem_cons_succ, List.getElem_cons_zero]
          refine wpAnyH_take (i := 3) (oi := _) (v := Value.int .u8 z) rfl (by kernel_rfl) (by kernel_rfl) (by kernel_rfl) (fun _ _ _ h => h) (Or.inl ⟨by rfl, fun w' hSw => ?_⟩) hHeld ?_
          · obtain ⟨t0, t1⟩ := hSw
            go_simp
            try simp [*]
            try (intro hh; exfalso; omega)
            try omega
          try simp only [Act.put, List.setIfInBounds_toArray, List.set_cons_zero, List.set_cons_succ, List.getElem_toArray, List.getElem_cons_succ, List.getElem_cons_zero]
          refine wpAnyH_take (i := 4) (oi := _) (v := Value.int .i64 z) rfl (by kernel_rfl) (by kernel_rfl) (by kernel_rfl) (fun _ _ _ h => h) (Or.inl ⟨by rfl, fun w' hSw => ?_⟩) hHeld ?_
          · obtain ⟨t0, t1⟩ := hSw
            go_simp
            try simp [*]
            try (intro hh; exfalso; omega)
            try omega
          try simp only [Act.put, List.setIfInBounds_toArray, List.set_cons_zero, List.set_cons_succ, List.getElem_toArray, List.getElem_cons_succ, List.getElem_cons_zero]
          refine wpAnyH_take (i := 5) (oi := _) (v := Value.pointer (some ⟨w.heap.size, 2, none⟩)) rfl (by kernel_rfl) (by kernel_rfl) (by kernel_rfl) (fun _ _ _ h => h) (Or.inl ⟨by rfl, fun w' hSw => ?_⟩) hHeld ?_
          · obtain ⟨t0, t1⟩ := hSw
            go_simp
            try simp [*]
            try (intro hh; exfalso; omega)
            try omega
          try simp only [Act.put, List.setIfInBounds_toArray, List.set_cons_zero, List.set_cons_succ, List.getElem_toArray, List.getElem_cons_succ, List.getElem_cons_zero]
          refine wpAnyH_take (i := 6) (oi := _) (v := Value.slice a n cap) rfl (by kernel_rfl) (by kernel_rfl) (by kernel_rfl) (fun _ _ _ h => h) (Or.inl ⟨by rfl, fun w' hSw => ?_⟩) hHeld ?_
          · obtain ⟨t0, t1⟩ := hSw
            go_simp
            try simp [*]
            try (intro hh; exfalso; omega)
            try omega
          try simp only [Act.put, List.setIfInBounds_toArray, List.set_cons_zero, List.set_cons_succ, List.getElem_toArray, List.getElem_cons_succ, List.getElem_cons_zero]
          refine wpAnyH_take (i := 7) (oi := _) (v := Value.int .i64 n) rfl (by kernel_rfl) (by kernel_rfl) (by kernel_rfl) (fun _ _ _ h => h) (Or.inl ⟨by rfl, fun w' hSw => ?_⟩) hHeld ?_
          · obtain ⟨t0, t1⟩ := hSw
            go_simp
            try simp [*]
            try (intro hh; exfalso; omega)
            try omega
          try simp only [Act.put, List.setIfInBounds_toArray, List.set_cons_zero, List.set_cons_succ, List.getElem_toArray, List.getElem_cons_succ, List.getElem_cons_zero]
          refine wpAnyH_take (i := 8) (oi := _) (v := Value.int .i64 (x : Int)) rfl (by kernel_rfl) (by kernel_rfl) (by kernel_rfl) (fun _ _ _ h => h) (Or.inl ⟨by rfl, fun w' hSw => ?_⟩) hHeld ?_
          · obtain ⟨t0, t1⟩ := hSw
            go_simp
            try simp [*]
            try (intro hh; exfalso; omega)
            try omega
          try simp only [Act.put, List.setIfInBounds_toArray, List.set_cons_zero, List.set_cons_succ, List.getElem_toArray, List.getElem_cons_succ, List.getElem_cons_zero]
          refine wpAnyH_take (i := 9) (oi := _) (v := Value.int .i64 (x : Int)) rfl (by kernel_rfl) (by kernel_rfl) (by kernel_rfl) (fun _ _ _ h => h) (Or.inl ⟨by rfl, fun w' hSw => ?_⟩) hHeld ?_
          · obtain ⟨t0, t1⟩ := hSw
            go_simp
            try simp [*]
            try (intro hh; exfalso; omega)
            try omega
          try simp only [Act.put, List.setIfInBounds_toArray, List.set_cons_zero, List.set_cons_succ, List.getElem_toArray, List.getElem_cons_succ, List.getElem_cons_zero]
          refine wpAnyH_done (by kernel_rfl) ?_ _
          clear hHeld
          clear k0 k1 k2 c0 htm
          have HBD := Lib.hid (HBR.out.drew)
          have HBDA := Lib.hid (HBW.out.drew)
          have HROWD := Lib.hid (own_keep3 HROW.out (Below.refl wr.heap.size wr).drew)
          obtain ⟨k0, k1, k2⟩ := KK.out _ HBDA.out
          go_wp2_with fail
          refine (cb.out _ (HBA.out.trans (HBDA.out.mono HBA.out.size))).mono ?_
          rintro e w3 ⟨he, hb⟩
          have HB3 := Lib.hid (HBD.out.trans (hb.mono HBD.out.size))
          have HB3A := Lib.hid (HBDA.out.trans (hb.mono HBDA.out.size))
          have HROW3 := Lib.hid (own_keep3 HROWD.out hb)
          clear hb k0 k1 k2
          obtain ⟨k0, k1, k2⟩ := KK.out _ HB3A.out
          subst he
          cases hbx : brk ns x
          · have HN2 := Lib.hid (HN.out hbx)
            clear hbx
            go_wp2_with fail
            go_roundw
            case rel => exact ⟨j + 1, by omega, by go_num, by rw [HN2.out]; exact HROW3.out, HB3.out⟩
            case measure => simp [intOf]; omega
          · have HY2 := Lib.hid (HY.out hbx)
            clear hbx
            go_wp2_with (at_builtin; refine wpList_append_own _ rfl _ _ 29 rfl W2.heap.size 3 i0 (.int .i64 0) 1 8 Try.underlying29 hi0 hz0 hz1 hz2 rfl (by decide) _ _ _ rfl (HROW3.out.alloc _) ⟨w3.heap.size, 0, none⟩ 1 1 [.int .i64 (x : Int)] rfl rfl (one_new3 _ _) (by simp [Value.oneCell']) (by unfold maxLen; omega) (by omega) (by have := HB3.out.size; simp; omega) ?_; intro v' w5 hown' hgrow _; have HG := Lib.hid hgrow; have HO := Lib.hid hown'; obtain ⟨g', cap', rfl⟩ := ownsRow_succ hown'; clear hown' hgrow; have HB5 := Lib.hid (show Below W2.heap.size W2 w5 from (HB3.out.alloc HB3.out.size _).grown HG.out (by have := HB3.out.size; simp; omega) (fun r e => (((HROW3.out.alloc (.cells #[.int .i64 (x : Int)] 3)).lt r e).1))))
            have HR5 := Lib.hid (show w5.ownsRow W2.heap.size 3 1 _ (hldL ns n ks (j + 1)).length (flatN (hldL ns n ks (j + 1))) by rw [HY2.out, flatN_snoc, List.length_append]; simpa using HO.out)
            go_roundw
            case rel => exact ⟨j + 1, by omega, by go_num, HR5.out, HB5.out⟩
            case measure => simp [intOf]; omega
        · obtain rfl : j = zm := by omega
          have hH16 : (hldL ns n ks j).length ≤ 16 := by have := HHL.out n j; omega
          have HSTU := Lib.hid (HST.out _ hH16 (fun x hx => HHM.out n (by omega) j x hx))
          have HIH := Lib.hid (il_of_own HROW.out)
          have HLW := Lib.hid (own_below HL.out HBR.out)
          have HIL := Lib.hid (il_of_own' (HOL.out n i (Nat.le_refl _)) HLW.out)
          have HIB := Lib.hid (il_of_own' (l := (ordL n fs i).reverse) (by rw [List.length_reverse]; exact HOL.out n i (Nat.le_refl _)) (own_below HK.out HBR.out))
          have HFM := Lib.hid (fun x (h : x ∈ ordL n fs i) => HOM.out n (by omega) i x h)
          have HFL := Lib.hid (HOL.out n i (Nat.le_refl _))
          have HFR := Lib.hid (show ∀ x, x ∈ (ordL n fs i).reverse → 0 < x ∧ x < n from fun x h => HFM.out x (List.mem_reverse.1 h))
          have HSPL := Lib.hid (show 0 < i → ∃ FP xl, ordL n fs i = FP ++ [xl] ∧ FP.length + 1 = i from fun h => by
            obtain ⟨p, rfl⟩ : ∃ p, i = p + 1 := ⟨i - 1, by omega⟩
            exact ⟨_, _, HOS.out n p (by omega), by rw [HOL.out n p (by omega)]⟩)
          have cFa := Lib.hid (cF.out (.slice la i lc) (.slice oa (hldL ns n ks j).length oc) (ordL n fs i) (hldL ns n ks j) (by rw [HFL.out]; omega) hH16 HSTU.out HFM.out)
          have cFb := Lib.hid (cF.out (.slice ba i bc) (.slice oa (hldL ns n ks j).length oc) (ordL n fs i).reverse (hldL ns n ks j) (by rw [List.length_reverse, HFL.out]; omega) hH16 HSTU.out HFR.out)
          have cFp := Lib.hid (fun fv l hl hm => cF.out fv (.slice oa (hldL ns n ks j).length oc) l (hldL ns n ks j) hl hH16 HSTU.out hm)
          have HLB' := Lib.hid (fun h => HLB.out h (ordL n fs i) (zs (hldL ns n ks j)) HFM.out)
          have HLT' := Lib.hid (fun y => HLT3.out (ordL n fs i) (zs (hldL ns n ks j)) HFM.out y)
          have HLU' := Lib.hid (fun x y => HLU.out (ordL n fs i) (zs (hldL ns n ks j)) HFM.out x y)
          have HLM' := Lib.hid (fun l x y => HLM.out l (zs (hldL ns n ks j)) x y)
          have HLF' := Lib.hid (fun l x => HLF.out l (zs (hldL ns n ks j)) x)
          have HLN' := Lib.hid (HLN.out (zs (hldL ns n ks j)))
          have hll := fun fs' => lostL_len ns (zs (hldL ns n ks j)) fs'
          clear HHY HHN HHL HH0 HHM HST HZs HKBY cB HROW HL HK HOS HOL HOM HLB HLT3 HLU HLM HLF HLN cF HSTU
          generalize hldL ns n ks j = H at *
          generalize ordL n fs i = FS at *
          have hLA : (zs (lostL ns (zs H) (zs FS))).length ≤ 1000 := by rw [zs_len]; have := hll (zs FS); omega
          have hLA2 := zs_len (lostL ns (zs H) (zs FS))
          have HNIL := Lib.hid (show FS = [] → lostL ns (zs H) (zs FS) = [] from fun h => by rw [h]; exact HLN'.out)
          have HPRE := Lib.hid (show ∀ FP xl, FS = FP ++ [xl] → (∀ x, x ∈ FP → 0 < x ∧ x < n) ∧ xl ∈ lostL ns (zs H) (zs FS) ∧ ∀ y, y ∈ lostL ns (zs H) (zs FP) → y ∈ lostL ns (zs H) (zs FS) from fun FP xl e => by
            have hFP : ∀ x, x ∈ FP → 0 < x ∧ x < n := fun x h => HFM.out x (by rw [e]; simp [h])
            refine ⟨hFP, ?_, fun y hy => ?_⟩
            · rw [e]; exact HLF'.out FP xl (by rw [← e]; exact HFM.out)
            · rw [e]; exact HLM'.out FP xl y hFP hy)
          clear HLN' HLF' HLM' hll
          generalize lostL ns (zs H) (zs FS) = LA at *
          generalize lostL ns (zs H) (zs FS.reverse) = LB at *
          generalize CR.1 = r1 at *
          generalize CR.2.1 = r2 at *
          generalize CR.2.2 = r3 at *
          go_wp2_with fail
          refine (cC.out _ (HBA.out.trans (HBW.out.mono HBA.out.size))).mono ?_
          rintro e w3 ⟨rfl, hb⟩
          have HB3 := Lib.hid (HBW.out.trans (hb.mono HBW.out.size))
          replace HIH := Lib.hid (HIH.out.at hb)
          replace HIL := Lib.hid (HIL.out.at hb)
          replace HIB := Lib.hid (HIB.out.at hb)
          replace HLW := Lib.hid (own_below HLW.out hb)
          clear hb k0 k1 k2
          obtain ⟨k0, k1, k2⟩ := KK.out _ HB3.out
          go_wp2_with fail
          refine (cFa.out _ (HBA.out.trans (HB3.out.mono HBA.out.size)) HIL.out HIH.out).mono ?_
          rintro e w4 ⟨va, rfl, hia, hb⟩
          have HB4 := Lib.hid (HB3.out.trans (hb.mono HB3.out.size))
          replace HIH := Lib.hid (HIH.out.at hb)
          replace HIB := Lib.hid (HIB.out.at hb)
          replace HLW := Lib.hid (own_below HLW.out hb)
          have HIA := Lib.hid hia
          clear hb hia k0 k1 k2 HIL
          obtain ⟨k0, k1, k2⟩ := KK.out _ HB4.out
          go_wp2_with fail
          refine (cFb.out _ (HBA.out.trans (HB4.out.mono HBA.out.size)) HIB.out HIH.out).mono ?_
          rintro e w5 ⟨vb, rfl, hib, hb⟩
          have HB5 := Lib.hid (HB4.out.trans (hb.mono HB4.out.size))
          replace HIH := Lib.hid (HIH.out.at hb)
          replace HIA := Lib.hid (HIA.out.at hb)
          replace HLW := Lib.hid (own_below HLW.out hb)
          have HIBB := Lib.hid hib
          clear hb hib k0 k1 k2 HIB
          obtain ⟨k0, k1, k2⟩ := KK.out _ HB5.out
          go_upto_region 19 with fail
          go_cut [129] from 114 to 129 (fun sc wc => sc = Value.bool false ∧ Below w5.heap.size w5 wc)
          case first => as_aux_lemma =>
            have h3 := HCR.out
            rcases h3 with h3 | h3
            · have hAB := HLB'.out h3
              subst h3
              have cI := fun W h1 h2 => ints_eq va vb (zs LA) hLA W h1 h2
              rw [← hAB] at HIBB
              clear hAB
              go_wp2_with fail
              refine (cI _ HIA.out HIBB.out).mono ?_
              rintro e w6 ⟨rfl, hb⟩
              have HB6 := Lib.hid hb
              clear hb
              go_wp2_with fail
              go_meet
              case rel => exact ⟨rfl, HB6.out⟩
            · subst h3
              go_wp2_with fail
              go_meet
              case rel => exact ⟨rfl, Below.refl _ _⟩
          case rest => as_aux_lemma =>
            obtain ⟨rfl, hW⟩ := hcut
            obtain ⟨w5', rfl⟩ : ∃ q, q = wc := ⟨_, rfl⟩
            have HB6 := Lib.hid (HB5.out.trans (hW.mono HB5.out.size))
            replace HIH := Lib.hid (HIH.out.at hW)
            replace HIA := Lib.hid (HIA.out.at hW)
            replace HLW := Lib.hid (own_below HLW.out hW)
            clear hW k0 k1 k2 HIBB HLB' HCR cFa cFb
            obtain ⟨k0, k1, k2⟩ := KK.out _ HB6.out
            obtain ⟨aa, ac, hva⟩ := HIA.out.form
            subst hva
            have hna : (zs LA).length = LA.length := zs_len LA
            have cHas := Lib.hid (fun (x : Nat) (hx : x ∈ LA) W (h : Il W.heap.size W (.slice aa (zs LA).length ac) (zs LA)) => show Calls Try.prog 60 #[.slice aa (zs LA).length ac, .int .i64 (x : Int)] W fun e w' => e = .returned (.bool true) ∧ w' = W by
              have q := refHas_any (.slice aa (zs LA).length ac) (zs LA) (x : Int) W h hLA
              rw [decide_eq_true (mem_zs.2 ⟨by omega, by simpa using hx⟩)] at q
              exact q)
            have HAC := Lib.hid (show ∀ W, Below w5'.heap.size w5' W → ∀ k, k < LA.length → ∃ b off, aa = some ⟨b, off, none⟩ ∧ b < w5'.heap.size ∧ W.cell? ⟨b, off + k, none⟩ = some (.int .i64 (tn LA k : Int)) from fun W hW k hk => by
              obtain ⟨a', c', e, -, hcc⟩ := HIA.out
              simp only [Value.slice.injEq] at e
              obtain ⟨rfl, -, -⟩ := e
              obtain ⟨b, off, h1, h2, c0⟩ := hcc k (by rw [hna]; exact hk)
              exact ⟨b, off, h1, h2, (hW.cell (p := ⟨b, _, none⟩) h2).trans (by rw [c0, ti_zs hk])⟩)
            have HTA := Lib.hid (fun k (h : k < LA.length) => tn_mem h)
            generalize (zs LA).length = na at *
            subst hna
            go_wp2_with fail
            go_loopw [21] (fun iv wr => ∃ p : Nat, p ≤ LA.length ∧ iv = .int .i64 p ∧ Below w5'.heap.size w5' wr) (fun iv _ => LA.length - (intOf iv).toNat)
            case atStart => exact ⟨0, Nat.zero_le _, rfl, Below.refl _ _⟩
            case round =>
              obtain ⟨p, hp, rfl, hBR⟩ := hrel
              have HBR := Lib.hid hBR
              have HB7 := Lib.hid (HB6.out.trans (hBR.mono HB6.out.size))
              have HIA7 := Lib.hid (HIA.out.at hBR)
              clear hBR k0 k1 k2
              obtain ⟨k0, k1, k2⟩ := KK.out _ HB7.out
              by_cases hpn : p < LA.length
              · have hpi : (p : Int) < (LA.length : Int) := by omega
                obtain ⟨g, o, rfl, hg, c0⟩ := HAC.out _ HBR.out p hpn
                have hyA := HTA.out p hpn
                have hyn := HLT'.out _ hyA
                have HSUB := Lib.hid (fun x => HLU'.out x _ hyA)
                generalize tn LA p = y at *
                have cSy := Lib.hid (cS'.out y hyn)
                have hsl := HSL.out y
                generalize sub (par ns) n y = SY at *
                have HWW := Lib.hid (HBA.out.trans (HB7.out.mono HBA.out.size))
                have KQ := Lib.hid (show ∀ Z, Below wr.heap.size wr Z → Z.cell? ⟨w.heap.size, 0, none⟩ = some (.int .i64 sl) ∧ Z.cell? ⟨w.heap.size, 1, none⟩ = some (.int .i64 sh) ∧ Z.cell? ⟨w.heap.size, 2, none⟩ = some (.slice a n cap) ∧ Z.cell? ⟨g, o + p, none⟩ = some (.int .i64 (y : Int)) from fun Z h => by
                  have hs := HBA.out.size
                  have hs2 := HB7.out.size
                  have hs3 := HLT.out
                  have hs4 := HBR.out.size
                  exact ⟨(h.cell (p := ⟨w.heap.size, 0, none⟩) (by show w.heap.size < wr.heap.size; omega)).trans k0, (h.cell (p := ⟨w.heap.size, 1, none⟩) (by show w.heap.size < wr.heap.size; omega)).trans k1, (h.cell (p := ⟨w.heap.size, 2, none⟩) (by show w.heap.size < wr.heap.size; omega)).trans k2, (h.cell (p := ⟨g, _, none⟩) (by show g < wr.heap.size; omega)).trans c0⟩)
                have HDR := Lib.hid (show Below wr.heap.size wr wr.drew from (Below.refl _ _).drew)
                go_upto_region 24 with fail
                refine wp_region_held_drew (S := fun w' => w'.cell? ⟨w.heap.size, 0, none⟩ = some (Value.int .i64 sl) ∧ w'.cell? ⟨w.heap.size, 1, none⟩ = some (Value.int .i64 sh) ∧ w'.cell? ⟨w.heap.size, 2, none⟩ = some (Value.slice a n cap) ∧ w'.cell? ⟨g, o + p, none⟩ = some (Value.int .i64 (y : Int))) (by kernel_rfl) ⟨by simpa [go_sem] using k0, by simpa [go_sem] using k1, by simpa [go_sem] using k2, by simpa [go_sem] using c0⟩ (fun hHeld => ?_)
                refine wpAnyH_take (i := 0) (oi := _) (v := Value.agg #[Value.int .i64 sl, Value.int .i64 sh, Value.slice a n cap]) rfl (by kernel_rfl) (by kernel_rfl) (by kernel_rfl) (fun _ _ _ h => h) (Or.inl ⟨by rfl, fun w' hSw => ?_⟩) hHeld ?_
                · obtain ⟨t0, t1, t2, t3⟩ := hSw
                  go_simp
                  try simp [*]
                  try (intro hh; exfalso; omega)
                  try omega
                try simp only [Act.put, List.setIfInBounds_toArray, List.set_cons_zero, List.set_cons_succ, List.getElem_toArray, List.getElem_cons_succ, List.getElem_cons_zero]
                refine wpAnyH_take (i := 1) (oi := _) (v := Value.slice (some ⟨g, o, none⟩) LA.length ac) rfl (by kernel_rfl) (by kernel_rfl) (by kernel_rfl) (fun _ _ _ h => h) (Or.inl ⟨by rfl, fun w' hSw => ?_⟩) hHeld ?_
                · obtain ⟨t0, t1, t2, t3⟩ := hSw
                  go_simp
                  try simp [*]
                  try (intro hh; exfalso; omega)
                  try omega
                try simp only [Act.put, List.setIfInBounds_toArray, List.set_cons_zero, List.set_cons_succ, List.getElem_toArray, List.getElem_cons_succ, List.getElem_cons_zero]
                refine wpAnyH_take (i := 2) (oi := _) (v := Value.int .i64 (p : Int)) rfl (by kernel_rfl) (by kernel_rfl) (by kernel_rfl) (fun _ _ _ h => h) (Or.inl ⟨by rfl, fun w' hSw => ?_⟩) hHeld ?_
                · obtain ⟨t0, t1, t2, t3⟩ := hSw
                  go_simp
                  try simp [*]
                  try (intro hh; exfalso; omega)
                  try omega
                try simp only [Act.put, List.setIfInBounds_toArray, List.set_cons_zero, List.set_cons_succ, List.getElem_toArray, List.getElem_cons_succ, List.getElem_cons_zero]
                refine wpAnyH_take (i := 3) (oi := _) (v := Value.pointer (some ⟨g, o + p, none⟩)) rfl (by kernel_rfl) (by kernel_rfl) (by kernel_rfl) (fun _ _ _ h => h) (Or.inl ⟨by rfl, fun w' hSw => ?_⟩) hHeld ?_
                · obtain ⟨t0, t1, t2, t3⟩ := hSw
                  go_simp
                  try simp [*]
                  try (intro hh; exfalso; omega)
                  try omega
                try simp only [Act.put, List.setIfInBounds_toArray, List.set_cons_zero, List.set_cons_succ, List.getElem_toArray, List.getElem_cons_succ, List.getElem_cons_zero]
                refine wpAnyH_take (i := 4) (oi := _) (v := Value.int .i64 (y : Int)) rfl (by kernel_rfl) (by kernel_rfl) (by kernel_rfl) (fun _ _ _ h => h) (Or.inl ⟨by rfl, fun w' hSw => ?_⟩) hHeld ?_
                · obtain ⟨t0, t1, t2, t3⟩ := hSw
                  go_simp
                  try simp [*]
                  try (intro hh; exfalso; omega)
                  try omega
                try simp only [Act.put, List.setIfInBounds_toArray, List.set_cons_zero, List.set_cons_succ, List.getElem_toArray, List.getElem_cons_succ, List.getElem_cons_zero]
                refine wpAnyH_ready (rs := [5]) (by kernel_rfl) (by simp) ?_
                refine AllReadyH.cons (o := _) rfl (fun K hK => ?_) AllReadyH.nil
                go_simp
                go_at_call 23
                refine Calls.mono (cSy.out _ (HWW.out.trans (HDR.out.mono HWW.out.size))) ?_
                rintro e v1 ⟨ev, rfl, hr, hb⟩
                obtain ⟨ea, ec, rfl⟩ := own_form hr
                have HSR := Lib.hid hr
                have HD1 := Lib.hid (HDR.out.trans (hb.mono HDR.out.size))
                clear hb hr
                clear hHeld
                refine hK.out _ _ (KQ.out _ HD1.out) (fun hHeld => ?_)
                clear hK K
                try simp only [Act.put, List.setIfInBounds_toArray, List.set_cons_zero, List.set_cons_succ, List.getElem_toArray, List.getElem_cons_succ, List.getElem_cons_zero]
                refine wpAnyH_take (i := 6) (oi := _) (v := Value.tuple #[Value.slice ea SY.length ec, Value.int .i64 0]) rfl (by kernel_rfl) (by kernel_rfl) (by kernel_rfl) (fun _ _ _ h => h) (Or.inl ⟨by rfl, fun w' hSw => ?_⟩) hHeld ?_
                · obtain ⟨t0, t1, t2, t3⟩ := hSw
                  go_simp
                  try simp [*]
                  try (intro hh; exfalso; omega)
                  try omega
                try simp only [Act.put, List.setIfInBounds_toArray, List.set_cons_zero, List.set_cons_succ, List.getElem_toArray, List.getElem_cons_succ, List.getElem_cons_zero]
                refine wpAnyH_take (i := 7) (oi := _) (v := Value.slice ea SY.length ec) rfl (by kernel_rfl) (by kernel_rfl) (by kernel_rfl) (fun _ _ _ h => h) (Or.inl ⟨by rfl, fun w' hSw => ?_⟩) hHeld ?_
                · obtain ⟨t0, t1, t2, t3⟩ := hSw
                  go_simp
                  try simp [*]
                  try (intro hh; exfalso; omega)
                  try omega
                try simp only [Act.put, List.setIfInBounds_toArray, List.set_cons_zero, List.set_cons_succ, List.getElem_toArray, List.getElem_cons_succ, List.getElem_cons_zero]
                refine wpAnyH_take (i := 8) (oi := _) (v := Value.int .i64 0) rfl (by kernel_rfl) (by kernel_rfl) (by kernel_rfl) (fun _ _ _ h => h) (Or.inl ⟨by rfl, fun w' hSw => ?_⟩) hHeld ?_
                · obtain ⟨t0, t1, t2, t3⟩ := hSw
                  go_simp
                  try simp [*]
                  try (intro hh; exfalso; omega)
                  try omega
                try simp only [Act.put, List.setIfInBounds_toArray, List.set_cons_zero, List.set_cons_succ, List.getElem_toArray, List.getElem_cons_succ, List.getElem_cons_zero]
                refine wpAnyH_take (i := 9) (oi := _) (v := Value.slice ea SY.length ec) rfl (by kernel_rfl) (by kernel_rfl) (by kernel_rfl) (fun _ _ _ h => h) (Or.inl ⟨by rfl, fun w' hSw => ?_⟩) hHeld ?_
                · obtain ⟨t0, t1, t2, t3⟩ := hSw
                  go_simp
                  try simp [*]
                  try (intro hh; exfalso; omega)
                  try omega
                try simp only [Act.put, List.setIfInBounds_toArray, List.set_cons_zero, List.set_cons_succ, List.getElem_toArray, List.getElem_cons_succ, List.getElem_cons_zero]
                refine wpAnyH_take (i := 10) (oi := _) (v := Value.int .i64 0) rfl (by kernel_rfl) (by kernel_rfl) (by kernel_rfl) (fun _ _ _ h => h) (Or.inl ⟨by rfl, fun w' hSw => ?_⟩) hHeld ?_
                · obtain ⟨t0, t1, t2, t3⟩ := hSw
                  go_simp
                  try simp [*]
                  try (intro hh; exfalso; omega)
                  try omega
                try simp only [Act.put, List.setIfInBounds_toArray, List.set_cons_zero, List.set_cons_succ, List.getElem_toArray, List.getElem_cons_succ, List.getElem_cons_zero]
                refine wpAnyH_done (by kernel_rfl) ?_ _
                clear hHeld
                clear k0 k1 k2 c0
                have HB8 := Lib.hid (HBR.out.trans (HD1.out.mono HBR.out.size))
                have HIA8 := Lib.hid (HIA.out.at HB8.out)
                obtain ⟨W8, rfl⟩ : ∃ W8, W8 = wr := ⟨_, rfl⟩
                have HTS := Lib.hid (fun k (h : k < SY.length) => tn_mem h)
                generalize SY.length = m at *
                go_wp2_with fail
                go_loopw [24] (fun iv W => ∃ u : Nat, u ≤ m ∧ iv = .int .i64 u ∧ Below v1.heap.size v1 W) (fun iv _ => m - (intOf iv).toNat)
                case atStart => exact ⟨0, Nat.zero_le _, rfl, Below.refl _ _⟩
                case round =>
                  obtain ⟨u, hu, rfl, hBU⟩ := hrel
                  have HBU := Lib.hid hBU
                  clear hBU
                  by_cases hum : u < m
                  · have hui : (u : Int) < (m : Int) := by omega
                    obtain ⟨g2, c2', he, hlc2, hg1, hg2, gl⟩ := own3_cell (own_below HSR.out HBU.out) hum
                    simp only [Value.slice.injEq] at he
                    obtain ⟨rfl, -, rfl⟩ := he
                    have hxA := HSUB.out _ (HTS.out u hum)
                    generalize tn SY u = x at *
                    have cx := cHas.out x hxA wr (HIA8.out.at HBU.out)
                    go_wp2_with fail
                    refine cx.mono ?_
                    rintro e w9 ⟨rfl, rfl⟩
                    go_wp2_with fail
                    go_roundw
                    case rel => exact ⟨u + 1, by omega, by go_num, HBU.out⟩
                    case measure => simp [intOf]; omega
                  · obtain rfl : u = m := by omega
                    go_wp2_with fail
                    go_roundw
                    case rel => exact ⟨p + 1, by omega, by go_num, HB8.out.trans (HBU.out.mono HB8.out.size)⟩
                    case measure => simp [intOf]; omega
              · obtain rfl : p = LA.length := by omega
                have HLW7 := Lib.hid (own_below HLW.out HBR.out)
                have HIH7 := Lib.hid (HIH.out.at HBR.out)
                clear HTA HAC HLU' cS' HSL HLT'
                by_cases hi0 : i = 0
                · have hLE : LA = [] := HNIL.out (List.length_eq_zero_iff.1 (by rw [HFL.out]; exact hi0))
                  have hLE0 : LA.length = 0 := by rw [hLE]; rfl
                  subst hi0
                  clear HPRE HSPL HNIL HFM HFR cFp
                  generalize LA.length = nz at *
                  subst hLE0
                  go_wp2_with fail
                  refine (fine_any _).mono ?_
                  rintro e w9 ⟨rfl, hb⟩
                  have HB9 := Lib.hid (HB7.out.trans (hb.mono HB7.out.size))
                  clear hb
                  go_wp2_with fail
                  go_ret
                  exact ⟨by first | rfl | simp, HBA.out.trans (HB9.out.mono HBA.out.size)⟩
                · obtain ⟨FP, xl, hFS, hFPl⟩ := HSPL.out (by omega)
                  obtain ⟨hFP, hxl, hmore⟩ := HPRE.out FP xl hFS
                  have HMORE := Lib.hid hmore
                  have cq := Lib.hid (cFp.out (.slice la FP.length lc) FP (by omega) hFP)
                  have hlw := HLW7.out
                  rw [hFS] at hlw
                  have HFLs := HFL.out
                  rw [hFS] at HFLs
                  obtain ⟨gl0, lc', he, hlc, hg1, hg2, gl⟩ := own3_cell hlw (show FP.length < i by omega)
                  simp only [Value.slice.injEq] at he
                  obtain ⟨rfl, -, rfl⟩ := he
                  have HIP := Lib.hid (il_short hlw HFLs)
                  rw [show tn (FP ++ [xl]) FP.length = xl by unfold tn; simp] at gl
                  have cx := Lib.hid (cHas.out xl hxl)
                  have hLPl := Lib.hid (lostL_len ns (zs H) (zs FP))
                  clear hlw hFS HFLs HSPL HPRE HNIL HFM HFR cFp hmore hFP hxl HFL
                  generalize lostL ns (zs H) (zs FP) = LP at *
                  have hfp1 : FP.length + 1 = i := hFPl
                  clear hFPl
                  generalize FP.length = fp at *
                  clear hi0
                  subst hfp1
                  have hFI : (((fp + 1 : Nat) : Int) == 0) = false := by simp; omega
                  have hFS1 : (((fp + 1 : Nat) : Int) - 1) = (fp : Int) := by omega
                  have HWW := Lib.hid (HBA.out.trans (HB7.out.mono HBA.out.size))
                  have KQ := Lib.hid (show ∀ Z, Below wr.heap.size wr Z → Z.cell? ⟨w.heap.size, 0, none⟩ = some (.int .i64 sl) ∧ Z.cell? ⟨w.heap.size, 1, none⟩ = some (.int .i64 sh) ∧ Z.cell? ⟨w.heap.size, 2, none⟩ = some (.slice a n cap) ∧ Z.cell? ⟨gl0, fp, none⟩ = some (.int .i64 (xl : Int)) from fun Z h => by
                    have hs := HBA.out.size
                    have hs2 := HB7.out.size
                    have hs3 := HLT.out
                    exact ⟨(h.cell (p := ⟨w.heap.size, 0, none⟩) (by show w.heap.size < wr.heap.size; omega)).trans k0, (h.cell (p := ⟨w.heap.size, 1, none⟩) (by show w.heap.size < wr.heap.size; omega)).trans k1, (h.cell (p := ⟨w.heap.size, 2, none⟩) (by show w.heap.size < wr.heap.size; omega)).trans k2, (h.cell (p := ⟨gl0, _, none⟩) (by show gl0 < wr.heap.size; omega)).trans gl⟩)
                  have HDR := Lib.hid (show Below wr.heap.size wr wr.drew from (Below.refl _ _).drew)
                  have hcap : fp ≤ lc := by omega
                  have hfw : IntKind.wrap .i64 (fp : Int) = (fp : Int) := by rw [IntKind.wrap_i64]; omega
                  go_upto_region 34 with fail
                  refine wp_region_held_drew (S := fun w' => w'.cell? ⟨w.heap.size, 0, none⟩ = some (Value.int .i64 sl) ∧ w'.cell? ⟨w.heap.size, 1, none⟩ = some (Value.int .i64 sh) ∧ w'.cell? ⟨w.heap.size, 2, none⟩ = some (Value.slice a n cap) ∧ w'.cell? ⟨gl0, fp, none⟩ = some (Value.int .i64 (xl : Int))) (by kernel_rfl) ⟨by simpa [go_sem] using k0, by simpa [go_sem] using k1, by simpa [go_sem] using k2, by simpa [go_sem] using gl⟩ (fun hHeld => ?_)
                  refine wpAnyH_take (i := 0) (oi := _) (v := Value.agg #[Value.int .i64 sl, Value.int .i64 sh, Value.slice a n cap]) rfl (by kernel_rfl) (by kernel_rfl) (by kernel_rfl) (fun _ _ _ h => h) (Or.inl ⟨by rfl, fun w' hSw => ?_⟩) hHeld ?_
                  · obtain ⟨t0, t1, t2, t3⟩ := hSw
                    go_simp
                    try simp [*]
                    try (intro hh; exfalso; omega)
                    try omega
                  try simp only [Act.put, List.setIfInBounds_toArray, List.set_cons_zero, List.set_cons_succ, List.getElem_toArray, List.getElem_cons_succ, List.getElem_cons_zero]
                  refine wpAnyH_take (i := 1) (oi := _) (v := Value.slice (some ⟨gl0, 0, none⟩) (fp + 1) lc) rfl (by kernel_rfl) (by kernel_rfl) (by kernel_rfl) (fun _ _ _ h => h) (Or.inl ⟨by rfl, fun w' hSw => ?_⟩) hHeld ?_
                  · obtain ⟨t0, t1, t2, t3⟩ := hSw
                    go_simp
                    try simp [*]
                    try (intro hh; exfalso; omega)
                    try omega
                  try simp only [Act.put, List.setIfInBounds_toArray, List.set_cons_zero, List.set_cons_succ, List.getElem_toArray, List.getElem_cons_succ, List.getElem_cons_zero]
                  refine wpAnyH_take (i := 2) (oi := _) (v := Value.slice (some ⟨gl0, 0, none⟩) (fp + 1) lc) rfl (by kernel_rfl) (by kernel_rfl) (by kernel_rfl) (fun _ _ _ h => h) (Or.inl ⟨by rfl, fun w' hSw => ?_⟩) hHeld ?_
                  · obtain ⟨t0, t1, t2, t3⟩ := hSw
                    go_simp
                    try simp [*]
                    try (intro hh; exfalso; omega)
                    try omega
                  try simp only [Act.put, List.setIfInBounds_toArray, List.set_cons_zero, List.set_cons_succ, List.getElem_toArray, List.getElem_cons_succ, List.getElem_cons_zero]
                  refine wpAnyH_take (i := 3) (oi := _) (v := Value.int .i64 ((fp + 1 : Nat) : Int)) rfl (by kernel_rfl) (by kernel_rfl) (by kernel_rfl) (fun _ _ _ h => h) (Or.inl ⟨by rfl, fun w' hSw => ?_⟩) hHeld ?_
                  · obtain ⟨t0, t1, t2, t3⟩ := hSw
                    go_simp
                    try simp [*]
                    try (intro hh; exfalso; omega)
                    try omega
                  try simp only [Act.put, List.setIfInBounds_toArray, List.set_cons_zero, List.set_cons_succ, List.getElem_toArray, List.getElem_cons_succ, List.getElem_cons_zero]
                  refine wpAnyH_take (i := 4) (oi := _) (v := Value.int .i64 (fp : Int)) rfl (by kernel_rfl) (by kernel_rfl) (by kernel_rfl) (fun _ _ _ h => h) (Or.inl ⟨by rfl, fun w' hSw => ?_⟩) hHeld ?_
                  · obtain ⟨t0, t1, t2, t3⟩ := hSw
                    go_simp
                    try simp [*]
                    try (intro hh; exfalso; omega)
                    try omega
                  try simp only [Act.put, List.setIfInBounds_toArray, List.set_cons_zero, List.set_cons_succ, List.getElem_toArray, List.getElem_cons_succ, List.getElem_cons_zero]
                  refine wpAnyH_take (i := 5) (oi := _) (v := Value.slice (some ⟨gl0, 0, none⟩) fp lc) rfl (by kernel_rfl) (by kernel_rfl) (by kernel_rfl) (fun _ _ _ h => h) (Or.inl ⟨by rfl, fun w' hSw => ?_⟩) hHeld ?_
                  · obtain ⟨t0, t1, t2, t3⟩ := hSw
                    go_simp
                    try simp [*]
                    try (intro hh; exfalso; omega)
                    try omega
                  try simp only [Act.put, List.setIfInBounds_toArray, List.set_cons_zero, List.set_cons_succ, List.getElem_toArray, List.getElem_cons_succ, List.getElem_cons_zero]
                  refine wpAnyH_take (i := 6) (oi := _) (v := Value.slice oa H.length oc) rfl (by kernel_rfl) (by kernel_rfl) (by kernel_rfl) (fun _ _ _ h => h) (Or.inl ⟨by rfl, fun w' hSw => ?_⟩) hHeld ?_
                  · obtain ⟨t0, t1, t2, t3⟩ := hSw
                    go_simp
                    try simp [*]
                    try (intro hh; exfalso; omega)
                    try omega
                  try simp only [Act.put, List.setIfInBounds_toArray, List.set_cons_zero, List.set_cons_succ, List.getElem_toArray, List.getElem_cons_succ, List.getElem_cons_zero]
                  refine wpAnyH_ready (rs := [7]) (by kernel_rfl) (by simp) ?_
                  refine AllReadyH.cons (o := _) rfl (fun K hK => ?_) AllReadyH.nil
                  go_simp
                  go_at_call 40
                  refine Calls.mono (cq.out _ (HWW.out.trans (HDR.out.mono HWW.out.size)) (HIP.out.at HDR.out) (HIH7.out.at HDR.out)) ?_
                  rintro e v1 ⟨ev, rfl, hie, hb⟩
                  have HIP2 := Lib.hid hie
                  have HD1 := Lib.hid (HDR.out.trans (hb.mono HDR.out.size))
                  clear hb hie
                  clear hHeld
                  refine hK.out _ _ (KQ.out _ HD1.out) (fun hHeld => ?_)
                  clear hK K
                  try simp only [Act.put, List.setIfInBounds_toArray, List.set_cons_zero, List.set_cons_succ, List.getElem_toArray, List.getElem_cons_succ, List.getElem_cons_zero]
                  refine wpAnyH_take (i := 8) (oi := _) (v := Value.tuple #[ev, Value.int .i64 0]) rfl (by kernel_rfl) (by kernel_rfl) (by kernel_rfl) (fun _ _ _ h => h) (Or.inl ⟨by rfl, fun w' hSw => ?_⟩) hHeld ?_
                  · obtain ⟨t0, t1, t2, t3⟩ := hSw
                    go_simp
                    try simp [*]
                    try (intro hh; exfalso; omega)
                    try omega
                  try simp only [Act.put, List.setIfInBounds_toArray, List.set_cons_zero, List.set_cons_succ, List.getElem_toArray, List.getElem_cons_succ, List.getElem_cons_zero]
                  refine wpAnyH_take (i := 9) (oi := _) (v := ev) rfl (by kernel_rfl) (by kernel_rfl) (by kernel_rfl) (fun _ _ _ h => h) (Or.inl ⟨by rfl, fun w' hSw => ?_⟩) hHeld ?_
                  · obtain ⟨t0, t1, t2, t3⟩ := hSw
                    go_simp
                    try simp [*]
                    try (intro hh; exfalso; omega)
                    try omega
                  try simp only [Act.put, List.setIfInBounds_toArray, List.set_cons_zero, List.set_cons_succ, List.getElem_toArray, List.getElem_cons_succ, List.getElem_cons_zero]
                  refine wpAnyH_take (i := 10) (oi := _) (v := Value.int .i64 0) rfl (by kernel_rfl) (by kernel_rfl) (by kernel_rfl) (fun _ _ _ h => h) (Or.inl ⟨by rfl, fun w' hSw => ?_⟩) hHeld ?_
                  · obtain ⟨t0, t1, t2, t3⟩ := hSw
                    go_simp
                    try simp [*]
                    try (intro hh; exfalso; omega)
                    try omega
                  try simp only [Act.put, List.setIfInBounds_toArray, List.set_cons_zero, List.set_cons_succ, List.getElem_toArray, List.getElem_cons_succ, List.getElem_cons_zero]
                  refine wpAnyH_take (i := 11) (oi := _) (v := ev) rfl (by kernel_rfl) (by kernel_rfl) (by kernel_rfl) (fun _ _ _ h => h) (Or.inl ⟨by rfl, fun w' hSw => ?_⟩) hHeld ?_
                  · obtain ⟨t0, t1, t2, t3⟩ := hSw
                    go_simp
                    try simp [*]
                    try (intro hh; exfalso; omega)
                    try omega
                  try simp only [Act.put, List.setIfInBounds_toArray, List.set_cons_zero, List.set_cons_succ, List.getElem_toArray, List.getElem_cons_succ, List.getElem_cons_zero]
                  refine wpAnyH_take (i := 12) (oi := _) (v := Value.int .i64 0) rfl (by kernel_rfl) (by kernel_rfl) (by kernel_rfl) (fun _ _ _ h => h) (Or.inl ⟨by rfl, fun w' hSw => ?_⟩) hHeld ?_
                  · obtain ⟨t0, t1, t2, t3⟩ := hSw
                    go_simp
                    try simp [*]
                    try (intro hh; exfalso; omega)
                    try omega
                  try simp only [Act.put, List.setIfInBounds_toArray, List.set_cons_zero, List.set_cons_succ, List.getElem_toArray, List.getElem_cons_succ, List.getElem_cons_zero]
                  refine wpAnyH_done (by kernel_rfl) ?_ _
                  clear hHeld
                  clear k0 k1 k2 gl
                  obtain ⟨k0, k1, k2, gl⟩ := KQ.out _ HD1.out
                  have HB8 := Lib.hid (HB7.out.trans (HD1.out.mono HB7.out.size))
                  have HIA8 := Lib.hid (HIA7.out.at HD1.out)
                  go_wp2_with fail
                  refine (cx.out _ HIA8.out).mono ?_
                  rintro e w9 ⟨rfl, rfl⟩
                  have HLEN := Lib.hid (zs_len LP)
                  obtain ⟨pa, pc, hpv⟩ := HIP2.out.form
                  subst hpv
                  have HPC := Lib.hid (show ∀ W, Below w9.heap.size w9 W → ∀ k, k < LP.length → ∃ b off, pa = some ⟨b, off, none⟩ ∧ b < w9.heap.size ∧ W.cell? ⟨b, off + k, none⟩ = some (.int .i64 (tn LP k : Int)) from fun W hW k hk => by
                    obtain ⟨a', c', e, -, hcc⟩ := HIP2.out
                    simp only [Value.slice.injEq] at e
                    obtain ⟨rfl, -, -⟩ := e
                    obtain ⟨b, off, h1, h2, c0⟩ := hcc k (by rw [HLEN.out]; exact hk)
                    exact ⟨b, off, h1, h2, (hW.cell (p := ⟨b, _, none⟩) h2).trans (by rw [c0, ti_zs hk])⟩)
                  have HTP := Lib.hid (fun k (h : k < LP.length) => HMORE.out _ (tn_mem h))
                  have hlq := HLEN.out
                  clear HIP2 HMORE HLEN
                  generalize (zs LP).length = np at *
                  subst hlq
                  have hLPb := hLPl.out
                  clear hLPl
                  generalize hpl : LP.length = m at *
                  clear hpl
                  obtain ⟨W9, rfl⟩ : ∃ W9, W9 = w9 := ⟨_, rfl⟩
                  go_wp2_with fail
                  go_loopw [26] (fun iv W => ∃ u : Nat, u ≤ m ∧ iv = .int .i64 u ∧ Below W9.heap.size W9 W) (fun iv _ => m - (intOf iv).toNat)
                  case atStart => exact ⟨0, Nat.zero_le _, rfl, Below.refl _ _⟩
                  case round =>
                    obtain ⟨u, hu, rfl, hBU⟩ := hrel
                    have HBU := Lib.hid hBU
                    clear hBU
                    by_cases hum : u < m
                    · have hui : (u : Int) < (m : Int) := by omega
                      obtain ⟨g2, o2, rfl, hg3, c0⟩ := HPC.out _ HBU.out u hum
                      have hxA := HTP.out u hum
                      generalize tn LP u = x at *
                      have cy := cHas.out x hxA wr (HIA8.out.at HBU.out)
                      go_wp2_with fail
                      refine cy.mono ?_
                      rintro e w10 ⟨rfl, rfl⟩
                      go_wp2_with fail
                      go_roundw
                      case rel => exact ⟨u + 1, by omega, by go_num, HBU.out⟩
                      case measure => simp [intOf]; omega
                    · obtain rfl : u = m := by omega
                      go_wp2_with fail
                      refine (fine_any _).mono ?_
                      rintro e w11 ⟨rfl, hb⟩
                      have HB11 := Lib.hid ((HB8.out.trans (HBU.out.mono HB8.out.size)).trans (hb.mono (Nat.le_trans HB8.out.size HBU.out.size)))
                      clear hb
                      go_wp2_with fail
                      go_ret
                      exact ⟨by first | rfl | simp, HBA.out.trans (HB11.out.mono HBA.out.size)⟩
end Go.Proofs.Ytdohfpnnmppdkaa

/-
  Cables: a fault takes down only its own branch.
-/
import Derived.Test.YtdohfpnnmppdkaaBrMath
import Derived.Test.YtdohfpnnmppdkaaBkF
import Derived.Test.YtdohfpnnmppdkaaBkG
import Derived.Test.YtdohfpnnmppdkaaBkH
import Derived.Test.YtdohfpnnmppdkaaEvFn
import Derived.Test.YtdohfpnnmppdkaaCbX
import Derived.Test.YtdohfpnnmppdkaaLawBreakers
namespace Go.Proofs.Ytdohfpnnmppdkaa
open Go.RowKit Go.Shelf
set_option linter.unusedSimpArgs false
attribute [local go_sem] Oper.semAt_some
theorem one_cell {W : World} {F : Nat} {k : Nat} (hk : k < [(F : Int)].length) : (W.alloc (.cells #[.int .i64 (F : Int)] 3)).cell? ⟨W.heap.size, 0 + k, none⟩ = some (.int .i64 (ti [(F : Int)] k)) := by
  obtain rfl : k = 0 := by simpa using hk
  simp [go_sem, ti]
set_option maxRecDepth 100000 in
set_option maxHeartbeats 32000000 in
theorem branch_any (sl sh fu mg : Int) (sv kv : Value) (ns : List Nd) (ks : List Int) (w : World) (hf0 : 0 ≤ fu) (hf1 : fu ≤ 255) (hm0 : 0 ≤ mg) (hm1 : mg ≤ 255) (hN : Nds w.heap.size w sv ns) (hK : Sk .u8 w.heap.size w kv ks) :
    Calls Try.prog 11 #[.agg #[.int .i64 sl, .int .i64 sh, sv], .int .u8 fu, .int .u8 mg, kv] w fun e w' => e = .returned (.bool true) ∧ Below w.heap.size w w' := by
  obtain ⟨i0, hi0, hz0, hz1, hz2⟩ := info_parts infoI3
  have c1 := Lib.hid (fun W (h : Below w.heap.size w W) => valid_any sl sh sv ns W (hN.at h))
  have HV := Lib.hid (fun (h : valB sl sh ns = true) => valB_ok h)
  have cB := Lib.hid (fun (x : Nat) (hx : x < ns.length) W (h : Below w.heap.size w W) => show Calls Try.prog 59 #[.agg #[.int .i64 sl, .int .i64 sh, sv], .int .i64 (x : Int)] W fun e w' => e = .returned (.bool (brk ns x)) ∧ Below W.heap.size W w' by
    have q := refBreaker_any sl sh sv ns (x : Int) W (hN.at h)
    rw [show okS ns (x : Int) = brk ns x by unfold okS; rw [decide_eq_true (by omega), Bool.true_and, Int.toNat_natCast]] at q
    exact q)
  have cC := Lib.hid (fun W (h : Below w.heap.size w W) => coord_any sl sh sv ns (1 + mg) W (hN.at h))
  have cP := Lib.hid (fun (hv : ValidC sl sh ns) (k : Nat) (hk : k < ns.length) W (h : Below w.heap.size w W) => path_ok sl sh sv ns k hv hk W (hN.at h))
  have cS := Lib.hid (fun (hv : ValidC sl sh ns) (k : Nat) (hk : k < ns.length) W (h : Below w.heap.size w W) => subtree_ok sl sh sv ns k hv hk W (hN.at h))
  have cO := Lib.hid (fun (zv : Value) (zs : List Int) (hz : zs.length ≤ 1000) (f : Int) W (h : Below w.heap.size w W) (hZ : Il W.heap.size W zv zs) => opens_any sl sh sv zv ns f zs W hz (hN.at h) hZ)
  have cL := Lib.hid (fun (fv zv : Value) (fs zs : List Int) (hf : fs.length ≤ 1000) (hz : zs.length ≤ 1000) W (h : Below w.heap.size w W) (hF : Il W.heap.size W fv fs) (hZ : Il W.heap.size W zv zs) => lost_all sl sh sv fv zv ns fs zs W (hN.at h) hF hZ hf hz)
  have HKB := hK.byt
  obtain ⟨a, cap, hsv⟩ := hN.form
  obtain ⟨sa, sc, hkv, -, hkk⟩ := hK
  have HZ := Lib.hid (show ∀ W k, Below w.heap.size w W → k < ks.length → ∃ g o, sa = some ⟨g, o, none⟩ ∧ g < w.heap.size ∧ W.cell? ⟨g, o + k, none⟩ = some (.int .u8 (ti ks k)) from fun W k hb hk => by
    obtain ⟨_, g, o, h1, h2, e0⟩ := hkk k hk
    exact ⟨g, o, h1, h2, (hb.cell (p := ⟨g, _, none⟩) h2).trans e0⟩)
  subst hsv
  subst hkv
  have HKBY := Lib.hid (show ∀ i, i < ks.length → 0 ≤ ti ks i ∧ ti ks i ≤ 255 from HKB)
  have HHY := Lib.hid (fun n i => hld_yes (ns := ns) (n := n) (zs := ks) (i := i))
  have HHN := Lib.hid (fun n i => hld_no (ns := ns) (n := n) (zs := ks) (i := i))
  have HHL := Lib.hid (fun n i => hld_len ns n ks i)
  have HH0 := Lib.hid (fun n => hld_zero ns n ks)
  have HHM := Lib.hid (fun n (hn : 0 < n) i x (h : x ∈ hldL ns n ks i) => hld_mem hn h)
  clear hkk HKB hN
  generalize valB sl sh ns = VB at *
  generalize hzm : ks.length = zm at *
  cases VB
  · clear HV cB cC cP cS cO cL HZ HHY HHN HHL HH0 HHM HKBY hzm
    generalize ns.length = n at *
    obtain ⟨A, hA⟩ : ∃ A, A = w.alloc (.cells #[.int .i64 sl, .int .i64 sh, .slice a n cap] 26) := ⟨_, rfl⟩
    have HBA := Lib.hid (show Below w.heap.size w A by rw [hA]; exact ((Below.refl _ _).alloc (Nat.le_refl _) _))
    have hltA : w.heap.size + 1 ≤ A.heap.size := by rw [hA]; simp
    have q0 : A.cell? ⟨w.heap.size, 0, none⟩ = some (.int .i64 sl) := by rw [hA]; exact (cellHB (World.alloc_heap_new w _) 0).trans (by simp)
    have q1 : A.cell? ⟨w.heap.size, 1, none⟩ = some (.int .i64 sh) := by rw [hA]; exact (cellHB (World.alloc_heap_new w _) 1).trans (by simp)
    have q2 : A.cell? ⟨w.heap.size, 2, none⟩ = some (.slice a n cap) := by rw [hA]; exact (cellHB (World.alloc_heap_new w _) 2).trans (by simp)
    have KK := Lib.hid (show ∀ W, Below A.heap.size A W → W.cell? ⟨w.heap.size, 0, none⟩ = some (.int .i64 sl) ∧ W.cell? ⟨w.heap.size, 1, none⟩ = some (.int .i64 sh) ∧ W.cell? ⟨w.heap.size, 2, none⟩ = some (.slice a n cap) from fun W h => ⟨(h.cell (p := ⟨w.heap.size, 0, none⟩) (by show w.heap.size < A.heap.size; omega)).trans q0, (h.cell (p := ⟨w.heap.size, 1, none⟩) (by show w.heap.size < A.heap.size; omega)).trans q1, (h.cell (p := ⟨w.heap.size, 2, none⟩) (by show w.heap.size < A.heap.size; omega)).trans q2⟩)
    have HLT := Lib.hid hltA
    clear hltA q0 q1 q2
    obtain ⟨k0, k1, k2⟩ := KK.out _ (Below.refl _ _)
    go_enter Try.func11, Try.ntmps11
    go_upto_region 1 with fail
    rw [← hA]
    clear hA
    go_wp2_with fail
    refine (c1.out _ HBA.out).mono ?_
    rintro e w1 ⟨rfl, hb⟩
    have HB1 := Lib.hid hb
    clear hb k0 k1 k2
    obtain ⟨k0, k1, k2⟩ := KK.out _ HB1.out
    go_wp2_with fail
    refine (fine_any _).mono ?_
    rintro e w2 ⟨rfl, hb⟩
    have HB2 := Lib.hid (HB1.out.trans (hb.mono HB1.out.size))
    clear hb k0 k1 k2
    obtain ⟨k0, k1, k2⟩ := KK.out _ HB2.out
    go_wp2_with fail
    go_ret
    exact ⟨rfl, HBA.out.trans (HB2.out.mono HBA.out.size)⟩
  obtain ⟨hv, hn20⟩ := HV.out rfl
  by_cases hn2 : ns.length < 2
  · have hn2' : (ns.length : Int) < 2 := by omega
    clear HV cB cC cP cS cO cL HZ HHY HHN HHL HH0 HHM HKBY hzm hv
    generalize ns.length = n at *
    obtain ⟨A, hA⟩ : ∃ A, A = w.alloc (.cells #[.int .i64 sl, .int .i64 sh, .slice a n cap] 26) := ⟨_, rfl⟩
    have HBA := Lib.hid (show Below w.heap.size w A by rw [hA]; exact ((Below.refl _ _).alloc (Nat.le_refl _) _))
    have hltA : w.heap.size + 1 ≤ A.heap.size := by rw [hA]; simp
    have q0 : A.cell? ⟨w.heap.size, 0, none⟩ = some (.int .i64 sl) := by rw [hA]; exact (cellHB (World.alloc_heap_new w _) 0).trans (by simp)
    have q1 : A.cell? ⟨w.heap.size, 1, none⟩ = some (.int .i64 sh) := by rw [hA]; exact (cellHB (World.alloc_heap_new w _) 1).trans (by simp)
    have q2 : A.cell? ⟨w.heap.size, 2, none⟩ = some (.slice a n cap) := by rw [hA]; exact (cellHB (World.alloc_heap_new w _) 2).trans (by simp)
    have KK := Lib.hid (show ∀ W, Below A.heap.size A W → W.cell? ⟨w.heap.size, 0, none⟩ = some (.int .i64 sl) ∧ W.cell? ⟨w.heap.size, 1, none⟩ = some (.int .i64 sh) ∧ W.cell? ⟨w.heap.size, 2, none⟩ = some (.slice a n cap) from fun W h => ⟨(h.cell (p := ⟨w.heap.size, 0, none⟩) (by show w.heap.size < A.heap.size; omega)).trans q0, (h.cell (p := ⟨w.heap.size, 1, none⟩) (by show w.heap.size < A.heap.size; omega)).trans q1, (h.cell (p := ⟨w.heap.size, 2, none⟩) (by show w.heap.size < A.heap.size; omega)).trans q2⟩)
    have HLT := Lib.hid hltA
    clear hltA q0 q1 q2
    obtain ⟨k0, k1, k2⟩ := KK.out _ (Below.refl _ _)
    go_enter Try.func11, Try.ntmps11
    go_upto_region 1 with fail
    rw [← hA]
    clear hA
    go_wp2_with fail
    refine (c1.out _ HBA.out).mono ?_
    rintro e w1 ⟨rfl, hb⟩
    have HB1 := Lib.hid hb
    clear hb k0 k1 k2
    obtain ⟨k0, k1, k2⟩ := KK.out _ HB1.out
    go_wp2_with fail
    refine (fine_any _).mono ?_
    rintro e w2 ⟨rfl, hb⟩
    have HB2 := Lib.hid (HB1.out.trans (hb.mono HB1.out.size))
    clear hb k0 k1 k2
    obtain ⟨k0, k1, k2⟩ := KK.out _ HB2.out
    go_wp2_with fail
    go_ret
    exact ⟨rfl, HBA.out.trans (HB2.out.mono HBA.out.size)⟩
  by_cases hk16 : 16 < zm
  · have hk16' : (16 : Int) < (zm : Int) := by omega
    have hn2' : ¬ (ns.length : Int) < 2 := by omega
    clear HV cB cC cP cS cO cL HZ HHY HHN HHL HH0 HHM HKBY hzm hv
    generalize ns.length = n at *
    obtain ⟨A, hA⟩ : ∃ A, A = w.alloc (.cells #[.int .i64 sl, .int .i64 sh, .slice a n cap] 26) := ⟨_, rfl⟩
    have HBA := Lib.hid (show Below w.heap.size w A by rw [hA]; exact ((Below.refl _ _).alloc (Nat.le_refl _) _))
    have hltA : w.heap.size + 1 ≤ A.heap.size := by rw [hA]; simp
    have q0 : A.cell? ⟨w.heap.size, 0, none⟩ = some (.int .i64 sl) := by rw [hA]; exact (cellHB (World.alloc_heap_new w _) 0).trans (by simp)
    have q1 : A.cell? ⟨w.heap.size, 1, none⟩ = some (.int .i64 sh) := by rw [hA]; exact (cellHB (World.alloc_heap_new w _) 1).trans (by simp)
    have q2 : A.cell? ⟨w.heap.size, 2, none⟩ = some (.slice a n cap) := by rw [hA]; exact (cellHB (World.alloc_heap_new w _) 2).trans (by simp)
    have KK := Lib.hid (show ∀ W, Below A.heap.size A W → W.cell? ⟨w.heap.size, 0, none⟩ = some (.int .i64 sl) ∧ W.cell? ⟨w.heap.size, 1, none⟩ = some (.int .i64 sh) ∧ W.cell? ⟨w.heap.size, 2, none⟩ = some (.slice a n cap) from fun W h => ⟨(h.cell (p := ⟨w.heap.size, 0, none⟩) (by show w.heap.size < A.heap.size; omega)).trans q0, (h.cell (p := ⟨w.heap.size, 1, none⟩) (by show w.heap.size < A.heap.size; omega)).trans q1, (h.cell (p := ⟨w.heap.size, 2, none⟩) (by show w.heap.size < A.heap.size; omega)).trans q2⟩)
    have HLT := Lib.hid hltA
    clear hltA q0 q1 q2
    obtain ⟨k0, k1, k2⟩ := KK.out _ (Below.refl _ _)
    go_enter Try.func11, Try.ntmps11
    go_upto_region 1 with fail
    rw [← hA]
    clear hA
    go_wp2_with fail
    refine (c1.out _ HBA.out).mono ?_
    rintro e w1 ⟨rfl, hb⟩
    have HB1 := Lib.hid hb
    clear hb k0 k1 k2
    obtain ⟨k0, k1, k2⟩ := KK.out _ HB1.out
    go_wp2_with fail
    refine (fine_any _).mono ?_
    rintro e w2 ⟨rfl, hb⟩
    have HB2 := Lib.hid (HB1.out.trans (hb.mono HB1.out.size))
    clear hb k0 k1 k2
    obtain ⟨k0, k1, k2⟩ := KK.out _ HB2.out
    go_wp2_with fail
    go_ret
    exact ⟨rfl, HBA.out.trans (HB2.out.mono HBA.out.size)⟩
  have hn2' : ¬ (ns.length : Int) < 2 := by omega
  -- the fault, and the breaker that opens
  obtain ⟨F, hF⟩ : ∃ F : Nat, F = 1 + fu.toNat % (ns.length - 1) := ⟨_, rfl⟩
  have hFb : 0 < F ∧ F < ns.length := by have := Nat.mod_lt fu.toNat (show 0 < ns.length - 1 by omega); omega
  have hFt : (1 : Int) + fu.tmod ((ns.length : Int) - 1) = (F : Int) := by
    rw [Int.tmod_eq_emod_of_nonneg hf0, hF]
    have e : fu = (fu.toNat : Int) := by omega
    have e2 : ((ns.length : Int) - 1) = ((ns.length - 1 : Nat) : Int) := by omega
    rw [e2]
    conv => lhs; rw [e]
    rw [← Int.natCast_emod]
    omega
  have HCO := Lib.hid (show cooS sl sh ns (1 + mg) = cooR ns (1 + mg) by unfold cooS; rw [if_pos hv.err, if_pos (by omega)])
  have HCR := Lib.hid (cooR_cases ns (1 + mg))
  have HCC := Lib.hid (fun (h : (cooR ns (1 + mg)).2.2 = 0) zs (k : Nat) (hk : k < ns.length) => coo_cut hv.all (m := 1 + mg) (by omega) (cooR_ok h) zs hk)
  rw [HCO.out] at cC
  have HPL := Lib.hid (fun x (h : x ∈ pth (par ns) F) => hv.all.path_lt hFb.2 h)
  have HPN := Nat.le_trans (pth_len hv.all.tree F) (show F + 1 ≤ 20 by omega)
  have HST := Lib.hid (fun (l : List Nat) (hl : l.length ≤ 16) (hm : ∀ x, x ∈ l → x < ns.length ∧ brk ns x = true) => hld_stu hv hl hm)
  have HOP := Lib.hid (fun zs (h : stuE sl sh ns zs = 0) => opn_in h hFb.1 hFb.2)
  have HLE := Lib.hid (fun zs (h : stuE sl sh ns zs = 0) => show losE sl sh ns [(F : Int)] zs = 0 from los_ok h (by simp) (fun i hi => by
    obtain rfl : i = 0 := by simpa using hi
    show 0 < (F : Int) ∧ (F : Int) < _
    omega))
  have HLO := Lib.hid (fun zs => lost_one hv.all hv.len zs hFb.2)
  have HCL := Lib.hid (fun zs => cutN_lt hv.all zs hFb.2)
  have HFP := Lib.hid (fun zs x (h : freeB ns zs x = true) => free_pos hv.all hv.pos h)
  have HFB := Lib.hid (show ∀ zs (x : Nat), freeB ns zs x = (brk ns x && !decide ((x : Int) ∈ zs)) from fun _ _ => rfl)
  have cP' := Lib.hid (cP.out hv F hFb.2)
  have cS' := Lib.hid (cS.out hv)
  have HSL := Lib.hid (fun (c : Nat) => Nat.le_trans (sub_len (ns := ns) (k := c)) (show ns.length ≤ 20 from hn20))
  have hfu : fu.tmod ((ns.length : Int) - 1) = (F : Int) - 1 := by omega
  clear cP cS HV hv hF hFt HCO
  generalize cooR ns (1 + mg) = CR at *
  generalize hnn : ns.length = n at *
  clear hnn hzm
  obtain ⟨A, hA⟩ : ∃ A, A = w.alloc (.cells #[.int .i64 sl, .int .i64 sh, .slice a n cap] 26) := ⟨_, rfl⟩
  have HBA := Lib.hid (show Below w.heap.size w A by rw [hA]; exact ((Below.refl _ _).alloc (Nat.le_refl _) _))
  have hltA : w.heap.size + 1 ≤ A.heap.size := by rw [hA]; simp
  have q0 : A.cell? ⟨w.heap.size, 0, none⟩ = some (.int .i64 sl) := by rw [hA]; exact (cellHB (World.alloc_heap_new w _) 0).trans (by simp)
  have q1 : A.cell? ⟨w.heap.size, 1, none⟩ = some (.int .i64 sh) := by rw [hA]; exact (cellHB (World.alloc_heap_new w _) 1).trans (by simp)
  have q2 : A.cell? ⟨w.heap.size, 2, none⟩ = some (.slice a n cap) := by rw [hA]; exact (cellHB (World.alloc_heap_new w _) 2).trans (by simp)
  have KK := Lib.hid (show ∀ W, Below A.heap.size A W → W.cell? ⟨w.heap.size, 0, none⟩ = some (.int .i64 sl) ∧ W.cell? ⟨w.heap.size, 1, none⟩ = some (.int .i64 sh) ∧ W.cell? ⟨w.heap.size, 2, none⟩ = some (.slice a n cap) from fun W h => ⟨(h.cell (p := ⟨w.heap.size, 0, none⟩) (by show w.heap.size < A.heap.size; omega)).trans q0, (h.cell (p := ⟨w.heap.size, 1, none⟩) (by show w.heap.size < A.heap.size; omega)).trans q1, (h.cell (p := ⟨w.heap.size, 2, none⟩) (by show w.heap.size < A.heap.size; omega)).trans q2⟩)
  have HLT := Lib.hid hltA
  clear hltA q0 q1 q2
  obtain ⟨k0, k1, k2⟩ := KK.out _ (Below.refl _ _)
  go_enter Try.func11, Try.ntmps11
  go_upto_region 1 with fail
  rw [← hA]
  clear hA
  go_wp2_with fail
  refine (c1.out _ HBA.out).mono ?_
  rintro e w1 ⟨rfl, hb⟩
  have HB1 := Lib.hid hb
  clear hb k0 k1 k2
  obtain ⟨k0, k1, k2⟩ := KK.out _ HB1.out
  go_wp2_with fail
  go_loopw [9, 10] (fun ov iv wr => ∃ i : Nat, i ≤ zm ∧ iv = .int .i64 i ∧ wr.ownsRow A.heap.size 3 1 ov (hldL ns n ks i).length (flatN (hldL ns n ks i)) ∧ Below A.heap.size A wr) (fun _ iv _ => zm - (intOf iv).toNat)
  case atStart => exact ⟨0, Nat.zero_le _, rfl, by rw [HH0.out]; exact World.ownsRow_nil _ _ _ _, HB1.out⟩
  case round =>
    obtain ⟨i, hi, rfl, hrow, hB⟩ := hrel
    have HB := Lib.hid hB
    have HROW := Lib.hid hrow
    obtain ⟨oa, oc, rfl⟩ := own_form3 hrow
    clear hrow hB k0 k1 k2
    obtain ⟨k0, k1, k2⟩ := KK.out _ HB.out
    by_cases hlt : i < zm
    · have hii : (i : Int) < (zm : Int) := by omega
      have HWA := Lib.hid (HBA.out.trans (HB.out.mono HBA.out.size))
      obtain ⟨g, o, rfl, hg, c0⟩ := HZ.out _ i HWA.out hlt
      obtain ⟨hz1b, hz2b⟩ := HKBY.out i hlt
      have HY := Lib.hid (HHY.out n i hlt)
      have HN := Lib.hid (HHN.out n i hlt)
      have hhl := HHL.out n i
      obtain ⟨x, hx⟩ : ∃ x, x = (ti ks i).toNat % n := ⟨_, rfl⟩
      rw [← hx] at HY HN
      have hxn : x < n := by rw [hx]; exact Nat.mod_lt _ (by omega)
      have htm : (ti ks i).tmod (n : Int) = (x : Int) := by
        rw [Int.tmod_eq_emod_of_nonneg hz1b, hx, Int.natCast_emod]
        congr 1
        omega
      generalize ti ks i = z at *
      have cb := Lib.hid (cB.out x hxn)
      have HTM := Lib.hid htm
      have hnz : ((n : Int) == 0) = false := by simp; omega
      have hzw : IntKind.wrap .i64 z = z := by rw [IntKind.wrap_i64]; omega
      have hxw : IntKind.wrap .i64 (x : Int) = (x : Int) := by rw [IntKind.wrap_i64]; omega
      clear hx htm
      go_upto_region 7 with fail
      have htm := HTM.out
      refine wp_region_held_drew (S := fun w' => w'.cell? ⟨w.heap.size, 2, none⟩ = some (Value.slice a n cap) ∧ w'.cell? ⟨g, o + i, none⟩ = some (Value.int .u8 z)) (by kernel_rfl) ⟨by simpa [go_sem] using k2, by simpa [go_sem] using c0⟩ (fun hHeld => ?_)
      refine wpAnyH_take (i := 0) (oi := _) (v := Value.slice (some ⟨g, o, none⟩) zm sc) rfl (by kernel_rfl) (by kernel_rfl) (by kernel_rfl) (fun _ _ _ h => h) (Or.inl ⟨by rfl, fun w' hSw => ?_⟩) hHeld ?_
      · obtain ⟨t0, t1⟩ := hSw
        go_simp
        try simp [*]
        try (intro hh; exfalso; omega)
        try omega
      try simp only [Act.put, List.setIfInBounds_toArray, List.set_cons_zero, List.set_cons_succ, List.getElem_toArray, List.getElem_cons_succ, List.getElem_cons_zero]
      refine wpAnyH_take (i := 1) (oi := _) (v := Value.int .i64 (i : Int)) rfl (by kernel_rfl) (by kernel_rfl) (by kernel_rfl) (fun _ _ _ h => h) (Or.inl ⟨by rfl, fun w' hSw => ?_⟩) hHeld ?_
      · obtain ⟨t0, t1⟩ := hSw
        go_simp
        try simp [*]
        try (intro hh; exfalso; omega)
        try omega
      try simp only [Act.put, List.setIfInBounds_toArray, List.set_cons_zero, List.set_cons_succ, List.getElem_toArray, List.getElem_cons_succ, List.getElem_cons_zero]
      refine wpAnyH_take (i := 2) (oi := _) (v := Value.pointer (some ⟨g, o + i, none⟩)) rfl (by kernel_rfl) (by kernel_rfl) (by kernel_rfl) (fun _ _ _ h => h) (Or.inl ⟨by rfl, fun w' hSw => ?_⟩) hHeld ?_
      · obtain ⟨t0, t1⟩ := hSw
        go_simp
        try simp [*]
        try (intro hh; exfalso; omega)
        try omega
      try simp only [Act.put, List.setIfInBounds_toArray, List.set_cons_zero, List.set_cons_succ, List.getElem_toArray, List.getElem_cons_succ, List.getElem_cons_zero]
      refine wpAnyH_take (i := 3) (oi := _) (v := Value.int .u8 z) rfl (by kernel_rfl) (by kernel_rfl) (by kernel_rfl) (fun _ _ _ h => h) (Or.inl ⟨by rfl, fun w' hSw => ?_⟩) hHeld ?_
      · obtain ⟨t0, t1⟩ := hSw
        go_simp
        try simp [*]
        try (intro hh; exfalso; omega)
        try omega
      try simp only [Act.put, List.setIfInBounds_toArray, List.set_cons_zero, List.set_cons_succ, List.getElem_toArray, List.getElem_cons_succ, List.getElem_cons_zero]
      refine wpAnyH_take (i := 4) (oi := _) (v := Value.int .i64 z) rfl (by kernel_rfl) (by kernel_rfl) (by kernel_rfl) (fun _ _ _ h => h) (Or.inl ⟨by rfl, fun w' hSw => ?_⟩) hHeld ?_
      · obtain ⟨t0, t1⟩ := hSw
        go_simp
        try simp [*]
        try (intro hh; exfalso; omega)
        try omega
      try simp only [Act.put, List.setIfInBounds_toArray, List.set_cons_zero, List.set_cons_succ, List.getElem_toArray, List.getElem_cons_succ, List.getElem_cons_zero]
      refine wpAnyH_take (i := 5) (oi := _) (v := Value.pointer (some ⟨w.heap.size, 2, none⟩)) rfl (by kernel_rfl) (by kernel_rfl) (by kernel_rfl) (fun _ _ _ h => h) (Or.inl ⟨by rfl, fun w' hSw => ?_⟩) hHeld ?_
      · obtain ⟨t0, t1⟩ := hSw
        go_simp
        try simp [*]
        try (intro hh; exfalso; omega)
        try omega
      try simp only [Act.put, List.setIfInBounds_toArray, List.set_cons_zero, List.set_cons_succ, List.getElem_toArray, List.getElem_cons_succ, List.getElem_cons_zero]
      refine wpAnyH_take (i := 6) (oi := _) (v := Value.slice a n cap) rfl (by kernel_rfl) (by kernel_rfl) (by kernel_rfl) (fun _ _ _ h => h) (Or.inl ⟨by rfl, fun w' hSw => ?_⟩) hHeld ?_
      · obtain ⟨t0, t1⟩ := hSw
        go_simp
        try simp [*]
        try (intro hh; exfalso; omega)
        try omega
      try simp only [Act.put, List.setIfInBounds_toArray, List.set_cons_zero, List.set_cons_succ, List.getElem_toArray, List.getElem_cons_succ, List.getElem_cons_zero]
      refine wpAnyH_take (i := 7) (oi := _) (v := Value.int .i64 n) rfl (by kernel_rfl) (by kernel_rfl) (by kernel_rfl) (fun _ _ _ h => h) (Or.inl ⟨by rfl, fun w' hSw => ?_⟩) hHeld ?_
      · obtain ⟨t0, t1⟩ := hSw
        go_simp
        try simp [*]
        try (intro hh; exfalso; omega)
        try omega
      try simp only [Act.put, List.setIfInBounds_toArray, List.set_cons_zero, List.set_cons_succ, List.getElem_toArray, List.getElem_cons_succ, List.getElem_cons_zero]
      refine wpAnyH_take (i := 8) (oi := _) (v := Value.int .i64 (x : Int)) rfl (by kernel_rfl) (by kernel_rfl) (by kernel_rfl) (fun _ _ _ h => h) (Or.inl ⟨by rfl, fun w' hSw => ?_⟩) hHeld ?_
      · obtain ⟨t0, t1⟩ := hSw
        go_simp
        try simp [*]
        try (intro hh; exfalso; omega)
        try omega
      try simp only [Act.put, List.setIfInBounds_toArray, List.set_cons_zero, List.set_cons_succ, List.getElem_toArray, List.getElem_cons_succ, List.getElem_cons_zero]
      refine wpAnyH_take (i := 9) (oi := _) (v := Value.int .i64 (x : Int)) rfl (by kernel_rfl) (by kernel_rfl) (by kernel_rfl) (fun _ _ _ h => h) (Or.inl ⟨by rfl, fun w' hSw => ?_⟩) hHeld ?_
      · obtain ⟨t0, t1⟩ := hSw
        go_simp
        try simp [*]
        try (intro hh; exfalso; omega)
        try omega
      try simp only [Act.put, List.setIfInBounds_toArray, List.set_cons_zero, List.set_cons_succ, List.getElem_toArray, List.getElem_cons_succ, List.getElem_cons_zero]
      refine wpAnyH_done (by kernel_rfl) ?_ _
      clear hHeld
      clear k0 k1 k2 c0 htm
      have HBD := Lib.hid (HB.out.drew)
      have HROWD := Lib.hid (own_keep3 HROW.out (Below.refl wr.heap.size wr).drew)
      obtain ⟨k0, k1, k2⟩ := KK.out _ HBD.out
      go_wp2_with fail
      refine (cb.out _ (HBA.out.trans (HBD.out.mono HBA.out.size))).mono ?_
      rintro e w3 ⟨he, hb⟩
      have HB3 := Lib.hid (HBD.out.trans (hb.mono HBD.out.size))
      have HROW3 := Lib.hid (own_keep3 HROWD.out hb)
      clear hb k0 k1 k2
      obtain ⟨k0, k1, k2⟩ := KK.out _ HB3.out
      subst he
      cases hbx : brk ns x
      · have HN2 := Lib.hid (HN.out hbx)
        clear hbx
        go_wp2_with fail
        go_roundw
        case rel => exact ⟨i + 1, by omega, by go_num, by rw [HN2.out]; exact HROW3.out, HB3.out⟩
        case measure => simp [intOf]; omega
      · have HY2 := Lib.hid (HY.out hbx)
        clear hbx
        go_wp2_with (at_builtin; refine wpList_append_own _ rfl _ _ 29 rfl A.heap.size 3 i0 (.int .i64 0) 1 8 Try.underlying29 hi0 hz0 hz1 hz2 rfl (by decide) _ _ _ rfl (HROW3.out.alloc _) ⟨w3.heap.size, 0, none⟩ 1 1 [.int .i64 (x : Int)] rfl rfl (one_new3 _ _) (by simp [Value.oneCell']) (by unfold maxLen; omega) (by omega) (by have := HB3.out.size; simp; omega) ?_; intro v' w5 hown' hgrow _; have HG := Lib.hid hgrow; have HO := Lib.hid hown'; obtain ⟨g', cap', rfl⟩ := ownsRow_succ hown'; clear hown' hgrow; have HB5 := Lib.hid (show Below A.heap.size A w5 from (HB3.out.alloc HB3.out.size _).grown HG.out (by have := HB3.out.size; simp; omega) (fun r e => (((HROW3.out.alloc (.cells #[.int .i64 (x : Int)] 3)).lt r e).1))))
        have HR5 := Lib.hid (show w5.ownsRow A.heap.size 3 1 _ (hldL ns n ks (i + 1)).length (flatN (hldL ns n ks (i + 1))) by rw [HY2.out, flatN_snoc, List.length_append]; simpa using HO.out)
        go_roundw
        case rel => exact ⟨i + 1, by omega, by go_num, HR5.out, HB5.out⟩
        case measure => simp [intOf]; omega
    · obtain rfl : i = zm := by omega
      have hH16 : (hldL ns n ks i).length ≤ 16 := by have := HHL.out n i; omega
      have HSTU := Lib.hid (HST.out _ hH16 (fun x hx => HHM.out n (by omega) i x hx))
      have HILH := Lib.hid (il_of_own HROW.out)
      have cB2 := Lib.hid cB.out
      clear HHY HHN HHL HH0 HHM HST HZ HKBY cB HROW
      generalize hldL ns n ks i = H at *
      have hzs : (zs H).length ≤ 1000 := by rw [zs_len]; omega
      have hgl : H.length = (zs H).length := (zs_len H).symm
      have HOP' := Lib.hid (HOP.out (zs H) HSTU.out)
      have HLE' := Lib.hid (HLE.out (zs H) HSTU.out)
      have HLO' := Lib.hid (HLO.out (zs H))
      have hCL := HCL.out (zs H)
      have HCC' := Lib.hid (fun h => HCC.out h (zs H) F hFb.2)
      have cO' := Lib.hid (fun (EE : Int) (hEE : EE = if cutN ns (zs H) F = 0 then 5 else 0) W (h : Below w.heap.size w W) (hZ : Il W.heap.size W (.slice oa H.length oc) (zs H)) => show Calls Try.prog 38 #[.agg #[.int .i64 sl, .int .i64 sh, .slice a n cap], .int .i64 (F : Int), .slice oa H.length oc] W fun e w' => e = .returned (.tuple #[.int .i64 ((cutN ns (zs H) F : Nat) : Int), .int .i64 EE]) ∧ Below W.heap.size W w' by
        have q := cO.out (.slice oa H.length oc) (zs H) hzs (F : Int) W h hZ
        rw [HOP'.out.1, HOP'.out.2, ← hEE] at q
        exact q)
      have cL' := Lib.hid (fun (fv : Value) W (h : Below w.heap.size w W) (hF : Il W.heap.size W fv [(F : Int)]) (hZ : Il W.heap.size W (.slice oa H.length oc) (zs H)) => show Calls Try.prog 40 #[.agg #[.int .i64 sl, .int .i64 sh, .slice a n cap], fv, .slice oa H.length oc] W fun e w' => ∃ v, e = .returned (.tuple #[v, .int .i64 0]) ∧ Il w'.heap.size w' v (zs (sub (par ns) n (cutN ns (zs H) F))) ∧ Below W.heap.size W w' by
        have q := cL.out fv (.slice oa H.length oc) [(F : Int)] (zs H) (by simp) hzs W h hF hZ
        unfold LostR at q
        rw [HLE'.out, if_pos rfl, HLO'.out] at q
        exact q)
      have HPK := Lib.hid (fun x (h : x ∈ pth (par ns) F) => HFP.out (zs H) x)
      have HWS := Lib.hid (fun i (hi : i < (pth (par ns) F).length) => wan_step (ns := ns) (zs := zs H) hi (fun x hx => HPK.out x hx))
      have HWZ := Lib.hid (wan_zero ns (zs H) (pth (par ns) F))
      have HWA' := Lib.hid (wan_all ns (zs H) (pth (par ns) F))
      have HWT := Lib.hid (fun i => wan_stop (ns := ns) (zs := zs H) (L := pth (par ns) F) (i := i))
      have HFB' := Lib.hid (HFB.out (zs H))
      have HSL' := HSL.out (cutN ns (zs H) F)
      have cS2 := Lib.hid (cS'.out _ hCL)
      clear HOP HLE HLO HCL HCC cO cL HOP' HLE' HLO' HPK HFP HFB HSL cS' HSTU hgl
      generalize CR.1 = r1 at *
      generalize CR.2.1 = r2 at *
      generalize CR.2.2 = r3 at *
      go_wp2_with fail
      refine (cC.out _ (HBA.out.trans (HB.out.mono HBA.out.size))).mono ?_
      rintro e w3 ⟨rfl, hb⟩
      have HB3 := Lib.hid (HB.out.trans (hb.mono HB.out.size))
      have HI3 := Lib.hid (HILH.out.at hb)
      clear hb k0 k1 k2 HILH
      obtain ⟨k0, k1, k2⟩ := KK.out _ HB3.out
      have h3 := HCR.out
      rcases h3 with h3 | h3
      rotate_left
      · subst h3
        go_wp2_with fail
        refine (fine_any _).mono ?_
        rintro e w4 ⟨rfl, hb⟩
        have HB4 := Lib.hid (HB3.out.trans (hb.mono HB3.out.size))
        clear hb
        go_wp2_with fail
        go_ret
        exact ⟨by first | rfl | simp, HBA.out.trans (HB4.out.mono HBA.out.size)⟩
      subst h3
      have HCF := Lib.hid (HCC'.out (by first | rfl | trivial))
      clear HCC' HCR
      generalize cutN ns (zs H) F = CN at *
      obtain ⟨q, hq⟩ : ∃ q, q = fu.tmod ((n : Int) - 1) := ⟨_, rfl⟩
      have hqF : (1 : Int) + q = (F : Int) := by rw [hq]; omega
      have hqb : 0 ≤ q ∧ q ≤ 20 := by omega
      replace hq := hq.symm
      clear hfu
      have hn1 : ((n : Int) - 1 == 0) = false := by simp; omega
      go_wp2_with fail
      refine (cP'.out _ (HBA.out.trans (HB3.out.mono HBA.out.size))).mono ?_
      rintro e w4 ⟨pv, rfl, hr, hb⟩
      have HB4 := Lib.hid (HB3.out.trans (hb.mono HB3.out.size))
      have HI4 := Lib.hid (HI3.out.at hb)
      have HPR := Lib.hid hr
      obtain ⟨pa, pc, rfl⟩ := own_form3 hr
      clear hr hb k0 k1 k2 HI3 hq hqF hqb hn1
      obtain ⟨k0, k1, k2⟩ := KK.out _ HB4.out
      generalize pth (par ns) F = L at *
      have HTL := Lib.hid (fun i (h : i < L.length) => HPL.out _ (tn_mem h))
      generalize hpm : L.length = pm at *
      clear hpm HPL
      go_wp2_with fail
      go_loopw [17, 18] (fun wv iv W => ∃ i : Nat, i ≤ pm ∧ wv = .int .i64 ((wanF ns (zs H) L i : Nat) : Int) ∧ iv = .int .i64 i ∧ Below w4.heap.size w4 W) (fun _ iv _ => pm - (intOf iv).toNat)
      case atStart => exact ⟨0, Nat.zero_le _, by rw [HWZ.out]; rfl, rfl, Below.refl _ _⟩
      case round =>
        obtain ⟨i, hi, rfl, rfl, hBW⟩ := hrel
        have HBW := Lib.hid hBW
        have HBQ := Lib.hid (HB4.out.trans (hBW.mono HB4.out.size))
        have HIQ := Lib.hid (HI4.out.at hBW)
        have HPQ := Lib.hid (own_keep3 HPR.out hBW)
        clear hBW k0 k1 k2
        obtain ⟨k0, k1, k2⟩ := KK.out _ HBQ.out
        by_cases him : i < pm
        · have hii : (i : Int) < (pm : Int) := by omega
          by_cases hw0 : wanF ns (zs H) L i = 0
          · have HSTEP := Lib.hid (HWS.out i him hw0)
            rw [hw0]
            obtain ⟨g, lc', he, hlc, hg1, hg2, gl⟩ := own3_cell HPQ.out him
            simp only [Value.slice.injEq] at he
            obtain ⟨rfl, -, rfl⟩ := he
            have hxn := HTL.out i him
            have HFX := Lib.hid (HFB'.out (tn L i))
            generalize tn L i = x at *
            have cb := Lib.hid (cB2.out x hxn)
            have cH := Lib.hid (fun W (h : Il W.heap.size W (.slice oa H.length oc) (zs H)) => refHas_any (.slice oa H.length oc) (zs H) (x : Int) W h hzs)
            generalize brk ns x = bx at *
            generalize decide ((x : Int) ∈ zs H) = inz at *
            have HWW := Lib.hid (HBA.out.trans (HBQ.out.mono HBA.out.size))
            have KQ := Lib.hid (show ∀ Z, Below wr.heap.size wr Z → Z.cell? ⟨w.heap.size, 0, none⟩ = some (.int .i64 sl) ∧ Z.cell? ⟨w.heap.size, 1, none⟩ = some (.int .i64 sh) ∧ Z.cell? ⟨w.heap.size, 2, none⟩ = some (.slice a n cap) ∧ Z.cell? ⟨g, i, none⟩ = some (.int .i64 (x : Int)) from fun Z h => by
              have hs := HBA.out.size
              have hs2 := HBQ.out.size
              have hs3 := HLT.out
              exact ⟨(h.cell (p := ⟨w.heap.size, 0, none⟩) (by show w.heap.size < wr.heap.size; omega)).trans k0, (h.cell (p := ⟨w.heap.size, 1, none⟩) (by show w.heap.size < wr.heap.size; omega)).trans k1, (h.cell (p := ⟨w.heap.size, 2, none⟩) (by show w.heap.size < wr.heap.size; omega)).trans k2, (h.cell (p := ⟨g, _, none⟩) (by show g < wr.heap.size; omega)).trans gl⟩)
            have HDR := Lib.hid (show Below wr.heap.size wr wr.drew from (Below.refl _ _).drew)
            cases bx
            · have HX := Lib.hid (show wanF ns (zs H) L (i + 1) = 0 by rw [HSTEP.out, if_neg (by rw [HFX.out]; simp)])
              go_upto_region 21 with fail
              refine wp_region_held_drew (S := fun w' => w'.cell? ⟨w.heap.size, 0, none⟩ = some (Value.int .i64 sl) ∧ w'.cell? ⟨w.heap.size, 1, none⟩ = some (Value.int .i64 sh) ∧ w'.cell? ⟨w.heap.size, 2, none⟩ = some (Value.slice a n cap) ∧ w'.cell? ⟨g, i, none⟩ = some (Value.int .i64 (x : Int))) (by kernel_rfl) ⟨by simpa [go_sem] using k0, by simpa [go_sem] using k1, by simpa [go_sem] using k2, by simpa [go_sem] using gl⟩ (fun hHeld => ?_)
              refine wpAnyH_take (i := 0) (oi := _) (v := Value.agg #[Value.int .i64 sl, Value.int .i64 sh, Value.slice a n cap]) rfl (by kernel_rfl) (by kernel_rfl) (by kernel_rfl) (fun _ _ _ h => h) (Or.inl ⟨by rfl, fun w' hSw => ?_⟩) hHeld ?_
              · obtain ⟨t0, t1, t2, t3⟩ := hSw
                go_simp
                try simp [*]
                try (intro hh; exfalso; omega)
                try omega
              try simp only [Act.put, List.setIfInBounds_toArray, List.set_cons_zero, List.set_cons_succ, List.getElem_toArray, List.getElem_cons_succ, List.getElem_cons_zero]
              refine wpAnyH_take (i := 1) (oi := _) (v := Value.slice (some ⟨g, 0, none⟩) pm pc) rfl (by kernel_rfl) (by kernel_rfl) (by kernel_rfl) (fun _ _ _ h => h) (Or.inl ⟨by rfl, fun w' hSw => ?_⟩) hHeld ?_
              · obtain ⟨t0, t1, t2, t3⟩ := hSw
                go_simp
                try simp [*]
                try (intro hh; exfalso; omega)
                try omega
              try simp only [Act.put, List.setIfInBounds_toArray, List.set_cons_zero, List.set_cons_succ, List.getElem_toArray, List.getElem_cons_succ, List.getElem_cons_zero]
              refine wpAnyH_take (i := 2) (oi := _) (v := Value.int .i64 (i : Int)) rfl (by kernel_rfl) (by kernel_rfl) (by kernel_rfl) (fun _ _ _ h => h) (Or.inl ⟨by rfl, fun w' hSw => ?_⟩) hHeld ?_
              · obtain ⟨t0, t1, t2, t3⟩ := hSw
                go_simp
                try simp [*]
                try (intro hh; exfalso; omega)
                try omega
              try simp only [Act.put, List.setIfInBounds_toArray, List.set_cons_zero, List.set_cons_succ, List.getElem_toArray, List.getElem_cons_succ, List.getElem_cons_zero]
              refine wpAnyH_take (i := 3) (oi := _) (v := Value.pointer (some ⟨g, i, none⟩)) rfl (by kernel_rfl) (by kernel_rfl) (by kernel_rfl) (fun _ _ _ h => h) (Or.inl ⟨by rfl, fun w' hSw => ?_⟩) hHeld ?_
              · obtain ⟨t0, t1, t2, t3⟩ := hSw
                go_simp
                try simp [*]
                try (intro hh; exfalso; omega)
                try omega
              try simp only [Act.put, List.setIfInBounds_toArray, List.set_cons_zero, List.set_cons_succ, List.getElem_toArray, List.getElem_cons_succ, List.getElem_cons_zero]
              refine wpAnyH_take (i := 4) (oi := _) (v := Value.int .i64 (x : Int)) rfl (by kernel_rfl) (by kernel_rfl) (by kernel_rfl) (fun _ _ _ h => h) (Or.inl ⟨by rfl, fun w' hSw => ?_⟩) hHeld ?_
              · obtain ⟨t0, t1, t2, t3⟩ := hSw
                go_simp
                try simp [*]
                try (intro hh; exfalso; omega)
                try omega
              try simp only [Act.put, List.setIfInBounds_toArray, List.set_cons_zero, List.set_cons_succ, List.getElem_toArray, List.getElem_cons_succ, List.getElem_cons_zero]
              refine wpAnyH_ready (rs := [5]) (by kernel_rfl) (by simp) ?_
              refine AllReadyH.cons (o := _) rfl (fun K hK => ?_) AllReadyH.nil
              go_simp
              go_at_call 59
              refine Calls.mono (cb.out _ (HWW.out.trans (HDR.out.mono HWW.out.size))) ?_
              rintro e v1 ⟨rfl, hb⟩
              have HD1 := Lib.hid (HDR.out.trans (hb.mono HDR.out.size))
              clear hb
              clear hHeld
              refine hK.out _ _ (KQ.out _ HD1.out) (fun hHeld => ?_)
              clear hK K
              try simp only [Act.put, List.setIfInBounds_toArray, List.set_cons_zero, List.set_cons_succ, List.getElem_toArray, List.getElem_cons_succ, List.getElem_cons_zero]
              refine wpAnyH_take (i := 6) (oi := _) (v := Value.bool false) rfl (by kernel_rfl) (by kernel_rfl) (by kernel_rfl) (fun _ _ _ h => h) (Or.inl ⟨by rfl, fun w' hSw => ?_⟩) hHeld ?_
              · obtain ⟨t0, t1, t2, t3⟩ := hSw
                go_simp
                try simp [*]
                try (intro hh; exfalso; omega)
                try omega
              try simp only [Act.put, List.setIfInBounds_toArray, List.set_cons_zero, List.set_cons_succ, List.getElem_toArray, List.getElem_cons_succ, List.getElem_cons_zero]
              refine wpAnyH_take (i := 7) (oi := _) (v := undef) rfl (by kernel_rfl) (by kernel_rfl) (by kernel_rfl) (fun _ _ _ h => h) (Or.inr ⟨by rfl, rfl⟩) hHeld ?_
              try simp only [Act.put, List.setIfInBounds_toArray, List.set_cons_zero, List.set_cons_succ, List.getElem_toArray, List.getElem_cons_succ, List.getElem_cons_zero]
              refine wpAnyH_take (i := 8) (oi := _) (v := undef) rfl (by kernel_rfl) (by kernel_rfl) (by kernel_rfl) (fun _ _ _ h => h) (Or.inr ⟨by rfl, rfl⟩) hHeld ?_
              try simp only [Act.put, List.setIfInBounds_toArray, List.set_cons_zero, List.set_cons_succ, List.getElem_toArray, List.getElem_cons_succ, List.getElem_cons_zero]
              refine wpAnyH_take (i := 9) (oi := _) (v := undef) rfl (by kernel_rfl) (by kernel_rfl) (by kernel_rfl) (fun _ _ _ h => h) (Or.inr ⟨by rfl, rfl⟩) hHeld ?_
              try simp only [Act.put, List.setIfInBounds_toArray, List.set_cons_zero, List.set_cons_succ, List.getElem_toArray, List.getElem_cons_succ, List.getElem_cons_zero]
              refine wpAnyH_take (i := 10) (oi := _) (v := undef) rfl (by kernel_rfl) (by kernel_rfl) (by kernel_rfl) (fun _ _ _ h => h) (Or.inr ⟨by rfl, rfl⟩) hHeld ?_
              try simp only [Act.put, List.setIfInBounds_toArray, List.set_cons_zero, List.set_cons_succ, List.getElem_toArray, List.getElem_cons_succ, List.getElem_cons_zero]
              refine wpAnyH_take (i := 11) (oi := _) (v := undef) rfl (by kernel_rfl) (by kernel_rfl) (by kernel_rfl) (fun _ _ _ h => h) (Or.inr ⟨by rfl, rfl⟩) hHeld ?_
              try simp only [Act.put, List.setIfInBounds_toArray, List.set_cons_zero, List.set_cons_succ, List.getElem_toArray, List.getElem_cons_succ, List.getElem_cons_zero]
              refine wpAnyH_take (i := 12) (oi := _) (v := undef) rfl (by kernel_rfl) (by kernel_rfl) (by kernel_rfl) (fun _ _ _ h => h) (Or.inr ⟨by rfl, rfl⟩) hHeld ?_
              try simp only [Act.put, List.setIfInBounds_toArray, List.set_cons_zero, List.set_cons_succ, List.getElem_toArray, List.getElem_cons_succ, List.getElem_cons_zero]
              refine wpAnyH_take (i := 13) (oi := _) (v := undef) rfl (by kernel_rfl) (by kernel_rfl) (by kernel_rfl) (fun _ _ _ h => h) (Or.inr ⟨by rfl, rfl⟩) hHeld ?_
              try simp only [Act.put, List.setIfInBounds_toArray, List.set_cons_zero, List.set_cons_succ, List.getElem_toArray, List.getElem_cons_succ, List.getElem_cons_zero]
              refine wpAnyH_take (i := 14) (oi := _) (v := Value.bool false) rfl (by kernel_rfl) (by kernel_rfl) (by kernel_rfl) (fun _ _ _ h => h) (Or.inl ⟨by rfl, fun w' hSw => ?_⟩) hHeld ?_
              · obtain ⟨t0, t1, t2, t3⟩ := hSw
                go_simp
                try simp [*]
                try (intro hh; exfalso; omega)
                try omega
              try simp only [Act.put, List.setIfInBounds_toArray, List.set_cons_zero, List.set_cons_succ, List.getElem_toArray, List.getElem_cons_succ, List.getElem_cons_zero]
              refine wpAnyH_done (by kernel_rfl) ?_ _
              clear hHeld
              clear k0 k1 k2 gl
              obtain ⟨k0, k1, k2, gl⟩ := KQ.out _ HD1.out
              go_wp2_with fail
              go_roundw
              case rel => exact ⟨i + 1, by omega, by rw [HX.out]; rfl, by go_num, HBW.out.trans (HD1.out.mono HBW.out.size)⟩
              case measure => simp [intOf]; omega
            · cases inz
              rotate_left
              · have HX := Lib.hid (show wanF ns (zs H) L (i + 1) = 0 by rw [HSTEP.out, if_neg (by rw [HFX.out]; simp)])
                go_upto_region 21 with fail
                refine wp_region_held_drew (S := fun w' => w'.cell? ⟨w.heap.size, 0, none⟩ = some (Value.int .i64 sl) ∧ w'.cell? ⟨w.heap.size, 1, none⟩ = some (Value.int .i64 sh) ∧ w'.cell? ⟨w.heap.size, 2, none⟩ = some (Value.slice a n cap) ∧ w'.cell? ⟨g, i, none⟩ = some (Value.int .i64 (x : Int))) (by kernel_rfl) ⟨by simpa [go_sem] using k0, by simpa [go_sem] using k1, by simpa [go_sem] using k2, by simpa [go_sem] using gl⟩ (fun hHeld => ?_)
                refine wpAnyH_take (i := 0) (oi := _) (v := Value.agg #[Value.int .i64 sl, Value.int .i64 sh, Value.slice a n cap]) rfl (by kernel_rfl) (by kernel_rfl) (by kernel_rfl) (fun _ _ _ h => h) (Or.inl ⟨by rfl, fun w' hSw => ?_⟩) hHeld ?_
                · obtain ⟨t0, t1, t2, t3⟩ := hSw
                  go_simp
                  try simp [*]
                  try (intro hh; exfalso; omega)
                  try omega
                try simp only [Act.put, List.setIfInBounds_toArray, List.set_cons_zero, List.set_cons_succ, List.getElem_toArray, List.getElem_cons_succ, List.getElem_cons_zero]
                refine wpAnyH_take (i := 1) (oi := _) (v := Value.slice (some ⟨g, 0, none⟩) pm pc) rfl (by kernel_rfl) (by kernel_rfl) (by kernel_rfl) (fun _ _ _ h => h) (Or.inl ⟨by rfl, fun w' hSw => ?_⟩) hHeld ?_
                · obtain ⟨t0, t1, t2, t3⟩ := hSw
                  go_simp
                  try simp [*]
                  try (intro hh; exfalso; omega)
                  try omega
                try simp only [Act.put, List.setIfInBounds_toArray, List.set_cons_zero, List.set_cons_succ, List.getElem_toArray, List.getElem_cons_succ, List.getElem_cons_zero]
                refine wpAnyH_take (i := 2) (oi := _) (v := Value.int .i64 (i : Int)) rfl (by kernel_rfl) (by kernel_rfl) (by kernel_rfl) (fun _ _ _ h => h) (Or.inl ⟨by rfl, fun w' hSw => ?_⟩) hHeld ?_
                · obtain ⟨t0, t1, t2, t3⟩ := hSw
                  go_simp
                  try simp [*]
                  try (intro hh; exfalso; omega)
                  try omega
                try simp only [Act.put, List.setIfInBounds_toArray, List.set_cons_zero, List.set_cons_succ, List.getElem_toArray, List.getElem_cons_succ, List.getElem_cons_zero]
                refine wpAnyH_take (i := 3) (oi := _) (v := Value.pointer (some ⟨g, i, none⟩)) rfl (by kernel_rfl) (by kernel_rfl) (by kernel_rfl) (fun _ _ _ h => h) (Or.inl ⟨by rfl, fun w' hSw => ?_⟩) hHeld ?_
                · obtain ⟨t0, t1, t2, t3⟩ := hSw
                  go_simp
                  try simp [*]
                  try (intro hh; exfalso; omega)
                  try omega
                try simp only [Act.put, List.setIfInBounds_toArray, List.set_cons_zero, List.set_cons_succ, List.getElem_toArray, List.getElem_cons_succ, List.getElem_cons_zero]
                refine wpAnyH_take (i := 4) (oi := _) (v := Value.int .i64 (x : Int)) rfl (by kernel_rfl) (by kernel_rfl) (by kernel_rfl) (fun _ _ _ h => h) (Or.inl ⟨by rfl, fun w' hSw => ?_⟩) hHeld ?_
                · obtain ⟨t0, t1, t2, t3⟩ := hSw
                  go_simp
                  try simp [*]
                  try (intro hh; exfalso; omega)
                  try omega
                try simp only [Act.put, List.setIfInBounds_toArray, List.set_cons_zero, List.set_cons_succ, List.getElem_toArray, List.getElem_cons_succ, List.getElem_cons_zero]
                refine wpAnyH_ready (rs := [5]) (by kernel_rfl) (by simp) ?_
                refine AllReadyH.cons (o := _) rfl (fun K hK => ?_) AllReadyH.nil
                go_simp
                go_at_call 59
                refine Calls.mono (cb.out _ (HWW.out.trans (HDR.out.mono HWW.out.size))) ?_
                rintro e v1 ⟨rfl, hb⟩
                have HD1 := Lib.hid (HDR.out.trans (hb.mono HDR.out.size))
                clear hb
                clear hHeld
                refine hK.out _ _ (KQ.out _ HD1.out) (fun hHeld => ?_)
                clear hK K
                try simp only [Act.put, List.setIfInBounds_toArray, List.set_cons_zero, List.set_cons_succ, List.getElem_toArray, List.getElem_cons_succ, List.getElem_cons_zero]
                refine wpAnyH_take (i := 6) (oi := _) (v := Value.bool true) rfl (by kernel_rfl) (by kernel_rfl) (by kernel_rfl) (fun _ _ _ h => h) (Or.inl ⟨by rfl, fun w' hSw => ?_⟩) hHeld ?_
                · obtain ⟨t0, t1, t2, t3⟩ := hSw
                  go_simp
                  try simp [*]
                  try (intro hh; exfalso; omega)
                  try omega
                try simp only [Act.put, List.setIfInBounds_toArray, List.set_cons_zero, List.set_cons_succ, List.getElem_toArray, List.getElem_cons_succ, List.getElem_cons_zero]
                refine wpAnyH_take (i := 7) (oi := _) (v := Value.slice oa H.length oc) rfl (by kernel_rfl) (by kernel_rfl) (by kernel_rfl) (fun _ _ _ h => h) (Or.inl ⟨by rfl, fun w' hSw => ?_⟩) hHeld ?_
                · obtain ⟨t0, t1, t2, t3⟩ := hSw
                  go_simp
                  try simp [*]
                  try (intro hh; exfalso; omega)
                  try omega
                try simp only [Act.put, List.setIfInBounds_toArray, List.set_cons_zero, List.set_cons_succ, List.getElem_toArray, List.getElem_cons_succ, List.getElem_cons_zero]
                refine wpAnyH_take (i := 8) (oi := _) (v := Value.slice (some ⟨g, 0, none⟩) pm pc) rfl (by kernel_rfl) (by kernel_rfl) (by kernel_rfl) (fun _ _ _ h => h) (Or.inl ⟨by rfl, fun w' hSw => ?_⟩) hHeld ?_
                · obtain ⟨t0, t1, t2, t3⟩ := hSw
                  go_simp
                  try simp [*]
                  try (intro hh; exfalso; omega)
                  try omega
                try simp only [Act.put, List.setIfInBounds_toArray, List.set_cons_zero, List.set_cons_succ, List.getElem_toArray, List.getElem_cons_succ, List.getElem_cons_zero]
                refine wpAnyH_take (i := 9) (oi := _) (v := Value.int .i64 (i : Int)) rfl (by kernel_rfl) (by kernel_rfl) (by kernel_rfl) (fun _ _ _ h => h) (Or.inl ⟨by rfl, fun w' hSw => ?_⟩) hHeld ?_
                · obtain ⟨t0, t1, t2, t3⟩ := hSw
                  go_simp
                  try simp [*]
                  try (intro hh; exfalso; omega)
                  try omega
                try simp only [Act.put, List.setIfInBounds_toArray, List.set_cons_zero, List.set_cons_succ, List.getElem_toArray, List.getElem_cons_succ, List.getElem_cons_zero]
                refine wpAnyH_take (i := 10) (oi := _) (v := Value.pointer (some ⟨g, i, none⟩)) rfl (by kernel_rfl) (by kernel_rfl) (by kernel_rfl) (fun _ _ _ h => h) (Or.inl ⟨by rfl, fun w' hSw => ?_⟩) hHeld ?_
                · obtain ⟨t0, t1, t2, t3⟩ := hSw
                  go_simp
                  try simp [*]
                  try (intro hh; exfalso; omega)
                  try omega
                try simp only [Act.put, List.setIfInBounds_toArray, List.set_cons_zero, List.set_cons_succ, List.getElem_toArray, List.getElem_cons_succ, List.getElem_cons_zero]
                refine wpAnyH_take (i := 11) (oi := _) (v := Value.int .i64 (x : Int)) rfl (by kernel_rfl) (by kernel_rfl) (by kernel_rfl) (fun _ _ _ h => h) (Or.inl ⟨by rfl, fun w' hSw => ?_⟩) hHeld ?_
                · obtain ⟨t0, t1, t2, t3⟩ := hSw
                  go_simp
                  try simp [*]
                  try (intro hh; exfalso; omega)
                  try omega
                try simp only [Act.put, List.setIfInBounds_toArray, List.set_cons_zero, List.set_cons_succ, List.getElem_toArray, List.getElem_cons_succ, List.getElem_cons_zero]
                refine wpAnyH_ready (rs := [12]) (by kernel_rfl) (by simp) ?_
                refine AllReadyH.cons (o := _) rfl (fun K hK => ?_) AllReadyH.nil
                go_simp
                go_at_call 60
                refine Calls.mono (cH.out _ (HIQ.out.at HD1.out)) ?_
                rintro e v2 ⟨rfl, rfl⟩
                clear hHeld
                refine hK.out _ _ (KQ.out _ HD1.out) (fun hHeld => ?_)
                clear hK K
                try simp only [Act.put, List.setIfInBounds_toArray, List.set_cons_zero, List.set_cons_succ, List.getElem_toArray, List.getElem_cons_succ, List.getElem_cons_zero]
                refine wpAnyH_take (i := 13) (oi := _) (v := Value.bool false) rfl (by kernel_rfl) (by kernel_rfl) (by kernel_rfl) (fun _ _ _ h => h) (Or.inl ⟨by rfl, fun w' hSw => ?_⟩) hHeld ?_
                · obtain ⟨t0, t1, t2, t3⟩ := hSw
                  go_simp
                  try simp [*]
                  try (intro hh; exfalso; omega)
                  try omega
                try simp only [Act.put, List.setIfInBounds_toArray, List.set_cons_zero, List.set_cons_succ, List.getElem_toArray, List.getElem_cons_succ, List.getElem_cons_zero]
                refine wpAnyH_take (i := 14) (oi := _) (v := Value.bool false) rfl (by kernel_rfl) (by kernel_rfl) (by kernel_rfl) (fun _ _ _ h => h) (Or.inl ⟨by rfl, fun w' hSw => ?_⟩) hHeld ?_
                · obtain ⟨t0, t1, t2, t3⟩ := hSw
                  go_simp
                  try simp [*]
                  try (intro hh; exfalso; omega)
                  try omega
                try simp only [Act.put, List.setIfInBounds_toArray, List.set_cons_zero, List.set_cons_succ, List.getElem_toArray, List.getElem_cons_succ, List.getElem_cons_zero]
                refine wpAnyH_done (by kernel_rfl) ?_ _
                clear hHeld
                clear k0 k1 k2 gl
                obtain ⟨k0, k1, k2, gl⟩ := KQ.out _ HD1.out
                go_wp2_with fail
                go_roundw
                case rel => exact ⟨i + 1, by omega, by rw [HX.out]; rfl, by go_num, HBW.out.trans (HD1.out.mono HBW.out.size)⟩
                case measure => simp [intOf]; omega
              · have HX := Lib.hid (show wanF ns (zs H) L (i + 1) = x by rw [HSTEP.out, if_pos (by rw [HFX.out]; rfl)])
                go_upto_region 21 with fail
                refine wp_region_held_drew (S := fun w' => w'.cell? ⟨w.heap.size, 0, none⟩ = some (Value.int .i64 sl) ∧ w'.cell? ⟨w.heap.size, 1, none⟩ = some (Value.int .i64 sh) ∧ w'.cell? ⟨w.heap.size, 2, none⟩ = some (Value.slice a n cap) ∧ w'.cell? ⟨g, i, none⟩ = some (Value.int .i64 (x : Int))) (by kernel_rfl) ⟨by simpa [go_sem] using k0, by simpa [go_sem] using k1, by simpa [go_sem] using k2, by simpa [go_sem] using gl⟩ (fun hHeld => ?_)
                refine wpAnyH_take (i := 0) (oi := _) (v := Value.agg #[Value.int .i64 sl, Value.int .i64 sh, Value.slice a n cap]) rfl (by kernel_rfl) (by kernel_rfl) (by kernel_rfl) (fun _ _ _ h => h) (Or.inl ⟨by rfl, fun w' hSw => ?_⟩) hHeld ?_
                · obtain ⟨t0, t1, t2, t3⟩ := hSw
                  go_simp
                  try simp [*]
                  try (intro hh; exfalso; omega)
                  try omega
                try simp only [Act.put, List.setIfInBounds_toArray, List.set_cons_zero, List.set_cons_succ, List.getElem_toArray, List.getElem_cons_succ, List.getElem_cons_zero]
                refine wpAnyH_take (i := 1) (oi := _) (v := Value.slice (some ⟨g, 0, none⟩) pm pc) rfl (by kernel_rfl) (by kernel_rfl) (by kernel_rfl) (fun _ _ _ h => h) (Or.inl ⟨by rfl, fun w' hSw => ?_⟩) hHeld ?_
                · obtain ⟨t0, t1, t2, t3⟩ := hSw
                  go_simp
                  try simp [*]
                  try (intro hh; exfalso; omega)
                  try omega
                try simp only [Act.put, List.setIfInBounds_toArray, List.set_cons_zero, List.set_cons_succ, List.getElem_toArray, List.getElem_cons_succ, List.getElem_cons_zero]
                refine wpAnyH_take (i := 2) (oi := _) (v := Value.int .i64 (i : Int)) rfl (by kernel_rfl) (by kernel_rfl) (by kernel_rfl) (fun _ _ _ h => h) (Or.inl ⟨by rfl, fun w' hSw => ?_⟩) hHeld ?_
                · obtain ⟨t0, t1, t2, t3⟩ := hSw
                  go_simp
                  try simp [*]
                  try (intro hh; exfalso; omega)
                  try omega
                try simp only [Act.put, List.setIfInBounds_toArray, List.set_cons_zero, List.set_cons_succ, List.getElem_toArray, List.getElem_cons_succ, List.getElem_cons_zero]
                refine wpAnyH_take (i := 3) (oi := _) (v := Value.pointer (some ⟨g, i, none⟩)) rfl (by kernel_rfl) (by kernel_rfl) (by kernel_rfl) (fun _ _ _ h => h) (Or.inl ⟨by rfl, fun w' hSw => ?_⟩) hHeld ?_
                · obtain ⟨t0, t1, t2, t3⟩ := hSw
                  go_simp
                  try simp [*]
                  try (intro hh; exfalso; omega)
                  try omega
                try simp only [Act.put, List.setIfInBounds_toArray, List.set_cons_zero, List.set_cons_succ, List.getElem_toArray, List.getElem_cons_succ, List.getElem_cons_zero]
                refine wpAnyH_take (i := 4) (oi := _) (v := Value.int .i64 (x : Int)) rfl (by kernel_rfl) (by kernel_rfl) (by kernel_rfl) (fun _ _ _ h => h) (Or.inl ⟨by rfl, fun w' hSw => ?_⟩) hHeld ?_
                · obtain ⟨t0, t1, t2, t3⟩ := hSw
                  go_simp
                  try simp [*]
                  try (intro hh; exfalso; omega)
                  try omega
                try simp only [Act.put, List.setIfInBounds_toArray, List.set_cons_zero, List.set_cons_succ, List.getElem_toArray, List.getElem_cons_succ, List.getElem_cons_zero]
                refine wpAnyH_ready (rs := [5]) (by kernel_rfl) (by simp) ?_
                refine AllReadyH.cons (o := _) rfl (fun K hK => ?_) AllReadyH.nil
                go_simp
                go_at_call 59
                refine Calls.mono (cb.out _ (HWW.out.trans (HDR.out.mono HWW.out.size))) ?_
                rintro e v1 ⟨rfl, hb⟩
                have HD1 := Lib.hid (HDR.out.trans (hb.mono HDR.out.size))
                clear hb
                clear hHeld
                refine hK.out _ _ (KQ.out _ HD1.out) (fun hHeld => ?_)
                clear hK K
                try simp only [Act.put, List.setIfInBounds_toArray, List.set_cons_zero, List.set_cons_succ, List.getElem_toArray, List.getElem_cons_succ, List.getElem_cons_zero]
                refine wpAnyH_take (i := 6) (oi := _) (v := Value.bool true) rfl (by kernel_rfl) (by kernel_rfl) (by kernel_rfl) (fun _ _ _ h => h) (Or.inl ⟨by rfl, fun w' hSw => ?_⟩) hHeld ?_
                · obtain ⟨t0, t1, t2, t3⟩ := hSw
                  go_simp
                  try simp [*]
                  try (intro hh; exfalso; omega)
                  try omega
                try simp only [Act.put, List.setIfInBounds_toArray, List.set_cons_zero, List.set_cons_succ, List.getElem_toArray, List.getElem_cons_succ, List.getElem_cons_zero]
                refine wpAnyH_take (i := 7) (oi := _) (v := Value.slice oa H.length oc) rfl (by kernel_rfl) (by kernel_rfl) (by kernel_rfl) (fun _ _ _ h => h) (Or.inl ⟨by rfl, fun w' hSw => ?_⟩) hHeld ?_
                · obtain ⟨t0, t1, t2, t3⟩ := hSw
                  go_simp
                  try simp [*]
                  try (intro hh; exfalso; omega)
                  try omega
                try simp only [Act.put, List.setIfInBounds_toArray, List.set_cons_zero, List.set_cons_succ, List.getElem_toArray, List.getElem_cons_succ, List.getElem_cons_zero]
                refine wpAnyH_take (i := 8) (oi := _) (v := Value.slice (some ⟨g, 0, none⟩) pm pc) rfl (by kernel_rfl) (by kernel_rfl) (by kernel_rfl) (fun _ _ _ h => h) (Or.inl ⟨by rfl, fun w' hSw => ?_⟩) hHeld ?_
                · obtain ⟨t0, t1, t2, t3⟩ := hSw
                  go_simp
                  try simp [*]
                  try (intro hh; exfalso; omega)
                  try omega
                try simp only [Act.put, List.setIfInBounds_toArray, List.set_cons_zero, List.set_cons_succ, List.getElem_toArray, List.getElem_cons_succ, List.getElem_cons_zero]
                refine wpAnyH_take (i := 9) (oi := _) (v := Value.int .i64 (i : Int)) rfl (by kernel_rfl) (by kernel_rfl) (by kernel_rfl) (fun _ _ _ h => h) (Or.inl ⟨by rfl, fun w' hSw => ?_⟩) hHeld ?_
                · obtain ⟨t0, t1, t2, t3⟩ := hSw
                  go_simp
                  try simp [*]
                  try (intro hh; exfalso; omega)
                  try omega
                try simp only [Act.put, List.setIfInBounds_toArray, List.set_cons_zero, List.set_cons_succ, List.getElem_toArray, List.getElem_cons_succ, List.getElem_cons_zero]
                refine wpAnyH_take (i := 10) (oi := _) (v := Value.pointer (some ⟨g, i, none⟩)) rfl (by kernel_rfl) (by kernel_rfl) (by kernel_rfl) (fun _ _ _ h => h) (Or.inl ⟨by rfl, fun w' hSw => ?_⟩) hHeld ?_
                · obtain ⟨t0, t1, t2, t3⟩ := hSw
                  go_simp
                  try simp [*]
                  try (intro hh; exfalso; omega)
                  try omega
                try simp only [Act.put, List.setIfInBounds_toArray, List.set_cons_zero, List.set_cons_succ, List.getElem_toArray, List.getElem_cons_succ, List.getElem_cons_zero]
                refine wpAnyH_take (i := 11) (oi := _) (v := Value.int .i64 (x : Int)) rfl (by kernel_rfl) (by kernel_rfl) (by kernel_rfl) (fun _ _ _ h => h) (Or.inl ⟨by rfl, fun w' hSw => ?_⟩) hHeld ?_
                · obtain ⟨t0, t1, t2, t3⟩ := hSw
                  go_simp
                  try simp [*]
                  try (intro hh; exfalso; omega)
                  try omega
                try simp only [Act.put, List.setIfInBounds_toArray, List.set_cons_zero, List.set_cons_succ, List.getElem_toArray, List.getElem_cons_succ, List.getElem_cons_zero]
                refine wpAnyH_ready (rs := [12]) (by kernel_rfl) (by simp) ?_
                refine AllReadyH.cons (o := _) rfl (fun K hK => ?_) AllReadyH.nil
                go_simp
                go_at_call 60
                refine Calls.mono (cH.out _ (HIQ.out.at HD1.out)) ?_
                rintro e v2 ⟨rfl, rfl⟩
                clear hHeld
                refine hK.out _ _ (KQ.out _ HD1.out) (fun hHeld => ?_)
                clear hK K
                try simp only [Act.put, List.setIfInBounds_toArray, List.set_cons_zero, List.set_cons_succ, List.getElem_toArray, List.getElem_cons_succ, List.getElem_cons_zero]
                refine wpAnyH_take (i := 13) (oi := _) (v := Value.bool true) rfl (by kernel_rfl) (by kernel_rfl) (by kernel_rfl) (fun _ _ _ h => h) (Or.inl ⟨by rfl, fun w' hSw => ?_⟩) hHeld ?_
                · obtain ⟨t0, t1, t2, t3⟩ := hSw
                  go_simp
                  try simp [*]
                  try (intro hh; exfalso; omega)
                  try omega
                try simp only [Act.put, List.setIfInBounds_toArray, List.set_cons_zero, List.set_cons_succ, List.getElem_toArray, List.getElem_cons_succ, List.getElem_cons_zero]
                refine wpAnyH_take (i := 14) (oi := _) (v := Value.bool true) rfl (by kernel_rfl) (by kernel_rfl) (by kernel_rfl) (fun _ _ _ h => h) (Or.inl ⟨by rfl, fun w' hSw => ?_⟩) hHeld ?_
                · obtain ⟨t0, t1, t2, t3⟩ := hSw
                  go_simp
                  try simp [*]
                  try (intro hh; exfalso; omega)
                  try omega
                try simp only [Act.put, List.setIfInBounds_toArray, List.set_cons_zero, List.set_cons_succ, List.getElem_toArray, List.getElem_cons_succ, List.getElem_cons_zero]
                refine wpAnyH_done (by kernel_rfl) ?_ _
                clear hHeld
                clear k0 k1 k2 gl
                obtain ⟨k0, k1, k2, gl⟩ := KQ.out _ HD1.out
                go_wp2_with fail
                go_roundw
                case rel => exact ⟨i + 1, by omega, by rw [HX.out], by go_num, HBW.out.trans (HD1.out.mono HBW.out.size)⟩
                case measure => simp [intOf]; omega
          · have HWF := Lib.hid ((HWT.out i hw0).trans HCF.out.symm)
            have hC0 : CN ≠ 0 := by rw [← HWF.out]; exact hw0
            have hwi : ((CN : Int) == 0) = false := by simpa using hC0
            rw [HWF.out]
            clear hw0 HCF HWF HWT HWA' HWS HWZ
            have cO2 := Lib.hid (cO'.out 0 (by rw [if_neg hC0]))
            have hCb : (0 : Int) < (CN : Int) := by omega
            clear hC0
            go_wp2_with fail
            refine (cO2.out _ (HBA.out.trans (HBQ.out.mono HBA.out.size)) HIQ.out).mono ?_
            rintro e w5 ⟨rfl, hb⟩
            have HB5 := Lib.hid (HBQ.out.trans (hb.mono HBQ.out.size))
            have HI5 := Lib.hid (HIQ.out.at hb)
            clear hb k0 k1 k2
            obtain ⟨k0, k1, k2⟩ := KK.out _ HB5.out
            obtain ⟨V, hV⟩ : ∃ V, V = w5.alloc (.cells #[.int .i64 (F : Int)] 3) := ⟨_, rfl⟩
            have hbV : Below w5.heap.size w5 V := by rw [hV]; exact (Below.refl _ _).alloc (Nat.le_refl _) _
            have HBV := Lib.hid (HB5.out.trans (hbV.mono HB5.out.size))
            have HIV := Lib.hid (HI5.out.at hbV)
            have HONE := Lib.hid (show Il V.heap.size V (.slice (some ⟨w5.heap.size, 0, none⟩) 1 1) [(F : Int)] from ⟨_, 1, rfl, Nat.le_refl _, fun k hk => ⟨_, 0, rfl, by rw [hV]; simp, by rw [hV]; exact one_cell hk⟩⟩)
            clear hbV
            go_wp2_with fail
            try rw [← hV]
            clear hV
            refine (cL'.out _ _ (HBA.out.trans (HBV.out.mono HBA.out.size)) HONE.out HIV.out).mono ?_
            rintro e w6 ⟨lv, rfl, hil, hb⟩
            have HB6 := Lib.hid (HBV.out.trans (hb.mono HBV.out.size))
            have HIL := Lib.hid hil
            clear hb hil k0 k1 k2
            obtain ⟨k0, k1, k2⟩ := KK.out _ HB6.out
            go_wp2_with fail
            refine (cS2.out _ (HBA.out.trans (HB6.out.mono HBA.out.size))).mono ?_
            rintro e w7 ⟨sv', rfl, hr, hb⟩
            have HB7 := Lib.hid (HB6.out.trans (hb.mono HB6.out.size))
            have HIA := Lib.hid (HIL.out.at hb)
            have HIB := Lib.hid (il_of_own hr)
            clear hb hr k0 k1 k2
            obtain ⟨k0, k1, k2⟩ := KK.out _ HB7.out
            go_wp2_with fail
            refine (ints_eq lv sv' _ (by rw [zs_len]; omega) _ HIA.out HIB.out).mono ?_
            rintro e w8 ⟨rfl, hb⟩
            have HB8 := Lib.hid (HB7.out.trans (hb.mono HB7.out.size))
            clear hb k0 k1 k2
            go_wp2_with fail
            refine (fine_any _).mono ?_
            rintro e w9 ⟨rfl, hb⟩
            have HB9 := Lib.hid (HB8.out.trans (hb.mono HB8.out.size))
            clear hb
            go_wp2_with fail
            go_ret
            exact ⟨by first | rfl | simp, HBA.out.trans (HB9.out.mono HBA.out.size)⟩
        · obtain rfl : i = pm := by omega
          rw [HWA'.out.trans HCF.out.symm]
          clear HCF HWT HWA' HWS HWZ
          by_cases hC0 : CN = 0
          · have cO2 := Lib.hid (cO'.out 5 (by rw [if_pos hC0]))
            clear cO'
            subst hC0
            go_wp2_with fail
            refine (cO2.out _ (HBA.out.trans (HBQ.out.mono HBA.out.size)) HIQ.out).mono ?_
            rintro e w5 ⟨rfl, hb⟩
            have HB5 := Lib.hid (HBQ.out.trans (hb.mono HBQ.out.size))
            have HI5 := Lib.hid (HIQ.out.at hb)
            clear hb k0 k1 k2
            obtain ⟨k0, k1, k2⟩ := KK.out _ HB5.out
            obtain ⟨V, hV⟩ : ∃ V, V = w5.alloc (.cells #[.int .i64 (F : Int)] 3) := ⟨_, rfl⟩
            have hbV : Below w5.heap.size w5 V := by rw [hV]; exact (Below.refl _ _).alloc (Nat.le_refl _) _
            have HBV := Lib.hid (HB5.out.trans (hbV.mono HB5.out.size))
            have HIV := Lib.hid (HI5.out.at hbV)
            have HONE := Lib.hid (show Il V.heap.size V (.slice (some ⟨w5.heap.size, 0, none⟩) 1 1) [(F : Int)] from ⟨_, 1, rfl, Nat.le_refl _, fun k hk => ⟨_, 0, rfl, by rw [hV]; simp, by rw [hV]; exact one_cell hk⟩⟩)
            clear hbV
            go_wp2_with fail
            try rw [← hV]
            clear hV
            refine (cL'.out _ _ (HBA.out.trans (HBV.out.mono HBA.out.size)) HONE.out HIV.out).mono ?_
            rintro e w6 ⟨lv, rfl, hil, hb⟩
            have HB6 := Lib.hid (HBV.out.trans (hb.mono HBV.out.size))
            have HIL := Lib.hid hil
            clear hb hil k0 k1 k2
            obtain ⟨k0, k1, k2⟩ := KK.out _ HB6.out
            go_wp2_with fail
            refine (cS2.out _ (HBA.out.trans (HB6.out.mono HBA.out.size))).mono ?_
            rintro e w7 ⟨sv', rfl, hr, hb⟩
            have HB7 := Lib.hid (HB6.out.trans (hb.mono HB6.out.size))
            have HIA := Lib.hid (HIL.out.at hb)
            have HIB := Lib.hid (il_of_own hr)
            clear hb hr k0 k1 k2
            obtain ⟨k0, k1, k2⟩ := KK.out _ HB7.out
            go_wp2_with fail
            refine (ints_eq lv sv' _ (by rw [zs_len]; omega) _ HIA.out HIB.out).mono ?_
            rintro e w8 ⟨rfl, hb⟩
            have HB8 := Lib.hid (HB7.out.trans (hb.mono HB7.out.size))
            clear hb k0 k1 k2
            go_wp2_with fail
            refine (fine_any _).mono ?_
            rintro e w9 ⟨rfl, hb⟩
            have HB9 := Lib.hid (HB8.out.trans (hb.mono HB8.out.size))
            clear hb
            go_wp2_with fail
            go_ret
            exact ⟨by first | rfl | simp, HBA.out.trans (HB9.out.mono HBA.out.size)⟩
          · have hwi : ((CN : Int) == 0) = false := by simpa using hC0
            have cO2 := Lib.hid (cO'.out 0 (by rw [if_neg hC0]))
            clear cO'
            have hCb : (0 : Int) < (CN : Int) := by omega
            clear hC0
            go_wp2_with fail
            refine (cO2.out _ (HBA.out.trans (HBQ.out.mono HBA.out.size)) HIQ.out).mono ?_
            rintro e w5 ⟨rfl, hb⟩
            have HB5 := Lib.hid (HBQ.out.trans (hb.mono HBQ.out.size))
            have HI5 := Lib.hid (HIQ.out.at hb)
            clear hb k0 k1 k2
            obtain ⟨k0, k1, k2⟩ := KK.out _ HB5.out
            obtain ⟨V, hV⟩ : ∃ V, V = w5.alloc (.cells #[.int .i64 (F : Int)] 3) := ⟨_, rfl⟩
            have hbV : Below w5.heap.size w5 V := by rw [hV]; exact (Below.refl _ _).alloc (Nat.le_refl _) _
            have HBV := Lib.hid (HB5.out.trans (hbV.mono HB5.out.size))
            have HIV := Lib.hid (HI5.out.at hbV)
            have HONE := Lib.hid (show Il V.heap.size V (.slice (some ⟨w5.heap.size, 0, none⟩) 1 1) [(F : Int)] from ⟨_, 1, rfl, Nat.le_refl _, fun k hk => ⟨_, 0, rfl, by rw [hV]; simp, by rw [hV]; exact one_cell hk⟩⟩)
            clear hbV
            go_wp2_with fail
            try rw [← hV]
            clear hV
            refine (cL'.out _ _ (HBA.out.trans (HBV.out.mono HBA.out.size)) HONE.out HIV.out).mono ?_
            rintro e w6 ⟨lv, rfl, hil, hb⟩
            have HB6 := Lib.hid (HBV.out.trans (hb.mono HBV.out.size))
            have HIL := Lib.hid hil
            clear hb hil k0 k1 k2
            obtain ⟨k0, k1, k2⟩ := KK.out _ HB6.out
            go_wp2_with fail
            refine (cS2.out _ (HBA.out.trans (HB6.out.mono HBA.out.size))).mono ?_
            rintro e w7 ⟨sv', rfl, hr, hb⟩
            have HB7 := Lib.hid (HB6.out.trans (hb.mono HB6.out.size))
            have HIA := Lib.hid (HIL.out.at hb)
            have HIB := Lib.hid (il_of_own hr)
            clear hb hr k0 k1 k2
            obtain ⟨k0, k1, k2⟩ := KK.out _ HB7.out
            go_wp2_with fail
            refine (ints_eq lv sv' _ (by rw [zs_len]; omega) _ HIA.out HIB.out).mono ?_
            rintro e w8 ⟨rfl, hb⟩
            have HB8 := Lib.hid (HB7.out.trans (hb.mono HB7.out.size))
            clear hb k0 k1 k2
            go_wp2_with fail
            refine (fine_any _).mono ?_
            rintro e w9 ⟨rfl, hb⟩
            have HB9 := Lib.hid (HB8.out.trans (hb.mono HB8.out.size))
            clear hb
            go_wp2_with fail
            go_ret
            exact ⟨by first | rfl | simp, HBA.out.trans (HB9.out.mono HBA.out.size)⟩
end Go.Proofs.Ytdohfpnnmppdkaa

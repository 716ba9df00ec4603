/-
  Cables: located faults.
-/
import Derived.Test.YtdohfpnnmppdkaaLdC
import Derived.Test.YtdohfpnnmppdkaaCbR
import Derived.Test.YtdohfpnnmppdkaaCbD
import Derived.Test.YtdohfpnnmppdkaaLcA
import Derived.Laws.AppendOwnNone
import Derived.Maps.AppendAt
namespace Go.Proofs.Ytdohfpnnmppdkaa
open Go.RowKit Go.Shelf
set_option linter.unusedSimpArgs false
open Go.RowKit Go.Shelf
set_option linter.unusedSimpArgs false
attribute [local go_sem] Oper.semAt_some
theorem make_longs2 (w : World) (n : Nat) (hn : n ≤ 1000) : ∃ w', (Instr.makeSlice 50 (.int .i64 (n : Int)) (.int .i64 (n : Int))).run Try.prog w = .ok (.slice (some ⟨w.heap.size, 0, none⟩) n n) w' ∧
    RowC w' w.heap.size 2 n (fun _ => .int .i64 0) ∧ Below w.heap.size w w' ∧ w.heap.size < w'.heap.size := by
  obtain ⟨i0, hi0, hz0, hz1, hz2⟩ := info_parts (t := 2) (z := .int .i64 0) (size := 1) (bytes := 8) (by kernel_rfl)
  obtain ⟨w2, hM, hS, hg⟩ := run_make_full (P := Try.prog) w w.heap.size 50 2 i0 _ 1 Try.underlying50 hi0 hz0 hz1 .i64 .i64 n (by rw [hz2]; omega) (by unfold maxLen; omega) (Nat.le_refl _)
  obtain ⟨-, hR⟩ := rowC_of_own hS rfl
  rw [Nat.mul_one] at hR
  have hR0 : RowC w2 w.heap.size 2 n (fun _ => .int .i64 0) := hR.ext fun j hj => by simp [madeCells, Value.cells, hj, Nat.mod_one]
  exact ⟨w2, hM, hR0, (Below.refl _ w).grown hg (Nat.le_refl _) (fun r e => by cases e), hR0.lt⟩
theorem dist_sym2 {a b : Option Nat} (h : a = none ∨ a ≠ b) : b = none ∨ b ≠ a := by
  cases b with
  | none => exact .inl rfl
  | some k => exact .inr fun e => by subst e; rcases h with h | h; cases h; exact h rfl
theorem dist_far2 {a b : Option Nat} {H : Nat} (ha : ∀ k, a = some k → k < H) (hb : ∃ g, b = some g ∧ H ≤ g) : a = none ∨ a ≠ b := by
  obtain ⟨g, rfl, hg⟩ := hb
  cases a with
  | none => exact .inl rfl
  | some k => exact .inr fun e => by have := ha k rfl; simp at e; omega
theorem own_drop {W : World} {base n : Nat} {v : Value} {xs : List Value} (h : W.ownsRow base 52 5 v n xs) : ∃ a c, v = .slice a n c := by
  rcases h.2 with ⟨hv, h0⟩ | ⟨g, cap, cur, hv, _⟩
  · exact ⟨none, 0, by rw [h0]; exact hv⟩
  · exact ⟨_, cap, hv⟩
set_option maxRecDepth 100000 in
set_option maxHeartbeats 32000000 in
theorem locatedLaw_any (sl sh k far : Int) (sv lv pv : Value) (ns : List Nd) (ls : List Int) (l : List Pb) (w : World) (hk : 0 ≤ k ∧ k ≤ 255) (hf : 0 ≤ far ∧ far ≤ 65535) (hN : Nds w.heap.size w sv ns) (hL : Sk .u8 w.heap.size w lv ls) (hP : PbA w.heap.size w pv l) :
    Calls Try.prog 13 #[.agg #[.int .i64 sl, .int .i64 sh, sv], lv, .int .u8 k, .int .u16 far, pv] w fun e w' => e = .returned (.bool true) ∧ Below w.heap.size w w' := by
  obtain ⟨i0, hi0, hz0, hz1, hz2⟩ := info_parts infoI52
  have c1 := Lib.hid (fun W (h : Below w.heap.size w W) => valid_any sl sh sv ns W (hN.at h))
  have HV := Lib.hid (fun (h : valB sl sh ns = true) => valB_ok h)
  have hbyt := hL.byt
  have cA := Lib.hid (fun (i : Nat) W (h : Below w.heap.size w W) => at_any lv ls i W (hL.at h))
  have cS := Lib.hid (fun lens kn a b v W (h : Below w.heap.size w W) (hI : Il W.heap.size W v lens) => segments_any sl sh sv v ns lens kn a b W (hN.at h) hI)
  have cP := Lib.hid (fun (hv : ValidC sl sh ns) (kn : Nat) (hk : kn < ns.length) W (h : Below w.heap.size w W) => path_ok sl sh sv ns kn hv hk W (hN.at h))
  have c20 := fun W => fine_any W
  obtain ⟨m, hm⟩ : ∃ m, m = far % 1001 := ⟨_, rfl⟩
  have hm1 : far.tmod 1001 = m := by rw [Int.tmod_eq_emod_of_nonneg hf.1, hm]
  have hmb : 0 ≤ m ∧ m ≤ 1000 := by omega
  clear hm
  have HALL := Lib.hid (pb_all hP)
  obtain ⟨pa, pc, hpv, -, hpc⟩ := hP
  have HC := Lib.hid (show ∀ W j, Below w.heap.size w W → j < l.length → ∃ b off, pa = some ⟨b, off, none⟩ ∧ OkPb (pb l j) ∧ W.cell? ⟨b, off + j * 6, none⟩ = some (.int .u8 (pb l j).kd) ∧ W.cell? ⟨b, off + j * 6 + 1, none⟩ = some (.int .u16 (pb l j).p) ∧ W.cell? ⟨b, off + j * 6 + 2, none⟩ = some (.int .u16 (pb l j).e0) ∧ W.cell? ⟨b, off + j * 6 + 3, none⟩ = some (.int .u16 (pb l j).e1) ∧ W.cell? ⟨b, off + j * 6 + 4, none⟩ = some (.int .u16 (pb l j).e2) ∧ W.cell? ⟨b, off + j * 6 + 5, none⟩ = some (.int .u16 (pb l j).e3) from fun W j hW hj => by
    obtain ⟨b, off, e, hlt, hq, d0, d1, d2, d3, d4, d5⟩ := hpc j hj
    exact ⟨b, off, e, hq, (hW.cell (p := ⟨b, _, none⟩) hlt).trans d0, (hW.cell (p := ⟨b, _, none⟩) hlt).trans d1, (hW.cell (p := ⟨b, _, none⟩) hlt).trans d2, (hW.cell (p := ⟨b, _, none⟩) hlt).trans d3, (hW.cell (p := ⟨b, _, none⟩) hlt).trans d4, (hW.cell (p := ⟨b, _, none⟩) hlt).trans d5⟩)
  obtain ⟨xs, hxs⟩ : ∃ xs, xs = l.map (pbM m) := ⟨_, rfl⟩
  have hxl : xs.length = l.length := by rw [hxs, List.length_map]
  have HMS := Lib.hid (show ∀ j, j < l.length → ms xs j = prMs (pb l j).kd (pb l j).p (pb l j).e0 (pb l j).e1 (pb l j).e2 (pb l j).e3 m from fun j hj => by rw [hxs, pbM_ms m l hj]; rfl)
  have HIN := Lib.hid (show errL xs = 0 → ∀ x, x ∈ xs → (dsM x).lo ≤ m ∧ m ≤ (dsM x).hi from fun he x hx => by
    have e := errL_zero.1 he x hx
    rw [hxs] at hx
    obtain ⟨y, hy, rfl⟩ := List.mem_map.1 hx
    exact pbM_in (HALL.out y hy) hmb.1 e)
  have HGD := Lib.hid (show 0 < l.length → l.length ≤ 6 → errL xs = 0 → (locR xs).e = 0 ∧ (locR xs).lo ≤ m ∧ m ≤ (locR xs).hi ∧ locR xs.reverse = locR xs ∧ vB (locR xs).lo (locR xs).hi = true ∧ (1 < l.length → (locR xs.tail).e = 0 ∧ (locR xs.tail).lo ≤ (locR xs).lo ∧ (locR xs).hi ≤ (locR xs.tail).hi) from fun h0 h6 he => by
    have q := loc_good (l := xs) (by omega) (by omega) he (HIN.out he)
    have v := loc_vB (l := xs) (by omega) he (HIN.out he)
    refine ⟨by rw [q.1], by rw [q.1]; exact q.2.1, by rw [q.1]; exact q.2.2, loc_rev (by omega) (by omega) he (HIN.out he), by rw [q.1]; exact v, fun h1 => loc_tail (by omega) (by omega) he (HIN.out he)⟩)
  have HTK := Lib.hid (show ∀ j, j < l.length → xs.take (j + 1) = xs.take j ++ [ms xs j] from fun j hj => ms_take (by omega))
  have HES := Lib.hid (show ∀ j, j < l.length → errL (xs.take j) = 0 → (dsM (ms xs j)).e = 0 → errL (xs.take (j + 1)) = 0 from fun j hj => errL_step (by omega))
  have HALLX := Lib.hid (show xs.take l.length = xs by rw [← hxl]; exact List.take_length)
  have HDM := Lib.hid (show ∀ x : Ms, dsM x = dsS x.kd x.v0 x.v1 x.b0 x.b1 from fun _ => rfl)
  obtain ⟨a, cap, hsv⟩ := hN.form
  obtain ⟨la, lc, hlv⟩ := hL.form
  subst hsv
  subst hlv
  subst hpv
  clear hN hL hpc HALL HIN hxs
  generalize hnn : ns.length = n at *
  have HNN := Lib.hid hnn
  clear hnn
  generalize l.length = pl at *
  generalize hlm : ls.length = lm at *
  clear hlm
  obtain ⟨A, hA⟩ : ∃ A, A = w.alloc (.cells #[.int .i64 sl, .int .i64 sh, .slice a n cap] 26) := ⟨_, rfl⟩
  have HBA := Lib.hid (show Below w.heap.size w A by rw [hA]; exact ((Below.refl _ _).alloc (Nat.le_refl _) _))
  have hltA : w.heap.size + 1 ≤ A.heap.size := by rw [hA]; simp
  have q0 : A.cell? ⟨w.heap.size, 0, none⟩ = some (.int .i64 sl) := by rw [hA]; exact (cellHB (World.alloc_heap_new w _) 0).trans (by simp)
  have q1 : A.cell? ⟨w.heap.size, 1, none⟩ = some (.int .i64 sh) := by rw [hA]; exact (cellHB (World.alloc_heap_new w _) 1).trans (by simp)
  have q2 : A.cell? ⟨w.heap.size, 2, none⟩ = some (.slice a n cap) := by rw [hA]; exact (cellHB (World.alloc_heap_new w _) 2).trans (by simp)
  have KK := Lib.hid (show ∀ W, Below A.heap.size A W → W.cell? ⟨w.heap.size, 0, none⟩ = some (.int .i64 sl) ∧ W.cell? ⟨w.heap.size, 1, none⟩ = some (.int .i64 sh) ∧ W.cell? ⟨w.heap.size, 2, none⟩ = some (.slice a n cap) from fun W h => ⟨(h.cell (p := ⟨w.heap.size, 0, none⟩) (by show w.heap.size < A.heap.size; omega)).trans q0, (h.cell (p := ⟨w.heap.size, 1, none⟩) (by show w.heap.size < A.heap.size; omega)).trans q1, (h.cell (p := ⟨w.heap.size, 2, none⟩) (by show w.heap.size < A.heap.size; omega)).trans q2⟩)
  have HUP := Lib.hid (show ∀ W, Below A.heap.size A W → Below w.heap.size w W from fun W h => HBA.out.trans (h.mono HBA.out.size))
  clear hltA q0 q1 q2
  obtain ⟨k0, k1, k2⟩ := KK.out _ (Below.refl _ _)
  cases hVB : valB sl sh ns
  · rw [hVB] at c1
    clear HGD HMS HC HTK HES HALLX hxl
    go_enter Try.func13, Try.ntmps13
    go_upto_region 1 with fail
    rw [← hA]
    clear hA
    go_wp2_with fail
    refine (c1.out _ HBA.out).mono ?_
    rintro e w1 ⟨rfl, hb⟩
    have HC1 := Lib.hid hb
    clear hb k0 k1 k2
    obtain ⟨k0, k1, k2⟩ := KK.out _ HC1.out
    go_wp2_with fail
    refine (c20 _).mono ?_
    rintro e wf ⟨rfl, hb⟩
    have HBF := Lib.hid (HC1.out.trans (hb.mono HC1.out.size))
    clear hb
    go_wp2_with fail
    go_ret
    exact ⟨rfl, HBA.out.trans (HBF.out.mono HBA.out.size)⟩
  rw [hVB] at c1
  obtain ⟨hv, hn20⟩ := HV.out hVB
  have hn0 : 0 < n := by have := hv.pos; have := HNN.out; omega
  have hn2 : n ≤ 20 := by have := HNN.out; omega
  clear HV hVB hn20
  obtain ⟨kn, hkn⟩ : ∃ kn : Nat, (kn : Int) = k % (n : Int) := ⟨(k % (n : Int)).toNat, Int.toNat_of_nonneg (Int.emod_nonneg _ (by omega))⟩
  have hkk : k.tmod (n : Int) = (kn : Int) := by rw [Int.tmod_eq_emod_of_nonneg hk.1, hkn]
  have hkl : kn < n := by have := Int.emod_lt_of_pos k (show (0 : Int) < (n : Int) by omega); omega
  clear hkn
  have hn0i : ((n : Int) == 0) = false := beq_eq_false_iff_ne.2 (by omega)
  have hlb := lnF_lenB hbyt (n := n)
  have hlen : (fL (lnF ls n) n).length = n := fL_len _ _
  have CSEG := Lib.hid (show ∀ (a0 b0 : Int) (v : Value) (W : World), vB a0 b0 = true → Below w.heap.size w W → Il W.heap.size W v (fL (lnF ls n) n) → Calls Try.prog 48 #[.agg #[.int .i64 sl, .int .i64 sh, .slice a n cap], v, .int .i64 (kn : Int), .agg #[.int .i64 a0, .int .i64 b0]] W fun e w' => ∃ u, e = .returned (.tuple #[u, .int .i64 0]) ∧ Il w'.heap.size w' u (zs (sgL (fL (lnF ls n) n) (pth (par ns) kn) a0 b0 ((pth (par ns) kn).length - 1))) ∧ Below W.heap.size W w' from fun a0 b0 v W hvb hW hI => by
    have hE0 : segE sl sh ns (fL (lnF ls n) n) (kn : Int) a0 b0 = 0 := seg5 hv.err (by rw [hlen]; exact HNN.out.symm) ⟨by omega, by have := HNN.out; omega⟩ ⟨hlb, hvb⟩
    refine (cS.out _ (kn : Int) a0 b0 v W hW hI).mono fun e w' h => ?_
    obtain ⟨u, he, hi, hb⟩ := h
    rw [hE0] at he
    rw [hE0, if_pos rfl] at hi
    unfold segL at hi
    rw [Int.toNat_natCast] at hi
    exact ⟨u, he, hi, hb⟩)
  have CPTH := Lib.hid (cP.out hv kn (by have := HNN.out; omega))
  have hpl0 : 0 < (pth (par ns) kn).length := by
    obtain ⟨L, hL⟩ := pth_head hv.all.tree kn
    rw [hL]; simp
  have hpl6 : (pth (par ns) kn).length ≤ 60 := by have := pth_len hv.all.tree kn; omega
  have HPN := Lib.hid (show ∀ i, i < (pth (par ns) kn).length → tn (pth (par ns) kn) i < n from fun i hi => by have := pth_place hv.all (k := kn) (by have := HNN.out; omega) hi; have := HNN.out; omega)
  have HPE := Lib.hid (fun (q : Nat) (h : (pth (par ns) kn).length = q + 1) => pth_end hv.all.tree kn h)
  have HSB := Lib.hid (show ∀ j, j + 2 ≤ (pth (par ns) kn).length → sgB (fL (lnF ls n) n) (pth (par ns) kn) (j + 1) = sgB (fL (lnF ls n) n) (pth (par ns) kn) j + lnF ls n (sgK (pth (par ns) kn) j) ∧ 0 ≤ sgB (fL (lnF ls n) n) (pth (par ns) kn) j ∧ sgB (fL (lnF ls n) n) (pth (par ns) kn) j ≤ 62914560 from fun j hj => by
    have q := sgB_bd hlb (p := pth (par ns) kn) (fun i hi => by rw [hlen]; exact HPN.out i hi) j (by omega)
    refine ⟨?_, by omega, by omega⟩
    have e : sgB (fL (lnF ls n) n) (pth (par ns) kn) (j + 1) = sgB (fL (lnF ls n) n) (pth (par ns) kn) j + ti (fL (lnF ls n) n) (sgK (pth (par ns) kn) j) := rfl
    have hx : sgK (pth (par ns) kn) j < n := HPN.out _ (by omega)
    rw [e, fL_ti _ hx])
  have HMEM := Lib.hid (show ∀ (a0 b0 : Int) (j : Nat), j + 2 ≤ (pth (par ns) kn).length → a0 ≤ sgB (fL (lnF ls n) n) (pth (par ns) kn) (j + 1) ∧ sgB (fL (lnF ls n) n) (pth (par ns) kn) j ≤ b0 → (sgK (pth (par ns) kn) j : Int) ∈ zs (sgL (fL (lnF ls n) n) (pth (par ns) kn) a0 b0 ((pth (par ns) kn).length - 1)) from fun a0 b0 j hj h => by
    unfold zs
    exact List.mem_map.2 ⟨_, sgL_mem h _ (by omega), rfl⟩)
  have HZL := Lib.hid (show ∀ (a0 b0 : Int), (zs (sgL (fL (lnF ls n) n) (pth (par ns) kn) a0 b0 ((pth (par ns) kn).length - 1))).length ≤ 1000 from fun a0 b0 => by
    unfold zs
    rw [List.length_map]
    have := sgL_len (fL (lnF ls n) n) (pth (par ns) kn) a0 b0 ((pth (par ns) kn).length - 1)
    omega)
  have HKD := Lib.hid (show ∀ j, sgK (pth (par ns) kn) j = tn (pth (par ns) kn) ((pth (par ns) kn).length - 2 - j) from fun _ => rfl)
  have HL0 := Lib.hid (show lnF ls n 0 = 0 from if_neg (by omega))
  have HLB := Lib.hid (fun j => lnF_bd hbyt n j)
  have HATB := Lib.hid (fun i => atV_in hbyt i)
  have HLS1 := Lib.hid (fun j => lnF_one ls j)
  have HLSS := Lib.hid (fun (i j : Nat) (h : 1 ≤ i) => lnF_succ ls (i := i) (j := j) h)
  generalize pth (par ns) kn = p at *
  clear hv hlb hlen cS cP hbyt
  by_cases hp0 : pl = 0
  · have hp0' : ((pl : Int) == 0) = true := by rw [hp0]; rfl
    clear HGD HMS HC HTK HES HALLX hxl hp0
    go_enter Try.func13, Try.ntmps13
    go_upto_region 1 with fail
    rw [← hA]
    clear hA
    go_wp2_with fail
    refine (c1.out _ HBA.out).mono ?_
    rintro e w1 ⟨rfl, hb⟩
    have HC1 := Lib.hid hb
    clear hb k0 k1 k2
    obtain ⟨k0, k1, k2⟩ := KK.out _ HC1.out
    go_wp2_with fail
    refine (c20 _).mono ?_
    rintro e wf ⟨rfl, hb⟩
    have HBF := Lib.hid (HC1.out.trans (hb.mono HC1.out.size))
    clear hb
    go_wp2_with fail
    go_ret
    exact ⟨rfl, HBA.out.trans (HBF.out.mono HBA.out.size)⟩
  have hp0' : ((pl : Int) == 0) = false := beq_eq_false_iff_ne.2 (by omega)
  by_cases hp6 : 6 < pl
  · have hp6' : (6 : Int) < (pl : Int) := by omega
    clear HGD HMS HC HTK HES HALLX hxl hp0
    go_enter Try.func13, Try.ntmps13
    go_upto_region 1 with fail
    rw [← hA]
    clear hA
    go_wp2_with fail
    refine (c1.out _ HBA.out).mono ?_
    rintro e w1 ⟨rfl, hb⟩
    have HC1 := Lib.hid hb
    clear hb k0 k1 k2
    obtain ⟨k0, k1, k2⟩ := KK.out _ HC1.out
    go_wp2_with fail
    refine (c20 _).mono ?_
    rintro e wf ⟨rfl, hb⟩
    have HBF := Lib.hid (HC1.out.trans (hb.mono HC1.out.size))
    clear hb
    go_wp2_with fail
    go_ret
    exact ⟨rfl, HBA.out.trans (HBF.out.mono HBA.out.size)⟩
  have hp6' : ¬ (6 : Int) < (pl : Int) := by omega
  have hgd := Lib.hid (HGD.out (by omega) (by omega))
  clear HGD
  go_enter Try.func13, Try.ntmps13
  go_upto_region 1 with fail
  rw [← hA]
  clear hA
  go_wp2_with fail
  refine (c1.out _ HBA.out).mono ?_
  rintro e w1 ⟨rfl, hb⟩
  have HC1 := Lib.hid hb
  clear hb k0 k1 k2
  obtain ⟨k0, k1, k2⟩ := KK.out _ HC1.out
  go_wp2_with fail
  go_loopw [12, 13, 14] (fun ov bv iv wr => ∃ i : Nat, i ≤ pl ∧ iv = .int .i64 i ∧ wr.ownsRow A.heap.size 52 5 ov i (flM (xs.take i)) ∧ wr.ownsRow A.heap.size 52 5 bv i (flM (xs.take i).reverse) ∧ (ov.ownBlock = none ∨ ov.ownBlock ≠ bv.ownBlock) ∧ errL (xs.take i) = 0 ∧ Below A.heap.size A wr) (fun _ _ iv _ => pl - (intOf iv).toNat)
  case atStart => exact ⟨0, Nat.zero_le _, rfl, World.ownsRow_nil _ _ _ _, World.ownsRow_nil _ _ _ _, .inl rfl, rfl, HC1.out⟩
  case round =>
    obtain ⟨i, hi, rfl, hro, hrb, hd, her, hB⟩ := hrel
    have HO := Lib.hid hro
    have HK := Lib.hid hrb
    have HD := Lib.hid hd
    have HE := Lib.hid her
    have HB := Lib.hid hB
    obtain ⟨oa, oc, rfl⟩ := own_drop hro
    obtain ⟨ba, bc, rfl⟩ := own_drop hrb
    clear hro hrb hd her hB k0 k1 k2
    by_cases hlt : i < pl
    · have hii : (i : Int) < (pl : Int) := by omega
      obtain ⟨pg, po, rfl, hok, d0, d1, d2, d3, d4, d5⟩ := HC.out wr i (HUP.out _ HB.out) hlt
      have c61 := fun W => measure_any (pb l i).kd (pb l i).p (pb l i).e0 (pb l i).e1 (pb l i).e2 (pb l i).e3 m hok.1 hok.2.1 hok.2.2.1 hok.2.2.2.1 hok.2.2.2.2.1 hok.2.2.2.2.2 hmb W
      rw [← HMS.out i hlt] at c61
      have HTi := Lib.hid (HTK.out i hlt)
      have HEi := Lib.hid (HES.out i hlt HE.out)
      clear HMS HC HTK HES HALLX hgd hok HE
      generalize (pb l i).kd = y0 at *
      generalize (pb l i).p = y1 at *
      generalize (pb l i).e0 = y2 at *
      generalize (pb l i).e1 = y3 at *
      generalize (pb l i).e2 = y4 at *
      generalize (pb l i).e3 = y5 at *
      generalize ms xs i = x at *
      have c45 := fun W => refDistance_any x.kd x.v0 x.v1 x.b0 x.b1 W
      rw [← HDM.out x] at c45
      have HF5 := Lib.hid (fun W => five_new W x)
      have HMV := Lib.hid (show msV x = [.int .i64 x.kd, .int .i64 x.v0, .int .i64 x.v1, .int .i64 x.b0, .int .i64 x.b1] from rfl)
      go_wp2_with fail
      refine (c61 _).mono ?_
      rintro e w3 ⟨rfl, hb3⟩
      have HB3 := Lib.hid (HB.out.trans (hb3.mono HB.out.size))
      have HO3 := Lib.hid (own_below HO.out hb3)
      have HK3 := Lib.hid (own_below HK.out hb3)
      clear hb3 d0 d1 d2 d3 d4 d5 c61
      obtain ⟨V, hV⟩ : ∃ V, V = w3.alloc (.cells #[.int .i64 x.kd, .int .i64 x.v0, .int .i64 x.v1, .int .i64 x.b0, .int .i64 x.b1] 52) := ⟨_, rfl⟩
      have hbV : Below w3.heap.size w3 V := by rw [hV]; exact (Below.refl _ _).alloc (Nat.le_refl _) _
      have HXV := Lib.hid (show V.heap[w3.heap.size]? = some (.cells #[.int .i64 x.kd, .int .i64 x.v0, .int .i64 x.v1, .int .i64 x.b0, .int .i64 x.b1] 52 (0, 0)) by rw [hV]; exact World.alloc_heap_new _ _)
      have HBV := Lib.hid (HB3.out.trans (hbV.mono HB3.out.size))
      have HOV := Lib.hid (own_below HO3.out hbV)
      have HKV := Lib.hid (own_below HK3.out hbV)
      have HOL := Lib.hid (show ∀ r, (Value.slice oa i oc).ownBlock = some r → r < w3.heap.size from fun r e => (HO3.out.lt r e).2)
      have HKL := Lib.hid (show ∀ r, (Value.slice ba i bc).ownBlock = some r → r < w3.heap.size from fun r e => (HK3.out.lt r e).2)
      go_upto_region 9 with fail
      try rw [← hV]
      clear hV hbV HO HK HB HO3 HK3 HB3
      generalize w3.heap.size = Q at *
      have x0 := cellH HXV.out 0
      have x1 := cellH HXV.out 1
      have x2 := cellH HXV.out 2
      have x3 := cellH HXV.out 3
      have x4 := cellH HXV.out 4
      go_wp2_with fail
      refine (c45 _).mono ?_
      rintro e w4 ⟨rfl, hb4⟩
      have HB4 := Lib.hid (HBV.out.trans (hb4.mono HBV.out.size))
      have HO4 := Lib.hid (own_below HOV.out hb4)
      have HK4 := Lib.hid (own_below HKV.out hb4)
      have HX4 := Lib.hid ((hb4.block Q (Array.getElem?_eq_some_iff.1 HXV.out).1).trans HXV.out)
      clear hb4 x0 x1 x2 x3 x4 c45 HXV HBV HOV HKV
      obtain ⟨U, hU⟩ : ∃ U, U = w4.alloc (.cells #[.int .i64 (dsM x).lo, .int .i64 (dsM x).hi] 23) := ⟨_, rfl⟩
      have hbU : Below w4.heap.size w4 U := by rw [hU]; exact (Below.refl _ _).alloc (Nat.le_refl _) _
      have HBU := Lib.hid (HB4.out.trans (hbU.mono HB4.out.size))
      have HOU := Lib.hid (own_below HO4.out hbU)
      have HKU := Lib.hid (own_below HK4.out hbU)
      have HXU := Lib.hid (show U.heap[Q]? = some (.cells #[.int .i64 x.kd, .int .i64 x.v0, .int .i64 x.v1, .int .i64 x.b0, .int .i64 x.b1] 52 (0, 0)) by rw [hU]; exact allocKeep HX4.out _)
      go_upto_region 10 with fail
      try rw [← hU]
      clear hU hbU HX4 HB4 HO4 HK4
      by_cases he : (dsM x).e = 0
      rotate_left
      · have he' : ((dsM x).e != 0) = true := by simpa using he
        clear he
        go_wp2_with fail
        refine (c20 _).mono ?_
        rintro e wf ⟨rfl, hb⟩
        have HBF := Lib.hid (HBU.out.trans (hb.mono HBU.out.size))
        clear hb
        go_wp2_with fail
        go_ret
        exact ⟨rfl, HBA.out.trans (HBF.out.mono HBA.out.size)⟩
      · have HEN := Lib.hid (HEi.out he)
        rw [he]
        clear he HEi
        have x0 := cellH HXU.out 0
        have x1 := cellH HXU.out 1
        have x2 := cellH HXU.out 2
        have x3 := cellH HXU.out 3
        have x4 := cellH HXU.out 4
        have HLS := Lib.hid (show flM (xs.take (i + 1)) = flM (xs.take i) ++ [.int .i64 x.kd, .int .i64 x.v0, .int .i64 x.v1, .int .i64 x.b0, .int .i64 x.b1] by rw [HTi.out, flM_snoc]; rfl)
        have HREV := Lib.hid (show flM (xs.take (i + 1)).reverse = [.int .i64 x.kd, .int .i64 x.v0, .int .i64 x.v1, .int .i64 x.b0, .int .i64 x.b1] ++ flM (xs.take i).reverse by rw [HTi.out, List.reverse_append]; rfl)
        have HF6 := Lib.hid (show ∀ (W : World) (j : Nat) (u : Value), [.int .i64 x.kd, .int .i64 x.v0, .int .i64 x.v1, .int .i64 x.b0, .int .i64 x.b1][j]? = some u → (W.alloc (.cells #[.int .i64 x.kd, .int .i64 x.v0, .int .i64 x.v1, .int .i64 x.b0, .int .i64 x.b1] 52)).cell? ((⟨W.heap.size, 0, none⟩ : Addr).add j) = some u from fun W => five_new W x)
        clear HF5 HMV HDM
        go_upto_region 13 with (at_builtin; refine wpList_append_own_at _ rfl _ _ 53 rfl A.heap.size 52 i0 (.agg #[.int .i64 0, .int .i64 0, .int .i64 0, .int .i64 0, .int .i64 0]) 5 40 Try.underlying53 hi0 hz0 hz1 hz2 rfl (by decide) _ _ _ rfl (HOU.out.alloc _) ⟨U.heap.size, 0, none⟩ 1 1 [.int .i64 x.kd, .int .i64 x.v0, .int .i64 x.v1, .int .i64 x.b0, .int .i64 x.b1] rfl rfl (HF6.out _) (by simp [Value.oneCell']) (by unfold maxLen; omega) (by omega) (by have := HBU.out.size; simp; omega) ?_; intro v1 w5 hown' hgrow _ hob; have HG := Lib.hid hgrow; have HO' := Lib.hid hown'; have HOB := Lib.hid hob; clear hown' hgrow hob)
        have HR5 := Lib.hid (show w5.ownsRow A.heap.size 52 5 v1 (i + 1) (flM (xs.take (i + 1))) by rw [HLS.out]; exact HO'.out)
        have HK5 := Lib.hid (show w5.ownsRow A.heap.size 52 5 (.slice ba i bc) i (flM (xs.take i).reverse) from (HKU.out.alloc _).kept HG.out (dist_sym2 HD.out))
        have HB5 := Lib.hid (show Below A.heap.size A w5 from (HBU.out.alloc HBU.out.size _).grown HG.out (by have := HBU.out.size; simp; omega) (fun r e => (((HOU.out.alloc (.cells #[.int .i64 x.kd, .int .i64 x.v0, .int .i64 x.v1, .int .i64 x.b0, .int .i64 x.b1] 52)).lt r e).1)))
        have HX5 := Lib.hid (show w5.heap[Q]? = some (.cells #[.int .i64 x.kd, .int .i64 x.v0, .int .i64 x.v1, .int .i64 x.b0, .int .i64 x.b1] 52 (0, 0)) from by
          have q := allocKeep HXU.out (.cells #[.int .i64 x.kd, .int .i64 x.v0, .int .i64 x.v1, .int .i64 x.b0, .int .i64 x.b1] 52)
          exact (HG.out.block Q (Array.getElem?_eq_some_iff.1 q).1 (fun e => Nat.lt_irrefl _ (HOL.out Q e.symm))).trans q)
        have HLIT := Lib.hid (show (w5.alloc (.cells #[.int .i64 x.kd, .int .i64 x.v0, .int .i64 x.v1, .int .i64 x.b0, .int .i64 x.b1] 52)).ownsRow A.heap.size 52 5 (.slice (some ⟨w5.heap.size, 0, none⟩) 1 1) 1 [.int .i64 x.kd, .int .i64 x.v0, .int .i64 x.v1, .int .i64 x.b0, .int .i64 x.b1] from World.ownsRow_lit w5 #[.int .i64 x.kd, .int .i64 x.v0, .int .i64 x.v1, .int .i64 x.b0, .int .i64 x.b1] 1 HB5.out.size (by unfold maxLen; omega) rfl)
        have HL5 := Lib.hid (show ∀ r, v1.ownBlock = some r → r < w5.heap.size from fun r e => (HR5.out.lt r e).2)
        clear x0 x1 x2 x3 x4 HXU HOU HKU HG HO' HF6 HOL HKL
        have x0 := cellH HX5.out 0
        have x1 := cellH HX5.out 1
        have x2 := cellH HX5.out 2
        have x3 := cellH HX5.out 3
        have x4 := cellH HX5.out 4
        have hk5 := HK5.out
        rcases hk5.2 with ⟨e, h0⟩ | ⟨gb, cb, cur, e, -⟩
        · subst h0
          simp only [Value.slice.injEq] at e
          obtain ⟨rfl, -, rfl⟩ := e
          clear hk5
          have HRB := Lib.hid (show (w5.alloc (.cells #[.int .i64 x.kd, .int .i64 x.v0, .int .i64 x.v1, .int .i64 x.b0, .int .i64 x.b1] 52)).ownsRow A.heap.size 52 5 (.slice (some ⟨w5.heap.size, 0, none⟩) 1 1) (0 + 1) (flM (xs.take (0 + 1)).reverse) by rw [HREV.out]; simpa [flM] using HLIT.out)
          have HRA := Lib.hid (HR5.out.alloc (.cells #[.int .i64 x.kd, .int .i64 x.v0, .int .i64 x.v1, .int .i64 x.b0, .int .i64 x.b1] 52))
          have HDD := Lib.hid (show v1.ownBlock = none ∨ v1.ownBlock ≠ (Value.slice (some ⟨w5.heap.size, 0, none⟩) 1 1).ownBlock from dist_far2 HL5.out ⟨_, rfl, Nat.le_refl _⟩)
          have HBE := Lib.hid (HB5.out.alloc HB5.out.size (.cells #[.int .i64 x.kd, .int .i64 x.v0, .int .i64 x.v1, .int .i64 x.b0, .int .i64 x.b1] 52))
          go_wp2_with (at_builtin; refine wpList_append_own_none rfl _ _ 53 rfl A.heap.size 52 i0 5 Try.underlying53 hi0 _ _ _ rfl HLIT.out rfl ?_)
          go_roundw
          case rel => exact ⟨0 + 1, by omega, by go_num, HRA.out, HRB.out, HDD.out, HEN.out, HBE.out⟩
          case measure => simp [intOf]; omega
        · simp only [Value.slice.injEq] at e
          obtain ⟨rfl, -, rfl⟩ := e
          have HBC := Lib.hid (fun j u (h : (flM (xs.take i).reverse)[j]? = some u) => ((hk5.alloc (.cells #[.int .i64 x.kd, .int .i64 x.v0, .int .i64 x.v1, .int .i64 x.b0, .int .i64 x.b1] 52)).cells (g := gb) rfl) j u h)
          have HRL := Lib.hid (show (flM (xs.take i).reverse).length = i * 5 from hk5.1)
          have HONE := Lib.hid (flM_one (xs.take i).reverse)
          clear hk5
          go_wp2_with (at_builtin; refine wpList_append_own_at _ rfl _ _ 53 rfl A.heap.size 52 i0 (.agg #[.int .i64 0, .int .i64 0, .int .i64 0, .int .i64 0, .int .i64 0]) 5 40 Try.underlying53 hi0 hz0 hz1 hz2 rfl (by decide) _ _ _ rfl HLIT.out ⟨gb, 0, none⟩ i bc (flM (xs.take i).reverse) rfl HRL.out HBC.out HONE.out (by unfold maxLen; omega) (by omega) (by have := HB5.out.size; simp; omega) ?_; intro v2 w6 hown' hgrow _ hob; have HG6 := Lib.hid hgrow; have HO6 := Lib.hid hown'; have HOB6 := Lib.hid hob; clear hown' hgrow hob)
          have HRB := Lib.hid (show w6.ownsRow A.heap.size 52 5 v2 (i + 1) (flM (xs.take (i + 1)).reverse) by rw [HREV.out, Nat.add_comm i 1]; exact HO6.out)
          have HRA := Lib.hid (show w6.ownsRow A.heap.size 52 5 v1 (i + 1) (flM (xs.take (i + 1))) from (HR5.out.alloc (.cells #[.int .i64 x.kd, .int .i64 x.v0, .int .i64 x.v1, .int .i64 x.b0, .int .i64 x.b1] 52)).kept HG6.out (dist_far2 HL5.out ⟨_, rfl, Nat.le_refl _⟩))
          have HDD := Lib.hid (show v1.ownBlock = none ∨ v1.ownBlock ≠ v2.ownBlock from dist_far2 HL5.out (by
            rcases HOB6.out with e | e
            · exact ⟨w5.heap.size, by rw [e]; rfl, Nat.le_refl _⟩
            · exact ⟨_, e, by simp⟩))
          have HBE := Lib.hid (show Below A.heap.size A w6 from (HB5.out.alloc HB5.out.size _).grown HG6.out (by have := HB5.out.size; simp; omega) (fun r e => (HLIT.out.lt r e).1))
          go_roundw
          case rel => exact ⟨i + 1, by omega, by go_num, HRA.out, HRB.out, HDD.out, HEN.out, HBE.out⟩
          case measure => simp [intOf]; omega
    · obtain rfl : i = pl := by omega
      rw [HALLX.out] at HO HK HE
      obtain ⟨g1, g2, g3, g4, g5, g6⟩ := hgd.out HE.out
      obtain ⟨W2, rfl⟩ : ∃ W2, W2 = wr := ⟨_, rfl⟩
      have hl1 : xs.length = i := hxl
      have hl2 : xs.reverse.length = i := by rw [List.length_reverse]; exact hxl
      have HM1 := Lib.hid (msA_of_own hl1 HO.out)
      have HM2 := Lib.hid (msA_of_own hl2 HK.out)
      have c46a := Lib.hid (fun v W (h : MsA W.heap.size W v xs) => locate_any v xs W h)
      have c46b := Lib.hid (fun v W (h : MsA W.heap.size W v xs.reverse) => locate_any v xs.reverse W h)
      have c46t := Lib.hid (fun v W (h : MsA W.heap.size W v xs.tail) => locate_any v xs.tail W h)
      rw [g4] at c46b
      rw [g1] at c46a c46b
      have HT := Lib.hid g6
      have HOWN := Lib.hid (show 1 < i → ∃ g, oa = some ⟨g, 0, none⟩ ∧ i ≤ oc ∧ MsA W2.heap.size W2 (.slice (some ⟨g, 5, none⟩) (i - 1) (oc - 1)) xs.tail from fun h1 => by
        rcases ownM_form HO.out with ⟨hv, h0⟩ | ⟨g, cap', hv, hc, hg, -⟩
        · omega
        · simp only [Value.slice.injEq] at hv
          obtain ⟨rfl, -, rfl⟩ := hv
          exact ⟨g, rfl, hc, msA_tail hl1 (by omega) HO.out⟩)
      clear g1 g4 g6 HMS HC HTK HES HALLX hgd HE HD hl1 hl2 hxl HDM
      generalize (locR xs).lo = a0 at *
      generalize (locR xs).hi = b0 at *
      generalize (locR xs.tail).lo = t0 at *
      generalize (locR xs.tail).hi = t1 at *
      generalize (locR xs.tail).e = t2 at *
      have hma : ¬ m < a0 := by omega
      have hmb2 : ¬ b0 < m := by omega
      go_wp2_with fail
      refine (c46a.out _ _ HM1.out).mono ?_
      rintro e u1 ⟨rfl, hb⟩
      have HU1 := Lib.hid (HB.out.trans (hb.mono HB.out.size))
      have HM2' := Lib.hid (HM2.out.at hb)
      have HUW1 := Lib.hid hb
      clear hb HM1 HM2
      obtain ⟨V1, hV1⟩ : ∃ V, V = u1.alloc (.cells #[.int .i64 a0, .int .i64 b0] 23) := ⟨_, rfl⟩
      have hbV : Below u1.heap.size u1 V1 := by rw [hV1]; exact (Below.refl _ _).alloc (Nat.le_refl _) _
      have HV1 := Lib.hid (HU1.out.trans (hbV.mono HU1.out.size))
      have HX1 := Lib.hid (show Bx2 V1 u1.heap.size (.int .i64 a0) (.int .i64 b0) by rw [hV1]; exact Bx2.new _ _ _)
      have HM2b := Lib.hid (HM2'.out.at hbV)
      have HUW2 := Lib.hid (HUW1.out.trans (hbV.mono HUW1.out.size))
      go_upto_region 15 with fail
      try rw [← hV1]
      clear hV1 hbV HU1 HM2' HUW1
      generalize u1.heap.size = Q1 at *
      go_wp2_with fail
      refine (c46b.out _ _ HM2b.out).mono ?_
      rintro e u2 ⟨rfl, hb⟩
      have HU2 := Lib.hid (HV1.out.trans (hb.mono HV1.out.size))
      have HX1b := Lib.hid (HX1.out.keep hb)
      have HUW3 := Lib.hid (HUW2.out.trans (hb.mono HUW2.out.size))
      clear hb HX1 HM2b HUW2 HV1
      obtain ⟨V2, hV2⟩ : ∃ V, V = u2.alloc (.cells #[.int .i64 a0, .int .i64 b0] 23) := ⟨_, rfl⟩
      have hbV : Below u2.heap.size u2 V2 := by rw [hV2]; exact (Below.refl _ _).alloc (Nat.le_refl _) _
      have HV2 := Lib.hid (HU2.out.trans (hbV.mono HU2.out.size))
      have HX1c := Lib.hid (HX1b.out.keep hbV)
      have HX2 := Lib.hid (show Bx2 V2 u2.heap.size (.int .i64 a0) (.int .i64 b0) by rw [hV2]; exact Bx2.new _ _ _)
      have HUW4 := Lib.hid (HUW3.out.trans (hbV.mono HUW3.out.size))
      go_upto_region 16 with fail
      try rw [← hV2]
      clear hV2 hbV HU2 HX1b HUW3
      generalize u2.heap.size = Q2 at *
      have x0 := HX1c.out.c0
      have x1 := HX1c.out.c1
      have y0 := HX2.out.c0
      have y1 := HX2.out.c1
      by_cases hi1 : 1 < i
      · have hi1' : (1 : Int) < (i : Int) := by omega
        obtain ⟨og, rfl, hoc, hmt⟩ := HOWN.out hi1
        obtain ⟨s1, s2, s3⟩ := HT.out hi1
        have HMT := Lib.hid (hmt.at HUW4.out)
        have h1c : 1 < oc := by omega
        have hic : (i : Int) ≤ (oc : Int) := by omega
        have h1i : (1 : Int) ≤ (i : Int) := by omega
        subst s1
        have hs2 : ¬ a0 < t0 := by omega
        have hs3 : ¬ t1 < b0 := by omega
        clear hmt HOWN HT c46a c46b HUW4 s2 s3
        go_wp2_with fail
        refine (c46t.out _ _ HMT.out).mono ?_
        rintro e u3 ⟨rfl, hb⟩
        have HU3 := Lib.hid (HV2.out.trans (hb.mono HV2.out.size))
        have HX1d := Lib.hid (HX1c.out.keep hb)
        clear hb HX1c HMT x0 x1 y0 y1 HV2 c46t
        obtain ⟨V3, hV3⟩ : ∃ V, V = u3.alloc (.cells #[.int .i64 t0, .int .i64 t1] 23) := ⟨_, rfl⟩
        have hbV : Below u3.heap.size u3 V3 := by rw [hV3]; exact (Below.refl _ _).alloc (Nat.le_refl _) _
        have HV3 := Lib.hid (HU3.out.trans (hbV.mono HU3.out.size))
        have HXE := Lib.hid (HX1d.out.keep hbV)
        have HX3 := Lib.hid (show Bx2 V3 u3.heap.size (.int .i64 t0) (.int .i64 t1) by rw [hV3]; exact Bx2.new _ _ _)
        go_upto_region 20 with fail
        try rw [← hV3]
        clear hV3 hbV HU3 HX1d
        generalize u3.heap.size = Q3 at *
        have x0 := HXE.out.c0
        have x1 := HXE.out.c1
        have y0 := HX3.out.c0
        have y1 := HX3.out.c1
        obtain ⟨k0, k1, k2⟩ := KK.out _ HV3.out
        go_upto_region 22 with fail
        clear y0 y1 HX3 hs2 hs3
        clear x0 x1 k0 k1
        obtain ⟨w4, hM, hR4, hb4, hz4⟩ := make_longs2 V3 n (by omega)
        have hAG : A.heap.size ≤ V3.heap.size := HV3.out.size
        have hQG : Q1 < V3.heap.size := (Array.getElem?_eq_some_iff.1 HXE.out).1
        have HX4 := Lib.hid (HXE.out.keep hb4)
        have HB4 := Lib.hid (HV3.out.trans (hb4.mono hAG))
        go_upto_region 24 with fail
        clear hM k2 HXE HV3 hb4
        generalize V3.heap.size = G at *
        have HR4 := Lib.hid (show RowC w4 G 2 n (fun j => .int .i64 (lnF ls 1 j)) from hR4.ext fun j hj => by rw [HLS1.out j])
        have hG4 : G < w4.heap.size := HR4.out.lt
        clear hR4 hz4
        go_wp2_with fail
        go_loopw [26] (fun iv wr => ∃ s : Nat, 1 ≤ s ∧ s ≤ n ∧ iv = .int .i64 s ∧ RowC wr G 2 n (fun j => .int .i64 (lnF ls s j)) ∧ Bx2 wr Q1 (.int .i64 a0) (.int .i64 b0) ∧ Below A.heap.size A wr) (fun iv _ => n - (intOf iv).toNat)
        case atStart => exact ⟨1, Nat.le_refl _, by omega, rfl, HR4.out, HX4.out, HB4.out⟩
        case round =>
          obtain ⟨s, hs1, hs2, rfl, hr, hx, hb⟩ := hrel
          have HR := Lib.hid hr
          have HX := Lib.hid hx
          have HBS := Lib.hid hb
          clear hr hx hb
          by_cases hsn : s < n
          · have hsi : (s : Int) < (n : Int) := by omega
            have hs0 : (0 : Int) ≤ (s : Int) := by omega
            have cc := Lib.hid (cA.out s wr (HUP.out _ HBS.out))
            have hv1 := HATB.out s
            have gc := HR.out.cell hsn
            have gf := HR.out.froz s
            have HNX := Lib.hid (show RowC (wr.setCell ⟨G, s, none⟩ (.int .i64 (10 * atV ls s))) G 2 n (fun j => .int .i64 (lnF ls (s + 1) j)) from (HR.out.set s _).ext fun j hj => by
              rw [HLSS.out s j hs1]
              by_cases e : j = s
              · rw [if_pos e, if_pos e]
              · rw [if_neg e, if_neg e])
            have HNB := Lib.hid (show Below A.heap.size A (wr.setCell ⟨G, s, none⟩ (.int .i64 (10 * atV ls s))) from HBS.out.setCell (p := ⟨G, s, none⟩) hAG _)
            have HNXX := Lib.hid (show Bx2 (wr.setCell ⟨G, s, none⟩ (.int .i64 (10 * atV ls s))) Q1 (.int .i64 a0) (.int .i64 b0) from HX.out.far (Nat.ne_of_lt hQG))
            have HLN := Lib.hid (show lnF ls s s = 0 from if_neg (by omega))
            rw [HLN.out] at gc
            generalize atV ls s = v at *
            go_wp2_with fail
            refine cc.out.mono ?_
            rintro e w5 ⟨rfl, rfl⟩
            go_wp2_with fail
            go_roundw
            case rel => exact ⟨s + 1, by omega, by omega, by go_num, HNX.out, HNXX.out, HNB.out⟩
            case measure => simp [intOf]; omega
          · obtain rfl : s = n := by omega
            have HIL := Lib.hid (il_row HR.out)
            obtain ⟨k0, k1, k2⟩ := KK.out _ HBS.out
            have x0 := HX.out.c0
            have x1 := HX.out.c1
            have cseg := Lib.hid (CSEG.out a0 b0 (.slice (some ⟨G, 0, none⟩) s s) wr g5 (HUP.out _ HBS.out) HIL.out)
            have HLT := Lib.hid HR.out.lt
            clear CSEG HIL
            go_wp2_with fail
            refine cseg.out.mono ?_
            rintro e w6 ⟨u, rfl, hi6, hb6⟩
            have HI6 := Lib.hid hi6
            have HB6 := Lib.hid (HBS.out.trans (hb6.mono HBS.out.size))
            have HR6 := Lib.hid (HR.out.keep hb6)
            clear hi6 hb6 k0 k1 k2 x0 x1 HX
            obtain ⟨k0, k1, k2⟩ := KK.out _ HB6.out
            go_wp2_with fail
            refine (CPTH.out _ (HUP.out _ HB6.out)).mono ?_
            rintro e w7 ⟨v7, rfl, hr7, hb7⟩
            have HI7 := Lib.hid (HI6.out.at hb7)
            have HB7 := Lib.hid (HB6.out.trans (hb7.mono HB6.out.size))
            have HR7 := Lib.hid (HR6.out.keep hb7)
            obtain ⟨pg, pcc, rfl⟩ := own_pos hr7 hpl0
            have HPC := Lib.hid (show ∀ W q, Below w7.heap.size w7 W → q < p.length → W.cell? ⟨pg, q, none⟩ = some (.int .i64 (tn p q : Int)) from fun W q hW hq => by
              obtain ⟨g', c', e, -, -, hg, c0⟩ := own3_cell hr7 (i := q) hq
              simp only [Value.slice.injEq, Option.some.injEq, Addr.mk.injEq] at e
              obtain ⟨⟨rfl, -, -⟩, -, -⟩ := e
              exact (hW.cell (p := ⟨pg, _, none⟩) hg).trans c0)
            have hzl := HZL.out a0 b0
            have HMM := Lib.hid (HMEM.out a0 b0)
            clear hr7 hb7 HI6 HR6 k0 k1 k2 CPTH HZL HMEM
            have c60 := Lib.hid (fun (x : Int) W (h : Below w7.heap.size w7 W) => refHas_any u _ x W (HI7.out.at h) hzl)
            clear hzl HI7
            generalize zs (sgL (fL (lnF ls s) s) p a0 b0 (p.length - 1)) = ZL at *
            generalize fL (lnF ls s) s = lens at *
            generalize hpp : p.length = pm at *
            clear hpp
            go_wp2_with fail
            go_loopw [29, 30] (fun bv iv wr => ∃ (t : Nat) (z : Int), t ≤ pm ∧ iv = .int .i64 z ∧ z = (pm : Int) - 1 - t ∧ bv = .int .i64 (sgB lens p (t - 1)) ∧ Below w7.heap.size w7 wr) (fun _ iv _ => (intOf iv + 1).toNat)
            case atStart => exact ⟨0, _, Nat.zero_le _, rfl, by omega, rfl, Below.refl _ _⟩
            case round =>
              obtain ⟨t, z, ht, rfl, hz, rfl, hbt⟩ := hrel
              have HBT := Lib.hid hbt
              clear hbt
              by_cases htl : t < pm
              · obtain ⟨q, hq⟩ : ∃ q, q = pm - 1 - t := ⟨_, rfl⟩
                obtain rfl : z = (q : Int) := by omega
                have cp := HPC.out wr q HBT.out (by omega)
                have hxn := HPN.out q (by omega)
                have hqp : (q : Int) < (pm : Int) := by omega
                have hq0 : (0 : Int) ≤ (q : Int) := by omega
                have HQ := Lib.hid hq
                have HZ := Lib.hid hz
                have hgl := (HR7.out.keep HBT.out).cell hxn
                by_cases ht0 : t = 0
                · subst ht0
                  have hx0 : tn p q = 0 := HPE.out q (by omega)
                  rw [hx0] at cp hgl
                  rw [HL0.out] at hgl
                  clear hq hz hxn hx0
                  generalize hbb : sgB lens p (0 - 1) = bb at *
                  have HBB := Lib.hid hbb
                  clear hbb
                  simp only [Int.natCast_zero] at cp
                  go_wp2_with fail
                  go_roundw
                  case rel => exact ⟨0 + 1, (q : Int) - 1, by omega, by go_num, by have := HZ.out; omega, congrArg (Value.int .i64) HBB.out.symm, HBT.out⟩
                  case measure => simp [intOf]; try omega
                · obtain ⟨j, rfl⟩ : ∃ j, t = j + 1 := ⟨t - 1, by omega⟩
                  have hkj : sgK p j = tn p q := by rw [HKD.out j]; congr 1; omega
                  obtain ⟨s1, s2, s3⟩ := HSB.out j (by omega)
                  have HMJ := Lib.hid (HMM.out j (by omega))
                  rw [hkj] at s1 HMJ
                  have hlb2 := HLB.out (tn p q)
                  rw [show j + 1 - 1 = j from rfl]
                  have HSN := Lib.hid (show sgB lens p (j + 1 + 1 - 1) = sgB lens p (j + 1) from rfl)
                  have hxi : (tn p q : Int) < (s : Int) := by omega
                  have hxi0 : (0 : Int) ≤ (tn p q : Int) := by omega
                  have HL00 := Lib.hid (show tn p q = 0 → lnF ls s (tn p q) = 0 from fun h => by rw [h]; exact HL0.out)
                  clear hq hz hxn hkj
                  generalize lnF ls s (tn p q) = ln at *
                  generalize sgB lens p (j + 1) = b1 at *
                  generalize sgB lens p j = bb at *
                  generalize tn p q = x at *
                  by_cases hx0 : x = 0
                  · have hl0 := HL00.out hx0
                    have hx0i : ((x : Int) == 0) = true := by rw [hx0]; rfl
                    have hbe : b1 = bb := by omega
                    clear hx0 s1 HL00
                    go_wp2_with fail
                    go_roundw
                    case rel => exact ⟨j + 1 + 1, (q : Int) - 1, by omega, by go_num, by have := HZ.out; omega, by rw [HSN.out, hbe], HBT.out⟩
                    case measure => simp [intOf]; try omega
                  · have hx0i : ((x : Int) == 0) = false := beq_eq_false_iff_ne.2 (by omega)
                    have hw : wrap64 (bb + ln) = b1 := by unfold wrap64; omega
                    have HS1 := Lib.hid s1
                    clear s1 HL00 hx0
                    by_cases h1 : bb ≤ m
                    · have h1' : m ≥ bb := h1
                      by_cases h2 : m ≤ b1
                      · have HIN2 := Lib.hid (HMJ.out ⟨by omega, by omega⟩)
                        have cH := Lib.hid (c60.out (x : Int) wr HBT.out)
                        rw [decide_eq_true HIN2.out] at cH
                        have h2s : m ≤ bb + ln := by have := HS1.out; omega
                        clear HMJ
                        go_wp2_with fail
                        refine cH.out.mono ?_
                        rintro e w9 ⟨rfl, rfl⟩
                        go_wp2_with fail
                        go_roundw
                        case rel => exact ⟨j + 1 + 1, (q : Int) - 1, by omega, by go_num, by have := HZ.out; omega, by rw [HSN.out]; first | rfl | rw [hw] | (have := HS1.out; rw [this]), HBT.out⟩
                        case measure => simp [intOf]; try omega
                      · have h2s : ¬ m ≤ bb + ln := by have := HS1.out; omega
                        clear HMJ
                        go_wp2_with fail
                        go_roundw
                        case rel => exact ⟨j + 1 + 1, (q : Int) - 1, by omega, by go_num, by have := HZ.out; omega, by rw [HSN.out]; first | rfl | rw [hw] | (have := HS1.out; rw [this]), HBT.out⟩
                        case measure => simp [intOf]; try omega
                    · have h1' : ¬ m ≥ bb := h1
                      clear HMJ
                      go_wp2_with fail
                      go_roundw
                      case rel => exact ⟨j + 1 + 1, (q : Int) - 1, by omega, by go_num, by have := HZ.out; omega, by rw [HSN.out]; first | rfl | rw [hw] | (have := HS1.out; rw [this]), HBT.out⟩
                      case measure => simp [intOf]; try omega
              · obtain rfl : t = pm := by omega
                have hzn : z < 0 := by omega
                have hzn2 : ¬ z ≥ 0 := by omega
                have HB8 := Lib.hid (HB7.out.trans (HBT.out.mono HB7.out.size))
                clear hz
                generalize sgB lens p (t - 1) = bb at *
                go_wp2_with fail
                refine (c20 _).mono ?_
                rintro e wf ⟨rfl, hb⟩
                have HBF := Lib.hid (HB8.out.trans (hb.mono HB8.out.size))
                clear hb
                go_wp2_with fail
                go_ret
                exact ⟨rfl, HBA.out.trans (HBF.out.mono HBA.out.size)⟩
      · have hi1' : ¬ (1 : Int) < (i : Int) := by omega
        clear HOWN HT c46a c46b c46t HUW4
        obtain ⟨k0, k1, k2⟩ := KK.out _ HV2.out
        go_upto_region 22 with fail
        clear y0 y1 HX2
        have HXE := Lib.hid HX1c.out
        have HV3 := Lib.hid HV2.out
        obtain ⟨V3, rfl⟩ : ∃ V3, V3 = V2 := ⟨_, rfl⟩
        clear x0 x1 k0 k1
        obtain ⟨w4, hM, hR4, hb4, hz4⟩ := make_longs2 V3 n (by omega)
        have hAG : A.heap.size ≤ V3.heap.size := HV3.out.size
        have hQG : Q1 < V3.heap.size := (Array.getElem?_eq_some_iff.1 HXE.out).1
        have HX4 := Lib.hid (HXE.out.keep hb4)
        have HB4 := Lib.hid (HV3.out.trans (hb4.mono hAG))
        go_upto_region 24 with fail
        clear hM k2 HXE HV3 hb4
        generalize V3.heap.size = G at *
        have HR4 := Lib.hid (show RowC w4 G 2 n (fun j => .int .i64 (lnF ls 1 j)) from hR4.ext fun j hj => by rw [HLS1.out j])
        have hG4 : G < w4.heap.size := HR4.out.lt
        clear hR4 hz4
        go_wp2_with fail
        go_loopw [26] (fun iv wr => ∃ s : Nat, 1 ≤ s ∧ s ≤ n ∧ iv = .int .i64 s ∧ RowC wr G 2 n (fun j => .int .i64 (lnF ls s j)) ∧ Bx2 wr Q1 (.int .i64 a0) (.int .i64 b0) ∧ Below A.heap.size A wr) (fun iv _ => n - (intOf iv).toNat)
        case atStart => exact ⟨1, Nat.le_refl _, by omega, rfl, HR4.out, HX4.out, HB4.out⟩
        case round =>
          obtain ⟨s, hs1, hs2, rfl, hr, hx, hb⟩ := hrel
          have HR := Lib.hid hr
          have HX := Lib.hid hx
          have HBS := Lib.hid hb
          clear hr hx hb
          by_cases hsn : s < n
          · have hsi : (s : Int) < (n : Int) := by omega
            have hs0 : (0 : Int) ≤ (s : Int) := by omega
            have cc := Lib.hid (cA.out s wr (HUP.out _ HBS.out))
            have hv1 := HATB.out s
            have gc := HR.out.cell hsn
            have gf := HR.out.froz s
            have HNX := Lib.hid (show RowC (wr.setCell ⟨G, s, none⟩ (.int .i64 (10 * atV ls s))) G 2 n (fun j => .int .i64 (lnF ls (s + 1) j)) from (HR.out.set s _).ext fun j hj => by
              rw [HLSS.out s j hs1]
              by_cases e : j = s
              · rw [if_pos e, if_pos e]
              · rw [if_neg e, if_neg e])
            have HNB := Lib.hid (show Below A.heap.size A (wr.setCell ⟨G, s, none⟩ (.int .i64 (10 * atV ls s))) from HBS.out.setCell (p := ⟨G, s, none⟩) hAG _)
            have HNXX := Lib.hid (show Bx2 (wr.setCell ⟨G, s, none⟩ (.int .i64 (10 * atV ls s))) Q1 (.int .i64 a0) (.int .i64 b0) from HX.out.far (Nat.ne_of_lt hQG))
            have HLN := Lib.hid (show lnF ls s s = 0 from if_neg (by omega))
            rw [HLN.out] at gc
            generalize atV ls s = v at *
            go_wp2_with fail
            refine cc.out.mono ?_
            rintro e w5 ⟨rfl, rfl⟩
            go_wp2_with fail
            go_roundw
            case rel => exact ⟨s + 1, by omega, by omega, by go_num, HNX.out, HNXX.out, HNB.out⟩
            case measure => simp [intOf]; omega
          · obtain rfl : s = n := by omega
            have HIL := Lib.hid (il_row HR.out)
            obtain ⟨k0, k1, k2⟩ := KK.out _ HBS.out
            have x0 := HX.out.c0
            have x1 := HX.out.c1
            have cseg := Lib.hid (CSEG.out a0 b0 (.slice (some ⟨G, 0, none⟩) s s) wr g5 (HUP.out _ HBS.out) HIL.out)
            have HLT := Lib.hid HR.out.lt
            clear CSEG HIL
            go_wp2_with fail
            refine cseg.out.mono ?_
            rintro e w6 ⟨u, rfl, hi6, hb6⟩
            have HI6 := Lib.hid hi6
            have HB6 := Lib.hid (HBS.out.trans (hb6.mono HBS.out.size))
            have HR6 := Lib.hid (HR.out.keep hb6)
            clear hi6 hb6 k0 k1 k2 x0 x1 HX
            obtain ⟨k0, k1, k2⟩ := KK.out _ HB6.out
            go_wp2_with fail
            refine (CPTH.out _ (HUP.out _ HB6.out)).mono ?_
            rintro e w7 ⟨v7, rfl, hr7, hb7⟩
            have HI7 := Lib.hid (HI6.out.at hb7)
            have HB7 := Lib.hid (HB6.out.trans (hb7.mono HB6.out.size))
            have HR7 := Lib.hid (HR6.out.keep hb7)
            obtain ⟨pg, pcc, rfl⟩ := own_pos hr7 hpl0
            have HPC := Lib.hid (show ∀ W q, Below w7.heap.size w7 W → q < p.length → W.cell? ⟨pg, q, none⟩ = some (.int .i64 (tn p q : Int)) from fun W q hW hq => by
              obtain ⟨g', c', e, -, -, hg, c0⟩ := own3_cell hr7 (i := q) hq
              simp only [Value.slice.injEq, Option.some.injEq, Addr.mk.injEq] at e
              obtain ⟨⟨rfl, -, -⟩, -, -⟩ := e
              exact (hW.cell (p := ⟨pg, _, none⟩) hg).trans c0)
            have hzl := HZL.out a0 b0
            have HMM := Lib.hid (HMEM.out a0 b0)
            clear hr7 hb7 HI6 HR6 k0 k1 k2 CPTH HZL HMEM
            have c60 := Lib.hid (fun (x : Int) W (h : Below w7.heap.size w7 W) => refHas_any u _ x W (HI7.out.at h) hzl)
            clear hzl HI7
            generalize zs (sgL (fL (lnF ls s) s) p a0 b0 (p.length - 1)) = ZL at *
            generalize fL (lnF ls s) s = lens at *
            generalize hpp : p.length = pm at *
            clear hpp
            go_wp2_with fail
            go_loopw [29, 30] (fun bv iv wr => ∃ (t : Nat) (z : Int), t ≤ pm ∧ iv = .int .i64 z ∧ z = (pm : Int) - 1 - t ∧ bv = .int .i64 (sgB lens p (t - 1)) ∧ Below w7.heap.size w7 wr) (fun _ iv _ => (intOf iv + 1).toNat)
            case atStart => exact ⟨0, _, Nat.zero_le _, rfl, by omega, rfl, Below.refl _ _⟩
            case round =>
              obtain ⟨t, z, ht, rfl, hz, rfl, hbt⟩ := hrel
              have HBT := Lib.hid hbt
              clear hbt
              by_cases htl : t < pm
              · obtain ⟨q, hq⟩ : ∃ q, q = pm - 1 - t := ⟨_, rfl⟩
                obtain rfl : z = (q : Int) := by omega
                have cp := HPC.out wr q HBT.out (by omega)
                have hxn := HPN.out q (by omega)
                have hqp : (q : Int) < (pm : Int) := by omega
                have hq0 : (0 : Int) ≤ (q : Int) := by omega
                have HQ := Lib.hid hq
                have HZ := Lib.hid hz
                have hgl := (HR7.out.keep HBT.out).cell hxn
                by_cases ht0 : t = 0
                · subst ht0
                  have hx0 : tn p q = 0 := HPE.out q (by omega)
                  rw [hx0] at cp hgl
                  rw [HL0.out] at hgl
                  clear hq hz hxn hx0
                  generalize hbb : sgB lens p (0 - 1) = bb at *
                  have HBB := Lib.hid hbb
                  clear hbb
                  simp only [Int.natCast_zero] at cp
                  go_wp2_with fail
                  go_roundw
                  case rel => exact ⟨0 + 1, (q : Int) - 1, by omega, by go_num, by have := HZ.out; omega, congrArg (Value.int .i64) HBB.out.symm, HBT.out⟩
                  case measure => simp [intOf]; try omega
                · obtain ⟨j, rfl⟩ : ∃ j, t = j + 1 := ⟨t - 1, by omega⟩
                  have hkj : sgK p j = tn p q := by rw [HKD.out j]; congr 1; omega
                  obtain ⟨s1, s2, s3⟩ := HSB.out j (by omega)
                  have HMJ := Lib.hid (HMM.out j (by omega))
                  rw [hkj] at s1 HMJ
                  have hlb2 := HLB.out (tn p q)
                  rw [show j + 1 - 1 = j from rfl]
                  have HSN := Lib.hid (show sgB lens p (j + 1 + 1 - 1) = sgB lens p (j + 1) from rfl)
                  have hxi : (tn p q : Int) < (s : Int) := by omega
                  have hxi0 : (0 : Int) ≤ (tn p q : Int) := by omega
                  have HL00 := Lib.hid (show tn p q = 0 → lnF ls s (tn p q) = 0 from fun h => by rw [h]; exact HL0.out)
                  clear hq hz hxn hkj
                  generalize lnF ls s (tn p q) = ln at *
                  generalize sgB lens p (j + 1) = b1 at *
                  generalize sgB lens p j = bb at *
                  generalize tn p q = x at *
                  by_cases hx0 : x = 0
                  · have hl0 := HL00.out hx0
                    have hx0i : ((x : Int) == 0) = true := by rw [hx0]; rfl
                    have hbe : b1 = bb := by omega
                    clear hx0 s1 HL00
                    go_wp2_with fail
                    go_roundw
                    case rel => exact ⟨j + 1 + 1, (q : Int) - 1, by omega, by go_num, by have := HZ.out; omega, by rw [HSN.out, hbe], HBT.out⟩
                    case measure => simp [intOf]; try omega
                  · have hx0i : ((x : Int) == 0) = false := beq_eq_false_iff_ne.2 (by omega)
                    have hw : wrap64 (bb + ln) = b1 := by unfold wrap64; omega
                    have HS1 := Lib.hid s1
                    clear s1 HL00 hx0
                    by_cases h1 : bb ≤ m
                    · have h1' : m ≥ bb := h1
                      by_cases h2 : m ≤ b1
                      · have HIN2 := Lib.hid (HMJ.out ⟨by omega, by omega⟩)
                        have cH := Lib.hid (c60.out (x : Int) wr HBT.out)
                        rw [decide_eq_true HIN2.out] at cH
                        have h2s : m ≤ bb + ln := by have := HS1.out; omega
                        clear HMJ
                        go_wp2_with fail
                        refine cH.out.mono ?_
                        rintro e w9 ⟨rfl, rfl⟩
                        go_wp2_with fail
                        go_roundw
                        case rel => exact ⟨j + 1 + 1, (q : Int) - 1, by omega, by go_num, by have := HZ.out; omega, by rw [HSN.out]; first | rfl | rw [hw] | (have := HS1.out; rw [this]), HBT.out⟩
                        case measure => simp [intOf]; try omega
                      · have h2s : ¬ m ≤ bb + ln := by have := HS1.out; omega
                        clear HMJ
                        go_wp2_with fail
                        go_roundw
                        case rel => exact ⟨j + 1 + 1, (q : Int) - 1, by omega, by go_num, by have := HZ.out; omega, by rw [HSN.out]; first | rfl | rw [hw] | (have := HS1.out; rw [this]), HBT.out⟩
                        case measure => simp [intOf]; try omega
                    · have h1' : ¬ m ≥ bb := h1
                      clear HMJ
                      go_wp2_with fail
                      go_roundw
                      case rel => exact ⟨j + 1 + 1, (q : Int) - 1, by omega, by go_num, by have := HZ.out; omega, by rw [HSN.out]; first | rfl | rw [hw] | (have := HS1.out; rw [this]), HBT.out⟩
                      case measure => simp [intOf]; try omega
              · obtain rfl : t = pm := by omega
                have hzn : z < 0 := by omega
                have hzn2 : ¬ z ≥ 0 := by omega
                have HB8 := Lib.hid (HB7.out.trans (HBT.out.mono HB7.out.size))
                clear hz
                generalize sgB lens p (t - 1) = bb at *
                go_wp2_with fail
                refine (c20 _).mono ?_
                rintro e wf ⟨rfl, hb⟩
                have HBF := Lib.hid (HB8.out.trans (hb.mono HB8.out.size))
                clear hb
                go_wp2_with fail
                go_ret
                exact ⟨rfl, HBA.out.trans (HBF.out.mono HBA.out.size)⟩
end Go.Proofs.Ytdohfpnnmppdkaa

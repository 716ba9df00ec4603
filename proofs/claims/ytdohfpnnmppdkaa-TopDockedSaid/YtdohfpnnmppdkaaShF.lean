/-
  Cables: the currents that are granted.
-/
import Derived.Test.YtdohfpnnmppdkaaShE
import Derived.Sort.CutIn
import Derived.LoopIn
import Derived.OwnWalkIn
namespace Go.Proofs.Ytdohfpnnmppdkaa
open Go.RowKit Go.Shelf
set_option linter.unusedSimpArgs false
attribute [local go_sem] Oper.semAt_some
theorem wrap64_id {x : Int} (h : -9223372036854775808 ≤ x ∧ x ≤ 9223372036854775807) : IntKind.i64.wrap x = x := by
  simp [IntKind.wrap, IntKind.bits, IntKind.signed]; omega
set_option maxRecDepth 100000 in
set_option maxHeartbeats 16000000 in
theorem share_any (sl sh : Int) (sv qv ov : Value) (ns : List Nd) (rs : List Int) (od : List Nat) (rk : Nat → Int) (hv : ValidC sl sh ns) (hrl : rs.length = ns.length) (hrb : ∀ j, 0 ≤ ti rs j ∧ ti rs j ≤ 65536) (hT : Turn rk ns.length od) (w : World) (hN : Nds w.heap.size w sv ns) (hQ : Il w.heap.size w qv rs) (hO : Il w.heap.size w ov (zs od)) :
    Calls Try.prog 122 #[.agg #[.int .i64 sl, .int .i64 sh, sv], qv, ov] w fun e w' => ∃ g, e = .returned (.slice (some ⟨g, 0, none⟩) ns.length ns.length) ∧ RowC w' g 2 ns.length (fun j => .int .i64 ((shF (par ns) (limF ns) (ti rs) od).2 j)) ∧ w.heap.size ≤ g ∧ Below w.heap.size w w' := by
  obtain ⟨i2, hi2, hz20, hz21, hz22⟩ := info_parts (t := 2) (z := .int .i64 0) (size := 1) (bytes := 8) (by kernel_rfl)
  have hn0 : 0 < ns.length := hv.pos
  have hn : ns.length ≤ 60 := hv.len
  have hol : od.length = ns.length := hT.len
  have HUA := Lib.hid (fun k (hk : k < ns.length) => upAt_of hN hv.all hk)
  obtain ⟨a, cap, rfl, -, hcc⟩ := hN
  obtain ⟨b, off, rfl, hb0, -⟩ := hcc 0 hn0
  obtain ⟨qa, qc, rfl, -, hqc⟩ := hQ
  rw [hrl] at hqc ⊢
  obtain ⟨qb, qo, rfl, hqb, -⟩ := hqc 0 hn0
  obtain ⟨oa, oc, rfl, -, hoc⟩ := hO
  have hzl : (zs od).length = ns.length := by unfold zs; simp [hol]
  rw [hzl] at hoc ⊢
  obtain ⟨ob, oo, rfl, hob, -⟩ := hoc 0 hn0
  have HBL := Lib.hid (show b < w.heap.size ∧ qb < w.heap.size ∧ ob < w.heap.size from ⟨hb0, hqb, hob⟩)
  have HC := Lib.hid (show ∀ W k, Below w.heap.size w W → k < ns.length → W.cell? ⟨b, off + k * 8, none⟩ = some (.int .i64 (nd ns k).par) ∧ W.cell? ⟨b, off + k * 8 + 1, none⟩ = some (.int .i64 (nd ns k).ol) ∧ W.cell? ⟨b, off + k * 8 + 2, none⟩ = some (.int .i64 (nd ns k).oh) ∧ W.cell? ⟨b, off + k * 8 + 3, none⟩ = some (.int .i64 (limF ns k)) ∧ W.cell? ⟨b, off + k * 8 + 4, none⟩ = some (.int .i64 (nd ns k).ll) ∧ W.cell? ⟨b, off + k * 8 + 5, none⟩ = some (.int .i64 (nd ns k).lh) ∧ W.cell? ⟨b, off + k * 8 + 6, none⟩ = some (.int .i64 (nd ns k).lea) ∧ W.cell? ⟨b, off + k * 8 + 7, none⟩ = some (.int .i64 (nd ns k).del) from fun W k hb hk => by
    obtain ⟨b', off', h1, h2, e0, e1, e2, e3, e4, e5, e6, e7⟩ := hcc k hk
    simp only [Option.some.injEq, Addr.mk.injEq] at h1
    obtain ⟨rfl, rfl, -⟩ := h1
    exact ⟨(hb.cell (p := ⟨b, _, none⟩) h2).trans e0, (hb.cell (p := ⟨b, _, none⟩) h2).trans e1, (hb.cell (p := ⟨b, _, none⟩) h2).trans e2, by unfold limF; rw [if_pos hk]; exact (hb.cell (p := ⟨b, _, none⟩) h2).trans e3, (hb.cell (p := ⟨b, _, none⟩) h2).trans e4, (hb.cell (p := ⟨b, _, none⟩) h2).trans e5, (hb.cell (p := ⟨b, _, none⟩) h2).trans e6, (hb.cell (p := ⟨b, _, none⟩) h2).trans e7⟩)
  have HQC := Lib.hid (show ∀ W k, Below w.heap.size w W → k < ns.length → W.cell? ⟨qb, qo + k, none⟩ = some (.int .i64 (ti rs k)) from fun W k hb hk => by
    obtain ⟨b', off', h1, h2, e0⟩ := hqc k hk
    simp only [Option.some.injEq, Addr.mk.injEq] at h1
    obtain ⟨rfl, rfl, -⟩ := h1
    exact (hb.cell (p := ⟨_, _, none⟩) h2).trans e0)
  have HOC := Lib.hid (show ∀ W i, Below w.heap.size w W → i < ns.length → W.cell? ⟨ob, oo + i, none⟩ = some (.int .i64 (tn od i : Int)) from fun W k hb hk => by
    obtain ⟨b', off', h1, h2, e0⟩ := hoc k hk
    simp only [Option.some.injEq, Addr.mk.injEq] at h1
    obtain ⟨rfl, rfl, -⟩ := h1
    have e : ti (zs od) k = (tn od k : Int) := by unfold ti zs tn; simp [show k < od.length by omega]
    rw [← e]
    exact (hb.cell (p := ⟨_, _, none⟩) h2).trans e0)
  have HOD := Lib.hid (show ∀ i, i < ns.length → tn od i < ns.length from fun i hi => (hT.all _).1 (tn_mem (by omega)))
  obtain ⟨sF, hsF⟩ : ∃ sF : Nat → ShS, ∀ i, sF i = shF (par ns) (limF ns) (ti rs) (od.take i) := ⟨_, fun _ => rfl⟩
  have HST := Lib.hid (show ∀ i, i < ns.length → sF (i + 1) = shStep (par ns) (ti rs) (sF i) (tn od i) from fun i hi => by rw [hsF, hsF, tn_take (by omega), shF_snoc])
  have HSB := Lib.hid (show ∀ i, ShB (limF ns) (ti rs) (sF i) from fun i => by rw [hsF]; exact shF_bd (fun k => (limF_bd hv.all k).1) (fun k => (hrb k).1) _)
  have HLM := Lib.hid (fun k => limF_bd hv.all k)
  have HRB := Lib.hid hrb
  have hres : shF (par ns) (limF ns) (ti rs) od = sF ns.length := by rw [hsF, ← hol, List.take_length]
  rw [hres]
  have HS0 := Lib.hid (show sF 0 = (limF ns, fun _ => 0) from hsF 0)
  have HPL := Lib.hid (fun k => pth_len hv.all.tree k)
  have HXN := Lib.hid (fun k (hk : k < ns.length) (x : Nat) (hx : x ∈ pth (par ns) k) => hv.all.path_lt hk hx)
  have HCP := Lib.hid (fun k j => count_pth hv.all.tree k j)
  have HLEN := Lib.hid (fun k => pth_len hv.all.tree k)
  have HDEC := Lib.hid (fun k => pth_dec hv.all.tree k)
  have HHD := Lib.hid (fun k => nxt_head hv.all.tree k)
  have HNL := Lib.hid (show ∀ k, k < ns.length → k < 60 from fun k h => by omega)
  clear hcc hqc hoc hv hrl hzl hT hrb hres hsF
  generalize limF ns = lim at *
  generalize ti rs = rq at *
  generalize par ns = P at *
  generalize hnn : ns.length = n at *
  have HNN := Lib.hid hnn
  clear hnn hb0 hqb hob hol
  obtain ⟨A, hA⟩ : ∃ A, A = (w.alloc (.cells #[.int .i64 sl, .int .i64 sh, .slice (some ⟨b, off, none⟩) n cap] 26)).alloc (.cells #[.slice none 0 0] 50) := ⟨_, rfl⟩
  have HBA := Lib.hid (show Below w.heap.size w A by rw [hA]; exact ((Below.refl _ _).alloc (Nat.le_refl _) _).alloc (by simp) _)
  have HAZ := Lib.hid (show A.heap.size = w.heap.size + 2 by rw [hA]; simp)
  have HAC := Lib.hid (show A.heap[w.heap.size]? = some (.cells #[.int .i64 sl, .int .i64 sh, .slice (some ⟨b, off, none⟩) n cap] 26 (0, 0)) by rw [hA]; exact (Below.heap_alloc _ _ _ (by simp)).trans (World.alloc_heap_new w _))
  have HAX := Lib.hid (show A.heap[w.heap.size + 1]? = some (.cells #[.slice none 0 0] 50 (0, 0)) by
    have q := World.alloc_heap_new (w.alloc (.cells #[.int .i64 sl, .int .i64 sh, .slice (some ⟨b, off, none⟩) n cap] 26)) (.cells #[.slice none 0 0] 50)
    rw [World.size_alloc] at q
    rw [hA]
    exact q)
  have c2 := cellHB HAC.out 2
  refine calls_marks 9 Try.func122 rfl ?_
  simp only [Try.ntmps122, List.size_toArray, List.length_cons, List.length_nil, Nat.reduceAdd, Nat.reduceSub, Array.replicate_succ, Array.replicate_zero, List.push_toArray, List.append_toArray, List.nil_append, List.cons_append]
  gi_upto_region 2 with fail
  rw [← hA]
  clear hA
  obtain ⟨C, hC⟩ : ∃ C, C = w.heap.size := ⟨_, rfl⟩
  obtain ⟨X, hX⟩ : ∃ X, X = w.heap.size + 1 := ⟨_, rfl⟩
  rw [← hX] at HAX ⊢
  rw [← hC] at HAC c2 ⊢
  have HCX := Lib.hid (show C = w.heap.size ∧ X = C + 1 ∧ A.heap.size = C + 2 from ⟨hC, by omega, by have := HAZ.out; omega⟩)
  clear hC hX HAZ
  gi_wp2
  gi_loopw [19] (fun iv wr => ∃ (k : Nat) (pv : Value), k ≤ n ∧ iv = .int .i64 k ∧ wr.heap[C]? = some (.cells #[.int .i64 sl, .int .i64 sh, .slice (some ⟨b, off, none⟩) n cap] 26 (0, 0)) ∧ wr.heap[X]? = some (.cells #[pv] 50 (0, 0)) ∧ wr.ownsRow A.heap.size 2 1 pv k (fI lim k) ∧ Below w.heap.size w wr ∧ A.heap.size ≤ wr.heap.size) (fun iv _ => n - (intOf iv).toNat)
  case atStart => exact ⟨0, _, Nat.zero_le _, rfl, HAC.out, HAX.out, World.ownsRow_nil _ _ _ _, HBA.out, Nat.le_refl _⟩
  case round =>
    obtain ⟨k, pv, hk, rfl, hCc, hXx, hr, hB, hsz⟩ := hrel
    have hXw : X < wr.heap.size := by obtain ⟨h1, h2, h3⟩ := HCX.out; omega
    have hCw : C < wr.heap.size := by obtain ⟨h1, h2, h3⟩ := HCX.out; omega
    have HR := Lib.hid hr
    have HB := Lib.hid hB
    have HCc := Lib.hid hCc
    have HXx := Lib.hid hXx
    clear c2
    by_cases hlt : k < n
    · obtain ⟨pa, pc, rfl⟩ := own_any1 hr
      have hki : (k : Int) < (n : Int) := by omega
      obtain ⟨n0, n1, n2, n3, n4, n5, n6, n7⟩ := HC.out wr k hB hlt
      have x0 := cellHB hXx 0
      have HAPP := Lib.hid (show ∀ (o tmp : Obj) (v1 : Value) (w5 : World), w5.ownsRow A.heap.size 2 1 v1 (k + 1) (fI lim k ++ [.int .i64 (lim k)]) → ((wr.alloc o).alloc tmp).grownBy w5 (Value.slice pa k pc).ownBlock → ∃ g' cp', v1 = .slice (some ⟨g', 0, none⟩) (k + 1) cp' ∧ w5.cell? ⟨X, 0, none⟩ = some (.slice pa k pc) ∧ w5.frozen? ⟨X, 0, none⟩ = false ∧ Hid ((w5.setCell ⟨X, 0, none⟩ v1).heap[X]? = some (.cells #[v1] 50 (0, 0)) ∧ (w5.setCell ⟨X, 0, none⟩ v1).ownsRow A.heap.size 2 1 v1 (k + 1) (fI lim (k + 1)) ∧ (w5.setCell ⟨X, 0, none⟩ v1).heap[C]? = some (.cells #[.int .i64 sl, .int .i64 sh, .slice (some ⟨b, off, none⟩) n cap] 26 (0, 0)) ∧ Below w.heap.size w (w5.setCell ⟨X, 0, none⟩ v1) ∧ A.heap.size ≤ (w5.setCell ⟨X, 0, none⟩ v1).heap.size) from fun o tmp v1 w5 ho hg => by
        obtain ⟨h1, h2, h3⟩ := HCX.out
        obtain ⟨y1, y2, y3, y4, y5⟩ := app_box (by omega) hsz HXx.out HR.out ho hg
        obtain ⟨g', cp', hf⟩ := ownsRow_succ ho
        refine ⟨g', cp', hf, cellHB y2 0, by simp [World.frozen?, y2], Lib.hid ⟨y1, by rw [fI_succ]; exact y3, (y4 C (by omega) (by omega)).trans HCc.out, ?_, by simp; omega⟩⟩
        refine Below.setCell (p := ⟨X, 0, none⟩) (((HB.out.alloc HB.out.size _).alloc (by simp; have := HB.out.size; omega) _).grown hg (by simp; have := HB.out.size; omega) (fun r e => by have := (HR.out.lt r e).1; omega)) (by show w.heap.size ≤ X; omega) _)
      clear hr hB hCc hXx
      gi_wp2_with (gi_at_builtin; refine wpListIn_append_own _ rfl _ _ 50 rfl A.heap.size 2 i2 (.int .i64 0) 1 8 Try.underlying50 hi2 hz20 hz21 hz22 rfl (by decide) _ _ _ rfl ((HR.out.alloc _).alloc _) ⟨wr.heap.size + 1, 0, none⟩ 1 1 [.int .i64 (lim k)] rfl rfl (by intro j u hj; match j, hj with | 0, h => simp at h; subst h; simp [Addr.add, go_sem]) (by simp [Value.oneCell']) (by unfold maxLen; omega) (by omega) (by simp; omega) ?_; intro v1 w5 hown' hgrow _; obtain ⟨g', cp', rfl, z0, z1, HZ⟩ := HAPP.out _ _ _ _ hown' hgrow; clear hown' hgrow)
      go_roundw
      case rel =>
        obtain ⟨q1, q2, q3, q4, q5⟩ := HZ.out
        exact ⟨k + 1, _, by omega, by go_num, q3, q1, q2, q4, q5⟩
      case measure => simp [intOf]; omega
    · obtain rfl : n = k := by omega
      obtain ⟨SB, cp, cur, hpv, hSBb, hSBc, hcp1, hcp2, hcp3, hcp4⟩ : ∃ g cp cur, pv = .slice (some ⟨g, 0, none⟩) n cp ∧ A.heap.size ≤ g ∧ wr.heap[g]? = some (.cells cur 2 (0, 0)) ∧ n ≤ cp ∧ cp ≤ maxLen ∧ cur.size = cp * 1 ∧ cur.toList.take n = fI lim n := by
        rcases HR.out.2 with ⟨_, e⟩ | ⟨g, cp, cur, e, h1, h2, h3, h4, h5, h6⟩
        · exact absurd e (by omega)
        · exact ⟨g, cp, cur, e, h1, h2, h3, h4, h5, by rw [Nat.mul_one] at h6; exact h6⟩
      subst hpv
      obtain ⟨J, hJ⟩ : ∃ J : Nat → Value, J = fun j => cur[j]?.getD undef := ⟨_, rfl⟩
      have hRS : RowC wr SB 2 cp (rmC n J lim) := ⟨cur, hSBc, by omega, fun j hj => by
        unfold rmC
        by_cases h : j < n
        · rw [if_pos h, ← Array.getElem?_toList, ← List.getElem?_take_of_lt h, hcp4]
          unfold fI
          simp [h]
        · rw [if_neg h, hJ]
          simp [show j < cur.size by omega]⟩
      have HSBX := Lib.hid (show C < SB ∧ X < SB ∧ SB < wr.heap.size ∧ C < X ∧ w.heap.size ≤ C by
        obtain ⟨h1, h2, h3⟩ := HCX.out
        have := (Array.getElem?_eq_some_iff.1 hSBc).1
        omega)
      have HCP' := Lib.hid hcp1
      clear hSBb hSBc hcp1 hcp2 hcp3 hcp4 hJ hr hB hCc hXx
      obtain ⟨w2, hM, hS, hg⟩ := run_make_full (P := Try.prog) wr wr.heap.size 50 2 i2 _ 1 Try.underlying50 hi2 hz20 hz21 .i64 .i64 n (by rw [hz22]; omega) (by unfold maxLen; omega) (by simp)
      obtain ⟨-, hRG⟩ := rowC_of_own hS rfl
      rw [Nat.mul_one] at hRG
      have hGl : wr.heap.size < w2.heap.size := hRG.lt
      have hI3 : ShI w2 C X SB wr.heap.size sl sh (some ⟨b, off, none⟩) n cap cp J (sF 0).1 (sF 0).2 := by
        rw [HS0.out]
        refine ⟨(hg.block _ hCw (fun e => by cases e)).trans HCc.out, (hg.block _ hXw (fun e => by cases e)).trans HXx.out, hRS.same (hg.block _ hRS.lt (fun e => by cases e)), hRG.ext fun j hj => ?_⟩
        simp [madeCells, Value.cells, hj, Nat.mod_one]
      have HI3 := Lib.hid hI3
      have HB3 := Lib.hid (show Below w.heap.size w w2 from HB.out.grown hg (by have := HB.out.size; omega) (fun r e => by cases e))
      have HGZ := Lib.hid (show SB < wr.heap.size ∧ wr.heap.size < w2.heap.size from ⟨hRS.lt, hGl⟩)
      clear hS hg hRG hI3 hRS HR HB HCc HXx hXw hCw hsz hGl
      gi_upto_region 8 with fail
      generalize hG : wr.heap.size = G at *
      clear hG hM
      gi_wp2
      obtain ⟨INV, hINV⟩ : ∃ INV : Act → World → Prop, INV = fun a' wr => ∃ (i : Nat) (ds : List Deferred) (v12 v13 v35 v36 v37 v38 v39 v40 v41 v42 v43 v44 v52 v53 v54 v63 v64 v65 v66 v67 : Value), i ≤ n ∧ a' = { tmps := #[.agg #[.int .i64 sl, .int .i64 sh, .slice (some ⟨b, off, none⟩) n cap], .slice (some ⟨qb, qo, none⟩) n qc, .slice (some ⟨ob, oo, none⟩) n oc, .pointer (some ⟨C, 0, none⟩), undef, undef, .slice none 0 0, .pointer (some ⟨X, 0, none⟩), undef, u9, .slice (some ⟨G, 0, none⟩) n n, undef, v12, v13, undef, undef, .pointer (some ⟨C, 2, none⟩), .slice (some ⟨b, off, none⟩) n cap, .int .i64 (n : Int), .int .i64 (n : Int), .bool false, u21, u22, u23, u24, u25, u26, u27, u28, .slice (some ⟨qb, qo, none⟩) n qc, .int .i64 (n : Int), .slice (some ⟨G, 0, none⟩) n n, .slice (some ⟨ob, oo, none⟩) n oc, .int .i64 (n : Int), .int .i64 (i : Int), v35, v36, v37, v38, v39, v40, v41, v42, v43, v44, undef, undef, undef, undef, undef, undef, undef, v52, v53, v54, undef, undef, undef, undef, undef, undef, undef, undef, v63, v64, v65, v66, v67, undef], defers := ds } ∧ ShI wr C X SB G sl sh (some ⟨b, off, none⟩) n cap cp J (sF i).1 (sF i).2 ∧ Marks w2.heap.size wr ds ∧ Below w.heap.size w wr ∧ w2.heap.size ≤ wr.heap.size := ⟨_, rfl⟩
      obtain ⟨MU, hMU⟩ : ∃ MU : Act → World → Nat, MU = fun a' _ => n - (intOf (a'.tmps.getD 34 undef)).toNat := ⟨_, rfl⟩
      have HINV := Lib.hid hINV
      have HMU := Lib.hid hMU
      clear hINV hMU
      refine wpIn_loop INV MU ?_ ?_
      · rw [HINV.out]; exact ⟨0, [], undef, undef, undef, undef, undef, undef, undef, undef, undef, undef, undef, undef, undef, undef, undef, undef, undef, undef, undef, undef, Nat.zero_le _, by rfl, HI3.out, trivial, HB3.out, Nat.le_refl _⟩
      · intro a0 wr hinv
        rw [HINV.out] at hinv
        obtain ⟨i, ds, v12, v13, v35, v36, v37, v38, v39, v40, v41, v42, v43, v44, v52, v53, v54, v63, v64, v65, v66, v67, hi, rfl, hI, hMk, hB, hsz⟩ := hinv
        have HI := Lib.hid hI
        have HMk := Lib.hid hMk
        have HB := Lib.hid hB
        clear hMk
        by_cases hlt : i < n
        · have hii : (i : Int) < (n : Int) := by omega
          have o0 := HOC.out wr i hB hlt
          have HKN := Lib.hid (HOD.out i hlt)
          have HSN := Lib.hid (HST.out i hlt)
          have HSI := Lib.hid (HSB.out i)
          generalize tn od i = kk at *
          have hkk : kk < n := HKN.out
          have q0 := HQC.out wr kk hB hkk
          have HRQ := Lib.hid (HRB.out kk)
          have m0 := cellHB hI.1 0
          have m1 := cellHB hI.1 1
          have m2 := cellHB hI.1 2
          have HLW := Lib.hid (show C < wr.heap.size ∧ X < wr.heap.size ∧ SB < wr.heap.size ∧ G < wr.heap.size ∧ b < wr.heap.size ∧ C < SB ∧ X < SB ∧ SB < G ∧ C < X ∧ b < C ∧ w.heap.size = C by
            obtain ⟨h1, h2, h3, h4, h5⟩ := HSBX.out
            obtain ⟨h6, h7⟩ := HGZ.out
            obtain ⟨h8, h9, h10⟩ := HCX.out
            obtain ⟨h11, h12, h13⟩ := HBL.out
            omega)
          obtain ⟨sp, hsp⟩ : ∃ sp, sp = (sF i).1 := ⟨_, rfl⟩
          obtain ⟨gr, hgr⟩ : ∃ gr, gr = (sF i).2 := ⟨_, rfl⟩
          obtain ⟨gg, hgg⟩ : ∃ gg, gg = mnL sp (pth P kk) (rq kk) := ⟨_, rfl⟩
          have HNX := Lib.hid (show (sF (i + 1)).1 = (fun j => if j ∈ pth P kk then sp j - gg else sp j) ∧ (sF (i + 1)).2 = (fun j => if j = kk then gg else gr j) by
            rw [HSN.out, hgg, hsp, hgr]
            exact ⟨rfl, rfl⟩)
          have HGG := Lib.hid (show 0 ≤ gg ∧ gg ≤ 65536 by
            have h1 := mnL_nn sp (pth P kk) (rq kk) HRQ.out.1 (fun j _ => by rw [hsp]; exact (HSI.out.sp j).1)
            have h2 := mnL_le sp (pth P kk) (rq kk)
            have h3 := HRQ.out.2
            rw [hgg]; omega)
          have HSP := Lib.hid (show ∀ j, 0 ≤ sp j ∧ sp j ≤ 3932160 from fun j => by
            have h1 := HSI.out.sp j
            have h2 := (HLM.out j).2
            rw [hsp]; omega)
          have HGF := Lib.hid hgg
          rw [← hsp, ← hgr] at HI
          clear HSN HSI hsp hgr hgg hI hB
          obtain ⟨hCw, hXw, hSBw, hGw, hbw, -⟩ := HLW.out
          gi_wp2
          refine ⟨trivial, ?_⟩
          refine (callsIn_wide.2 (up_any sl sh (some ⟨b, off, none⟩) n cap (kk : Int) _)).mono ?_
          rintro e w1 ⟨rfl, rfl⟩
          gi_wp2
          obtain ⟨W5, hW5⟩ : ∃ W5, W5 = ((wr.alloc (.cells #[.int .i64 (rq kk)] 2)).alloc (.cells #[.int .i64 sl, .int .i64 sh, .slice (some ⟨b, off, none⟩) n cap] 26)).alloc (.cells #[.int .i64 (kk : Int)] 3) := ⟨_, rfl⟩
          rw [← hW5]
          have hb5 : Below wr.heap.size wr W5 := by rw [hW5]; exact (((Below.refl _ _).alloc (Nat.le_refl _) _).alloc (by simp) _).alloc (by simp; omega) _
          have hz5 : W5.heap.size = wr.heap.size + 3 := by rw [hW5]; simp
          have hV5 : W5.heap[wr.heap.size]? = some (.cells #[.int .i64 (rq kk)] 2 (0, 0)) := by rw [hW5]; exact (Below.heap_alloc _ _ _ (by simp; omega)).trans ((Below.heap_alloc _ _ _ (by simp)).trans (World.alloc_heap_new wr _))
          have k5 : W5.cell? ⟨wr.heap.size + 1 + 1, 0, none⟩ = some (.int .i64 (kk : Int)) := by rw [hW5]; simp [go_sem]
          have s5 : W5.cell? ⟨wr.heap.size + 1, 2, none⟩ = some (.slice (some ⟨b, off, none⟩) n cap) := by rw [hW5]; simp [go_sem]
          clear hW5 m0 m1 m2 o0 q0
          obtain ⟨gf, hgf⟩ : ∃ gf : List Nat → Int, ∀ l, gf l = mnL sp l (rq kk) := ⟨_, fun _ => rfl⟩
          obtain ⟨s1, hs1⟩ : ∃ s1 : List Nat → Nat → Int, ∀ l, s1 l = sp := ⟨fun _ => sp, fun _ => rfl⟩
          have HG1 := Lib.hid (show gf [] = rq kk from hgf _)
          have HG2 := Lib.hid (show ∀ l x, gf (l ++ [x]) = min (gf l) (sp x) from fun l x => by rw [hgf, hgf, mnL_snoc])
          have HG3 := Lib.hid (show gf (pth P kk) = gg by rw [hgf, HGF.out])
          have HS1 := Lib.hid hs1
          clear hgf hs1
          have hJ0 : ShJ C X SB G wr.heap.size w.heap.size sl sh (some ⟨b, off, none⟩) n cap cp J s1 gf gr w W5 (pth P kk) [] W5 := ⟨by rw [List.map_nil, HS1.out]; exact HI.out.same (fun b hb => hb5.block b hb), by rw [List.map_nil, HG1.out]; exact hV5, fun D hD => hD, HB.out.trans (hb5.mono HB.out.size), Nat.le_refl _⟩
          have hU := (HUA.out kk hkk).mono (HB.out.trans (hb5.mono HB.out.size)) (Nat.le_refl _)
          have hseq := up_stopsQ (fun q => q = wr.heap.size + 1 + 1 ∨ q = wr.heap.size + 1 ∨ q = b) (9 - 1) (by omega) (wr.heap.size + 1 + 1) (wr.heap.size + 1) (.slice (some ⟨b, off, none⟩) n cap) (pth P kk) (by have := HLEN.out kk; have := HNL.out kk hkk; omega) (HDEC.out kk) W5 (by rintro q (rfl | rfl | rfl) <;> omega) (.inl rfl) (.inr (.inl rfl)) (by rw [HHD.out]; exact k5) s5 (hU.toQ (.inr (.inr rfl)))
          have HB5W := Lib.hid hb5
          have HZ5 := Lib.hid hz5
          clear hU k5 s5 hV5
          refine wpIn_rangeFunc_ownG rfl (by omega) (gf := 147) (lb := #[.pointer (some ⟨wr.heap.size + 1 + 1, 0, none⟩), .pointer (some ⟨wr.heap.size + 1, 0, none⟩)]) rfl trivial (enters_of Try.func147 (by kernel_rfl) rfl) hseq (fun h1 h2 => h1.trans h2) (fun W l o o' hl _ _ _ q hq => World.putObj_heap_other (by rcases hq with rfl | rfl | rfl <;> omega)) (Below.refl _ _) (fun _ => rfl)
            (ShJ C X SB G wr.heap.size w.heap.size sl sh (some ⟨b, off, none⟩) n cap cp J s1 gf gr w W5 (pth P kk)) (fun _ _ _ => False) (ShJ.own _ _ _ _ _ _ _ _ _ _ _ _ _ _ _ _ _ _ _ (by have := HB.out.size; omega)) (fun _ _ _ _ _ hs _ _ => hs) hJ0 (fun x => { tmps := #[.agg #[.int .i64 sl, .int .i64 sh, .slice (some ⟨b, off, none⟩) n cap], .slice (some ⟨qb, qo, none⟩) n qc, .slice (some ⟨ob, oo, none⟩) n oc, .pointer (some ⟨C, 0, none⟩), undef, undef, .slice none 0 0, .pointer (some ⟨X, 0, none⟩), undef, u9, .slice (some ⟨G, 0, none⟩) n n, undef, .int .i64 (kk : Int), .pointer (some ⟨wr.heap.size, 0, none⟩), .int .i64 (x.1 : Int), undef, .pointer (some ⟨C, 2, none⟩), .slice (some ⟨b, off, none⟩) n cap, .int .i64 (n : Int), .int .i64 (n : Int), .bool false, u21, u22, u23, u24, u25, u26, u27, u28, .slice (some ⟨qb, qo, none⟩) n qc, .int .i64 (n : Int), .slice (some ⟨G, 0, none⟩) n n, .slice (some ⟨ob, oo, none⟩) n oc, .int .i64 (n : Int), .int .i64 (i : Int), .bool true, .pointer (some ⟨ob, oo + i, none⟩), .int .i64 (kk : Int), .slice (some ⟨qb, qo, none⟩) n qc, .int .i64 (kk : Int), .pointer (some ⟨qb, qo + kk, none⟩), .int .i64 (rq kk), .agg #[.int .i64 sl, .int .i64 sh, .slice (some ⟨b, off, none⟩) n cap], .int .i64 (kk : Int), .func (.func 147) #[] #[.pointer (some ⟨wr.heap.size + 1 + 1, 0, none⟩), .pointer (some ⟨wr.heap.size + 1, 0, none⟩)], .int .i64 (x.1 : Int), undef, undef, undef, undef, undef, undef, v52, v53, v54, undef, undef, undef, undef, undef, undef, undef, undef, v63, v64, v65, v66, v67, undef], defers := [] }) ?assign ?body ?done ?stop
          case assign =>
            intro l x W K hK
            gi_wp2
            exact hK
          case stop =>
            rintro D c pre W _ _ hf
            exact hf.elim
          case body =>
            rintro l pre ⟨x, hx⟩ W ⟨hcu, hV, hm, hB5, hzW⟩ hpl
            have hxn := HXN.out kk hkk x hx
            have u0 := hcu.2.2.1.cell (j := x) (by have := HCP'.out; omega)
            rw [rmC_lt hxn, HS1.out] at u0
            have x0 := cellHB hcu.2.1 0
            have v0 := cellHB hV 0
            have vf : W.frozen? ⟨wr.heap.size, 0, none⟩ = false := by simp [World.frozen?, hV]
            have hxi : (x : Int) < (n : Int) := by omega
            have HSNC := Lib.hid (show gf ((pre ++ [(⟨x, hx⟩ : {x // x ∈ pth P kk})]).map (·.1)) = min (gf (pre.map (·.1))) (sp x) by rw [List.map_append]; exact HG2.out _ _)
            have HCU := Lib.hid hcu
            have HV := Lib.hid hV
            have HM := Lib.hid hm
            have HB5 := Lib.hid hB5
            clear hcu hV hm hB5 hseq hJ0 hz5 hb5
            generalize gf (pre.map (·.1)) = p0 at *
            generalize sp x = y at *
            have hXV : X ≠ wr.heap.size := by omega
            have hSV : SB ≠ wr.heap.size := by omega
            have hCV : C ≠ wr.heap.size := by omega
            have hGV : G ≠ wr.heap.size := by omega
            gi_wp2
            refine wpIn_round_held (S := fun w' => w'.cell? ⟨X, 0, none⟩ = some (Value.slice (some ⟨SB, 0, none⟩) n cp) ∧ w'.cell? ⟨SB, x, none⟩ = some (Value.int .i64 y)) (by kernel_rfl) (by kernel_rfl) (by rintro ⟨_, _, q⟩; exact q) ⟨by simpa [go_sem] using x0, by simpa [go_sem] using u0⟩ (fun hHeld => ?_)
            refine wpAnyH_take (i := 1) (oi := _) (v := Value.slice (some ⟨SB, 0, none⟩) n cp) rfl (by kernel_rfl) (by kernel_rfl) (by kernel_rfl) (fun _ _ _ h => h) (Or.inl ⟨by rfl, fun w' hSw => ?_⟩) hHeld ?_
            · obtain ⟨t0, t1⟩ := hSw
              go_simp
              try simp [*]
              try (intro hh; exfalso; omega)
              try omega
            try simp only [Act.put, List.setIfInBounds_toArray, List.set_cons_zero, List.set_cons_succ, List.getElem_toArray, List.getElem_cons_succ, List.getElem_cons_zero]
            refine wpAnyH_take (i := 2) (oi := _) (v := Value.int .i64 (x : Int)) rfl (by kernel_rfl) (by kernel_rfl) (by kernel_rfl) (fun _ _ _ h => h) (Or.inl ⟨by rfl, fun w' hSw => ?_⟩) hHeld ?_
            · obtain ⟨t0, t1⟩ := hSw
              go_simp
              try simp [*]
              try (intro hh; exfalso; omega)
              try omega
            try simp only [Act.put, List.setIfInBounds_toArray, List.set_cons_zero, List.set_cons_succ, List.getElem_toArray, List.getElem_cons_succ, List.getElem_cons_zero]
            refine wpAnyH_take (i := 3) (oi := _) (v := Value.pointer (some ⟨SB, x, none⟩)) rfl (by kernel_rfl) (by kernel_rfl) (by kernel_rfl) (fun _ _ _ h => h) (Or.inl ⟨by rfl, fun w' hSw => ?_⟩) hHeld ?_
            · obtain ⟨t0, t1⟩ := hSw
              go_simp
              try simp [*]
              try (intro hh; exfalso; omega)
              try omega
            try simp only [Act.put, List.setIfInBounds_toArray, List.set_cons_zero, List.set_cons_succ, List.getElem_toArray, List.getElem_cons_succ, List.getElem_cons_zero]
            refine wpAnyH_take (i := 4) (oi := _) (v := Value.int .i64 y) rfl (by kernel_rfl) (by kernel_rfl) (by kernel_rfl) (fun _ _ _ h => h) (Or.inl ⟨by rfl, fun w' hSw => ?_⟩) hHeld ?_
            · obtain ⟨t0, t1⟩ := hSw
              go_simp
              try simp [*]
              try (intro hh; exfalso; omega)
              try omega
            try simp only [Act.put, List.setIfInBounds_toArray, List.set_cons_zero, List.set_cons_succ, List.getElem_toArray, List.getElem_cons_succ, List.getElem_cons_zero]
            refine wpAnyH_ready (rs := [0]) (by kernel_rfl) (by simp) ?_
            refine AllReadyH.cons (o := _) rfl (fun K hK => ?_) AllReadyH.nil
            go_simp
            clear hHeld
            refine hK.out _ _ ⟨by simpa [go_sem] using x0, by simpa [go_sem] using u0⟩ (fun hHeld => ?_)
            clear hK K
            try simp only [Act.put, List.setIfInBounds_toArray, List.set_cons_zero, List.set_cons_succ, List.getElem_toArray, List.getElem_cons_succ, List.getElem_cons_zero]
            refine wpAnyH_take (i := 5) (oi := _) (v := Value.int .i64 (min p0 y)) rfl (by kernel_rfl) (by kernel_rfl) (by kernel_rfl) (fun _ _ _ h => h) (Or.inl ⟨by rfl, fun w' hSw => ?_⟩) hHeld ?_
            · obtain ⟨t0, t1⟩ := hSw
              go_simp
              try simp [*]
              try (intro hh; exfalso; omega)
              try omega
            try simp only [Act.put, List.setIfInBounds_toArray, List.set_cons_zero, List.set_cons_succ, List.getElem_toArray, List.getElem_cons_succ, List.getElem_cons_zero]
            refine wpAnyH_ready (rs := [6]) (by kernel_rfl) (by simp) ?_
            refine AllReadyH.cons (o := _) rfl (fun K hK => ?_) AllReadyH.nil
            go_simp
            clear hHeld
            refine hK.out _ _ ⟨by simp [go_sem, *], by simp [go_sem, *]⟩ (fun hHeld => ?_)
            clear hK K
            try simp only [Act.put, List.setIfInBounds_toArray, List.set_cons_zero, List.set_cons_succ, List.getElem_toArray, List.getElem_cons_succ, List.getElem_cons_zero]
            refine wpAnyH_done (by kernel_rfl) ?_ _
            clear hHeld
            gi_wp2
            have hko : KeepsOthers W W.drew := ⟨Nat.le_refl _, fun k o hk ho => hk⟩
            have hfar : ∀ q, q ≠ wr.heap.size → (W.drew.setCell ⟨wr.heap.size, 0, none⟩ (.int .i64 (min p0 y))).heap[q]? = W.heap[q]? := fun q hne => Below.heap_setCell _ _ _ _ hne
            refine ⟨(hko.trans (KeepsOthers.setCell _ _ _)).from _, fun q hq => hfar q (by have := HZ5.out; rcases hq with rfl | rfl | rfl <;> omega), ⟨(hfar C hCV).trans HCU.out.1, (hfar X hXV).trans HCU.out.2.1, ?_, HCU.out.2.2.2.same (hfar G hGV)⟩, ?_, fun D hD => ?_, ?_, ?_⟩
            · have q := HCU.out.2.2.1.same (hfar SB hSV)
              rw [HS1.out] at q ⊢
              exact q
            · rw [HSNC.out]
              have hv := HV.out
              simp [World.setCell, World.drew, Array.getElem?_modify, hv]
            · have q := HM.out D hD
              refine (hfar D ?_).trans q
              rintro rfl
              rw [HV.out] at q
              cases q
            · exact Below.setCell (p := ⟨wr.heap.size, 0, none⟩) (HB5.out.drew) (by have := HB.out.size; show w.heap.size ≤ wr.heap.size; omega) _
            · simp; omega
          case done =>
            rintro D ys W hD hys ⟨hcu, hV, hm, hB5, hzW⟩ hK
            subst hys
            rw [HS1.out] at hcu
            rw [List.attach_map_subtype_val, HG3.out] at hV
            have HMM : Hid (Marks w2.heap.size W ({ target := .collected D, args := #[] } :: ds)) := Lib.hid ⟨⟨D, by omega, rfl, hK, HMk.out.fresh (by omega)⟩, HMk.out.keep (fun d _ D' _ hD' => hm D' ((HB5W.out.block D' (Array.getElem?_eq_some_iff.1 hD').1).trans hD'))⟩
            have m0 := cellHB hcu.1 0
            have m1 := cellHB hcu.1 1
            have m2 := cellHB hcu.1 2
            have HCU := Lib.hid hcu
            have HV := Lib.hid hV
            have HB5 := Lib.hid hB5
            have HVW := Lib.hid (show wr.heap.size < W.heap.size ∧ W5.heap.size ≤ W.heap.size by omega)
            clear hcu hV hm hB5 hK hseq hJ0 HB5W HMk hb5 hz5
            obtain ⟨hVW, hW5W⟩ := HVW.out
            have hCW : C < W.heap.size := by omega
            have hXW : X < W.heap.size := by omega
            have hSBW : SB < W.heap.size := by omega
            have hGW : G < W.heap.size := by omega
            have hbW : b < W.heap.size := by omega
            gi_wp2
            refine ⟨trivial, ?_⟩
            refine (callsIn_wide.2 (up_any sl sh (some ⟨b, off, none⟩) n cap (kk : Int) _)).mono ?_
            rintro e w1 ⟨rfl, rfl⟩
            gi_wp2
            obtain ⟨W7, hW7⟩ : ∃ W7, W7 = (W.alloc (.cells #[.int .i64 sl, .int .i64 sh, .slice (some ⟨b, off, none⟩) n cap] 26)).alloc (.cells #[.int .i64 (kk : Int)] 3) := ⟨_, rfl⟩
            rw [← hW7]
            have hb7 : Below W.heap.size W W7 := by rw [hW7]; exact ((Below.refl _ _).alloc (Nat.le_refl _) _).alloc (by simp) _
            have hz7 : W7.heap.size = W.heap.size + 2 := by rw [hW7]; simp
            have k7 : W7.cell? ⟨W.heap.size + 1, 0, none⟩ = some (.int .i64 (kk : Int)) := by rw [hW7]; simp [go_sem]
            have s7 : W7.cell? ⟨W.heap.size, 2, none⟩ = some (.slice (some ⟨b, off, none⟩) n cap) := by rw [hW7]; simp [go_sem]
            clear hW7 m0 m1 m2
            obtain ⟨g2, hg2⟩ : ∃ g2 : List Nat → Int, ∀ l, g2 l = gg := ⟨fun _ => gg, fun _ => rfl⟩
            obtain ⟨s2, hs2⟩ : ∃ s2 : List Nat → Nat → Int, ∀ l j, s2 l j = sp j - (l.count j : Int) * gg := ⟨fun l j => sp j - (l.count j : Int) * gg, fun _ _ => rfl⟩
            have HT1 := Lib.hid (show s2 [] = sp from funext fun j => by rw [hs2]; simp)
            have HT2 := Lib.hid (show ∀ l x, s2 (l ++ [x]) = fun j => if j = x then s2 l x - gg else s2 l j from fun l x => funext fun j => by
              rw [hs2, List.count_append]
              by_cases h : j = x
              · subst h
                rw [if_pos rfl, hs2, List.count_singleton_self, Int.natCast_add, Int.add_mul]
                simp only [Int.natCast_one, Int.one_mul]
                omega
              · have h' : ([x] : List Nat).count j = 0 := by
                  rw [List.count_eq_zero]; simp [h]
                rw [if_neg h, hs2, h', Nat.add_zero])
            have HT3 := Lib.hid (show s2 (pth P kk) = (sF (i + 1)).1 from by
              rw [HNX.out.1]
              funext j
              rw [hs2, HCP.out]
              by_cases h : j ∈ pth P kk
              · rw [if_pos h, if_pos h]; simp
              · rw [if_neg h, if_neg h]; simp)
            have HT4 := Lib.hid (show ∀ l x, l.length < 60 → -5000000 ≤ s2 l x ∧ s2 l x ≤ 3932160 from fun l x hl => by
              rw [hs2]
              have h1 := HSP.out x
              have h2 := HGG.out
              have h3 : l.count x ≤ l.length := List.count_le_length
              have h4 := Int.mul_nonneg (show (0 : Int) ≤ (l.count x : Int) by omega) h2.1
              have h5 := Int.mul_le_mul (show (l.count x : Int) ≤ 60 by omega) h2.2 h2.1 (by decide)
              omega)
            have HG4 := Lib.hid hg2
            clear hg2 hs2
            have hJ0 : ShJ C X SB G wr.heap.size w.heap.size sl sh (some ⟨b, off, none⟩) n cap cp J s2 g2 gr w W7 (pth P kk) [] W7 := ⟨by rw [List.map_nil, HT1.out]; exact HCU.out.same (fun b hb => hb7.block b hb), by rw [HG4.out]; exact (hb7.block _ hVW).trans HV.out, fun D hD => hD, HB5.out.trans (hb7.mono HB5.out.size), Nat.le_refl _⟩
            have hU := (HUA.out kk hkk).mono (HB5.out.trans (hb7.mono HB5.out.size)) (Nat.le_refl _)
            have hseq := up_stopsQ (fun q => q = W.heap.size + 1 ∨ q = W.heap.size ∨ q = b) (9 - 1) (by omega) (W.heap.size + 1) W.heap.size (.slice (some ⟨b, off, none⟩) n cap) (pth P kk) (by have := HLEN.out kk; have := HNL.out kk hkk; omega) (HDEC.out kk) W7 (by rintro q (rfl | rfl | rfl) <;> omega) (.inl rfl) (.inr (.inl rfl)) (by rw [HHD.out]; exact k7) s7 (hU.toQ (.inr (.inr rfl)))
            have HB7W := Lib.hid hb7
            have HZ7 := Lib.hid hz7
            clear hU k7 s7
            refine wpIn_rangeFunc_ownG rfl (by omega) (gf := 147) (lb := #[.pointer (some ⟨W.heap.size + 1, 0, none⟩), .pointer (some ⟨W.heap.size, 0, none⟩)]) rfl trivial (enters_of Try.func147 (by kernel_rfl) rfl) hseq (fun h1 h2 => h1.trans h2) (fun W l o o' hl _ _ _ q hq => World.putObj_heap_other (by rcases hq with rfl | rfl | rfl <;> omega)) (Below.refl _ _) (fun _ => rfl)
              (ShJ C X SB G wr.heap.size w.heap.size sl sh (some ⟨b, off, none⟩) n cap cp J s2 g2 gr w W7 (pth P kk)) (fun _ _ _ => False) (ShJ.own _ _ _ _ _ _ _ _ _ _ _ _ _ _ _ _ _ _ _ (by have := HB5.out.size; omega)) (fun _ _ _ _ _ hs _ _ => hs) hJ0 (fun x => { tmps := #[.agg #[.int .i64 sl, .int .i64 sh, .slice (some ⟨b, off, none⟩) n cap], .slice (some ⟨qb, qo, none⟩) n qc, .slice (some ⟨ob, oo, none⟩) n oc, .pointer (some ⟨C, 0, none⟩), undef, undef, .slice none 0 0, .pointer (some ⟨X, 0, none⟩), undef, u9, .slice (some ⟨G, 0, none⟩) n n, undef, .int .i64 (kk : Int), .pointer (some ⟨wr.heap.size, 0, none⟩), undef, .int .i64 (x.1 : Int), .pointer (some ⟨C, 2, none⟩), .slice (some ⟨b, off, none⟩) n cap, .int .i64 (n : Int), .int .i64 (n : Int), .bool false, u21, u22, u23, u24, u25, u26, u27, u28, .slice (some ⟨qb, qo, none⟩) n qc, .int .i64 (n : Int), .slice (some ⟨G, 0, none⟩) n n, .slice (some ⟨ob, oo, none⟩) n oc, .int .i64 (n : Int), .int .i64 (i : Int), .bool true, .pointer (some ⟨ob, oo + i, none⟩), .int .i64 (kk : Int), .slice (some ⟨qb, qo, none⟩) n qc, .int .i64 (kk : Int), .pointer (some ⟨qb, qo + kk, none⟩), .int .i64 (rq kk), .agg #[.int .i64 sl, .int .i64 sh, .slice (some ⟨b, off, none⟩) n cap], .int .i64 (kk : Int), .func (.func 147) #[] #[.pointer (some ⟨wr.heap.size + 1 + 1, 0, none⟩), .pointer (some ⟨wr.heap.size + 1, 0, none⟩)], undef, undef, undef, undef, undef, undef, undef, .agg #[.int .i64 sl, .int .i64 sh, .slice (some ⟨b, off, none⟩) n cap], .int .i64 (kk : Int), .func (.func 147) #[] #[.pointer (some ⟨W.heap.size + 1, 0, none⟩), .pointer (some ⟨W.heap.size, 0, none⟩)], .int .i64 (x.1 : Int), undef, undef, undef, undef, undef, undef, undef, v63, v64, v65, v66, v67, undef], defers := [] }) ?assign ?body ?done ?stop
            case assign =>
              intro l x W K hK
              gi_wp2
              exact hK
            case stop =>
              rintro D c pre W _ _ hf
              exact hf.elim
            case body =>
              rintro l pre ⟨x, hx⟩ Z ⟨hcu, hV, hm, hB5, hzW⟩ hpl
              have hxn := HXN.out kk hkk x hx
              have u0 := hcu.2.2.1.cell (j := x) (by have := HCP'.out; omega)
              rw [rmC_lt hxn] at u0
              have uf := hcu.2.2.1.froz x
              have x0 := cellHB hcu.2.1 0
              rw [HG4.out] at hV
              have v0 := cellHB hV 0
              have hxi : (x : Int) < (n : Int) := by omega
              have HSNC := Lib.hid (show s2 ((pre ++ [(⟨x, hx⟩ : {x // x ∈ pth P kk})]).map (·.1)) = (fun j => if j = x then s2 (pre.map (·.1)) x - gg else s2 (pre.map (·.1)) j) by rw [List.map_append]; exact HT2.out _ _)
              have hbd := HT4.out (pre.map (·.1)) x (by simpa using hpl)
              have hgd := HGG.out
              have HCU := Lib.hid hcu
              have HV := Lib.hid hV
              have HM := Lib.hid hm
              have HB6 := Lib.hid hB5
              clear hcu hV hm hB5 hseq hJ0 hz7 hb7
              generalize hp0 : s2 (pre.map (·.1)) x = p0 at *
              have HP0 := Lib.hid hp0
              clear hp0
              have hVS : wr.heap.size ≠ SB := by omega
              have hXS : X ≠ SB := by have := HLW.out; omega
              have hCS : C ≠ SB := by have := HLW.out; omega
              have hGS : G ≠ SB := by have := HLW.out; omega
              have hwr : IntKind.i64.wrap (p0 - gg) = p0 - gg := wrap64_id (by omega)
              clear hbd hgd
              gi_wp2
              refine wpIn_round_held (S := fun w' => w'.cell? ⟨X, 0, none⟩ = some (Value.slice (some ⟨SB, 0, none⟩) n cp) ∧ w'.cell? ⟨wr.heap.size, 0, none⟩ = some (Value.int .i64 gg)) (by kernel_rfl) (by kernel_rfl) (by rintro ⟨_, _, q⟩; exact q) ⟨by simpa [go_sem] using x0, by simpa [go_sem] using v0⟩ (fun hHeld => ?_)
              refine wpAnyH_take (i := 0) (oi := _) (v := Value.slice (some ⟨SB, 0, none⟩) n cp) rfl (by kernel_rfl) (by kernel_rfl) (by kernel_rfl) (fun _ _ _ h => h) (Or.inl ⟨by rfl, fun w' hSw => ?_⟩) hHeld ?_
              · obtain ⟨t0, t1⟩ := hSw
                go_simp
                try simp [*]
                try (intro hh; exfalso; omega)
                try omega
              try simp only [Act.put, List.setIfInBounds_toArray, List.set_cons_zero, List.set_cons_succ, List.getElem_toArray, List.getElem_cons_succ, List.getElem_cons_zero]
              refine wpAnyH_take (i := 1) (oi := _) (v := Value.int .i64 (x : Int)) rfl (by kernel_rfl) (by kernel_rfl) (by kernel_rfl) (fun _ _ _ h => h) (Or.inl ⟨by rfl, fun w' hSw => ?_⟩) hHeld ?_
              · obtain ⟨t0, t1⟩ := hSw
                go_simp
                try simp [*]
                try (intro hh; exfalso; omega)
                try omega
              try simp only [Act.put, List.setIfInBounds_toArray, List.set_cons_zero, List.set_cons_succ, List.getElem_toArray, List.getElem_cons_succ, List.getElem_cons_zero]
              refine wpAnyH_take (i := 2) (oi := _) (v := Value.pointer (some ⟨SB, x, none⟩)) rfl (by kernel_rfl) (by kernel_rfl) (by kernel_rfl) (fun _ _ _ h => h) (Or.inl ⟨by rfl, fun w' hSw => ?_⟩) hHeld ?_
              · obtain ⟨t0, t1⟩ := hSw
                go_simp
                try simp [*]
                try (intro hh; exfalso; omega)
                try omega
              try simp only [Act.put, List.setIfInBounds_toArray, List.set_cons_zero, List.set_cons_succ, List.getElem_toArray, List.getElem_cons_succ, List.getElem_cons_zero]
              refine wpAnyH_take (i := 4) (oi := _) (v := Value.int .i64 gg) rfl (by kernel_rfl) (by kernel_rfl) (by kernel_rfl) (fun _ _ _ h => h) (Or.inl ⟨by rfl, fun w' hSw => ?_⟩) hHeld ?_
              · obtain ⟨t0, t1⟩ := hSw
                go_simp
                try simp [*]
                try (intro hh; exfalso; omega)
                try omega
              try simp only [Act.put, List.setIfInBounds_toArray, List.set_cons_zero, List.set_cons_succ, List.getElem_toArray, List.getElem_cons_succ, List.getElem_cons_zero]
              refine wpAnyH_ready (rs := [3]) (by kernel_rfl) (by simp) ?_
              refine AllReadyH.cons (o := _) rfl (fun K hK => ?_) AllReadyH.nil
              go_simp
              clear hHeld
              refine hK.out _ _ ⟨by simpa [go_sem] using x0, by simpa [go_sem] using v0⟩ (fun hHeld => ?_)
              clear hK K
              try simp only [Act.put, List.setIfInBounds_toArray, List.set_cons_zero, List.set_cons_succ, List.getElem_toArray, List.getElem_cons_succ, List.getElem_cons_zero]
              refine wpAnyH_take (i := 5) (oi := _) (v := Value.int .i64 (p0 - gg)) rfl (by kernel_rfl) (by kernel_rfl) (by kernel_rfl) (fun _ _ _ h => h) (Or.inl ⟨by rfl, fun w' hSw => ?_⟩) hHeld ?_
              · obtain ⟨t0, t1⟩ := hSw
                go_simp
                try simp [*]
                try (intro hh; exfalso; omega)
                try omega
              try simp only [Act.put, List.setIfInBounds_toArray, List.set_cons_zero, List.set_cons_succ, List.getElem_toArray, List.getElem_cons_succ, List.getElem_cons_zero]
              refine wpAnyH_take (i := 6) (oi := _) (v := Value.pointer (some ⟨SB, x, none⟩)) rfl (by kernel_rfl) (by kernel_rfl) (by kernel_rfl) (fun _ _ _ h => h) (Or.inl ⟨by rfl, fun w' hSw => ?_⟩) hHeld ?_
              · obtain ⟨t0, t1⟩ := hSw
                go_simp
                try simp [*]
                try (intro hh; exfalso; omega)
                try omega
              try simp only [Act.put, List.setIfInBounds_toArray, List.set_cons_zero, List.set_cons_succ, List.getElem_toArray, List.getElem_cons_succ, List.getElem_cons_zero]
              refine wpAnyH_ready (rs := [7]) (by kernel_rfl) (by simp) ?_
              refine AllReadyH.cons (o := _) rfl (fun K hK => ?_) AllReadyH.nil
              go_simp
              clear hHeld
              refine hK.out _ _ ⟨by simp [go_sem, *], by simp [go_sem, *]⟩ (fun hHeld => ?_)
              clear hK K
              try simp only [Act.put, List.setIfInBounds_toArray, List.set_cons_zero, List.set_cons_succ, List.getElem_toArray, List.getElem_cons_succ, List.getElem_cons_zero]
              refine wpAnyH_done (by kernel_rfl) ?_ _
              clear hHeld
              gi_wp2
              have hko : KeepsOthers Z Z.drew := ⟨Nat.le_refl _, fun k o hk ho => hk⟩
              have hfar : ∀ q, q ≠ SB → (Z.drew.setCell ⟨SB, x, none⟩ (.int .i64 (p0 - gg))).heap[q]? = Z.heap[q]? := fun q hne => Below.heap_setCell _ _ _ _ hne
              refine ⟨(hko.trans (KeepsOthers.setCell _ _ _)).from _, fun q hq => hfar q (by have := HZ7.out; have := HLW.out; rcases hq with rfl | rfl | rfl <;> omega), ⟨(hfar C hCS).trans HCU.out.1, (hfar X hXS).trans HCU.out.2.1, ?_, HCU.out.2.2.2.same (hfar G hGS)⟩, ?_, fun D hD => ?_, ?_, ?_⟩
              · rw [HSNC.out]
                have q := rmC_set (W := Z.drew) HCU.out.2.2.1 x hxn (p0 - gg)
                exact q
              · rw [HG4.out]
                exact (hfar _ hVS).trans HV.out
              · have q := HM.out D hD
                refine (hfar D ?_).trans q
                rintro rfl
                obtain ⟨cur, hg, _⟩ := HCU.out.2.2.1
                rw [hg] at q
                cases q
              · exact Below.setCell (p := ⟨SB, x, none⟩) (HB6.out.drew) (by show w.heap.size ≤ SB; have := HLW.out; omega) _
              · simp; omega
            case done =>
              rintro D2 ys Z hD2 hys ⟨hcu, hV, hm, hB5, hzZ⟩ hK2
              subst hys
              rw [List.attach_map_subtype_val, HT3.out] at hcu
              rw [HG4.out] at hV
              have HM2 : Hid (Marks w2.heap.size Z ({ target := .collected D2, args := #[] } :: { target := .collected D, args := #[] } :: ds)) := Lib.hid ⟨⟨D2, by omega, rfl, hK2, HMM.out.fresh (by omega)⟩, HMM.out.keep (fun d _ D' _ hD' => hm D' ((HB7W.out.block D' (Array.getElem?_eq_some_iff.1 hD').1).trans hD'))⟩
              have v0 := cellHB hV 0
              have g0 := hcu.2.2.2.cell (j := kk) hkk
              have gf0 := hcu.2.2.2.froz kk
              have hGl := hcu.2.2.2.lt
              have HCU2 := Lib.hid hcu
              have HB6 := Lib.hid hB5
              have HZS := Lib.hid (show w2.heap.size ≤ Z.heap.size by omega)
              have hki : (kk : Int) < (n : Int) := by omega
              clear hcu hV hm hB5 hK2 hseq hJ0 hb7 hz7 hzZ hD2
              gi_wp2
              refine ⟨?_, ?_⟩
              · rw [HINV.out]
                have hCG : C ≠ G := by have := HLW.out; omega
                have hXG : X ≠ G := by have := HLW.out; omega
                have hSG : SB ≠ G := by have := HLW.out; omega
                refine ⟨i + 1, _, _, _, _, _, _, _, _, _, _, _, _, _, _, _, _, _, _, _, _, _, by omega, rfl, ⟨(Below.heap_setCell _ _ _ _ hCG).trans HCU2.out.1, (Below.heap_setCell _ _ _ _ hXG).trans HCU2.out.2.1, HCU2.out.2.2.1.far hSG, ?_⟩, ?_, ?_, ?_⟩
                · rw [HNX.out.2]
                  refine (HCU2.out.2.2.2.set kk (.int .i64 gg)).ext fun j hj => ?_
                  by_cases h : j = kk
                  · simp [h]
                  · simp [h]
                · refine HM2.out.keep fun d _ D' _ hD' => (Below.heap_setCell _ _ _ _ ?_).trans hD'
                  rintro rfl
                  obtain ⟨cur, hg, _⟩ := HCU2.out.2.2.2
                  rw [hg] at hD'
                  cases hD'
                · exact HB6.out.setCell (p := ⟨G, kk, none⟩) (by show w.heap.size ≤ G; have := HLW.out; omega) _
                · have := HZS.out; simp; omega
              · rw [HMU.out]
                simp [intOf]; omega
        · obtain rfl : n = i := by omega
          clear hI
          gi_wp2
          refine leaves_marks w2.heap.size ds _ (by simpa using hsz) HMk.out (fun W' hb hk => ⟨_, results_tmp rfl _ _ _, G, rfl, ?_, ?_, ?_⟩)
          · obtain ⟨cur, hg, hr⟩ := HI.out.2.2.2
            exact ⟨cur, hk G _ hg rfl, hr⟩
          · have := HSBX.out
            have := HGZ.out
            omega
          · exact HB.out.trans (hb.mono (by have := HGZ.out; have := HSBX.out; omega))
end Go.Proofs.Ytdohfpnnmppdkaa

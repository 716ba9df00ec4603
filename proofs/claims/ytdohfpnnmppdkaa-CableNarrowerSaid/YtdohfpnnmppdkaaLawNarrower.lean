/-
  Cables: with narrower spans.
-/
import Derived.Test.YtdohfpnnmppdkaaNaB
import Derived.Test.YtdohfpnnmppdkaaCcD
import Derived.Test.YtdohfpnnmppdkaaCbR
import Derived.Test.YtdohfpnnmppdkaaCbQ
import Derived.Deep.CutRange
namespace Go.Proofs.Ytdohfpnnmppdkaa
open Go.RowKit Go.Shelf
set_option linter.unusedSimpArgs false
attribute [local go_sem] Oper.semAt_some
theorem cur_sv {sl sh : Int} {sv : Value} {ns : List Nd} (hv : ValidC sl sh ns) (w : World) (hN : Nds w.heap.size w sv ns) :
    Calls Try.prog 28 #[.agg #[.int .i64 sl, .int .i64 sh, sv]] w fun e w' => ∃ v, e = .returned (.tuple #[v, .int .i64 0]) ∧ Sv w'.heap.size w' v ns.length (fun j => (curL ns j, curH ns j)) ∧ Below w.heap.size w w' := by
  refine (cur28_all sl sh sv ns w hN).mono fun e w' h => ?_
  obtain ⟨v, he, hs, hb⟩ := h
  rw [hv.err] at he
  rw [if_pos hv.err] at hs
  exact ⟨v, he, hs, hb⟩
theorem vol_sv {sl sh : Int} {sv : Value} {ns : List Nd} (hv : ValidC sl sh ns) (w : World) (hN : Nds w.heap.size w sv ns) :
    Calls Try.prog 30 #[.agg #[.int .i64 sl, .int .i64 sh, sv]] w fun e w' => ∃ v, e = .returned (.tuple #[v, .int .i64 0]) ∧ Sv w'.heap.size w' v ns.length (vol sl sh ns) ∧ Below w.heap.size w w' := by
  refine (vol30_all sl sh sv ns w hN).mono fun e w' h => ?_
  obtain ⟨v, he, hs, hb⟩ := h
  rw [hv.err] at he
  rw [if_pos hv.err] at hs
  exact ⟨v, he, hs, hb⟩
theorem wit_il {sl sh : Int} {sv : Value} {ns : List Nd} (hv : ValidC sl sh ns) (w : World) (hN : Nds w.heap.size w sv ns) :
    Calls Try.prog 33 #[.agg #[.int .i64 sl, .int .i64 sh, sv]] w fun e w' => ∃ v, e = .returned (.tuple #[v, .int .i64 0]) ∧ Il w'.heap.size w' v (fL (ansW ns) ns.length) ∧ Below w.heap.size w w' := by
  refine (within_all sl sh sv ns w hN).mono fun e w' h => ?_
  obtain ⟨v, he, hs, hb⟩ := h
  rw [hv.err] at he
  rw [if_pos hv.err] at hs
  exact ⟨v, he, hs, hb⟩
theorem fed_il {sl sh : Int} {sv : Value} {ns : List Nd} (hv : ValidC sl sh ns) (w : World) (hN : Nds w.heap.size w sv ns) :
    Calls Try.prog 35 #[.agg #[.int .i64 sl, .int .i64 sh, sv]] w fun e w' => ∃ v, e = .returned (.tuple #[v, .int .i64 0]) ∧ Il w'.heap.size w' v (fL (ansF sl sh ns) ns.length) ∧ Below w.heap.size w w' := by
  refine (fed_all sl sh sv ns w hN).mono fun e w' h => ?_
  obtain ⟨v, he, hs, hb⟩ := h
  rw [hv.err] at he
  rw [if_pos hv.err] at hs
  exact ⟨v, he, hs, hb⟩
theorem il_at {n₀ : Nat} {W : World} {a : Option Addr} {n c : Nat} {f : Nat → Int} (h : Il n₀ W (.slice a n c) (fL f n)) {k : Nat} (hk : k < n) : ∃ b off, a = some ⟨b, off, none⟩ ∧ b < n₀ ∧ W.cell? ⟨b, off + k, none⟩ = some (.int .i64 (f k)) := by
  obtain ⟨a', c', e, -, h3⟩ := h
  simp only [Value.slice.injEq] at e
  obtain ⟨rfl, -, -⟩ := e
  obtain ⟨b, off, h1, h2, c0⟩ := h3 k (by rw [fL_len]; exact hk)
  exact ⟨b, off, h1, h2, by rw [c0, fL_ti f hk]⟩
theorem set3a {W : World} {b : Nat} {x y z : Value} {t : TypeId} (h : W.heap[b]? = some (.cells #[x, y, z] t (0, 0))) (u v : Value) : ((W.setCell ⟨b, 0, none⟩ u).setCell ⟨b, 1, none⟩ v).heap[b]? = some (.cells #[u, v, z] t (0, 0)) := by
  simp [World.setCell, Array.getElem?_modify, h]
theorem set3b {W : World} {b : Nat} {x y z : Value} {t : TypeId} (h : W.heap[b]? = some (.cells #[x, y, z] t (0, 0))) (u : Value) : (W.setCell ⟨b, 2, none⟩ u).heap[b]? = some (.cells #[x, y, u] t (0, 0)) := by
  simp [World.setCell, Array.getElem?_modify, h]
set_option maxRecDepth 100000 in
set_option maxHeartbeats 64000000 in
theorem narrower_any (sl sh : Int) (sv pv : Value) (ns : List Nd) (ps : List Int) (w : World) (hN : Nds w.heap.size w sv ns) (hP : Sk .u8 w.heap.size w pv ps) :
    Calls Try.prog 8 #[.agg #[.int .i64 sl, .int .i64 sh, sv], pv] w fun e w' => e = .returned (.bool true) ∧ Below w.heap.size w w' := by
  obtain ⟨i0, hi0, hz0, hz1, hz2⟩ := info_parts infoI62
  have c1 := Lib.hid (fun W (h : Below w.heap.size w W) => valid_any sl sh sv ns W (hN.at h))
  have HV := Lib.hid (fun (h : valB sl sh ns = true) => valB_ok h)
  have hbyt := hP.byt
  have cA := Lib.hid (fun (i : Nat) W (h : Below w.heap.size w W) => at_any pv ps i W (hP.at h))
  have HAB := Lib.hid (fun (i : Nat) => atV_in hbyt i)
  have c28 := Lib.hid (fun (hv : ValidC sl sh ns) W (h : Below w.heap.size w W) => cur_sv hv W (hN.at h))
  have c30 := Lib.hid (fun (hv : ValidC sl sh ns) W (h : Below w.heap.size w W) => vol_sv hv W (hN.at h))
  have c33 := Lib.hid (fun (hv : ValidC sl sh ns) W (h : Below w.heap.size w W) => wit_il hv W (hN.at h))
  have c35 := Lib.hid (fun (hv : ValidC sl sh ns) W (h : Below w.heap.size w W) => fed_il hv W (hN.at h))
  have hNN := hN
  obtain ⟨a, cap, hsv, -, hcc⟩ := hN
  obtain ⟨pa, pc, rfl⟩ := hP.form
  subst hsv
  generalize hVB : valB sl sh ns = VB at *
  cases VB
  · clear HV cA HAB c28 c30 c33 c35 hcc hbyt hNN hP hVB
    generalize ns.length = n at *
    generalize ps.length = pn at *
    obtain ⟨A, hA⟩ : ∃ A, A = w.alloc (.cells #[.int .i64 sl, .int .i64 sh, .slice a n cap] 26) := ⟨_, rfl⟩
    have HBA := Lib.hid (show Below w.heap.size w A by rw [hA]; exact ((Below.refl _ _).alloc (Nat.le_refl _) _))
    have hltA : w.heap.size + 1 ≤ A.heap.size := by rw [hA]; simp
    have q0 : A.cell? ⟨w.heap.size, 0, none⟩ = some (.int .i64 sl) := by rw [hA]; exact (cellHB (World.alloc_heap_new w _) 0).trans (by simp)
    have q1 : A.cell? ⟨w.heap.size, 1, none⟩ = some (.int .i64 sh) := by rw [hA]; exact (cellHB (World.alloc_heap_new w _) 1).trans (by simp)
    have q2 : A.cell? ⟨w.heap.size, 2, none⟩ = some (.slice a n cap) := by rw [hA]; exact (cellHB (World.alloc_heap_new w _) 2).trans (by simp)
    have KK := Lib.hid (show ∀ W, Below A.heap.size A W → W.cell? ⟨w.heap.size, 0, none⟩ = some (.int .i64 sl) ∧ W.cell? ⟨w.heap.size, 1, none⟩ = some (.int .i64 sh) ∧ W.cell? ⟨w.heap.size, 2, none⟩ = some (.slice a n cap) from fun W h => ⟨(h.cell (p := ⟨w.heap.size, 0, none⟩) (by show w.heap.size < A.heap.size; omega)).trans q0, (h.cell (p := ⟨w.heap.size, 1, none⟩) (by show w.heap.size < A.heap.size; omega)).trans q1, (h.cell (p := ⟨w.heap.size, 2, none⟩) (by show w.heap.size < A.heap.size; omega)).trans q2⟩)
    have HLT := Lib.hid hltA
    clear hltA q0 q1 q2
    obtain ⟨k0, k1, k2⟩ := KK.out _ (Below.refl _ _)
    go_enter Try.func8, Try.ntmps8
    go_upto_region 1 with fail
    rw [← hA]
    clear hA
    go_wp2_with fail
    refine (c1.out _ HBA.out).mono ?_
    rintro e w1 ⟨rfl, hb⟩
    have HB1 := Lib.hid hb
    clear hb k0 k1 k2
    obtain ⟨k0, k1, k2⟩ := KK.out _ HB1.out
    go_wp2_with fail
    refine (fine_any _).mono ?_
    rintro e w2 ⟨rfl, hb⟩
    have HB2 := Lib.hid (HB1.out.trans (hb.mono HB1.out.size))
    clear hb k0 k1 k2
    obtain ⟨k0, k1, k2⟩ := KK.out _ HB2.out
    go_wp2_with fail
    go_ret
    exact ⟨rfl, HBA.out.trans (HB2.out.mono HBA.out.size)⟩
  obtain ⟨hv, hn20⟩ := HV.out rfl
  have hn0 := hv.pos
  obtain ⟨nb, off, rfl, hnb, -⟩ := hcc 0 hn0
  have HC := Lib.hid (show ∀ W k, Below w.heap.size w W → k < ns.length → (W.cell? ⟨nb, off + k * 8 + 4, none⟩ = some (.int .i64 (nd ns k).ll) ∧ W.cell? ⟨nb, off + k * 8 + 5, none⟩ = some (.int .i64 (nd ns k).lh)) ∧ W.cell? ⟨nb, off + k * 8 + 1, none⟩ = some (.int .i64 (nd ns k).ol) ∧ W.cell? ⟨nb, off + k * 8 + 2, none⟩ = some (.int .i64 (nd ns k).oh) from fun W k hb hk => by
    obtain ⟨b, o, h1, h2, e0, e1, e2, e3, e4, e5, e6, e7⟩ := hcc k hk
    simp only [Option.some.injEq, Addr.mk.injEq] at h1
    obtain ⟨rfl, rfl, -⟩ := h1
    exact ⟨⟨(hb.cell (p := ⟨_, _, none⟩) h2).trans e4, (hb.cell (p := ⟨_, _, none⟩) h2).trans e5⟩, (hb.cell (p := ⟨_, _, none⟩) h2).trans e1, (hb.cell (p := ⟨_, _, none⟩) h2).trans e2⟩)
  have HCELL := Lib.hid (show ∀ W, Below w.heap.size w W → ∀ j u, ((List.range (ns.length * 8)).map (ndc (nd ns)))[j]? = some u → W.cell? ((⟨nb, off, none⟩ : Addr).add j) = some u from fun W h j u hu => by
    have hj : j < ns.length * 8 := by
      by_cases hj : j < ns.length * 8
      · exact hj
      · rw [List.getElem?_eq_none (by simpa using hj)] at hu; cases hu
    have q := nds_cells (hNN.at h) hj
    have e : ((⟨nb, off, none⟩ : Addr).add j) = ⟨nb, off + j, none⟩ := by simp [Addr.add]
    rw [e, q]
    simpa [hj] using hu)
  have HONE := Lib.hid (show ∀ u, u ∈ (List.range (ns.length * 8)).map (ndc (nd ns)) → u.oneCell' = true from fun u hu => by
    obtain ⟨j, _, rfl⟩ := List.mem_map.1 hu
    unfold ndc
    (repeat' split) <;> rfl)
  have HLEN := Lib.hid (show ((List.range (ns.length * 8)).map (ndc (nd ns))).length = ns.length * 8 by simp)
  have HSUP := hv.sup
  have HND := Lib.hid (fun k (hk : k < ns.length) => show (0 ≤ (nd ns k).ll ∧ (nd ns k).ll ≤ (nd ns k).lh ∧ (nd ns k).lh ≤ 4294967296) ∧ 0 ≤ (nd ns k).ol ∧ (nd ns k).ol ≤ (nd ns k).oh ∧ (nd ns k).oh ≤ 4294967296 by
    have q := hv.all.node hk
    have q1 := q.1
    have q2 := q.2.2.1
    omega)
  have HML := Lib.hid (fun k x => mid_load ns ps k x)
  have HMO := Lib.hid (fun k x => mid_ohms ns ps k x)
  have HM0 := Lib.hid (show ∀ j, midF ns ps 0 j = nd ns j from fun j => if_neg (by omega))
  have hnar := narL_nar hv.all hbyt
  obtain ⟨p1, p2, p3⟩ := pick_two hv.sup.1 (HAB.out 0) (HAB.out 1)
  have hvd := hnar.valid hv p1 p2 p3
  have HDS := Lib.hid (fun W G cp (hc : ns.length ≤ cp) (h : NdR W G ns.length cp (midF ns ps ns.length)) => show Nds W.heap.size W (.slice (some ⟨G, 0, none⟩) ns.length cp) (narL ns ps) by
    have q := nds_of_ndr (ns := narL ns ps) (f := midF ns ps ns.length) (by rw [narL_len]; exact h) (by rw [narL_len]; exact hc) (fun k hk => by
      rw [narL_len] at hk
      rw [narL_nd hk]
      exact if_pos hk)
    rw [narL_len] at q
    exact q)
  obtain ⟨fc, hfc⟩ : ∃ f : Nat → Int × Int, f = (fun j => (curL ns j, curH ns j)) := ⟨_, rfl⟩
  obtain ⟨fd, hfd⟩ : ∃ f : Nat → Int × Int, f = (fun j => (curL (narL ns ps) j, curH (narL ns ps) j)) := ⟨_, rfl⟩
  have HFC := Lib.hid (show ∀ k, k < ns.length → (fc k).1 ≤ (fd k).1 ∧ (fd k).1 ≤ (fd k).2 ∧ (fd k).2 ≤ (fc k).2 from fun k hk => by
    rw [hfc, hfd]
    obtain ⟨q1, q2⟩ := hnar.cur k
    have q3 := (drop_bd hvd (k := k) (by rw [narL_len]; exact hk)).2.2.1
    exact ⟨q1, q3, q2⟩)
  have HFV := Lib.hid (show ∀ k, k < ns.length → (vol sl sh ns k).1 ≤ (vol (pickV sl sh (min (atV ps 0) (atV ps 1))) (pickV sl sh (max (atV ps 0) (atV ps 1))) (narL ns ps) k).1 ∧ (vol (pickV sl sh (min (atV ps 0) (atV ps 1))) (pickV sl sh (max (atV ps 0) (atV ps 1))) (narL ns ps) k).1 ≤ (vol (pickV sl sh (min (atV ps 0) (atV ps 1))) (pickV sl sh (max (atV ps 0) (atV ps 1))) (narL ns ps) k).2 ∧ (vol (pickV sl sh (min (atV ps 0) (atV ps 1))) (pickV sl sh (max (atV ps 0) (atV ps 1))) (narL ns ps) k).2 ≤ (vol sl sh ns k).2 from fun k hk => by
    obtain ⟨q1, q2⟩ := hnar.vol hv hvd p1 p3 k hk
    have q3 := (vol_in hvd (k := k) (by rw [narL_len]; exact hk)).2.1
    exact ⟨q1, q3, q2⟩)
  have HAW := Lib.hid (fun k (hk : k < ns.length) (h : ansW ns k ≠ 1) => hnar.ansW hv.all hv.len hk h)
  have HAF := Lib.hid (fun k (hk : k < ns.length) (h : ansF sl sh ns k ≠ 1) => hnar.ansF hv hvd p1 p3 hk h)
  have d28 := Lib.hid (fun W dv (h : Nds W.heap.size W dv (narL ns ps)) => cur_sv hvd W h)
  have d30 := Lib.hid (fun W dv (h : Nds W.heap.size W dv (narL ns ps)) => vol_sv hvd W h)
  have d33 := Lib.hid (fun W dv (h : Nds W.heap.size W dv (narL ns ps)) => wit_il hvd W h)
  have d35 := Lib.hid (fun W dv (h : Nds W.heap.size W dv (narL ns ps)) => fed_il hvd W h)
  rw [narL_len] at d28 d30 d33 d35
  have e28 := Lib.hid (c28.out hv)
  have e30 := Lib.hid (c30.out hv)
  have e33 := Lib.hid (c33.out hv)
  have e35 := Lib.hid (c35.out hv)
  have cN0 := Lib.hid (fun W => narrow_any sl sh (atV ps 0) (atV ps 1) HSUP.2.1 HSUP.1 (by omega) (HAB.out 0) (HAB.out 1) W)
  have cA0 := Lib.hid (fun W (h : Below w.heap.size w W) => show Calls Try.prog 52 #[.slice pa ps.length pc, .int .i64 0] W fun e w' => e = .returned (.int .u8 (atV ps 0)) ∧ w' = W from cA.out 0 W h)
  have cA1 := Lib.hid (fun W (h : Below w.heap.size w W) => show Calls Try.prog 52 #[.slice pa ps.length pc, .int .i64 1] W fun e w' => e = .returned (.int .u8 (atV ps 1)) ∧ w' = W from cA.out 1 W h)
  have cK := Lib.hid (fun (k i : Nat) W (h : Below w.heap.size w W) => show Calls Try.prog 52 #[.slice pa ps.length pc, .int .i64 (4 * (k : Int) + (i : Int))] W fun e w' => e = .returned (.int .u8 (atV ps (4 * k + i))) ∧ w' = W by
    have q := cA.out (4 * k + i) W h
    rw [show ((4 * k + i : Nat) : Int) = 4 * (k : Int) + (i : Int) by omega] at q
    exact q)
  have cNL := Lib.hid (fun k (hk : k < ns.length) W => show Calls Try.prog 53 #[.agg #[.int .i64 (nd ns k).ll, .int .i64 (nd ns k).lh], .int .u8 (atV ps (4 * k + 2)), .int .u8 (atV ps (4 * k + 3))] W fun e w' => e = .returned (.agg #[.int .i64 (narN ns ps k).ll, .int .i64 (narN ns ps k).lh]) ∧ Below W.heap.size W w' from narrow_any _ _ _ _ (HND.out k hk).1.1 (HND.out k hk).1.2.1 (HND.out k hk).1.2.2 (HAB.out _) (HAB.out _) W)
  have cNO := Lib.hid (fun k (hk : k < ns.length) W => show Calls Try.prog 53 #[.agg #[.int .i64 (nd ns k).ol, .int .i64 (nd ns k).oh], .int .u8 (atV ps (4 * k + 4)), .int .u8 (atV ps (4 * k + 5))] W fun e w' => e = .returned (.agg #[.int .i64 (narN ns ps k).ol, .int .i64 (narN ns ps k).oh]) ∧ Below W.heap.size W w' from narrow_any _ _ _ _ (HND.out k hk).2.1 (HND.out k hk).2.2.1 (HND.out k hk).2.2.2 (HAB.out _) (HAB.out _) W)
  have HCN := Lib.hid (show ns.length ≤ 20 from hn20)
  clear HV c28 c30 c33 c35 hcc hbyt hNN hP hVB hv hvd hnar p1 p2 p3 cA HSUP HND HAB
  rw [← hfc] at e28
  rw [← hfd] at d28
  clear hfc hfd
  generalize vol sl sh ns = vc at *
  generalize vol (pickV sl sh (min (atV ps 0) (atV ps 1))) (pickV sl sh (max (atV ps 0) (atV ps 1))) (narL ns ps) = vd at *
  generalize ansW ns = wc' at *
  generalize ansW (narL ns ps) = wd' at *
  generalize ansF sl sh ns = xc' at *
  generalize ansF (pickV sl sh (min (atV ps 0) (atV ps 1))) (pickV sl sh (max (atV ps 0) (atV ps 1))) (narL ns ps) = xd' at *
  generalize pickV sl sh (min (atV ps 0) (atV ps 1)) = tl at *
  generalize pickV sl sh (max (atV ps 0) (atV ps 1)) = th at *
  have HROW := Lib.hid (fun (W : World) base v (h : W.ownsRow base 62 8 v ns.length ((List.range (ns.length * 8)).map (ndc (nd ns)))) => show ∃ G cp, v = .slice (some ⟨G, 0, none⟩) ns.length cp ∧ base ≤ G ∧ ns.length ≤ cp ∧ NdR W G ns.length cp (midF ns ps 0) from by
    obtain ⟨g, cp, h1, h2, h3, h4⟩ := ndr_of_own hn0 h
    rw [show midF ns ps 0 = nd ns from funext fun j => HM0.out j]
    exact ⟨g, cp, h1, h2, h3, h4⟩)
  generalize (List.range (ns.length * 8)).map (ndc (nd ns)) = NW at *
  have hn20' : ns.length ≤ 60 := by omega
  clear HM0
  generalize hnn : ns.length = n at *
  generalize ps.length = pn at *
  clear hnn
  obtain ⟨A, hA⟩ : ∃ A, A = w.alloc (.cells #[.int .i64 sl, .int .i64 sh, .slice (some ⟨nb, off, none⟩) n cap] 26) := ⟨_, rfl⟩
  have HBA := Lib.hid (show Below w.heap.size w A by rw [hA]; exact ((Below.refl _ _).alloc (Nat.le_refl _) _))
  have hltA : w.heap.size + 1 ≤ A.heap.size := by rw [hA]; simp
  have q0 : A.cell? ⟨w.heap.size, 0, none⟩ = some (.int .i64 sl) := by rw [hA]; exact (cellHB (World.alloc_heap_new w _) 0).trans (by simp)
  have q1 : A.cell? ⟨w.heap.size, 1, none⟩ = some (.int .i64 sh) := by rw [hA]; exact (cellHB (World.alloc_heap_new w _) 1).trans (by simp)
  have q2 : A.cell? ⟨w.heap.size, 2, none⟩ = some (.slice (some ⟨nb, off, none⟩) n cap) := by rw [hA]; exact (cellHB (World.alloc_heap_new w _) 2).trans (by simp)
  have KK := Lib.hid (show ∀ W, Below A.heap.size A W → W.cell? ⟨w.heap.size, 0, none⟩ = some (.int .i64 sl) ∧ W.cell? ⟨w.heap.size, 1, none⟩ = some (.int .i64 sh) ∧ W.cell? ⟨w.heap.size, 2, none⟩ = some (.slice (some ⟨nb, off, none⟩) n cap) from fun W h => ⟨(h.cell (p := ⟨w.heap.size, 0, none⟩) (by show w.heap.size < A.heap.size; omega)).trans q0, (h.cell (p := ⟨w.heap.size, 1, none⟩) (by show w.heap.size < A.heap.size; omega)).trans q1, (h.cell (p := ⟨w.heap.size, 2, none⟩) (by show w.heap.size < A.heap.size; omega)).trans q2⟩)
  have HLT := Lib.hid hltA
  clear hltA q0 q1 q2
  obtain ⟨k0, k1, k2⟩ := KK.out _ (Below.refl _ _)
  go_enter Try.func8, Try.ntmps8
  go_upto_region 1 with fail
  rw [← hA]
  clear hA
  go_wp2_with fail
  refine (c1.out _ HBA.out).mono ?_
  rintro e w1 ⟨rfl, hb⟩
  have HB1 := Lib.hid hb
  clear hb k0 k1 k2
  obtain ⟨k0, k1, k2⟩ := KK.out _ HB1.out
  obtain ⟨A2, hA2⟩ : ∃ A2, A2 = w1.alloc (.cells #[.int .i64 sl, .int .i64 sh, .slice (some ⟨nb, off, none⟩) n cap] 26) := ⟨_, rfl⟩
  have HBA2 := Lib.hid (show Below A.heap.size A A2 by rw [hA2]; exact HB1.out.alloc HB1.out.size _)
  have HD0 := Lib.hid (show A2.heap[w1.heap.size]? = some (.cells #[.int .i64 sl, .int .i64 sh, .slice (some ⟨nb, off, none⟩) n cap] 26 (0, 0)) by rw [hA2]; exact World.alloc_heap_new _ _)
  have HLD := Lib.hid (show w.heap.size + 1 ≤ w1.heap.size ∧ w1.heap.size < A2.heap.size ∧ nb < w.heap.size from ⟨Nat.le_trans HLT.out HB1.out.size, (Array.getElem?_eq_some_iff.1 HD0.out).1, hnb⟩)
  go_upto_region 4 with fail
  try rw [← hA2]
  clear hA2 k0 k1 k2
  generalize hDD : w1.heap.size = D at *
  obtain ⟨hld1, hld2, hld3⟩ := HLD.out
  obtain ⟨k0, k1, k2⟩ := KK.out _ HBA2.out
  have KQ4 := Lib.hid (show ∀ Z, Below A2.heap.size A2 Z → (Z.cell? ⟨w.heap.size, 0, none⟩ = some (.int .i64 sl) ∧ Z.cell? ⟨w.heap.size, 1, none⟩ = some (.int .i64 sh)) from fun Z h => by
    obtain ⟨q0, q1, q2⟩ := KK.out Z (HBA2.out.trans (h.mono HBA2.out.size))
    exact ⟨q0, q1⟩)
  have KD4 := Lib.hid (show ∀ Z, Below A2.heap.size A2 Z → Z.heap[D]? = some (.cells #[.int .i64 sl, .int .i64 sh, .slice (some ⟨nb, off, none⟩) n cap] 26 (0, 0)) from fun Z h => (h.block _ hld2).trans HD0.out)
  have HDR := Lib.hid (show Below A2.heap.size A2 A2.drew from (Below.refl _ _).drew)
  refine wp_region_held_drew (S := fun w' => w'.cell? ⟨w.heap.size, 0, none⟩ = some (Value.int .i64 sl) ∧ w'.cell? ⟨w.heap.size, 1, none⟩ = some (Value.int .i64 sh)) (by kernel_rfl) ⟨by simpa [go_sem] using k0, by simpa [go_sem] using k1⟩ (fun hHeld => ?_)
  refine wpAnyH_take (i := 0) (oi := _) (v := Value.pointer (some ⟨w.heap.size, 0, none⟩)) rfl (by kernel_rfl) (by kernel_rfl) (by kernel_rfl) (fun _ _ _ h => h) (Or.inl ⟨by rfl, fun w' hSw => ?_⟩) hHeld ?_
  · obtain ⟨t0, t1⟩ := hSw
    go_simp
    try simp [*]
    try (intro hh; exfalso; omega)
    try omega
  try simp only [Act.put, List.setIfInBounds_toArray, List.set_cons_zero, List.set_cons_succ, List.getElem_toArray, List.getElem_cons_succ, List.getElem_cons_zero]
  refine wpAnyH_take (i := 1) (oi := _) (v := Value.agg #[Value.int .i64 sl, Value.int .i64 sh]) rfl (by kernel_rfl) (by kernel_rfl) (by kernel_rfl) (fun _ _ _ h => h) (Or.inl ⟨by rfl, fun w' hSw => ?_⟩) hHeld ?_
  · obtain ⟨t0, t1⟩ := hSw
    go_simp
    try simp [*]
    try (intro hh; exfalso; omega)
    try omega
  try simp only [Act.put, List.setIfInBounds_toArray, List.set_cons_zero, List.set_cons_succ, List.getElem_toArray, List.getElem_cons_succ, List.getElem_cons_zero]
  refine wpAnyH_take (i := 2) (oi := _) (v := Value.slice pa pn pc) rfl (by kernel_rfl) (by kernel_rfl) (by kernel_rfl) (fun _ _ _ h => h) (Or.inl ⟨by rfl, fun w' hSw => ?_⟩) hHeld ?_
  · obtain ⟨t0, t1⟩ := hSw
    go_simp
    try simp [*]
    try (intro hh; exfalso; omega)
    try omega
  try simp only [Act.put, List.setIfInBounds_toArray, List.set_cons_zero, List.set_cons_succ, List.getElem_toArray, List.getElem_cons_succ, List.getElem_cons_zero]
  refine wpAnyH_take (i := 4) (oi := _) (v := Value.slice pa pn pc) rfl (by kernel_rfl) (by kernel_rfl) (by kernel_rfl) (fun _ _ _ h => h) (Or.inl ⟨by rfl, fun w' hSw => ?_⟩) hHeld ?_
  · obtain ⟨t0, t1⟩ := hSw
    go_simp
    try simp [*]
    try (intro hh; exfalso; omega)
    try omega
  try simp only [Act.put, List.setIfInBounds_toArray, List.set_cons_zero, List.set_cons_succ, List.getElem_toArray, List.getElem_cons_succ, List.getElem_cons_zero]
  refine wpAnyH_ready (rs := [3]) (by kernel_rfl) (by simp) ?_
  refine AllReadyH.cons (o := _) rfl (fun K hK => ?_) AllReadyH.nil
  go_simp
  go_at_call 52
  refine Calls.mono (cA0.out _ (HBA.out.trans ((HBA2.out.trans (HDR.out.mono HBA2.out.size)).mono HBA.out.size))) ?_
  rintro e v1 ⟨rfl, rfl⟩
  clear hHeld
  refine hK.out _ _ (KQ4.out _ HDR.out) (fun hHeld => ?_)
  clear hK K
  try simp only [Act.put, List.setIfInBounds_toArray, List.set_cons_zero, List.set_cons_succ, List.getElem_toArray, List.getElem_cons_succ, List.getElem_cons_zero]
  refine wpAnyH_ready (rs := [5]) (by kernel_rfl) (by simp) ?_
  refine AllReadyH.cons (o := _) rfl (fun K hK => ?_) AllReadyH.nil
  go_simp
  go_at_call 52
  refine Calls.mono (cA1.out _ (HBA.out.trans ((HBA2.out.trans (HDR.out.mono HBA2.out.size)).mono HBA.out.size))) ?_
  rintro e v2 ⟨rfl, rfl⟩
  clear hHeld
  refine hK.out _ _ (KQ4.out _ HDR.out) (fun hHeld => ?_)
  clear hK K
  try simp only [Act.put, List.setIfInBounds_toArray, List.set_cons_zero, List.set_cons_succ, List.getElem_toArray, List.getElem_cons_succ, List.getElem_cons_zero]
  refine wpAnyH_ready (rs := [6]) (by kernel_rfl) (by simp) ?_
  refine AllReadyH.cons (o := _) rfl (fun K hK => ?_) AllReadyH.nil
  go_simp
  go_at_call 53
  refine Calls.mono (cN0.out _) ?_
  rintro e v3 ⟨rfl, hb⟩
  have HV3 := Lib.hid (HDR.out.trans (hb.mono HDR.out.size))
  clear hb
  clear hHeld
  refine hK.out _ _ (KQ4.out _ HV3.out) (fun hHeld => ?_)
  clear hK K
  try simp only [Act.put, List.setIfInBounds_toArray, List.set_cons_zero, List.set_cons_succ, List.getElem_toArray, List.getElem_cons_succ, List.getElem_cons_zero]
  refine wpAnyH_take (i := 7) (oi := _) (v := Value.pointer (some ⟨D, 0, none⟩)) rfl (by kernel_rfl) (by kernel_rfl) (by kernel_rfl) (fun _ _ _ h => h) (Or.inl ⟨by rfl, fun w' hSw => ?_⟩) hHeld ?_
  · obtain ⟨t0, t1⟩ := hSw
    go_simp
    try simp [*]
    try (intro hh; exfalso; omega)
    try omega
  try simp only [Act.put, List.setIfInBounds_toArray, List.set_cons_zero, List.set_cons_succ, List.getElem_toArray, List.getElem_cons_succ, List.getElem_cons_zero]
  obtain ⟨Z4, hZ4⟩ : ∃ Z, Z = (v3.setCell ⟨D, 0, none⟩ (.int .i64 tl)).setCell ⟨D, 1, none⟩ (.int .i64 th) := ⟨_, rfl⟩
  have hd0 := KD4.out _ HV3.out
  have c0 := cellHB hd0 0
  have c1' := cellHB hd0 1
  have f0 := frozH hd0 0
  have f1 := frozH hd0 1
  have hne : ¬ w.heap.size = D := by omega
  have KZ := Lib.hid (show Z4.cell? ⟨w.heap.size, 0, none⟩ = some (.int .i64 sl) ∧ Z4.cell? ⟨w.heap.size, 1, none⟩ = some (.int .i64 sh) from by
    obtain ⟨q0, q1⟩ := KQ4.out _ HV3.out
    rw [hZ4]; exact ⟨by simpa [go_sem, hne] using q0, by simpa [go_sem, hne] using q1⟩)
  refine wpAnyH_ready (rs := [8]) (by kernel_rfl) (by simp) ?_
  refine AllReadyH.cons (o := _) rfl (fun K hK => ?_) AllReadyH.nil
  go_simp
  try rw [← hZ4]
  clear hHeld
  refine hK.out _ _ KZ.out (fun hHeld => ?_)
  clear hK K
  try simp only [Act.put, List.setIfInBounds_toArray, List.set_cons_zero, List.set_cons_succ, List.getElem_toArray, List.getElem_cons_succ, List.getElem_cons_zero]
  refine wpAnyH_done (by kernel_rfl) ?_ _
  clear hHeld
  clear c0 c1' f0 f1 hd0 KZ
  -- the new nodes
  have HB4 := Lib.hid (show Below A.heap.size A Z4 from by rw [hZ4]; exact ((HBA2.out.trans (HV3.out.mono HBA2.out.size)).setCell (p := ⟨D, 0, none⟩) (by show A.heap.size ≤ D; have := HB1.out.size; omega) _).setCell (p := ⟨D, 1, none⟩) (by show A.heap.size ≤ D; have := HB1.out.size; omega) _)
  have HD4 := Lib.hid (show Z4.heap[D]? = some (.cells #[.int .i64 tl, .int .i64 th, .slice (some ⟨nb, off, none⟩) n cap] 26 (0, 0)) from by rw [hZ4]; exact set3a (KD4.out _ HV3.out) _ _)
  clear hZ4 KQ4 KD4 HDR HV3 k0 k1 k2
  obtain ⟨k0, k1, k2⟩ := KK.out _ HB4.out
  have hzD : D < Z4.heap.size := (Array.getElem?_eq_some_iff.1 HD4.out).1
  have hm8 : n * 64 ≤ 3840 := by omega
  obtain ⟨ka0, ka1, ka2⟩ := KK.out _ (HB4.out.alloc HB4.out.size (.cells #[] 62))
  go_upto_region 6 with (at_builtin; refine wpList_append_own _ rfl _ _ 24 rfl Z4.heap.size 62 i0 (.agg #[.int .i64 0, .int .i64 0, .int .i64 0, .int .i64 0, .int .i64 0, .int .i64 0, .int .i64 0, .int .i64 0]) 8 64 Try.underlying24 hi0 hz0 hz1 hz2 rfl (by decide) _ _ _ rfl (World.ownsRow_made Z4 #[] 0 (Nat.le_refl _) (by unfold maxLen; omega) rfl) ⟨nb, off, none⟩ n cap NW rfl HLEN.out (HCELL.out _ (HBA.out.trans ((HB4.out.alloc HB4.out.size _).mono HBA.out.size))) HONE.out (by unfold maxLen; omega) (by omega) (by simp) ?_; intro v' w5 hown' hgrow _; rw [Nat.zero_add, List.nil_append] at hown'; obtain ⟨G, cp, rfl, hG, hcp, hNd⟩ := HROW.out _ _ _ hown'; have HB45 := Lib.hid (show Below Z4.heap.size Z4 w5 from ((Below.refl Z4.heap.size Z4).alloc (Nat.le_refl _) _).grown hgrow (by simp) (fun r e => ((World.ownsRow_made Z4 #[] 0 (Nat.le_refl _) (by unfold maxLen; omega) rfl : (Z4.alloc (.cells #[] 62)).ownsRow Z4.heap.size 62 8 _ 0 []).lt r e).1)); have HD5 := Lib.hid ((HB45.out.block D hzD).trans HD4.out); have HNd := Lib.hid hNd; have d2 := cellHB HD5.out 2; have df := frozH HD5.out 2; clear hown' hgrow hNd k0 k1 k2; obtain ⟨k0, k1, k2⟩ := KK.out _ (HB4.out.trans (HB45.out.mono HB4.out.size)))
  obtain ⟨V6, hV6⟩ : ∃ V, V = w5.setCell ⟨D, 2, none⟩ (.slice (some ⟨G, 0, none⟩) n cp) := ⟨_, rfl⟩
  have HD6 := Lib.hid (show V6.heap[D]? = some (.cells #[.int .i64 tl, .int .i64 th, .slice (some ⟨G, 0, none⟩) n cp] 26 (0, 0)) by rw [hV6]; exact set3b HD5.out _)
  have hGD : G ≠ D := by omega
  have HN6 := Lib.hid (show NdR V6 G n cp (midF ns ps 0) by rw [hV6]; exact HNd.out.far hGD)
  have HB6 := Lib.hid (show Below A.heap.size A V6 by rw [hV6]; exact (HB4.out.trans (HB45.out.mono HB4.out.size)).setCell (p := ⟨D, 2, none⟩) (by show A.heap.size ≤ D; have := HB1.out.size; omega) _)
  have hAD : A.heap.size ≤ D := by have := HB1.out.size; omega
  have hDG : D < G := by omega
  rw [← hV6]
  clear hV6 d2 df k0 k1 k2 ka0 ka1 ka2 HD5 HNd HB45 HD4 HB4 hzD hG HCELL HONE HLEN HROW hDD
  obtain ⟨k0, k1, k2⟩ := KK.out _ HB6.out
  have d2 := cellHB HD6.out 2
  go_wp2_with fail
  go_loopw [6] (fun iv wr => ∃ k : Nat, k ≤ n ∧ iv = .int .i64 k ∧ wr.heap[D]? = some (.cells #[.int .i64 tl, .int .i64 th, .slice (some ⟨G, 0, none⟩) n cp] 26 (0, 0)) ∧ NdR wr G n cp (midF ns ps k) ∧ Below A.heap.size A wr) (fun iv _ => n - (intOf iv).toNat)
  case atStart => exact ⟨0, Nat.zero_le _, rfl, HD6.out, HN6.out, HB6.out⟩
  case round =>
    obtain ⟨k, hk, rfl, hD, hN, hB⟩ := hrel
    have HD := Lib.hid hD
    have HNR := Lib.hid hN
    have HB := Lib.hid hB
    clear hD hN hB k0 k1 k2 d2
    obtain ⟨k0, k1, k2⟩ := KK.out _ HB.out
    have d2 := cellHB HD.out 2
    by_cases hlt : k < n
    · have hki : (k : Int) < (n : Int) := by omega
      obtain ⟨⟨n4, n5⟩, n1, n2⟩ := HC.out _ k (HBA.out.trans (HB.out.mono HBA.out.size)) hlt
      have hw1 : IntKind.wrap .i64 (4 * (k : Int)) = 4 * (k : Int) := by rw [IntKind.wrap_i64]; omega
      have hw2 : IntKind.wrap .i64 (4 * (k : Int) + 2) = 4 * (k : Int) + 2 := by rw [IntKind.wrap_i64]; omega
      have hw3 : IntKind.wrap .i64 (4 * (k : Int) + 3) = 4 * (k : Int) + 3 := by rw [IntKind.wrap_i64]; omega
      have hw4 : IntKind.wrap .i64 (4 * (k : Int) + 4) = 4 * (k : Int) + 4 := by rw [IntKind.wrap_i64]; omega
      have hw5 : IntKind.wrap .i64 (4 * (k : Int) + 5) = 4 * (k : Int) + 5 := by rw [IntKind.wrap_i64]; omega
      have hbd : w.heap.size < wr.heap.size ∧ nb < wr.heap.size ∧ D < wr.heap.size ∧ G < wr.heap.size := by have := HB.out.size; have := HBA.out.size; have := HNR.out.lt; omega
      have KQ := Lib.hid (show ∀ Z, Below wr.heap.size wr Z → Z.cell? ⟨w.heap.size, 2, none⟩ = some (.slice (some ⟨nb, off, none⟩) n cap) ∧ Z.cell? ⟨D, 2, none⟩ = some (.slice (some ⟨G, 0, none⟩) n cp) ∧ Z.cell? ⟨nb, off + k * 8 + 4, none⟩ = some (.int .i64 (nd ns k).ll) ∧ Z.cell? ⟨nb, off + k * 8 + 5, none⟩ = some (.int .i64 (nd ns k).lh) ∧ Z.cell? ⟨nb, off + k * 8 + 1, none⟩ = some (.int .i64 (nd ns k).ol) ∧ Z.cell? ⟨nb, off + k * 8 + 2, none⟩ = some (.int .i64 (nd ns k).oh) from fun Z h => ⟨(h.cell (p := ⟨w.heap.size, 2, none⟩) hbd.1).trans k2, (h.cell (p := ⟨D, 2, none⟩) hbd.2.2.1).trans d2, (h.cell (p := ⟨nb, _, none⟩) hbd.2.1).trans n4, (h.cell (p := ⟨nb, _, none⟩) hbd.2.1).trans n5, (h.cell (p := ⟨nb, _, none⟩) hbd.2.1).trans n1, (h.cell (p := ⟨nb, _, none⟩) hbd.2.1).trans n2⟩)
      have HDR := Lib.hid (show Below wr.heap.size wr wr.drew from (Below.refl _ _).drew)
      have cL := Lib.hid (cNL.out k hlt)
      have cO := Lib.hid (cNO.out k hlt)
      have cK2 := Lib.hid (show ∀ W, Below w.heap.size w W → Calls Try.prog 52 #[.slice pa pn pc, .int .i64 (4 * (k : Int) + 2)] W fun e w' => e = .returned (.int .u8 (atV ps (4 * k + 2))) ∧ w' = W from cK.out k 2)
      have cK3 := Lib.hid (show ∀ W, Below w.heap.size w W → Calls Try.prog 52 #[.slice pa pn pc, .int .i64 (4 * (k : Int) + 3)] W fun e w' => e = .returned (.int .u8 (atV ps (4 * k + 3))) ∧ w' = W from cK.out k 3)
      have cK4 := Lib.hid (show ∀ W, Below w.heap.size w W → Calls Try.prog 52 #[.slice pa pn pc, .int .i64 (4 * (k : Int) + 4)] W fun e w' => e = .returned (.int .u8 (atV ps (4 * k + 4))) ∧ w' = W from cK.out k 4)
      have cK5 := Lib.hid (show ∀ W, Below w.heap.size w W → Calls Try.prog 52 #[.slice pa pn pc, .int .i64 (4 * (k : Int) + 5)] W fun e w' => e = .returned (.int .u8 (atV ps (4 * k + 5))) ∧ w' = W from cK.out k 5)
      have HMLk := Lib.hid (HML.out k)
      have HMOk := Lib.hid (HMO.out k)
      generalize (narN ns ps k).ll = r4 at *
      generalize (narN ns ps k).lh = r5 at *
      generalize (narN ns ps k).ol = r1 at *
      generalize (narN ns ps k).oh = r2 at *
      generalize atV ps (4 * k + 2) = b2 at *
      generalize atV ps (4 * k + 3) = b3 at *
      generalize atV ps (4 * k + 4) = b4 at *
      generalize atV ps (4 * k + 5) = b5 at *
      generalize (nd ns k).ll = l0 at *
      generalize (nd ns k).lh = l1 at *
      generalize (nd ns k).ol = o0 at *
      generalize (nd ns k).oh = o1 at *
      have hne1 : ¬ w.heap.size = G := by omega
      have hne2 : ¬ D = G := by omega
      have hne3 : ¬ nb = G := by omega
      go_upto_region 9 with fail
      refine wp_region_held_drew (S := fun w' => w'.cell? ⟨D, 2, none⟩ = some (Value.slice (some ⟨G, 0, none⟩) n cp) ∧ w'.cell? ⟨w.heap.size, 2, none⟩ = some (Value.slice (some ⟨nb, off, none⟩) n cap) ∧ w'.cell? ⟨nb, off + k * 8 + 4, none⟩ = some (Value.int .i64 l0) ∧ w'.cell? ⟨nb, off + k * 8 + 5, none⟩ = some (Value.int .i64 l1)) (by kernel_rfl) ⟨by simpa [go_sem] using d2, by simpa [go_sem] using k2, by simpa [go_sem] using n4, by simpa [go_sem] using n5⟩ (fun hHeld => ?_)
      refine wpAnyH_take (i := 0) (oi := _) (v := Value.pointer (some ⟨D, 2, none⟩)) rfl (by kernel_rfl) (by kernel_rfl) (by kernel_rfl) (fun _ _ _ h => h) (Or.inl ⟨by rfl, fun w' hSw => ?_⟩) hHeld ?_
      · obtain ⟨t0, t1, t2, t3⟩ := hSw
        go_simp
        try simp [*]
        try (intro hh; exfalso; omega)
        try omega
      try simp only [Act.put, List.setIfInBounds_toArray, List.set_cons_zero, List.set_cons_succ, List.getElem_toArray, List.getElem_cons_succ, List.getElem_cons_zero]
      refine wpAnyH_take (i := 1) (oi := _) (v := Value.slice (some ⟨G, 0, none⟩) n cp) rfl (by kernel_rfl) (by kernel_rfl) (by kernel_rfl) (fun _ _ _ h => h) (Or.inl ⟨by rfl, fun w' hSw => ?_⟩) hHeld ?_
      · obtain ⟨t0, t1, t2, t3⟩ := hSw
        go_simp
        try simp [*]
        try (intro hh; exfalso; omega)
        try omega
      try simp only [Act.put, List.setIfInBounds_toArray, List.set_cons_zero, List.set_cons_succ, List.getElem_toArray, List.getElem_cons_succ, List.getElem_cons_zero]
      refine wpAnyH_take (i := 2) (oi := _) (v := Value.int .i64 (k : Int)) rfl (by kernel_rfl) (by kernel_rfl) (by kernel_rfl) (fun _ _ _ h => h) (Or.inl ⟨by rfl, fun w' hSw => ?_⟩) hHeld ?_
      · obtain ⟨t0, t1, t2, t3⟩ := hSw
        go_simp
        try simp [*]
        try (intro hh; exfalso; omega)
        try omega
      try simp only [Act.put, List.setIfInBounds_toArray, List.set_cons_zero, List.set_cons_succ, List.getElem_toArray, List.getElem_cons_succ, List.getElem_cons_zero]
      refine wpAnyH_take (i := 3) (oi := _) (v := Value.pointer (some ⟨w.heap.size, 2, none⟩)) rfl (by kernel_rfl) (by kernel_rfl) (by kernel_rfl) (fun _ _ _ h => h) (Or.inl ⟨by rfl, fun w' hSw => ?_⟩) hHeld ?_
      · obtain ⟨t0, t1, t2, t3⟩ := hSw
        go_simp
        try simp [*]
        try (intro hh; exfalso; omega)
        try omega
      try simp only [Act.put, List.setIfInBounds_toArray, List.set_cons_zero, List.set_cons_succ, List.getElem_toArray, List.getElem_cons_succ, List.getElem_cons_zero]
      refine wpAnyH_take (i := 4) (oi := _) (v := Value.slice (some ⟨nb, off, none⟩) n cap) rfl (by kernel_rfl) (by kernel_rfl) (by kernel_rfl) (fun _ _ _ h => h) (Or.inl ⟨by rfl, fun w' hSw => ?_⟩) hHeld ?_
      · obtain ⟨t0, t1, t2, t3⟩ := hSw
        go_simp
        try simp [*]
        try (intro hh; exfalso; omega)
        try omega
      try simp only [Act.put, List.setIfInBounds_toArray, List.set_cons_zero, List.set_cons_succ, List.getElem_toArray, List.getElem_cons_succ, List.getElem_cons_zero]
      refine wpAnyH_take (i := 5) (oi := _) (v := Value.int .i64 (k : Int)) rfl (by kernel_rfl) (by kernel_rfl) (by kernel_rfl) (fun _ _ _ h => h) (Or.inl ⟨by rfl, fun w' hSw => ?_⟩) hHeld ?_
      · obtain ⟨t0, t1, t2, t3⟩ := hSw
        go_simp
        try simp [*]
        try (intro hh; exfalso; omega)
        try omega
      try simp only [Act.put, List.setIfInBounds_toArray, List.set_cons_zero, List.set_cons_succ, List.getElem_toArray, List.getElem_cons_succ, List.getElem_cons_zero]
      refine wpAnyH_take (i := 6) (oi := _) (v := Value.pointer (some ⟨nb, off + k * 8, none⟩)) rfl (by kernel_rfl) (by kernel_rfl) (by kernel_rfl) (fun _ _ _ h => h) (Or.inl ⟨by rfl, fun w' hSw => ?_⟩) hHeld ?_
      · obtain ⟨t0, t1, t2, t3⟩ := hSw
        go_simp
        try simp [*]
        try (intro hh; exfalso; omega)
        try omega
      try simp only [Act.put, List.setIfInBounds_toArray, List.set_cons_zero, List.set_cons_succ, List.getElem_toArray, List.getElem_cons_succ, List.getElem_cons_zero]
      refine wpAnyH_take (i := 7) (oi := _) (v := Value.pointer (some ⟨nb, off + k * 8 + 4, none⟩)) rfl (by kernel_rfl) (by kernel_rfl) (by kernel_rfl) (fun _ _ _ h => h) (Or.inl ⟨by rfl, fun w' hSw => ?_⟩) hHeld ?_
      · obtain ⟨t0, t1, t2, t3⟩ := hSw
        go_simp
        try simp [*]
        try (intro hh; exfalso; omega)
        try omega
      try simp only [Act.put, List.setIfInBounds_toArray, List.set_cons_zero, List.set_cons_succ, List.getElem_toArray, List.getElem_cons_succ, List.getElem_cons_zero]
      refine wpAnyH_take (i := 8) (oi := _) (v := Value.agg #[Value.int .i64 l0, Value.int .i64 l1]) rfl (by kernel_rfl) (by kernel_rfl) (by kernel_rfl) (fun _ _ _ h => h) (Or.inl ⟨by rfl, fun w' hSw => ?_⟩) hHeld ?_
      · obtain ⟨t0, t1, t2, t3⟩ := hSw
        go_simp
        try simp [*]
        try (intro hh; exfalso; omega)
        try omega
      try simp only [Act.put, List.setIfInBounds_toArray, List.set_cons_zero, List.set_cons_succ, List.getElem_toArray, List.getElem_cons_succ, List.getElem_cons_zero]
      refine wpAnyH_take (i := 9) (oi := _) (v := Value.slice pa pn pc) rfl (by kernel_rfl) (by kernel_rfl) (by kernel_rfl) (fun _ _ _ h => h) (Or.inl ⟨by rfl, fun w' hSw => ?_⟩) hHeld ?_
      · obtain ⟨t0, t1, t2, t3⟩ := hSw
        go_simp
        try simp [*]
        try (intro hh; exfalso; omega)
        try omega
      try simp only [Act.put, List.setIfInBounds_toArray, List.set_cons_zero, List.set_cons_succ, List.getElem_toArray, List.getElem_cons_succ, List.getElem_cons_zero]
      refine wpAnyH_take (i := 10) (oi := _) (v := Value.int .i64 (k : Int)) rfl (by kernel_rfl) (by kernel_rfl) (by kernel_rfl) (fun _ _ _ h => h) (Or.inl ⟨by rfl, fun w' hSw => ?_⟩) hHeld ?_
      · obtain ⟨t0, t1, t2, t3⟩ := hSw
        go_simp
        try simp [*]
        try (intro hh; exfalso; omega)
        try omega
      try simp only [Act.put, List.setIfInBounds_toArray, List.set_cons_zero, List.set_cons_succ, List.getElem_toArray, List.getElem_cons_succ, List.getElem_cons_zero]
      refine wpAnyH_take (i := 11) (oi := _) (v := Value.int .i64 (4 * (k : Int))) rfl (by kernel_rfl) (by kernel_rfl) (by kernel_rfl) (fun _ _ _ h => h) (Or.inl ⟨by rfl, fun w' hSw => ?_⟩) hHeld ?_
      · obtain ⟨t0, t1, t2, t3⟩ := hSw
        go_simp
        try simp [*]
        try (intro hh; exfalso; omega)
        try omega
      try simp only [Act.put, List.setIfInBounds_toArray, List.set_cons_zero, List.set_cons_succ, List.getElem_toArray, List.getElem_cons_succ, List.getElem_cons_zero]
      refine wpAnyH_take (i := 12) (oi := _) (v := Value.int .i64 (4 * (k : Int) + 2)) rfl (by kernel_rfl) (by kernel_rfl) (by kernel_rfl) (fun _ _ _ h => h) (Or.inl ⟨by rfl, fun w' hSw => ?_⟩) hHeld ?_
      · obtain ⟨t0, t1, t2, t3⟩ := hSw
        go_simp
        try simp [*]
        try (intro hh; exfalso; omega)
        try omega
      try simp only [Act.put, List.setIfInBounds_toArray, List.set_cons_zero, List.set_cons_succ, List.getElem_toArray, List.getElem_cons_succ, List.getElem_cons_zero]
      refine wpAnyH_take (i := 14) (oi := _) (v := Value.slice pa pn pc) rfl (by kernel_rfl) (by kernel_rfl) (by kernel_rfl) (fun _ _ _ h => h) (Or.inl ⟨by rfl, fun w' hSw => ?_⟩) hHeld ?_
      · obtain ⟨t0, t1, t2, t3⟩ := hSw
        go_simp
        try simp [*]
        try (intro hh; exfalso; omega)
        try omega
      try simp only [Act.put, List.setIfInBounds_toArray, List.set_cons_zero, List.set_cons_succ, List.getElem_toArray, List.getElem_cons_succ, List.getElem_cons_zero]
      refine wpAnyH_take (i := 15) (oi := _) (v := Value.int .i64 (k : Int)) rfl (by kernel_rfl) (by kernel_rfl) (by kernel_rfl) (fun _ _ _ h => h) (Or.inl ⟨by rfl, fun w' hSw => ?_⟩) hHeld ?_
      · obtain ⟨t0, t1, t2, t3⟩ := hSw
        go_simp
        try simp [*]
        try (intro hh; exfalso; omega)
        try omega
      try simp only [Act.put, List.setIfInBounds_toArray, List.set_cons_zero, List.set_cons_succ, List.getElem_toArray, List.getElem_cons_succ, List.getElem_cons_zero]
      refine wpAnyH_take (i := 16) (oi := _) (v := Value.int .i64 (4 * (k : Int))) rfl (by kernel_rfl) (by kernel_rfl) (by kernel_rfl) (fun _ _ _ h => h) (Or.inl ⟨by rfl, fun w' hSw => ?_⟩) hHeld ?_
      · obtain ⟨t0, t1, t2, t3⟩ := hSw
        go_simp
        try simp [*]
        try (intro hh; exfalso; omega)
        try omega
      try simp only [Act.put, List.setIfInBounds_toArray, List.set_cons_zero, List.set_cons_succ, List.getElem_toArray, List.getElem_cons_succ, List.getElem_cons_zero]
      refine wpAnyH_take (i := 17) (oi := _) (v := Value.int .i64 (4 * (k : Int) + 3)) rfl (by kernel_rfl) (by kernel_rfl) (by kernel_rfl) (fun _ _ _ h => h) (Or.inl ⟨by rfl, fun w' hSw => ?_⟩) hHeld ?_
      · obtain ⟨t0, t1, t2, t3⟩ := hSw
        go_simp
        try simp [*]
        try (intro hh; exfalso; omega)
        try omega
      try simp only [Act.put, List.setIfInBounds_toArray, List.set_cons_zero, List.set_cons_succ, List.getElem_toArray, List.getElem_cons_succ, List.getElem_cons_zero]
      refine wpAnyH_ready (rs := [13]) (by kernel_rfl) (by simp) ?_
      refine AllReadyH.cons (o := _) rfl (fun K hK => ?_) AllReadyH.nil
      go_simp
      go_at_call 52
      refine Calls.mono (cK2.out _ (HBA.out.trans ((HB.out.trans (HDR.out.mono HB.out.size)).mono HBA.out.size))) ?_
      rintro e v1 ⟨rfl, rfl⟩
      clear hHeld
      refine hK.out _ _ ((fun q => ⟨q.2.1, q.1, q.2.2.1, q.2.2.2.1⟩) (KQ.out _ HDR.out)) (fun hHeld => ?_)
      clear hK K
      try simp only [Act.put, List.setIfInBounds_toArray, List.set_cons_zero, List.set_cons_succ, List.getElem_toArray, List.getElem_cons_succ, List.getElem_cons_zero]
      refine wpAnyH_ready (rs := [18]) (by kernel_rfl) (by simp) ?_
      refine AllReadyH.cons (o := _) rfl (fun K hK => ?_) AllReadyH.nil
      go_simp
      go_at_call 52
      refine Calls.mono (cK3.out _ (HBA.out.trans ((HB.out.trans (HDR.out.mono HB.out.size)).mono HBA.out.size))) ?_
      rintro e v2 ⟨rfl, rfl⟩
      clear hHeld
      refine hK.out _ _ ((fun q => ⟨q.2.1, q.1, q.2.2.1, q.2.2.2.1⟩) (KQ.out _ HDR.out)) (fun hHeld => ?_)
      clear hK K
      try simp only [Act.put, List.setIfInBounds_toArray, List.set_cons_zero, List.set_cons_succ, List.getElem_toArray, List.getElem_cons_succ, List.getElem_cons_zero]
      refine wpAnyH_ready (rs := [19]) (by kernel_rfl) (by simp) ?_
      refine AllReadyH.cons (o := _) rfl (fun K hK => ?_) AllReadyH.nil
      go_simp
      go_at_call 53
      refine Calls.mono (cL.out _) ?_
      rintro e v3 ⟨rfl, hb⟩
      have HV3 := Lib.hid (HDR.out.trans (hb.mono HDR.out.size))
      clear hb
      clear hHeld
      refine hK.out _ _ ((fun q => ⟨q.2.1, q.1, q.2.2.1, q.2.2.2.1⟩) (KQ.out _ HV3.out)) (fun hHeld => ?_)
      clear hK K
      try simp only [Act.put, List.setIfInBounds_toArray, List.set_cons_zero, List.set_cons_succ, List.getElem_toArray, List.getElem_cons_succ, List.getElem_cons_zero]
      refine wpAnyH_take (i := 20) (oi := _) (v := Value.pointer (some ⟨G, k * 8, none⟩)) rfl (by kernel_rfl) (by kernel_rfl) (by kernel_rfl) (fun _ _ _ h => h) (Or.inl ⟨by rfl, fun w' hSw => ?_⟩) hHeld ?_
      · obtain ⟨t0, t1, t2, t3⟩ := hSw
        go_simp
        try simp [*]
        try (intro hh; exfalso; omega)
        try omega
      try simp only [Act.put, List.setIfInBounds_toArray, List.set_cons_zero, List.set_cons_succ, List.getElem_toArray, List.getElem_cons_succ, List.getElem_cons_zero]
      refine wpAnyH_take (i := 21) (oi := _) (v := Value.pointer (some ⟨G, k * 8 + 4, none⟩)) rfl (by kernel_rfl) (by kernel_rfl) (by kernel_rfl) (fun _ _ _ h => h) (Or.inl ⟨by rfl, fun w' hSw => ?_⟩) hHeld ?_
      · obtain ⟨t0, t1, t2, t3⟩ := hSw
        go_simp
        try simp [*]
        try (intro hh; exfalso; omega)
        try omega
      try simp only [Act.put, List.setIfInBounds_toArray, List.set_cons_zero, List.set_cons_succ, List.getElem_toArray, List.getElem_cons_succ, List.getElem_cons_zero]
      obtain ⟨Z9, hZ9⟩ : ∃ Z, Z = (v3.setCell ⟨G, k * 8 + 4, none⟩ (.int .i64 r4)).setCell ⟨G, k * 8 + 5, none⟩ (.int .i64 r5) := ⟨_, rfl⟩
      have HGG := Lib.hid (HNR.out.keep HV3.out)
      have g0 := HGG.out.cell hcp (j := k * 8 + 4) (by omega)
      have g1 := HGG.out.cell hcp (j := k * 8 + 5) (by omega)
      have gf0 := HGG.out.froz (k * 8 + 4)
      have gf1 := HGG.out.froz (k * 8 + 5)
      have KZ := Lib.hid (show Z9.cell? ⟨w.heap.size, 2, none⟩ = some (.slice (some ⟨nb, off, none⟩) n cap) ∧ Z9.cell? ⟨D, 2, none⟩ = some (.slice (some ⟨G, 0, none⟩) n cp) ∧ Z9.cell? ⟨nb, off + k * 8 + 4, none⟩ = some (.int .i64 l0) ∧ Z9.cell? ⟨nb, off + k * 8 + 5, none⟩ = some (.int .i64 l1) ∧ Z9.cell? ⟨nb, off + k * 8 + 1, none⟩ = some (.int .i64 o0) ∧ Z9.cell? ⟨nb, off + k * 8 + 2, none⟩ = some (.int .i64 o1) from by
        obtain ⟨u0, u1, u2, u3, u4, u5⟩ := KQ.out _ HV3.out
        rw [hZ9]; exact ⟨by simpa [go_sem, hne1] using u0, by simpa [go_sem, hne2] using u1, by simpa [go_sem, hne3] using u2, by simpa [go_sem, hne3] using u3, by simpa [go_sem, hne3] using u4, by simpa [go_sem, hne3] using u5⟩)
      have KS := Lib.hid (show Z9.cell? ⟨D, 2, none⟩ = _ ∧ Z9.cell? ⟨w.heap.size, 2, none⟩ = _ ∧ Z9.cell? ⟨nb, off + k * 8 + 4, none⟩ = _ ∧ Z9.cell? ⟨nb, off + k * 8 + 5, none⟩ = _ from ⟨KZ.out.2.1, KZ.out.1, KZ.out.2.2.1, KZ.out.2.2.2.1⟩)
      refine wpAnyH_ready (rs := [22]) (by kernel_rfl) (by simp) ?_
      refine AllReadyH.cons (o := _) rfl (fun K hK => ?_) AllReadyH.nil
      go_simp
      try rw [← hZ9]
      clear hHeld
      refine hK.out _ _ KS.out (fun hHeld => ?_)
      clear hK K
      try simp only [Act.put, List.setIfInBounds_toArray, List.set_cons_zero, List.set_cons_succ, List.getElem_toArray, List.getElem_cons_succ, List.getElem_cons_zero]
      refine wpAnyH_done (by kernel_rfl) ?_ _
      clear hHeld
      clear g0 g1 gf0 gf1 HGG KS
      have HB9 := Lib.hid (show Below A.heap.size A Z9 from by rw [hZ9]; exact ((HB.out.trans (HV3.out.mono HB.out.size)).setCell (p := ⟨G, _, none⟩) (by show A.heap.size ≤ G; omega) _).setCell (p := ⟨G, _, none⟩) (by show A.heap.size ≤ G; omega) _)
      have HD9 := Lib.hid (show Z9.heap[D]? = some (.cells #[.int .i64 tl, .int .i64 th, .slice (some ⟨G, 0, none⟩) n cp] 26 (0, 0)) from by
        rw [hZ9]; exact (Below.heap_setCell _ _ _ _ (by show D ≠ G; omega)).trans ((Below.heap_setCell _ _ _ _ (by show D ≠ G; omega)).trans ((HV3.out.block D hbd.2.2.1).trans HD.out)))
      have HN9 := Lib.hid (show NdR Z9 G n cp (midG ns ps k) from by
        rw [hZ9]; exact (HNR.out.keep HV3.out).set2 (by omega) (by omega) (fun x _ => HMLk.out x))
      clear hZ9 k0 k1 k2 d2 n1 n2 n4 n5 HV3 HNR HD HB
      obtain ⟨k2, d2, n4, n5, n1, n2⟩ := KZ.out
      have hbd9 : w.heap.size < Z9.heap.size ∧ nb < Z9.heap.size ∧ D < Z9.heap.size ∧ G < Z9.heap.size := by have := HB9.out.size; have := HBA.out.size; have := HN9.out.lt; omega
      have KQ9 := Lib.hid (show ∀ Z, Below Z9.heap.size Z9 Z → Z.cell? ⟨w.heap.size, 2, none⟩ = some (.slice (some ⟨nb, off, none⟩) n cap) ∧ Z.cell? ⟨D, 2, none⟩ = some (.slice (some ⟨G, 0, none⟩) n cp) ∧ Z.cell? ⟨nb, off + k * 8 + 1, none⟩ = some (.int .i64 o0) ∧ Z.cell? ⟨nb, off + k * 8 + 2, none⟩ = some (.int .i64 o1) from fun Z h => ⟨(h.cell (p := ⟨w.heap.size, 2, none⟩) hbd9.1).trans k2, (h.cell (p := ⟨D, 2, none⟩) hbd9.2.2.1).trans d2, (h.cell (p := ⟨nb, _, none⟩) hbd9.2.1).trans n1, (h.cell (p := ⟨nb, _, none⟩) hbd9.2.1).trans n2⟩)
      have HDR9 := Lib.hid (show Below Z9.heap.size Z9 Z9.drew from (Below.refl _ _).drew)
      clear KZ
      go_upto_region 10 with fail
      refine wp_region_held_drew (S := fun w' => w'.cell? ⟨D, 2, none⟩ = some (Value.slice (some ⟨G, 0, none⟩) n cp) ∧ w'.cell? ⟨w.heap.size, 2, none⟩ = some (Value.slice (some ⟨nb, off, none⟩) n cap) ∧ w'.cell? ⟨nb, off + k * 8 + 1, none⟩ = some (Value.int .i64 o0) ∧ w'.cell? ⟨nb, off + k * 8 + 2, none⟩ = some (Value.int .i64 o1)) (by kernel_rfl) ⟨by simpa [go_sem] using d2, by simpa [go_sem] using k2, by simpa [go_sem] using n1, by simpa [go_sem] using n2⟩ (fun hHeld => ?_)
      refine wpAnyH_take (i := 0) (oi := _) (v := Value.pointer (some ⟨D, 2, none⟩)) rfl (by kernel_rfl) (by kernel_rfl) (by kernel_rfl) (fun _ _ _ h => h) (Or.inl ⟨by rfl, fun w' hSw => ?_⟩) hHeld ?_
      · obtain ⟨t0, t1, t2, t3⟩ := hSw
        go_simp
        try simp [*]
        try (intro hh; exfalso; omega)
        try omega
      try simp only [Act.put, List.setIfInBounds_toArray, List.set_cons_zero, List.set_cons_succ, List.getElem_toArray, List.getElem_cons_succ, List.getElem_cons_zero]
      refine wpAnyH_take (i := 1) (oi := _) (v := Value.slice (some ⟨G, 0, none⟩) n cp) rfl (by kernel_rfl) (by kernel_rfl) (by kernel_rfl) (fun _ _ _ h => h) (Or.inl ⟨by rfl, fun w' hSw => ?_⟩) hHeld ?_
      · obtain ⟨t0, t1, t2, t3⟩ := hSw
        go_simp
        try simp [*]
        try (intro hh; exfalso; omega)
        try omega
      try simp only [Act.put, List.setIfInBounds_toArray, List.set_cons_zero, List.set_cons_succ, List.getElem_toArray, List.getElem_cons_succ, List.getElem_cons_zero]
      refine wpAnyH_take (i := 2) (oi := _) (v := Value.int .i64 (k : Int)) rfl (by kernel_rfl) (by kernel_rfl) (by kernel_rfl) (fun _ _ _ h => h) (Or.inl ⟨by rfl, fun w' hSw => ?_⟩) hHeld ?_
      · obtain ⟨t0, t1, t2, t3⟩ := hSw
        go_simp
        try simp [*]
        try (intro hh; exfalso; omega)
        try omega
      try simp only [Act.put, List.setIfInBounds_toArray, List.set_cons_zero, List.set_cons_succ, List.getElem_toArray, List.getElem_cons_succ, List.getElem_cons_zero]
      refine wpAnyH_take (i := 3) (oi := _) (v := Value.pointer (some ⟨w.heap.size, 2, none⟩)) rfl (by kernel_rfl) (by kernel_rfl) (by kernel_rfl) (fun _ _ _ h => h) (Or.inl ⟨by rfl, fun w' hSw => ?_⟩) hHeld ?_
      · obtain ⟨t0, t1, t2, t3⟩ := hSw
        go_simp
        try simp [*]
        try (intro hh; exfalso; omega)
        try omega
      try simp only [Act.put, List.setIfInBounds_toArray, List.set_cons_zero, List.set_cons_succ, List.getElem_toArray, List.getElem_cons_succ, List.getElem_cons_zero]
      refine wpAnyH_take (i := 4) (oi := _) (v := Value.slice (some ⟨nb, off, none⟩) n cap) rfl (by kernel_rfl) (by kernel_rfl) (by kernel_rfl) (fun _ _ _ h => h) (Or.inl ⟨by rfl, fun w' hSw => ?_⟩) hHeld ?_
      · obtain ⟨t0, t1, t2, t3⟩ := hSw
        go_simp
        try simp [*]
        try (intro hh; exfalso; omega)
        try omega
      try simp only [Act.put, List.setIfInBounds_toArray, List.set_cons_zero, List.set_cons_succ, List.getElem_toArray, List.getElem_cons_succ, List.getElem_cons_zero]
      refine wpAnyH_take (i := 5) (oi := _) (v := Value.int .i64 (k : Int)) rfl (by kernel_rfl) (by kernel_rfl) (by kernel_rfl) (fun _ _ _ h => h) (Or.inl ⟨by rfl, fun w' hSw => ?_⟩) hHeld ?_
      · obtain ⟨t0, t1, t2, t3⟩ := hSw
        go_simp
        try simp [*]
        try (intro hh; exfalso; omega)
        try omega
      try simp only [Act.put, List.setIfInBounds_toArray, List.set_cons_zero, List.set_cons_succ, List.getElem_toArray, List.getElem_cons_succ, List.getElem_cons_zero]
      refine wpAnyH_take (i := 6) (oi := _) (v := Value.pointer (some ⟨nb, off + k * 8, none⟩)) rfl (by kernel_rfl) (by kernel_rfl) (by kernel_rfl) (fun _ _ _ h => h) (Or.inl ⟨by rfl, fun w' hSw => ?_⟩) hHeld ?_
      · obtain ⟨t0, t1, t2, t3⟩ := hSw
        go_simp
        try simp [*]
        try (intro hh; exfalso; omega)
        try omega
      try simp only [Act.put, List.setIfInBounds_toArray, List.set_cons_zero, List.set_cons_succ, List.getElem_toArray, List.getElem_cons_succ, List.getElem_cons_zero]
      refine wpAnyH_take (i := 7) (oi := _) (v := Value.pointer (some ⟨nb, off + k * 8 + 1, none⟩)) rfl (by kernel_rfl) (by kernel_rfl) (by kernel_rfl) (fun _ _ _ h => h) (Or.inl ⟨by rfl, fun w' hSw => ?_⟩) hHeld ?_
      · obtain ⟨t0, t1, t2, t3⟩ := hSw
        go_simp
        try simp [*]
        try (intro hh; exfalso; omega)
        try omega
      try simp only [Act.put, List.setIfInBounds_toArray, List.set_cons_zero, List.set_cons_succ, List.getElem_toArray, List.getElem_cons_succ, List.getElem_cons_zero]
      refine wpAnyH_take (i := 8) (oi := _) (v := Value.agg #[Value.int .i64 o0, Value.int .i64 o1]) rfl (by kernel_rfl) (by kernel_rfl) (by kernel_rfl) (fun _ _ _ h => h) (Or.inl ⟨by rfl, fun w' hSw => ?_⟩) hHeld ?_
      · obtain ⟨t0, t1, t2, t3⟩ := hSw
        go_simp
        try simp [*]
        try (intro hh; exfalso; omega)
        try omega
      try simp only [Act.put, List.setIfInBounds_toArray, List.set_cons_zero, List.set_cons_succ, List.getElem_toArray, List.getElem_cons_succ, List.getElem_cons_zero]
      refine wpAnyH_take (i := 9) (oi := _) (v := Value.slice pa pn pc) rfl (by kernel_rfl) (by kernel_rfl) (by kernel_rfl) (fun _ _ _ h => h) (Or.inl ⟨by rfl, fun w' hSw => ?_⟩) hHeld ?_
      · obtain ⟨t0, t1, t2, t3⟩ := hSw
        go_simp
        try simp [*]
        try (intro hh; exfalso; omega)
        try omega
      try simp only [Act.put, List.setIfInBounds_toArray, List.set_cons_zero, List.set_cons_succ, List.getElem_toArray, List.getElem_cons_succ, List.getElem_cons_zero]
      refine wpAnyH_take (i := 10) (oi := _) (v := Value.int .i64 (k : Int)) rfl (by kernel_rfl) (by kernel_rfl) (by kernel_rfl) (fun _ _ _ h => h) (Or.inl ⟨by rfl, fun w' hSw => ?_⟩) hHeld ?_
      · obtain ⟨t0, t1, t2, t3⟩ := hSw
        go_simp
        try simp [*]
        try (intro hh; exfalso; omega)
        try omega
      try simp only [Act.put, List.setIfInBounds_toArray, List.set_cons_zero, List.set_cons_succ, List.getElem_toArray, List.getElem_cons_succ, List.getElem_cons_zero]
      refine wpAnyH_take (i := 11) (oi := _) (v := Value.int .i64 (4 * (k : Int))) rfl (by kernel_rfl) (by kernel_rfl) (by kernel_rfl) (fun _ _ _ h => h) (Or.inl ⟨by rfl, fun w' hSw => ?_⟩) hHeld ?_
      · obtain ⟨t0, t1, t2, t3⟩ := hSw
        go_simp
        try simp [*]
        try (intro hh; exfalso; omega)
        try omega
      try simp only [Act.put, List.setIfInBounds_toArray, List.set_cons_zero, List.set_cons_succ, List.getElem_toArray, List.getElem_cons_succ, List.getElem_cons_zero]
      refine wpAnyH_take (i := 12) (oi := _) (v := Value.int .i64 (4 * (k : Int) + 4)) rfl (by kernel_rfl) (by kernel_rfl) (by kernel_rfl) (fun _ _ _ h => h) (Or.inl ⟨by rfl, fun w' hSw => ?_⟩) hHeld ?_
      · obtain ⟨t0, t1, t2, t3⟩ := hSw
        go_simp
        try simp [*]
        try (intro hh; exfalso; omega)
        try omega
      try simp only [Act.put, List.setIfInBounds_toArray, List.set_cons_zero, List.set_cons_succ, List.getElem_toArray, List.getElem_cons_succ, List.getElem_cons_zero]
      refine wpAnyH_take (i := 14) (oi := _) (v := Value.slice pa pn pc) rfl (by kernel_rfl) (by kernel_rfl) (by kernel_rfl) (fun _ _ _ h => h) (Or.inl ⟨by rfl, fun w' hSw => ?_⟩) hHeld ?_
      · obtain ⟨t0, t1, t2, t3⟩ := hSw
        go_simp
        try simp [*]
        try (intro hh; exfalso; omega)
        try omega
      try simp only [Act.put, List.setIfInBounds_toArray, List.set_cons_zero, List.set_cons_succ, List.getElem_toArray, List.getElem_cons_succ, List.getElem_cons_zero]
      refine wpAnyH_take (i := 15) (oi := _) (v := Value.int .i64 (k : Int)) rfl (by kernel_rfl) (by kernel_rfl) (by kernel_rfl) (fun _ _ _ h => h) (Or.inl ⟨by rfl, fun w' hSw => ?_⟩) hHeld ?_
      · obtain ⟨t0, t1, t2, t3⟩ := hSw
        go_simp
        try simp [*]
        try (intro hh; exfalso; omega)
        try omega
      try simp only [Act.put, List.setIfInBounds_toArray, List.set_cons_zero, List.set_cons_succ, List.getElem_toArray, List.getElem_cons_succ, List.getElem_cons_zero]
      refine wpAnyH_take (i := 16) (oi := _) (v := Value.int .i64 (4 * (k : Int))) rfl (by kernel_rfl) (by kernel_rfl) (by kernel_rfl) (fun _ _ _ h => h) (Or.inl ⟨by rfl, fun w' hSw => ?_⟩) hHeld ?_
      · obtain ⟨t0, t1, t2, t3⟩ := hSw
        go_simp
        try simp [*]
        try (intro hh; exfalso; omega)
        try omega
      try simp only [Act.put, List.setIfInBounds_toArray, List.set_cons_zero, List.set_cons_succ, List.getElem_toArray, List.getElem_cons_succ, List.getElem_cons_zero]
      refine wpAnyH_take (i := 17) (oi := _) (v := Value.int .i64 (4 * (k : Int) + 5)) rfl (by kernel_rfl) (by kernel_rfl) (by kernel_rfl) (fun _ _ _ h => h) (Or.inl ⟨by rfl, fun w' hSw => ?_⟩) hHeld ?_
      · obtain ⟨t0, t1, t2, t3⟩ := hSw
        go_simp
        try simp [*]
        try (intro hh; exfalso; omega)
        try omega
      try simp only [Act.put, List.setIfInBounds_toArray, List.set_cons_zero, List.set_cons_succ, List.getElem_toArray, List.getElem_cons_succ, List.getElem_cons_zero]
      refine wpAnyH_ready (rs := [13]) (by kernel_rfl) (by simp) ?_
      refine AllReadyH.cons (o := _) rfl (fun K hK => ?_) AllReadyH.nil
      go_simp
      go_at_call 52
      refine Calls.mono (cK4.out _ (HBA.out.trans ((HB9.out.trans (HDR9.out.mono HB9.out.size)).mono HBA.out.size))) ?_
      rintro e u1 ⟨rfl, rfl⟩
      clear hHeld
      refine hK.out _ _ ((fun q => ⟨q.2.1, q.1, q.2.2.1, q.2.2.2⟩) (KQ9.out _ HDR9.out)) (fun hHeld => ?_)
      clear hK K
      try simp only [Act.put, List.setIfInBounds_toArray, List.set_cons_zero, List.set_cons_succ, List.getElem_toArray, List.getElem_cons_succ, List.getElem_cons_zero]
      refine wpAnyH_ready (rs := [18]) (by kernel_rfl) (by simp) ?_
      refine AllReadyH.cons (o := _) rfl (fun K hK => ?_) AllReadyH.nil
      go_simp
      go_at_call 52
      refine Calls.mono (cK5.out _ (HBA.out.trans ((HB9.out.trans (HDR9.out.mono HB9.out.size)).mono HBA.out.size))) ?_
      rintro e u2 ⟨rfl, rfl⟩
      clear hHeld
      refine hK.out _ _ ((fun q => ⟨q.2.1, q.1, q.2.2.1, q.2.2.2⟩) (KQ9.out _ HDR9.out)) (fun hHeld => ?_)
      clear hK K
      try simp only [Act.put, List.setIfInBounds_toArray, List.set_cons_zero, List.set_cons_succ, List.getElem_toArray, List.getElem_cons_succ, List.getElem_cons_zero]
      refine wpAnyH_ready (rs := [19]) (by kernel_rfl) (by simp) ?_
      refine AllReadyH.cons (o := _) rfl (fun K hK => ?_) AllReadyH.nil
      go_simp
      go_at_call 53
      refine Calls.mono (cO.out _) ?_
      rintro e u3 ⟨rfl, hb⟩
      have HU3 := Lib.hid (HDR9.out.trans (hb.mono HDR9.out.size))
      clear hb
      clear hHeld
      refine hK.out _ _ ((fun q => ⟨q.2.1, q.1, q.2.2.1, q.2.2.2⟩) (KQ9.out _ HU3.out)) (fun hHeld => ?_)
      clear hK K
      try simp only [Act.put, List.setIfInBounds_toArray, List.set_cons_zero, List.set_cons_succ, List.getElem_toArray, List.getElem_cons_succ, List.getElem_cons_zero]
      refine wpAnyH_take (i := 20) (oi := _) (v := Value.pointer (some ⟨G, k * 8, none⟩)) rfl (by kernel_rfl) (by kernel_rfl) (by kernel_rfl) (fun _ _ _ h => h) (Or.inl ⟨by rfl, fun w' hSw => ?_⟩) hHeld ?_
      · obtain ⟨t0, t1, t2, t3⟩ := hSw
        go_simp
        try simp [*]
        try (intro hh; exfalso; omega)
        try omega
      try simp only [Act.put, List.setIfInBounds_toArray, List.set_cons_zero, List.set_cons_succ, List.getElem_toArray, List.getElem_cons_succ, List.getElem_cons_zero]
      refine wpAnyH_take (i := 21) (oi := _) (v := Value.pointer (some ⟨G, k * 8 + 1, none⟩)) rfl (by kernel_rfl) (by kernel_rfl) (by kernel_rfl) (fun _ _ _ h => h) (Or.inl ⟨by rfl, fun w' hSw => ?_⟩) hHeld ?_
      · obtain ⟨t0, t1, t2, t3⟩ := hSw
        go_simp
        try simp [*]
        try (intro hh; exfalso; omega)
        try omega
      try simp only [Act.put, List.setIfInBounds_toArray, List.set_cons_zero, List.set_cons_succ, List.getElem_toArray, List.getElem_cons_succ, List.getElem_cons_zero]
      obtain ⟨ZT, hZT⟩ : ∃ Z, Z = (u3.setCell ⟨G, k * 8 + 1, none⟩ (.int .i64 r1)).setCell ⟨G, k * 8 + 2, none⟩ (.int .i64 r2) := ⟨_, rfl⟩
      have HGG := Lib.hid (HN9.out.keep HU3.out)
      have g0 := HGG.out.cell hcp (j := k * 8 + 1) (by omega)
      have g1 := HGG.out.cell hcp (j := k * 8 + 2) (by omega)
      have gf0 := HGG.out.froz (k * 8 + 1)
      have gf1 := HGG.out.froz (k * 8 + 2)
      have KS := Lib.hid (show ZT.cell? ⟨D, 2, none⟩ = some (.slice (some ⟨G, 0, none⟩) n cp) ∧ ZT.cell? ⟨w.heap.size, 2, none⟩ = some (.slice (some ⟨nb, off, none⟩) n cap) ∧ ZT.cell? ⟨nb, off + k * 8 + 1, none⟩ = some (.int .i64 o0) ∧ ZT.cell? ⟨nb, off + k * 8 + 2, none⟩ = some (.int .i64 o1) from by
        obtain ⟨u0, u1, u4, u5⟩ := KQ9.out _ HU3.out
        rw [hZT]; exact ⟨by simpa [go_sem, hne2] using u1, by simpa [go_sem, hne1] using u0, by simpa [go_sem, hne3] using u4, by simpa [go_sem, hne3] using u5⟩)
      refine wpAnyH_ready (rs := [22]) (by kernel_rfl) (by simp) ?_
      refine AllReadyH.cons (o := _) rfl (fun K hK => ?_) AllReadyH.nil
      go_simp
      try rw [← hZT]
      clear hHeld
      refine hK.out _ _ KS.out (fun hHeld => ?_)
      clear hK K
      try simp only [Act.put, List.setIfInBounds_toArray, List.set_cons_zero, List.set_cons_succ, List.getElem_toArray, List.getElem_cons_succ, List.getElem_cons_zero]
      refine wpAnyH_done (by kernel_rfl) ?_ _
      clear hHeld
      clear g0 g1 gf0 gf1 HGG KS
      have HBT := Lib.hid (show Below A.heap.size A ZT from by rw [hZT]; exact ((HB9.out.trans (HU3.out.mono HB9.out.size)).setCell (p := ⟨G, _, none⟩) (by show A.heap.size ≤ G; omega) _).setCell (p := ⟨G, _, none⟩) (by show A.heap.size ≤ G; omega) _)
      have HDT := Lib.hid (show ZT.heap[D]? = some (.cells #[.int .i64 tl, .int .i64 th, .slice (some ⟨G, 0, none⟩) n cp] 26 (0, 0)) from by
        rw [hZT]; exact (Below.heap_setCell _ _ _ _ (by show D ≠ G; omega)).trans ((Below.heap_setCell _ _ _ _ (by show D ≠ G; omega)).trans ((HU3.out.block D hbd9.2.2.1).trans HD9.out)))
      have HNT := Lib.hid (show NdR ZT G n cp (midF ns ps (k + 1)) from by
        rw [hZT]; exact (HN9.out.keep HU3.out).set2 (by omega) (by omega) (fun x _ => HMOk.out x))
      clear hZT
      go_wp2_with fail
      go_roundw
      case rel => exact ⟨k + 1, by omega, by go_num, HDT.out, HNT.out, HBT.out⟩
      case measure => simp [intOf]; omega
    · obtain rfl : k = n := by omega
      have HDS' := Lib.hid (HDS.out _ _ _ hcp HNR.out)
      clear HC HML HMO cNL cNO cK cN0 cA0 cA1 HDS HNR
      obtain ⟨W0, rfl⟩ : ∃ W0, W0 = wr := ⟨_, rfl⟩
      have hDW : D < W0.heap.size := (Array.getElem?_eq_some_iff.1 HD.out).1
      have KD := Lib.hid (show ∀ Z, Below W0.heap.size W0 Z → Z.cell? ⟨D, 0, none⟩ = some (.int .i64 tl) ∧ Z.cell? ⟨D, 1, none⟩ = some (.int .i64 th) ∧ Z.cell? ⟨D, 2, none⟩ = some (.slice (some ⟨G, 0, none⟩) k cp) from fun Z h => by
        have q := (h.block D hDW).trans HD.out
        exact ⟨cellHB q 0, cellHB q 1, cellHB q 2⟩)
      have KA := Lib.hid (show ∀ Z, Below W0.heap.size W0 Z → Z.cell? ⟨w.heap.size, 0, none⟩ = some (.int .i64 sl) ∧ Z.cell? ⟨w.heap.size, 1, none⟩ = some (.int .i64 sh) ∧ Z.cell? ⟨w.heap.size, 2, none⟩ = some (.slice (some ⟨nb, off, none⟩) k cap) from fun Z h => KK.out Z (HB.out.trans (h.mono HB.out.size)))
      have HUP := Lib.hid (show ∀ Z, Below W0.heap.size W0 Z → Below w.heap.size w Z from fun Z h => HBA.out.trans ((HB.out.trans (h.mono HB.out.size)).mono HBA.out.size))
      clear k0 k1 k2 d2 HD
      obtain ⟨k0, k1, k2⟩ := KA.out _ (Below.refl _ _)
      obtain ⟨d0, d1, d2⟩ := KD.out _ (Below.refl _ _)
      go_wp2_with fail
      refine (e28.out _ (HUP.out _ (Below.refl W0.heap.size W0))).mono ?_
      rintro e u1 ⟨ra, rfl, hia, hb⟩
      have HU1 := Lib.hid (Below.trans (Below.refl W0.heap.size W0) (hb.mono (Below.size (Below.refl W0.heap.size W0))))
      have HIa := Lib.hid hia
      clear hia
      clear hb
      clear k0 k1 k2 d0 d1 d2
      obtain ⟨k0, k1, k2⟩ := KA.out _ HU1.out
      obtain ⟨d0, d1, d2⟩ := KD.out _ HU1.out
      go_wp2_with fail
      refine (d28.out _ _ (HDS'.out.at HU1.out)).mono ?_
      rintro e u2 ⟨rb, rfl, hib, hb⟩
      have HU2 := Lib.hid (Below.trans HU1.out (hb.mono (Below.size HU1.out)))
      replace HIa := Lib.hid (HIa.out.at hb)
      have HIb := Lib.hid hib
      clear hib
      clear hb
      clear k0 k1 k2 d0 d1 d2
      obtain ⟨k0, k1, k2⟩ := KA.out _ HU2.out
      obtain ⟨d0, d1, d2⟩ := KD.out _ HU2.out
      go_wp2_with fail
      refine (e30.out _ (HUP.out _ HU2.out)).mono ?_
      rintro e u3 ⟨rx, rfl, hix, hb⟩
      have HU3 := Lib.hid (Below.trans HU2.out (hb.mono (Below.size HU2.out)))
      replace HIa := Lib.hid (HIa.out.at hb)
      replace HIb := Lib.hid (HIb.out.at hb)
      have HIx := Lib.hid hix
      clear hix
      clear hb
      clear k0 k1 k2 d0 d1 d2
      obtain ⟨k0, k1, k2⟩ := KA.out _ HU3.out
      obtain ⟨d0, d1, d2⟩ := KD.out _ HU3.out
      go_wp2_with fail
      refine (d30.out _ _ (HDS'.out.at HU3.out)).mono ?_
      rintro e u4 ⟨ry, rfl, hiy, hb⟩
      have HU4 := Lib.hid (Below.trans HU3.out (hb.mono (Below.size HU3.out)))
      replace HIa := Lib.hid (HIa.out.at hb)
      replace HIb := Lib.hid (HIb.out.at hb)
      replace HIx := Lib.hid (HIx.out.at hb)
      have HIy := Lib.hid hiy
      clear hiy
      clear hb
      clear k0 k1 k2 d0 d1 d2
      obtain ⟨k0, k1, k2⟩ := KA.out _ HU4.out
      obtain ⟨d0, d1, d2⟩ := KD.out _ HU4.out
      go_wp2_with fail
      refine (inside_any rb ra k (by omega) fd fc HFC.out _ HIb.out HIa.out).mono ?_
      rintro e u5 ⟨rfl, hb⟩
      have HU5 := Lib.hid (Below.trans HU4.out (hb.mono (Below.size HU4.out)))
      replace HIa := Lib.hid (HIa.out.at hb)
      replace HIb := Lib.hid (HIb.out.at hb)
      replace HIx := Lib.hid (HIx.out.at hb)
      replace HIy := Lib.hid (HIy.out.at hb)
      clear hb
      clear k0 k1 k2 d0 d1 d2
      obtain ⟨k0, k1, k2⟩ := KA.out _ HU5.out
      obtain ⟨d0, d1, d2⟩ := KD.out _ HU5.out
      go_wp2_with fail
      refine (inside_any ry rx k (by omega) vd vc HFV.out _ HIy.out HIx.out).mono ?_
      rintro e u6 ⟨rfl, hb⟩
      have HU6 := Lib.hid (Below.trans HU5.out (hb.mono (Below.size HU5.out)))
      replace HIa := Lib.hid (HIa.out.at hb)
      replace HIb := Lib.hid (HIb.out.at hb)
      replace HIx := Lib.hid (HIx.out.at hb)
      replace HIy := Lib.hid (HIy.out.at hb)
      clear hb
      clear k0 k1 k2 d0 d1 d2
      obtain ⟨k0, k1, k2⟩ := KA.out _ HU6.out
      obtain ⟨d0, d1, d2⟩ := KD.out _ HU6.out
      go_wp2_with fail
      refine (e33.out _ (HUP.out _ HU6.out)).mono ?_
      rintro e u7 ⟨ru, rfl, hiu, hb⟩
      have HU7 := Lib.hid (Below.trans HU6.out (hb.mono (Below.size HU6.out)))
      have HIu := Lib.hid hiu
      clear hiu
      clear hb
      clear k0 k1 k2 d0 d1 d2
      obtain ⟨k0, k1, k2⟩ := KA.out _ HU7.out
      obtain ⟨d0, d1, d2⟩ := KD.out _ HU7.out
      go_wp2_with fail
      refine (d33.out _ _ (HDS'.out.at HU7.out)).mono ?_
      rintro e u8 ⟨rv, rfl, hiv, hb⟩
      have HU8 := Lib.hid (Below.trans HU7.out (hb.mono (Below.size HU7.out)))
      replace HIu := Lib.hid (HIu.out.at hb)
      have HIv := Lib.hid hiv
      clear hiv
      clear hb
      clear k0 k1 k2 d0 d1 d2
      obtain ⟨k0, k1, k2⟩ := KA.out _ HU8.out
      obtain ⟨d0, d1, d2⟩ := KD.out _ HU8.out
      go_wp2_with fail
      refine (e35.out _ (HUP.out _ HU8.out)).mono ?_
      rintro e u9 ⟨rw, rfl, hiw, hb⟩
      have HU9 := Lib.hid (Below.trans HU8.out (hb.mono (Below.size HU8.out)))
      replace HIu := Lib.hid (HIu.out.at hb)
      replace HIv := Lib.hid (HIv.out.at hb)
      have HIw := Lib.hid hiw
      clear hiw
      clear hb
      clear k0 k1 k2 d0 d1 d2
      obtain ⟨k0, k1, k2⟩ := KA.out _ HU9.out
      obtain ⟨d0, d1, d2⟩ := KD.out _ HU9.out
      go_wp2_with fail
      refine (d35.out _ _ (HDS'.out.at HU9.out)).mono ?_
      rintro e u10 ⟨rz, rfl, hiz, hb⟩
      have HU10 := Lib.hid (Below.trans HU9.out (hb.mono (Below.size HU9.out)))
      replace HIu := Lib.hid (HIu.out.at hb)
      replace HIv := Lib.hid (HIv.out.at hb)
      replace HIw := Lib.hid (HIw.out.at hb)
      have HIz := Lib.hid hiz
      clear hiz
      clear hb
      clear k0 k1 k2 d0 d1 d2
      obtain ⟨k0, k1, k2⟩ := KA.out _ HU10.out
      obtain ⟨d0, d1, d2⟩ := KD.out _ HU10.out
      have hfl : ∀ f : Nat → Int, (fL f k).length = k := fun f => fL_len f k
      obtain ⟨qa, ca, ha⟩ := HIu.out.form
      obtain ⟨qb, cb', hb'⟩ := HIv.out.form
      obtain ⟨qx, cx, hx⟩ := HIw.out.form
      obtain ⟨qy, cy, hy⟩ := HIz.out.form
      rw [hfl] at ha hb' hx hy
      subst ha hb' hx hy
      have HEA := Lib.hid (fun W h j hj => il_at (HIu.out.at h : Il W.heap.size W _ _) (k := j) hj)
      have HEB := Lib.hid (fun W h j hj => il_at (HIv.out.at h : Il W.heap.size W _ _) (k := j) hj)
      have HEX := Lib.hid (fun W h j hj => il_at (HIw.out.at h : Il W.heap.size W _ _) (k := j) hj)
      have HEY := Lib.hid (fun W h j hj => il_at (HIz.out.at h : Il W.heap.size W _ _) (k := j) hj)
      clear hfl HIu HIv HIw HIz k0 k1 k2 d0 d1 d2
      obtain ⟨WL, rfl⟩ : ∃ q, q = u10 := ⟨_, rfl⟩
      go_wp2_with fail
      go_loopw [19] (fun iv wr => ∃ j : Nat, j ≤ k ∧ iv = .int .i64 j ∧ Below WL.heap.size WL wr) (fun iv _ => k - (intOf iv).toNat)
      case atStart => exact ⟨0, Nat.zero_le _, rfl, Below.refl _ _⟩
      case round =>
        obtain ⟨j, hj, rfl, hBR⟩ := hrel
        have HBR := Lib.hid hBR
        clear hBR
        by_cases hlt : j < k
        · have hji : (j : Int) < (k : Int) := by omega
          obtain ⟨ga, oa, rfl, hga, ca0⟩ := HEA.out _ HBR.out j hlt
          obtain ⟨gb, ob, rfl, hgb, cb0⟩ := HEB.out _ HBR.out j hlt
          obtain ⟨gx, ox, rfl, hgx, cx0⟩ := HEX.out _ HBR.out j hlt
          obtain ⟨gy, oy, rfl, hgy, cy0⟩ := HEY.out _ HBR.out j hlt
          have HW1 := HAW.out j hlt
          have HF1 := HAF.out j hlt
          generalize wc' j = va1 at *
          generalize wd' j = vb1 at *
          generalize xc' j = vx1 at *
          generalize xd' j = vy1 at *
          by_cases hA : va1 = 1
          · have hAb : (va1 != 1) = false := by simp [hA]
            by_cases hX : vx1 = 1
            · have hXb : (vx1 != 1) = false := by simp [hX]
              clear hA hX HW1 HF1
              go_upto_region 26 with fail
              refine wp_region_held_drew (S := fun w' => w'.cell? ⟨ga, oa + j, none⟩ = some (Value.int .i64 va1) ∧ w'.cell? ⟨gb, ob + j, none⟩ = some (Value.int .i64 vb1) ∧ w'.cell? ⟨gx, ox + j, none⟩ = some (Value.int .i64 vx1) ∧ w'.cell? ⟨gy, oy + j, none⟩ = some (Value.int .i64 vy1)) (by kernel_rfl) ⟨by simpa [go_sem] using ca0, by simpa [go_sem] using cb0, by simpa [go_sem] using cx0, by simpa [go_sem] using cy0⟩ (fun hHeld => ?_)
              refine wpAnyH_take (i := 0) (oi := _) (v := Value.slice (some ⟨ga, oa, none⟩) k ca) rfl (by kernel_rfl) (by kernel_rfl) (by kernel_rfl) (fun _ _ _ h => h) (Or.inl ⟨by rfl, fun w' hSw => ?_⟩) hHeld ?_
              · obtain ⟨t0, t1, t2, t3⟩ := hSw
                go_simp
                try simp [*]
                try (intro hh; exfalso; omega)
                try omega
              try simp only [Act.put, List.setIfInBounds_toArray, List.set_cons_zero, List.set_cons_succ, List.getElem_toArray, List.getElem_cons_succ, List.getElem_cons_zero]
              refine wpAnyH_take (i := 1) (oi := _) (v := Value.int .i64 (j : Int)) rfl (by kernel_rfl) (by kernel_rfl) (by kernel_rfl) (fun _ _ _ h => h) (Or.inl ⟨by rfl, fun w' hSw => ?_⟩) hHeld ?_
              · obtain ⟨t0, t1, t2, t3⟩ := hSw
                go_simp
                try simp [*]
                try (intro hh; exfalso; omega)
                try omega
              try simp only [Act.put, List.setIfInBounds_toArray, List.set_cons_zero, List.set_cons_succ, List.getElem_toArray, List.getElem_cons_succ, List.getElem_cons_zero]
              refine wpAnyH_take (i := 2) (oi := _) (v := Value.pointer (some ⟨ga, oa + j, none⟩)) rfl (by kernel_rfl) (by kernel_rfl) (by kernel_rfl) (fun _ _ _ h => h) (Or.inl ⟨by rfl, fun w' hSw => ?_⟩) hHeld ?_
              · obtain ⟨t0, t1, t2, t3⟩ := hSw
                go_simp
                try simp [*]
                try (intro hh; exfalso; omega)
                try omega
              try simp only [Act.put, List.setIfInBounds_toArray, List.set_cons_zero, List.set_cons_succ, List.getElem_toArray, List.getElem_cons_succ, List.getElem_cons_zero]
              refine wpAnyH_take (i := 3) (oi := _) (v := Value.int .i64 va1) rfl (by kernel_rfl) (by kernel_rfl) (by kernel_rfl) (fun _ _ _ h => h) (Or.inl ⟨by rfl, fun w' hSw => ?_⟩) hHeld ?_
              · obtain ⟨t0, t1, t2, t3⟩ := hSw
                go_simp
                try simp [*]
                try (intro hh; exfalso; omega)
                try omega
              try simp only [Act.put, List.setIfInBounds_toArray, List.set_cons_zero, List.set_cons_succ, List.getElem_toArray, List.getElem_cons_succ, List.getElem_cons_zero]
              refine wpAnyH_take (i := 4) (oi := _) (v := Value.bool false) rfl (by kernel_rfl) (by kernel_rfl) (by kernel_rfl) (fun _ _ _ h => h) (Or.inl ⟨by rfl, fun w' hSw => ?_⟩) hHeld ?_
              · obtain ⟨t0, t1, t2, t3⟩ := hSw
                go_simp
                try simp [*]
                try (intro hh; exfalso; omega)
                try omega
              try simp only [Act.put, List.setIfInBounds_toArray, List.set_cons_zero, List.set_cons_succ, List.getElem_toArray, List.getElem_cons_succ, List.getElem_cons_zero]
              refine wpAnyH_take (i := 5) (oi := _) (v := Value.bool false) rfl (by kernel_rfl) (by kernel_rfl) (by kernel_rfl) (fun _ _ _ h => h) (Or.inl ⟨by rfl, fun w' hSw => ?_⟩) hHeld ?_
              · obtain ⟨t0, t1, t2, t3⟩ := hSw
                go_simp
                try simp [*]
                try (intro hh; exfalso; omega)
                try omega
              try simp only [Act.put, List.setIfInBounds_toArray, List.set_cons_zero, List.set_cons_succ, List.getElem_toArray, List.getElem_cons_succ, List.getElem_cons_zero]
              refine wpAnyH_take (i := 6) (oi := _) (v := undef) rfl (by kernel_rfl) (by kernel_rfl) (by kernel_rfl) (fun _ _ _ h => h) (Or.inr ⟨by rfl, rfl⟩) hHeld ?_
              try simp only [Act.put, List.setIfInBounds_toArray, List.set_cons_zero, List.set_cons_succ, List.getElem_toArray, List.getElem_cons_succ, List.getElem_cons_zero]
              refine wpAnyH_take (i := 7) (oi := _) (v := undef) rfl (by kernel_rfl) (by kernel_rfl) (by kernel_rfl) (fun _ _ _ h => h) (Or.inr ⟨by rfl, rfl⟩) hHeld ?_
              try simp only [Act.put, List.setIfInBounds_toArray, List.set_cons_zero, List.set_cons_succ, List.getElem_toArray, List.getElem_cons_succ, List.getElem_cons_zero]
              refine wpAnyH_take (i := 8) (oi := _) (v := undef) rfl (by kernel_rfl) (by kernel_rfl) (by kernel_rfl) (fun _ _ _ h => h) (Or.inr ⟨by rfl, rfl⟩) hHeld ?_
              try simp only [Act.put, List.setIfInBounds_toArray, List.set_cons_zero, List.set_cons_succ, List.getElem_toArray, List.getElem_cons_succ, List.getElem_cons_zero]
              refine wpAnyH_take (i := 9) (oi := _) (v := undef) rfl (by kernel_rfl) (by kernel_rfl) (by kernel_rfl) (fun _ _ _ h => h) (Or.inr ⟨by rfl, rfl⟩) hHeld ?_
              try simp only [Act.put, List.setIfInBounds_toArray, List.set_cons_zero, List.set_cons_succ, List.getElem_toArray, List.getElem_cons_succ, List.getElem_cons_zero]
              refine wpAnyH_take (i := 10) (oi := _) (v := undef) rfl (by kernel_rfl) (by kernel_rfl) (by kernel_rfl) (fun _ _ _ h => h) (Or.inr ⟨by rfl, rfl⟩) hHeld ?_
              try simp only [Act.put, List.setIfInBounds_toArray, List.set_cons_zero, List.set_cons_succ, List.getElem_toArray, List.getElem_cons_succ, List.getElem_cons_zero]
              refine wpAnyH_take (i := 11) (oi := _) (v := undef) rfl (by kernel_rfl) (by kernel_rfl) (by kernel_rfl) (fun _ _ _ h => h) (Or.inr ⟨by rfl, rfl⟩) hHeld ?_
              try simp only [Act.put, List.setIfInBounds_toArray, List.set_cons_zero, List.set_cons_succ, List.getElem_toArray, List.getElem_cons_succ, List.getElem_cons_zero]
              refine wpAnyH_take (i := 12) (oi := _) (v := undef) rfl (by kernel_rfl) (by kernel_rfl) (by kernel_rfl) (fun _ _ _ h => h) (Or.inr ⟨by rfl, rfl⟩) hHeld ?_
              try simp only [Act.put, List.setIfInBounds_toArray, List.set_cons_zero, List.set_cons_succ, List.getElem_toArray, List.getElem_cons_succ, List.getElem_cons_zero]
              refine wpAnyH_take (i := 13) (oi := _) (v := undef) rfl (by kernel_rfl) (by kernel_rfl) (by kernel_rfl) (fun _ _ _ h => h) (Or.inr ⟨by rfl, rfl⟩) hHeld ?_
              try simp only [Act.put, List.setIfInBounds_toArray, List.set_cons_zero, List.set_cons_succ, List.getElem_toArray, List.getElem_cons_succ, List.getElem_cons_zero]
              refine wpAnyH_take (i := 14) (oi := _) (v := undef) rfl (by kernel_rfl) (by kernel_rfl) (by kernel_rfl) (fun _ _ _ h => h) (Or.inr ⟨by rfl, rfl⟩) hHeld ?_
              try simp only [Act.put, List.setIfInBounds_toArray, List.set_cons_zero, List.set_cons_succ, List.getElem_toArray, List.getElem_cons_succ, List.getElem_cons_zero]
              refine wpAnyH_take (i := 15) (oi := _) (v := Value.bool false) rfl (by kernel_rfl) (by kernel_rfl) (by kernel_rfl) (fun _ _ _ h => h) (Or.inl ⟨by rfl, fun w' hSw => ?_⟩) hHeld ?_
              · obtain ⟨t0, t1, t2, t3⟩ := hSw
                go_simp
                try simp [*]
                try (intro hh; exfalso; omega)
                try omega
              try simp only [Act.put, List.setIfInBounds_toArray, List.set_cons_zero, List.set_cons_succ, List.getElem_toArray, List.getElem_cons_succ, List.getElem_cons_zero]
              refine wpAnyH_take (i := 16) (oi := _) (v := Value.bool false) rfl (by kernel_rfl) (by kernel_rfl) (by kernel_rfl) (fun _ _ _ h => h) (Or.inl ⟨by rfl, fun w' hSw => ?_⟩) hHeld ?_
              · obtain ⟨t0, t1, t2, t3⟩ := hSw
                go_simp
                try simp [*]
                try (intro hh; exfalso; omega)
                try omega
              try simp only [Act.put, List.setIfInBounds_toArray, List.set_cons_zero, List.set_cons_succ, List.getElem_toArray, List.getElem_cons_succ, List.getElem_cons_zero]
              refine wpAnyH_take (i := 17) (oi := _) (v := Value.slice (some ⟨gx, ox, none⟩) k cx) rfl (by kernel_rfl) (by kernel_rfl) (by kernel_rfl) (fun _ _ _ h => h) (Or.inl ⟨by rfl, fun w' hSw => ?_⟩) hHeld ?_
              · obtain ⟨t0, t1, t2, t3⟩ := hSw
                go_simp
                try simp [*]
                try (intro hh; exfalso; omega)
                try omega
              try simp only [Act.put, List.setIfInBounds_toArray, List.set_cons_zero, List.set_cons_succ, List.getElem_toArray, List.getElem_cons_succ, List.getElem_cons_zero]
              refine wpAnyH_take (i := 18) (oi := _) (v := Value.int .i64 (j : Int)) rfl (by kernel_rfl) (by kernel_rfl) (by kernel_rfl) (fun _ _ _ h => h) (Or.inl ⟨by rfl, fun w' hSw => ?_⟩) hHeld ?_
              · obtain ⟨t0, t1, t2, t3⟩ := hSw
                go_simp
                try simp [*]
                try (intro hh; exfalso; omega)
                try omega
              try simp only [Act.put, List.setIfInBounds_toArray, List.set_cons_zero, List.set_cons_succ, List.getElem_toArray, List.getElem_cons_succ, List.getElem_cons_zero]
              refine wpAnyH_take (i := 19) (oi := _) (v := Value.pointer (some ⟨gx, ox + j, none⟩)) rfl (by kernel_rfl) (by kernel_rfl) (by kernel_rfl) (fun _ _ _ h => h) (Or.inl ⟨by rfl, fun w' hSw => ?_⟩) hHeld ?_
              · obtain ⟨t0, t1, t2, t3⟩ := hSw
                go_simp
                try simp [*]
                try (intro hh; exfalso; omega)
                try omega
              try simp only [Act.put, List.setIfInBounds_toArray, List.set_cons_zero, List.set_cons_succ, List.getElem_toArray, List.getElem_cons_succ, List.getElem_cons_zero]
              refine wpAnyH_take (i := 20) (oi := _) (v := Value.int .i64 vx1) rfl (by kernel_rfl) (by kernel_rfl) (by kernel_rfl) (fun _ _ _ h => h) (Or.inl ⟨by rfl, fun w' hSw => ?_⟩) hHeld ?_
              · obtain ⟨t0, t1, t2, t3⟩ := hSw
                go_simp
                try simp [*]
                try (intro hh; exfalso; omega)
                try omega
              try simp only [Act.put, List.setIfInBounds_toArray, List.set_cons_zero, List.set_cons_succ, List.getElem_toArray, List.getElem_cons_succ, List.getElem_cons_zero]
              refine wpAnyH_take (i := 21) (oi := _) (v := Value.bool false) rfl (by kernel_rfl) (by kernel_rfl) (by kernel_rfl) (fun _ _ _ h => h) (Or.inl ⟨by rfl, fun w' hSw => ?_⟩) hHeld ?_
              · obtain ⟨t0, t1, t2, t3⟩ := hSw
                go_simp
                try simp [*]
                try (intro hh; exfalso; omega)
                try omega
              try simp only [Act.put, List.setIfInBounds_toArray, List.set_cons_zero, List.set_cons_succ, List.getElem_toArray, List.getElem_cons_succ, List.getElem_cons_zero]
              refine wpAnyH_take (i := 22) (oi := _) (v := Value.bool false) rfl (by kernel_rfl) (by kernel_rfl) (by kernel_rfl) (fun _ _ _ h => h) (Or.inl ⟨by rfl, fun w' hSw => ?_⟩) hHeld ?_
              · obtain ⟨t0, t1, t2, t3⟩ := hSw
                go_simp
                try simp [*]
                try (intro hh; exfalso; omega)
                try omega
              try simp only [Act.put, List.setIfInBounds_toArray, List.set_cons_zero, List.set_cons_succ, List.getElem_toArray, List.getElem_cons_succ, List.getElem_cons_zero]
              refine wpAnyH_take (i := 23) (oi := _) (v := undef) rfl (by kernel_rfl) (by kernel_rfl) (by kernel_rfl) (fun _ _ _ h => h) (Or.inr ⟨by rfl, rfl⟩) hHeld ?_
              try simp only [Act.put, List.setIfInBounds_toArray, List.set_cons_zero, List.set_cons_succ, List.getElem_toArray, List.getElem_cons_succ, List.getElem_cons_zero]
              refine wpAnyH_take (i := 24) (oi := _) (v := undef) rfl (by kernel_rfl) (by kernel_rfl) (by kernel_rfl) (fun _ _ _ h => h) (Or.inr ⟨by rfl, rfl⟩) hHeld ?_
              try simp only [Act.put, List.setIfInBounds_toArray, List.set_cons_zero, List.set_cons_succ, List.getElem_toArray, List.getElem_cons_succ, List.getElem_cons_zero]
              refine wpAnyH_take (i := 25) (oi := _) (v := undef) rfl (by kernel_rfl) (by kernel_rfl) (by kernel_rfl) (fun _ _ _ h => h) (Or.inr ⟨by rfl, rfl⟩) hHeld ?_
              try simp only [Act.put, List.setIfInBounds_toArray, List.set_cons_zero, List.set_cons_succ, List.getElem_toArray, List.getElem_cons_succ, List.getElem_cons_zero]
              refine wpAnyH_take (i := 26) (oi := _) (v := undef) rfl (by kernel_rfl) (by kernel_rfl) (by kernel_rfl) (fun _ _ _ h => h) (Or.inr ⟨by rfl, rfl⟩) hHeld ?_
              try simp only [Act.put, List.setIfInBounds_toArray, List.set_cons_zero, List.set_cons_succ, List.getElem_toArray, List.getElem_cons_succ, List.getElem_cons_zero]
              refine wpAnyH_take (i := 27) (oi := _) (v := undef) rfl (by kernel_rfl) (by kernel_rfl) (by kernel_rfl) (fun _ _ _ h => h) (Or.inr ⟨by rfl, rfl⟩) hHeld ?_
              try simp only [Act.put, List.setIfInBounds_toArray, List.set_cons_zero, List.set_cons_succ, List.getElem_toArray, List.getElem_cons_succ, List.getElem_cons_zero]
              refine wpAnyH_take (i := 28) (oi := _) (v := undef) rfl (by kernel_rfl) (by kernel_rfl) (by kernel_rfl) (fun _ _ _ h => h) (Or.inr ⟨by rfl, rfl⟩) hHeld ?_
              try simp only [Act.put, List.setIfInBounds_toArray, List.set_cons_zero, List.set_cons_succ, List.getElem_toArray, List.getElem_cons_succ, List.getElem_cons_zero]
              refine wpAnyH_take (i := 29) (oi := _) (v := undef) rfl (by kernel_rfl) (by kernel_rfl) (by kernel_rfl) (fun _ _ _ h => h) (Or.inr ⟨by rfl, rfl⟩) hHeld ?_
              try simp only [Act.put, List.setIfInBounds_toArray, List.set_cons_zero, List.set_cons_succ, List.getElem_toArray, List.getElem_cons_succ, List.getElem_cons_zero]
              refine wpAnyH_take (i := 30) (oi := _) (v := undef) rfl (by kernel_rfl) (by kernel_rfl) (by kernel_rfl) (fun _ _ _ h => h) (Or.inr ⟨by rfl, rfl⟩) hHeld ?_
              try simp only [Act.put, List.setIfInBounds_toArray, List.set_cons_zero, List.set_cons_succ, List.getElem_toArray, List.getElem_cons_succ, List.getElem_cons_zero]
              refine wpAnyH_take (i := 31) (oi := _) (v := undef) rfl (by kernel_rfl) (by kernel_rfl) (by kernel_rfl) (fun _ _ _ h => h) (Or.inr ⟨by rfl, rfl⟩) hHeld ?_
              try simp only [Act.put, List.setIfInBounds_toArray, List.set_cons_zero, List.set_cons_succ, List.getElem_toArray, List.getElem_cons_succ, List.getElem_cons_zero]
              refine wpAnyH_take (i := 32) (oi := _) (v := Value.bool false) rfl (by kernel_rfl) (by kernel_rfl) (by kernel_rfl) (fun _ _ _ h => h) (Or.inl ⟨by rfl, fun w' hSw => ?_⟩) hHeld ?_
              · obtain ⟨t0, t1, t2, t3⟩ := hSw
                go_simp
                try simp [*]
                try (intro hh; exfalso; omega)
                try omega
              try simp only [Act.put, List.setIfInBounds_toArray, List.set_cons_zero, List.set_cons_succ, List.getElem_toArray, List.getElem_cons_succ, List.getElem_cons_zero]
              refine wpAnyH_take (i := 33) (oi := _) (v := Value.bool false) rfl (by kernel_rfl) (by kernel_rfl) (by kernel_rfl) (fun _ _ _ h => h) (Or.inl ⟨by rfl, fun w' hSw => ?_⟩) hHeld ?_
              · obtain ⟨t0, t1, t2, t3⟩ := hSw
                go_simp
                try simp [*]
                try (intro hh; exfalso; omega)
                try omega
              try simp only [Act.put, List.setIfInBounds_toArray, List.set_cons_zero, List.set_cons_succ, List.getElem_toArray, List.getElem_cons_succ, List.getElem_cons_zero]
              refine wpAnyH_done (by kernel_rfl) ?_ _
              clear hHeld
              go_wp2_with fail
              go_roundw
              case rel => exact ⟨j + 1, by omega, by go_num, HBR.out.drew⟩
              case measure => simp [intOf]; omega
            · have hXb : (vx1 != 1) = true := by simpa using hX
              have hYX := HF1 hX
              subst hYX
              clear hA hX HW1 HF1
              go_upto_region 26 with fail
              refine wp_region_held_drew (S := fun w' => w'.cell? ⟨ga, oa + j, none⟩ = some (Value.int .i64 va1) ∧ w'.cell? ⟨gb, ob + j, none⟩ = some (Value.int .i64 vb1) ∧ w'.cell? ⟨gx, ox + j, none⟩ = some (Value.int .i64 vy1) ∧ w'.cell? ⟨gy, oy + j, none⟩ = some (Value.int .i64 vy1)) (by kernel_rfl) ⟨by simpa [go_sem] using ca0, by simpa [go_sem] using cb0, by simpa [go_sem] using cx0, by simpa [go_sem] using cy0⟩ (fun hHeld => ?_)
              refine wpAnyH_take (i := 0) (oi := _) (v := Value.slice (some ⟨ga, oa, none⟩) k ca) rfl (by kernel_rfl) (by kernel_rfl) (by kernel_rfl) (fun _ _ _ h => h) (Or.inl ⟨by rfl, fun w' hSw => ?_⟩) hHeld ?_
              · obtain ⟨t0, t1, t2, t3⟩ := hSw
                go_simp
                try simp [*]
                try (intro hh; exfalso; omega)
                try omega
              try simp only [Act.put, List.setIfInBounds_toArray, List.set_cons_zero, List.set_cons_succ, List.getElem_toArray, List.getElem_cons_succ, List.getElem_cons_zero]
              refine wpAnyH_take (i := 1) (oi := _) (v := Value.int .i64 (j : Int)) rfl (by kernel_rfl) (by kernel_rfl) (by kernel_rfl) (fun _ _ _ h => h) (Or.inl ⟨by rfl, fun w' hSw => ?_⟩) hHeld ?_
              · obtain ⟨t0, t1, t2, t3⟩ := hSw
                go_simp
                try simp [*]
                try (intro hh; exfalso; omega)
                try omega
              try simp only [Act.put, List.setIfInBounds_toArray, List.set_cons_zero, List.set_cons_succ, List.getElem_toArray, List.getElem_cons_succ, List.getElem_cons_zero]
              refine wpAnyH_take (i := 2) (oi := _) (v := Value.pointer (some ⟨ga, oa + j, none⟩)) rfl (by kernel_rfl) (by kernel_rfl) (by kernel_rfl) (fun _ _ _ h => h) (Or.inl ⟨by rfl, fun w' hSw => ?_⟩) hHeld ?_
              · obtain ⟨t0, t1, t2, t3⟩ := hSw
                go_simp
                try simp [*]
                try (intro hh; exfalso; omega)
                try omega
              try simp only [Act.put, List.setIfInBounds_toArray, List.set_cons_zero, List.set_cons_succ, List.getElem_toArray, List.getElem_cons_succ, List.getElem_cons_zero]
              refine wpAnyH_take (i := 3) (oi := _) (v := Value.int .i64 va1) rfl (by kernel_rfl) (by kernel_rfl) (by kernel_rfl) (fun _ _ _ h => h) (Or.inl ⟨by rfl, fun w' hSw => ?_⟩) hHeld ?_
              · obtain ⟨t0, t1, t2, t3⟩ := hSw
                go_simp
                try simp [*]
                try (intro hh; exfalso; omega)
                try omega
              try simp only [Act.put, List.setIfInBounds_toArray, List.set_cons_zero, List.set_cons_succ, List.getElem_toArray, List.getElem_cons_succ, List.getElem_cons_zero]
              refine wpAnyH_take (i := 4) (oi := _) (v := Value.bool false) rfl (by kernel_rfl) (by kernel_rfl) (by kernel_rfl) (fun _ _ _ h => h) (Or.inl ⟨by rfl, fun w' hSw => ?_⟩) hHeld ?_
              · obtain ⟨t0, t1, t2, t3⟩ := hSw
                go_simp
                try simp [*]
                try (intro hh; exfalso; omega)
                try omega
              try simp only [Act.put, List.setIfInBounds_toArray, List.set_cons_zero, List.set_cons_succ, List.getElem_toArray, List.getElem_cons_succ, List.getElem_cons_zero]
              refine wpAnyH_take (i := 5) (oi := _) (v := Value.bool false) rfl (by kernel_rfl) (by kernel_rfl) (by kernel_rfl) (fun _ _ _ h => h) (Or.inl ⟨by rfl, fun w' hSw => ?_⟩) hHeld ?_
              · obtain ⟨t0, t1, t2, t3⟩ := hSw
                go_simp
                try simp [*]
                try (intro hh; exfalso; omega)
                try omega
              try simp only [Act.put, List.setIfInBounds_toArray, List.set_cons_zero, List.set_cons_succ, List.getElem_toArray, List.getElem_cons_succ, List.getElem_cons_zero]
              refine wpAnyH_take (i := 6) (oi := _) (v := undef) rfl (by kernel_rfl) (by kernel_rfl) (by kernel_rfl) (fun _ _ _ h => h) (Or.inr ⟨by rfl, rfl⟩) hHeld ?_
              try simp only [Act.put, List.setIfInBounds_toArray, List.set_cons_zero, List.set_cons_succ, List.getElem_toArray, List.getElem_cons_succ, List.getElem_cons_zero]
              refine wpAnyH_take (i := 7) (oi := _) (v := undef) rfl (by kernel_rfl) (by kernel_rfl) (by kernel_rfl) (fun _ _ _ h => h) (Or.inr ⟨by rfl, rfl⟩) hHeld ?_
              try simp only [Act.put, List.setIfInBounds_toArray, List.set_cons_zero, List.set_cons_succ, List.getElem_toArray, List.getElem_cons_succ, List.getElem_cons_zero]
              refine wpAnyH_take (i := 8) (oi := _) (v := undef) rfl (by kernel_rfl) (by kernel_rfl) (by kernel_rfl) (fun _ _ _ h => h) (Or.inr ⟨by rfl, rfl⟩) hHeld ?_
              try simp only [Act.put, List.setIfInBounds_toArray, List.set_cons_zero, List.set_cons_succ, List.getElem_toArray, List.getElem_cons_succ, List.getElem_cons_zero]
              refine wpAnyH_take (i := 9) (oi := _) (v := undef) rfl (by kernel_rfl) (by kernel_rfl) (by kernel_rfl) (fun _ _ _ h => h) (Or.inr ⟨by rfl, rfl⟩) hHeld ?_
              try simp only [Act.put, List.setIfInBounds_toArray, List.set_cons_zero, List.set_cons_succ, List.getElem_toArray, List.getElem_cons_succ, List.getElem_cons_zero]
              refine wpAnyH_take (i := 10) (oi := _) (v := undef) rfl (by kernel_rfl) (by kernel_rfl) (by kernel_rfl) (fun _ _ _ h => h) (Or.inr ⟨by rfl, rfl⟩) hHeld ?_
              try simp only [Act.put, List.setIfInBounds_toArray, List.set_cons_zero, List.set_cons_succ, List.getElem_toArray, List.getElem_cons_succ, List.getElem_cons_zero]
              refine wpAnyH_take (i := 11) (oi := _) (v := undef) rfl (by kernel_rfl) (by kernel_rfl) (by kernel_rfl) (fun _ _ _ h => h) (Or.inr ⟨by rfl, rfl⟩) hHeld ?_
              try simp only [Act.put, List.setIfInBounds_toArray, List.set_cons_zero, List.set_cons_succ, List.getElem_toArray, List.getElem_cons_succ, List.getElem_cons_zero]
              refine wpAnyH_take (i := 12) (oi := _) (v := undef) rfl (by kernel_rfl) (by kernel_rfl) (by kernel_rfl) (fun _ _ _ h => h) (Or.inr ⟨by rfl, rfl⟩) hHeld ?_
              try simp only [Act.put, List.setIfInBounds_toArray, List.set_cons_zero, List.set_cons_succ, List.getElem_toArray, List.getElem_cons_succ, List.getElem_cons_zero]
              refine wpAnyH_take (i := 13) (oi := _) (v := undef) rfl (by kernel_rfl) (by kernel_rfl) (by kernel_rfl) (fun _ _ _ h => h) (Or.inr ⟨by rfl, rfl⟩) hHeld ?_
              try simp only [Act.put, List.setIfInBounds_toArray, List.set_cons_zero, List.set_cons_succ, List.getElem_toArray, List.getElem_cons_succ, List.getElem_cons_zero]
              refine wpAnyH_take (i := 14) (oi := _) (v := undef) rfl (by kernel_rfl) (by kernel_rfl) (by kernel_rfl) (fun _ _ _ h => h) (Or.inr ⟨by rfl, rfl⟩) hHeld ?_
              try simp only [Act.put, List.setIfInBounds_toArray, List.set_cons_zero, List.set_cons_succ, List.getElem_toArray, List.getElem_cons_succ, List.getElem_cons_zero]
              refine wpAnyH_take (i := 15) (oi := _) (v := Value.bool false) rfl (by kernel_rfl) (by kernel_rfl) (by kernel_rfl) (fun _ _ _ h => h) (Or.inl ⟨by rfl, fun w' hSw => ?_⟩) hHeld ?_
              · obtain ⟨t0, t1, t2, t3⟩ := hSw
                go_simp
                try simp [*]
                try (intro hh; exfalso; omega)
                try omega
              try simp only [Act.put, List.setIfInBounds_toArray, List.set_cons_zero, List.set_cons_succ, List.getElem_toArray, List.getElem_cons_succ, List.getElem_cons_zero]
              refine wpAnyH_take (i := 16) (oi := _) (v := Value.bool false) rfl (by kernel_rfl) (by kernel_rfl) (by kernel_rfl) (fun _ _ _ h => h) (Or.inl ⟨by rfl, fun w' hSw => ?_⟩) hHeld ?_
              · obtain ⟨t0, t1, t2, t3⟩ := hSw
                go_simp
                try simp [*]
                try (intro hh; exfalso; omega)
                try omega
              try simp only [Act.put, List.setIfInBounds_toArray, List.set_cons_zero, List.set_cons_succ, List.getElem_toArray, List.getElem_cons_succ, List.getElem_cons_zero]
              refine wpAnyH_take (i := 17) (oi := _) (v := Value.slice (some ⟨gx, ox, none⟩) k cx) rfl (by kernel_rfl) (by kernel_rfl) (by kernel_rfl) (fun _ _ _ h => h) (Or.inl ⟨by rfl, fun w' hSw => ?_⟩) hHeld ?_
              · obtain ⟨t0, t1, t2, t3⟩ := hSw
                go_simp
                try simp [*]
                try (intro hh; exfalso; omega)
                try omega
              try simp only [Act.put, List.setIfInBounds_toArray, List.set_cons_zero, List.set_cons_succ, List.getElem_toArray, List.getElem_cons_succ, List.getElem_cons_zero]
              refine wpAnyH_take (i := 18) (oi := _) (v := Value.int .i64 (j : Int)) rfl (by kernel_rfl) (by kernel_rfl) (by kernel_rfl) (fun _ _ _ h => h) (Or.inl ⟨by rfl, fun w' hSw => ?_⟩) hHeld ?_
              · obtain ⟨t0, t1, t2, t3⟩ := hSw
                go_simp
                try simp [*]
                try (intro hh; exfalso; omega)
                try omega
              try simp only [Act.put, List.setIfInBounds_toArray, List.set_cons_zero, List.set_cons_succ, List.getElem_toArray, List.getElem_cons_succ, List.getElem_cons_zero]
              refine wpAnyH_take (i := 19) (oi := _) (v := Value.pointer (some ⟨gx, ox + j, none⟩)) rfl (by kernel_rfl) (by kernel_rfl) (by kernel_rfl) (fun _ _ _ h => h) (Or.inl ⟨by rfl, fun w' hSw => ?_⟩) hHeld ?_
              · obtain ⟨t0, t1, t2, t3⟩ := hSw
                go_simp
                try simp [*]
                try (intro hh; exfalso; omega)
                try omega
              try simp only [Act.put, List.setIfInBounds_toArray, List.set_cons_zero, List.set_cons_succ, List.getElem_toArray, List.getElem_cons_succ, List.getElem_cons_zero]
              refine wpAnyH_take (i := 20) (oi := _) (v := Value.int .i64 vy1) rfl (by kernel_rfl) (by kernel_rfl) (by kernel_rfl) (fun _ _ _ h => h) (Or.inl ⟨by rfl, fun w' hSw => ?_⟩) hHeld ?_
              · obtain ⟨t0, t1, t2, t3⟩ := hSw
                go_simp
                try simp [*]
                try (intro hh; exfalso; omega)
                try omega
              try simp only [Act.put, List.setIfInBounds_toArray, List.set_cons_zero, List.set_cons_succ, List.getElem_toArray, List.getElem_cons_succ, List.getElem_cons_zero]
              refine wpAnyH_take (i := 21) (oi := _) (v := Value.bool true) rfl (by kernel_rfl) (by kernel_rfl) (by kernel_rfl) (fun _ _ _ h => h) (Or.inl ⟨by rfl, fun w' hSw => ?_⟩) hHeld ?_
              · obtain ⟨t0, t1, t2, t3⟩ := hSw
                go_simp
                try simp [*]
                try (intro hh; exfalso; omega)
                try omega
              try simp only [Act.put, List.setIfInBounds_toArray, List.set_cons_zero, List.set_cons_succ, List.getElem_toArray, List.getElem_cons_succ, List.getElem_cons_zero]
              refine wpAnyH_take (i := 22) (oi := _) (v := Value.bool true) rfl (by kernel_rfl) (by kernel_rfl) (by kernel_rfl) (fun _ _ _ h => h) (Or.inl ⟨by rfl, fun w' hSw => ?_⟩) hHeld ?_
              · obtain ⟨t0, t1, t2, t3⟩ := hSw
                go_simp
                try simp [*]
                try (intro hh; exfalso; omega)
                try omega
              try simp only [Act.put, List.setIfInBounds_toArray, List.set_cons_zero, List.set_cons_succ, List.getElem_toArray, List.getElem_cons_succ, List.getElem_cons_zero]
              refine wpAnyH_take (i := 23) (oi := _) (v := Value.slice (some ⟨gy, oy, none⟩) k cy) rfl (by kernel_rfl) (by kernel_rfl) (by kernel_rfl) (fun _ _ _ h => h) (Or.inl ⟨by rfl, fun w' hSw => ?_⟩) hHeld ?_
              · obtain ⟨t0, t1, t2, t3⟩ := hSw
                go_simp
                try simp [*]
                try (intro hh; exfalso; omega)
                try omega
              try simp only [Act.put, List.setIfInBounds_toArray, List.set_cons_zero, List.set_cons_succ, List.getElem_toArray, List.getElem_cons_succ, List.getElem_cons_zero]
              refine wpAnyH_take (i := 24) (oi := _) (v := Value.int .i64 (j : Int)) rfl (by kernel_rfl) (by kernel_rfl) (by kernel_rfl) (fun _ _ _ h => h) (Or.inl ⟨by rfl, fun w' hSw => ?_⟩) hHeld ?_
              · obtain ⟨t0, t1, t2, t3⟩ := hSw
                go_simp
                try simp [*]
                try (intro hh; exfalso; omega)
                try omega
              try simp only [Act.put, List.setIfInBounds_toArray, List.set_cons_zero, List.set_cons_succ, List.getElem_toArray, List.getElem_cons_succ, List.getElem_cons_zero]
              refine wpAnyH_take (i := 25) (oi := _) (v := Value.pointer (some ⟨gy, oy + j, none⟩)) rfl (by kernel_rfl) (by kernel_rfl) (by kernel_rfl) (fun _ _ _ h => h) (Or.inl ⟨by rfl, fun w' hSw => ?_⟩) hHeld ?_
              · obtain ⟨t0, t1, t2, t3⟩ := hSw
                go_simp
                try simp [*]
                try (intro hh; exfalso; omega)
                try omega
              try simp only [Act.put, List.setIfInBounds_toArray, List.set_cons_zero, List.set_cons_succ, List.getElem_toArray, List.getElem_cons_succ, List.getElem_cons_zero]
              refine wpAnyH_take (i := 26) (oi := _) (v := Value.int .i64 vy1) rfl (by kernel_rfl) (by kernel_rfl) (by kernel_rfl) (fun _ _ _ h => h) (Or.inl ⟨by rfl, fun w' hSw => ?_⟩) hHeld ?_
              · obtain ⟨t0, t1, t2, t3⟩ := hSw
                go_simp
                try simp [*]
                try (intro hh; exfalso; omega)
                try omega
              try simp only [Act.put, List.setIfInBounds_toArray, List.set_cons_zero, List.set_cons_succ, List.getElem_toArray, List.getElem_cons_succ, List.getElem_cons_zero]
              refine wpAnyH_take (i := 27) (oi := _) (v := Value.slice (some ⟨gx, ox, none⟩) k cx) rfl (by kernel_rfl) (by kernel_rfl) (by kernel_rfl) (fun _ _ _ h => h) (Or.inl ⟨by rfl, fun w' hSw => ?_⟩) hHeld ?_
              · obtain ⟨t0, t1, t2, t3⟩ := hSw
                go_simp
                try simp [*]
                try (intro hh; exfalso; omega)
                try omega
              try simp only [Act.put, List.setIfInBounds_toArray, List.set_cons_zero, List.set_cons_succ, List.getElem_toArray, List.getElem_cons_succ, List.getElem_cons_zero]
              refine wpAnyH_take (i := 28) (oi := _) (v := Value.int .i64 (j : Int)) rfl (by kernel_rfl) (by kernel_rfl) (by kernel_rfl) (fun _ _ _ h => h) (Or.inl ⟨by rfl, fun w' hSw => ?_⟩) hHeld ?_
              · obtain ⟨t0, t1, t2, t3⟩ := hSw
                go_simp
                try simp [*]
                try (intro hh; exfalso; omega)
                try omega
              try simp only [Act.put, List.setIfInBounds_toArray, List.set_cons_zero, List.set_cons_succ, List.getElem_toArray, List.getElem_cons_succ, List.getElem_cons_zero]
              refine wpAnyH_take (i := 29) (oi := _) (v := Value.pointer (some ⟨gx, ox + j, none⟩)) rfl (by kernel_rfl) (by kernel_rfl) (by kernel_rfl) (fun _ _ _ h => h) (Or.inl ⟨by rfl, fun w' hSw => ?_⟩) hHeld ?_
              · obtain ⟨t0, t1, t2, t3⟩ := hSw
                go_simp
                try simp [*]
                try (intro hh; exfalso; omega)
                try omega
              try simp only [Act.put, List.setIfInBounds_toArray, List.set_cons_zero, List.set_cons_succ, List.getElem_toArray, List.getElem_cons_succ, List.getElem_cons_zero]
              refine wpAnyH_take (i := 30) (oi := _) (v := Value.int .i64 vy1) rfl (by kernel_rfl) (by kernel_rfl) (by kernel_rfl) (fun _ _ _ h => h) (Or.inl ⟨by rfl, fun w' hSw => ?_⟩) hHeld ?_
              · obtain ⟨t0, t1, t2, t3⟩ := hSw
                go_simp
                try simp [*]
                try (intro hh; exfalso; omega)
                try omega
              try simp only [Act.put, List.setIfInBounds_toArray, List.set_cons_zero, List.set_cons_succ, List.getElem_toArray, List.getElem_cons_succ, List.getElem_cons_zero]
              refine wpAnyH_take (i := 31) (oi := _) (v := Value.bool false) rfl (by kernel_rfl) (by kernel_rfl) (by kernel_rfl) (fun _ _ _ h => h) (Or.inl ⟨by rfl, fun w' hSw => ?_⟩) hHeld ?_
              · obtain ⟨t0, t1, t2, t3⟩ := hSw
                go_simp
                try simp [*]
                try (intro hh; exfalso; omega)
                try omega
              try simp only [Act.put, List.setIfInBounds_toArray, List.set_cons_zero, List.set_cons_succ, List.getElem_toArray, List.getElem_cons_succ, List.getElem_cons_zero]
              refine wpAnyH_take (i := 32) (oi := _) (v := Value.bool false) rfl (by kernel_rfl) (by kernel_rfl) (by kernel_rfl) (fun _ _ _ h => h) (Or.inl ⟨by rfl, fun w' hSw => ?_⟩) hHeld ?_
              · obtain ⟨t0, t1, t2, t3⟩ := hSw
                go_simp
                try simp [*]
                try (intro hh; exfalso; omega)
                try omega
              try simp only [Act.put, List.setIfInBounds_toArray, List.set_cons_zero, List.set_cons_succ, List.getElem_toArray, List.getElem_cons_succ, List.getElem_cons_zero]
              refine wpAnyH_take (i := 33) (oi := _) (v := Value.bool false) rfl (by kernel_rfl) (by kernel_rfl) (by kernel_rfl) (fun _ _ _ h => h) (Or.inl ⟨by rfl, fun w' hSw => ?_⟩) hHeld ?_
              · obtain ⟨t0, t1, t2, t3⟩ := hSw
                go_simp
                try simp [*]
                try (intro hh; exfalso; omega)
                try omega
              try simp only [Act.put, List.setIfInBounds_toArray, List.set_cons_zero, List.set_cons_succ, List.getElem_toArray, List.getElem_cons_succ, List.getElem_cons_zero]
              refine wpAnyH_done (by kernel_rfl) ?_ _
              clear hHeld
              go_wp2_with fail
              go_roundw
              case rel => exact ⟨j + 1, by omega, by go_num, HBR.out.drew⟩
              case measure => simp [intOf]; omega
          · have hAb : (va1 != 1) = true := by simpa using hA
            have hBA := HW1 hA
            subst hBA
            by_cases hX : vx1 = 1
            · have hXb : (vx1 != 1) = false := by simp [hX]
              clear hA hX HW1 HF1
              go_upto_region 26 with fail
              refine wp_region_held_drew (S := fun w' => w'.cell? ⟨ga, oa + j, none⟩ = some (Value.int .i64 vb1) ∧ w'.cell? ⟨gb, ob + j, none⟩ = some (Value.int .i64 vb1) ∧ w'.cell? ⟨gx, ox + j, none⟩ = some (Value.int .i64 vx1) ∧ w'.cell? ⟨gy, oy + j, none⟩ = some (Value.int .i64 vy1)) (by kernel_rfl) ⟨by simpa [go_sem] using ca0, by simpa [go_sem] using cb0, by simpa [go_sem] using cx0, by simpa [go_sem] using cy0⟩ (fun hHeld => ?_)
              refine wpAnyH_take (i := 0) (oi := _) (v := Value.slice (some ⟨ga, oa, none⟩) k ca) rfl (by kernel_rfl) (by kernel_rfl) (by kernel_rfl) (fun _ _ _ h => h) (Or.inl ⟨by rfl, fun w' hSw => ?_⟩) hHeld ?_
              · obtain ⟨t0, t1, t2, t3⟩ := hSw
                go_simp
                try simp [*]
                try (intro hh; exfalso; omega)
                try omega
              try simp only [Act.put, List.setIfInBounds_toArray, List.set_cons_zero, List.set_cons_succ, List.getElem_toArray, List.getElem_cons_succ, List.getElem_cons_zero]
              refine wpAnyH_take (i := 1) (oi := _) (v := Value.int .i64 (j : Int)) rfl (by kernel_rfl) (by kernel_rfl) (by kernel_rfl) (fun _ _ _ h => h) (Or.inl ⟨by rfl, fun w' hSw => ?_⟩) hHeld ?_
              · obtain ⟨t0, t1, t2, t3⟩ := hSw
                go_simp
                try simp [*]
                try (intro hh; exfalso; omega)
                try omega
              try simp only [Act.put, List.setIfInBounds_toArray, List.set_cons_zero, List.set_cons_succ, List.getElem_toArray, List.getElem_cons_succ, List.getElem_cons_zero]
              refine wpAnyH_take (i := 2) (oi := _) (v := Value.pointer (some ⟨ga, oa + j, none⟩)) rfl (by kernel_rfl) (by kernel_rfl) (by kernel_rfl) (fun _ _ _ h => h) (Or.inl ⟨by rfl, fun w' hSw => ?_⟩) hHeld ?_
              · obtain ⟨t0, t1, t2, t3⟩ := hSw
                go_simp
                try simp [*]
                try (intro hh; exfalso; omega)
                try omega
              try simp only [Act.put, List.setIfInBounds_toArray, List.set_cons_zero, List.set_cons_succ, List.getElem_toArray, List.getElem_cons_succ, List.getElem_cons_zero]
              refine wpAnyH_take (i := 3) (oi := _) (v := Value.int .i64 vb1) rfl (by kernel_rfl) (by kernel_rfl) (by kernel_rfl) (fun _ _ _ h => h) (Or.inl ⟨by rfl, fun w' hSw => ?_⟩) hHeld ?_
              · obtain ⟨t0, t1, t2, t3⟩ := hSw
                go_simp
                try simp [*]
                try (intro hh; exfalso; omega)
                try omega
              try simp only [Act.put, List.setIfInBounds_toArray, List.set_cons_zero, List.set_cons_succ, List.getElem_toArray, List.getElem_cons_succ, List.getElem_cons_zero]
              refine wpAnyH_take (i := 4) (oi := _) (v := Value.bool true) rfl (by kernel_rfl) (by kernel_rfl) (by kernel_rfl) (fun _ _ _ h => h) (Or.inl ⟨by rfl, fun w' hSw => ?_⟩) hHeld ?_
              · obtain ⟨t0, t1, t2, t3⟩ := hSw
                go_simp
                try simp [*]
                try (intro hh; exfalso; omega)
                try omega
              try simp only [Act.put, List.setIfInBounds_toArray, List.set_cons_zero, List.set_cons_succ, List.getElem_toArray, List.getElem_cons_succ, List.getElem_cons_zero]
              refine wpAnyH_take (i := 5) (oi := _) (v := Value.bool true) rfl (by kernel_rfl) (by kernel_rfl) (by kernel_rfl) (fun _ _ _ h => h) (Or.inl ⟨by rfl, fun w' hSw => ?_⟩) hHeld ?_
              · obtain ⟨t0, t1, t2, t3⟩ := hSw
                go_simp
                try simp [*]
                try (intro hh; exfalso; omega)
                try omega
              try simp only [Act.put, List.setIfInBounds_toArray, List.set_cons_zero, List.set_cons_succ, List.getElem_toArray, List.getElem_cons_succ, List.getElem_cons_zero]
              refine wpAnyH_take (i := 6) (oi := _) (v := Value.slice (some ⟨gb, ob, none⟩) k cb') rfl (by kernel_rfl) (by kernel_rfl) (by kernel_rfl) (fun _ _ _ h => h) (Or.inl ⟨by rfl, fun w' hSw => ?_⟩) hHeld ?_
              · obtain ⟨t0, t1, t2, t3⟩ := hSw
                go_simp
                try simp [*]
                try (intro hh; exfalso; omega)
                try omega
              try simp only [Act.put, List.setIfInBounds_toArray, List.set_cons_zero, List.set_cons_succ, List.getElem_toArray, List.getElem_cons_succ, List.getElem_cons_zero]
              refine wpAnyH_take (i := 7) (oi := _) (v := Value.int .i64 (j : Int)) rfl (by kernel_rfl) (by kernel_rfl) (by kernel_rfl) (fun _ _ _ h => h) (Or.inl ⟨by rfl, fun w' hSw => ?_⟩) hHeld ?_
              · obtain ⟨t0, t1, t2, t3⟩ := hSw
                go_simp
                try simp [*]
                try (intro hh; exfalso; omega)
                try omega
              try simp only [Act.put, List.setIfInBounds_toArray, List.set_cons_zero, List.set_cons_succ, List.getElem_toArray, List.getElem_cons_succ, List.getElem_cons_zero]
              refine wpAnyH_take (i := 8) (oi := _) (v := Value.pointer (some ⟨gb, ob + j, none⟩)) rfl (by kernel_rfl) (by kernel_rfl) (by kernel_rfl) (fun _ _ _ h => h) (Or.inl ⟨by rfl, fun w' hSw => ?_⟩) hHeld ?_
              · obtain ⟨t0, t1, t2, t3⟩ := hSw
                go_simp
                try simp [*]
                try (intro hh; exfalso; omega)
                try omega
              try simp only [Act.put, List.setIfInBounds_toArray, List.set_cons_zero, List.set_cons_succ, List.getElem_toArray, List.getElem_cons_succ, List.getElem_cons_zero]
              refine wpAnyH_take (i := 9) (oi := _) (v := Value.int .i64 vb1) rfl (by kernel_rfl) (by kernel_rfl) (by kernel_rfl) (fun _ _ _ h => h) (Or.inl ⟨by rfl, fun w' hSw => ?_⟩) hHeld ?_
              · obtain ⟨t0, t1, t2, t3⟩ := hSw
                go_simp
                try simp [*]
                try (intro hh; exfalso; omega)
                try omega
              try simp only [Act.put, List.setIfInBounds_toArray, List.set_cons_zero, List.set_cons_succ, List.getElem_toArray, List.getElem_cons_succ, List.getElem_cons_zero]
              refine wpAnyH_take (i := 10) (oi := _) (v := Value.slice (some ⟨ga, oa, none⟩) k ca) rfl (by kernel_rfl) (by kernel_rfl) (by kernel_rfl) (fun _ _ _ h => h) (Or.inl ⟨by rfl, fun w' hSw => ?_⟩) hHeld ?_
              · obtain ⟨t0, t1, t2, t3⟩ := hSw
                go_simp
                try simp [*]
                try (intro hh; exfalso; omega)
                try omega
              try simp only [Act.put, List.setIfInBounds_toArray, List.set_cons_zero, List.set_cons_succ, List.getElem_toArray, List.getElem_cons_succ, List.getElem_cons_zero]
              refine wpAnyH_take (i := 11) (oi := _) (v := Value.int .i64 (j : Int)) rfl (by kernel_rfl) (by kernel_rfl) (by kernel_rfl) (fun _ _ _ h => h) (Or.inl ⟨by rfl, fun w' hSw => ?_⟩) hHeld ?_
              · obtain ⟨t0, t1, t2, t3⟩ := hSw
                go_simp
                try simp [*]
                try (intro hh; exfalso; omega)
                try omega
              try simp only [Act.put, List.setIfInBounds_toArray, List.set_cons_zero, List.set_cons_succ, List.getElem_toArray, List.getElem_cons_succ, List.getElem_cons_zero]
              refine wpAnyH_take (i := 12) (oi := _) (v := Value.pointer (some ⟨ga, oa + j, none⟩)) rfl (by kernel_rfl) (by kernel_rfl) (by kernel_rfl) (fun _ _ _ h => h) (Or.inl ⟨by rfl, fun w' hSw => ?_⟩) hHeld ?_
              · obtain ⟨t0, t1, t2, t3⟩ := hSw
                go_simp
                try simp [*]
                try (intro hh; exfalso; omega)
                try omega
              try simp only [Act.put, List.setIfInBounds_toArray, List.set_cons_zero, List.set_cons_succ, List.getElem_toArray, List.getElem_cons_succ, List.getElem_cons_zero]
              refine wpAnyH_take (i := 13) (oi := _) (v := Value.int .i64 vb1) rfl (by kernel_rfl) (by kernel_rfl) (by kernel_rfl) (fun _ _ _ h => h) (Or.inl ⟨by rfl, fun w' hSw => ?_⟩) hHeld ?_
              · obtain ⟨t0, t1, t2, t3⟩ := hSw
                go_simp
                try simp [*]
                try (intro hh; exfalso; omega)
                try omega
              try simp only [Act.put, List.setIfInBounds_toArray, List.set_cons_zero, List.set_cons_succ, List.getElem_toArray, List.getElem_cons_succ, List.getElem_cons_zero]
              refine wpAnyH_take (i := 14) (oi := _) (v := Value.bool false) rfl (by kernel_rfl) (by kernel_rfl) (by kernel_rfl) (fun _ _ _ h => h) (Or.inl ⟨by rfl, fun w' hSw => ?_⟩) hHeld ?_
              · obtain ⟨t0, t1, t2, t3⟩ := hSw
                go_simp
                try simp [*]
                try (intro hh; exfalso; omega)
                try omega
              try simp only [Act.put, List.setIfInBounds_toArray, List.set_cons_zero, List.set_cons_succ, List.getElem_toArray, List.getElem_cons_succ, List.getElem_cons_zero]
              refine wpAnyH_take (i := 15) (oi := _) (v := Value.bool false) rfl (by kernel_rfl) (by kernel_rfl) (by kernel_rfl) (fun _ _ _ h => h) (Or.inl ⟨by rfl, fun w' hSw => ?_⟩) hHeld ?_
              · obtain ⟨t0, t1, t2, t3⟩ := hSw
                go_simp
                try simp [*]
                try (intro hh; exfalso; omega)
                try omega
              try simp only [Act.put, List.setIfInBounds_toArray, List.set_cons_zero, List.set_cons_succ, List.getElem_toArray, List.getElem_cons_succ, List.getElem_cons_zero]
              refine wpAnyH_take (i := 16) (oi := _) (v := Value.bool false) rfl (by kernel_rfl) (by kernel_rfl) (by kernel_rfl) (fun _ _ _ h => h) (Or.inl ⟨by rfl, fun w' hSw => ?_⟩) hHeld ?_
              · obtain ⟨t0, t1, t2, t3⟩ := hSw
                go_simp
                try simp [*]
                try (intro hh; exfalso; omega)
                try omega
              try simp only [Act.put, List.setIfInBounds_toArray, List.set_cons_zero, List.set_cons_succ, List.getElem_toArray, List.getElem_cons_succ, List.getElem_cons_zero]
              refine wpAnyH_take (i := 17) (oi := _) (v := Value.slice (some ⟨gx, ox, none⟩) k cx) rfl (by kernel_rfl) (by kernel_rfl) (by kernel_rfl) (fun _ _ _ h => h) (Or.inl ⟨by rfl, fun w' hSw => ?_⟩) hHeld ?_
              · obtain ⟨t0, t1, t2, t3⟩ := hSw
                go_simp
                try simp [*]
                try (intro hh; exfalso; omega)
                try omega
              try simp only [Act.put, List.setIfInBounds_toArray, List.set_cons_zero, List.set_cons_succ, List.getElem_toArray, List.getElem_cons_succ, List.getElem_cons_zero]
              refine wpAnyH_take (i := 18) (oi := _) (v := Value.int .i64 (j : Int)) rfl (by kernel_rfl) (by kernel_rfl) (by kernel_rfl) (fun _ _ _ h => h) (Or.inl ⟨by rfl, fun w' hSw => ?_⟩) hHeld ?_
              · obtain ⟨t0, t1, t2, t3⟩ := hSw
                go_simp
                try simp [*]
                try (intro hh; exfalso; omega)
                try omega
              try simp only [Act.put, List.setIfInBounds_toArray, List.set_cons_zero, List.set_cons_succ, List.getElem_toArray, List.getElem_cons_succ, List.getElem_cons_zero]
              refine wpAnyH_take (i := 19) (oi := _) (v := Value.pointer (some ⟨gx, ox + j, none⟩)) rfl (by kernel_rfl) (by kernel_rfl) (by kernel_rfl) (fun _ _ _ h => h) (Or.inl ⟨by rfl, fun w' hSw => ?_⟩) hHeld ?_
              · obtain ⟨t0, t1, t2, t3⟩ := hSw
                go_simp
                try simp [*]
                try (intro hh; exfalso; omega)
                try omega
              try simp only [Act.put, List.setIfInBounds_toArray, List.set_cons_zero, List.set_cons_succ, List.getElem_toArray, List.getElem_cons_succ, List.getElem_cons_zero]
              refine wpAnyH_take (i := 20) (oi := _) (v := Value.int .i64 vx1) rfl (by kernel_rfl) (by kernel_rfl) (by kernel_rfl) (fun _ _ _ h => h) (Or.inl ⟨by rfl, fun w' hSw => ?_⟩) hHeld ?_
              · obtain ⟨t0, t1, t2, t3⟩ := hSw
                go_simp
                try simp [*]
                try (intro hh; exfalso; omega)
                try omega
              try simp only [Act.put, List.setIfInBounds_toArray, List.set_cons_zero, List.set_cons_succ, List.getElem_toArray, List.getElem_cons_succ, List.getElem_cons_zero]
              refine wpAnyH_take (i := 21) (oi := _) (v := Value.bool false) rfl (by kernel_rfl) (by kernel_rfl) (by kernel_rfl) (fun _ _ _ h => h) (Or.inl ⟨by rfl, fun w' hSw => ?_⟩) hHeld ?_
              · obtain ⟨t0, t1, t2, t3⟩ := hSw
                go_simp
                try simp [*]
                try (intro hh; exfalso; omega)
                try omega
              try simp only [Act.put, List.setIfInBounds_toArray, List.set_cons_zero, List.set_cons_succ, List.getElem_toArray, List.getElem_cons_succ, List.getElem_cons_zero]
              refine wpAnyH_take (i := 22) (oi := _) (v := Value.bool false) rfl (by kernel_rfl) (by kernel_rfl) (by kernel_rfl) (fun _ _ _ h => h) (Or.inl ⟨by rfl, fun w' hSw => ?_⟩) hHeld ?_
              · obtain ⟨t0, t1, t2, t3⟩ := hSw
                go_simp
                try simp [*]
                try (intro hh; exfalso; omega)
                try omega
              try simp only [Act.put, List.setIfInBounds_toArray, List.set_cons_zero, List.set_cons_succ, List.getElem_toArray, List.getElem_cons_succ, List.getElem_cons_zero]
              refine wpAnyH_take (i := 23) (oi := _) (v := undef) rfl (by kernel_rfl) (by kernel_rfl) (by kernel_rfl) (fun _ _ _ h => h) (Or.inr ⟨by rfl, rfl⟩) hHeld ?_
              try simp only [Act.put, List.setIfInBounds_toArray, List.set_cons_zero, List.set_cons_succ, List.getElem_toArray, List.getElem_cons_succ, List.getElem_cons_zero]
              refine wpAnyH_take (i := 24) (oi := _) (v := undef) rfl (by kernel_rfl) (by kernel_rfl) (by kernel_rfl) (fun _ _ _ h => h) (Or.inr ⟨by rfl, rfl⟩) hHeld ?_
              try simp only [Act.put, List.setIfInBounds_toArray, List.set_cons_zero, List.set_cons_succ, List.getElem_toArray, List.getElem_cons_succ, List.getElem_cons_zero]
              refine wpAnyH_take (i := 25) (oi := _) (v := undef) rfl (by kernel_rfl) (by kernel_rfl) (by kernel_rfl) (fun _ _ _ h => h) (Or.inr ⟨by rfl, rfl⟩) hHeld ?_
              try simp only [Act.put, List.setIfInBounds_toArray, List.set_cons_zero, List.set_cons_succ, List.getElem_toArray, List.getElem_cons_succ, List.getElem_cons_zero]
              refine wpAnyH_take (i := 26) (oi := _) (v := undef) rfl (by kernel_rfl) (by kernel_rfl) (by kernel_rfl) (fun _ _ _ h => h) (Or.inr ⟨by rfl, rfl⟩) hHeld ?_
              try simp only [Act.put, List.setIfInBounds_toArray, List.set_cons_zero, List.set_cons_succ, List.getElem_toArray, List.getElem_cons_succ, List.getElem_cons_zero]
              refine wpAnyH_take (i := 27) (oi := _) (v := undef) rfl (by kernel_rfl) (by kernel_rfl) (by kernel_rfl) (fun _ _ _ h => h) (Or.inr ⟨by rfl, rfl⟩) hHeld ?_
              try simp only [Act.put, List.setIfInBounds_toArray, List.set_cons_zero, List.set_cons_succ, List.getElem_toArray, List.getElem_cons_succ, List.getElem_cons_zero]
              refine wpAnyH_take (i := 28) (oi := _) (v := undef) rfl (by kernel_rfl) (by kernel_rfl) (by kernel_rfl) (fun _ _ _ h => h) (Or.inr ⟨by rfl, rfl⟩) hHeld ?_
              try simp only [Act.put, List.setIfInBounds_toArray, List.set_cons_zero, List.set_cons_succ, List.getElem_toArray, List.getElem_cons_succ, List.getElem_cons_zero]
              refine wpAnyH_take (i := 29) (oi := _) (v := undef) rfl (by kernel_rfl) (by kernel_rfl) (by kernel_rfl) (fun _ _ _ h => h) (Or.inr ⟨by rfl, rfl⟩) hHeld ?_
              try simp only [Act.put, List.setIfInBounds_toArray, List.set_cons_zero, List.set_cons_succ, List.getElem_toArray, List.getElem_cons_succ, List.getElem_cons_zero]
              refine wpAnyH_take (i := 30) (oi := _) (v := undef) rfl (by kernel_rfl) (by kernel_rfl) (by kernel_rfl) (fun _ _ _ h => h) (Or.inr ⟨by rfl, rfl⟩) hHeld ?_
              try simp only [Act.put, List.setIfInBounds_toArray, List.set_cons_zero, List.set_cons_succ, List.getElem_toArray, List.getElem_cons_succ, List.getElem_cons_zero]
              refine wpAnyH_take (i := 31) (oi := _) (v := undef) rfl (by kernel_rfl) (by kernel_rfl) (by kernel_rfl) (fun _ _ _ h => h) (Or.inr ⟨by rfl, rfl⟩) hHeld ?_
              try simp only [Act.put, List.setIfInBounds_toArray, List.set_cons_zero, List.set_cons_succ, List.getElem_toArray, List.getElem_cons_succ, List.getElem_cons_zero]
              refine wpAnyH_take (i := 32) (oi := _) (v := Value.bool false) rfl (by kernel_rfl) (by kernel_rfl) (by kernel_rfl) (fun _ _ _ h => h) (Or.inl ⟨by rfl, fun w' hSw => ?_⟩) hHeld ?_
              · obtain ⟨t0, t1, t2, t3⟩ := hSw
                go_simp
                try simp [*]
                try (intro hh; exfalso; omega)
                try omega
              try simp only [Act.put, List.setIfInBounds_toArray, List.set_cons_zero, List.set_cons_succ, List.getElem_toArray, List.getElem_cons_succ, List.getElem_cons_zero]
              refine wpAnyH_take (i := 33) (oi := _) (v := Value.bool false) rfl (by kernel_rfl) (by kernel_rfl) (by kernel_rfl) (fun _ _ _ h => h) (Or.inl ⟨by rfl, fun w' hSw => ?_⟩) hHeld ?_
              · obtain ⟨t0, t1, t2, t3⟩ := hSw
                go_simp
                try simp [*]
                try (intro hh; exfalso; omega)
                try omega
              try simp only [Act.put, List.setIfInBounds_toArray, List.set_cons_zero, List.set_cons_succ, List.getElem_toArray, List.getElem_cons_succ, List.getElem_cons_zero]
              refine wpAnyH_done (by kernel_rfl) ?_ _
              clear hHeld
              go_wp2_with fail
              go_roundw
              case rel => exact ⟨j + 1, by omega, by go_num, HBR.out.drew⟩
              case measure => simp [intOf]; omega
            · have hXb : (vx1 != 1) = true := by simpa using hX
              have hYX := HF1 hX
              subst hYX
              clear hA hX HW1 HF1
              go_upto_region 26 with fail
              refine wp_region_held_drew (S := fun w' => w'.cell? ⟨ga, oa + j, none⟩ = some (Value.int .i64 vb1) ∧ w'.cell? ⟨gb, ob + j, none⟩ = some (Value.int .i64 vb1) ∧ w'.cell? ⟨gx, ox + j, none⟩ = some (Value.int .i64 vy1) ∧ w'.cell? ⟨gy, oy + j, none⟩ = some (Value.int .i64 vy1)) (by kernel_rfl) ⟨by simpa [go_sem] using ca0, by simpa [go_sem] using cb0, by simpa [go_sem] using cx0, by simpa [go_sem] using cy0⟩ (fun hHeld => ?_)
              refine wpAnyH_take (i := 0) (oi := _) (v := Value.slice (some ⟨ga, oa, none⟩) k ca) rfl (by kernel_rfl) (by kernel_rfl) (by kernel_rfl) (fun _ _ _ h => h) (Or.inl ⟨by rfl, fun w' hSw => ?_⟩) hHeld ?_
              · obtain ⟨t0, t1, t2, t3⟩ := hSw
                go_simp
                try simp [*]
                try (intro hh; exfalso; omega)
                try omega
              try simp only [Act.put, List.setIfInBounds_toArray, List.set_cons_zero, List.set_cons_succ, List.getElem_toArray, List.getElem_cons_succ, List.getElem_cons_zero]
              refine wpAnyH_take (i := 1) (oi := _) (v := Value.int .i64 (j : Int)) rfl (by kernel_rfl) (by kernel_rfl) (by kernel_rfl) (fun _ _ _ h => h) (Or.inl ⟨by rfl, fun w' hSw => ?_⟩) hHeld ?_
              · obtain ⟨t0, t1, t2, t3⟩ := hSw
                go_simp
                try simp [*]
                try (intro hh; exfalso; omega)
                try omega
              try simp only [Act.put, List.setIfInBounds_toArray, List.set_cons_zero, List.set_cons_succ, List.getElem_toArray, List.getElem_cons_succ, List.getElem_cons_zero]
              refine wpAnyH_take (i := 2) (oi := _) (v := Value.pointer (some ⟨ga, oa + j, none⟩)) rfl (by kernel_rfl) (by kernel_rfl) (by kernel_rfl) (fun _ _ _ h => h) (Or.inl ⟨by rfl, fun w' hSw => ?_⟩) hHeld ?_
              · obtain ⟨t0, t1, t2, t3⟩ := hSw
                go_simp
                try simp [*]
                try (intro hh; exfalso; omega)
                try omega
              try simp only [Act.put, List.setIfInBounds_toArray, List.set_cons_zero, List.set_cons_succ, List.getElem_toArray, List.getElem_cons_succ, List.getElem_cons_zero]
              refine wpAnyH_take (i := 3) (oi := _) (v := Value.int .i64 vb1) rfl (by kernel_rfl) (by kernel_rfl) (by kernel_rfl) (fun _ _ _ h => h) (Or.inl ⟨by rfl, fun w' hSw => ?_⟩) hHeld ?_
              · obtain ⟨t0, t1, t2, t3⟩ := hSw
                go_simp
                try simp [*]
                try (intro hh; exfalso; omega)
                try omega
              try simp only [Act.put, List.setIfInBounds_toArray, List.set_cons_zero, List.set_cons_succ, List.getElem_toArray, List.getElem_cons_succ, List.getElem_cons_zero]
              refine wpAnyH_take (i := 4) (oi := _) (v := Value.bool true) rfl (by kernel_rfl) (by kernel_rfl) (by kernel_rfl) (fun _ _ _ h => h) (Or.inl ⟨by rfl, fun w' hSw => ?_⟩) hHeld ?_
              · obtain ⟨t0, t1, t2, t3⟩ := hSw
                go_simp
                try simp [*]
                try (intro hh; exfalso; omega)
                try omega
              try simp only [Act.put, List.setIfInBounds_toArray, List.set_cons_zero, List.set_cons_succ, List.getElem_toArray, List.getElem_cons_succ, List.getElem_cons_zero]
              refine wpAnyH_take (i := 5) (oi := _) (v := Value.bool true) rfl (by kernel_rfl) (by kernel_rfl) (by kernel_rfl) (fun _ _ _ h => h) (Or.inl ⟨by rfl, fun w' hSw => ?_⟩) hHeld ?_
              · obtain ⟨t0, t1, t2, t3⟩ := hSw
                go_simp
                try simp [*]
                try (intro hh; exfalso; omega)
                try omega
              try simp only [Act.put, List.setIfInBounds_toArray, List.set_cons_zero, List.set_cons_succ, List.getElem_toArray, List.getElem_cons_succ, List.getElem_cons_zero]
              refine wpAnyH_take (i := 6) (oi := _) (v := Value.slice (some ⟨gb, ob, none⟩) k cb') rfl (by kernel_rfl) (by kernel_rfl) (by kernel_rfl) (fun _ _ _ h => h) (Or.inl ⟨by rfl, fun w' hSw => ?_⟩) hHeld ?_
              · obtain ⟨t0, t1, t2, t3⟩ := hSw
                go_simp
                try simp [*]
                try (intro hh; exfalso; omega)
                try omega
              try simp only [Act.put, List.setIfInBounds_toArray, List.set_cons_zero, List.set_cons_succ, List.getElem_toArray, List.getElem_cons_succ, List.getElem_cons_zero]
              refine wpAnyH_take (i := 7) (oi := _) (v := Value.int .i64 (j : Int)) rfl (by kernel_rfl) (by kernel_rfl) (by kernel_rfl) (fun _ _ _ h => h) (Or.inl ⟨by rfl, fun w' hSw => ?_⟩) hHeld ?_
              · obtain ⟨t0, t1, t2, t3⟩ := hSw
                go_simp
                try simp [*]
                try (intro hh; exfalso; omega)
                try omega
              try simp only [Act.put, List.setIfInBounds_toArray, List.set_cons_zero, List.set_cons_succ, List.getElem_toArray, List.getElem_cons_succ, List.getElem_cons_zero]
              refine wpAnyH_take (i := 8) (oi := _) (v := Value.pointer (some ⟨gb, ob + j, none⟩)) rfl (by kernel_rfl) (by kernel_rfl) (by kernel_rfl) (fun _ _ _ h => h) (Or.inl ⟨by rfl, fun w' hSw => ?_⟩) hHeld ?_
              · obtain ⟨t0, t1, t2, t3⟩ := hSw
                go_simp
                try simp [*]
                try (intro hh; exfalso; omega)
                try omega
              try simp only [Act.put, List.setIfInBounds_toArray, List.set_cons_zero, List.set_cons_succ, List.getElem_toArray, List.getElem_cons_succ, List.getElem_cons_zero]
              refine wpAnyH_take (i := 9) (oi := _) (v := Value.int .i64 vb1) rfl (by kernel_rfl) (by kernel_rfl) (by kernel_rfl) (fun _ _ _ h => h) (Or.inl ⟨by rfl, fun w' hSw => ?_⟩) hHeld ?_
              · obtain ⟨t0, t1, t2, t3⟩ := hSw
                go_simp
                try simp [*]
                try (intro hh; exfalso; omega)
                try omega
              try simp only [Act.put, List.setIfInBounds_toArray, List.set_cons_zero, List.set_cons_succ, List.getElem_toArray, List.getElem_cons_succ, List.getElem_cons_zero]
              refine wpAnyH_take (i := 10) (oi := _) (v := Value.slice (some ⟨ga, oa, none⟩) k ca) rfl (by kernel_rfl) (by kernel_rfl) (by kernel_rfl) (fun _ _ _ h => h) (Or.inl ⟨by rfl, fun w' hSw => ?_⟩) hHeld ?_
              · obtain ⟨t0, t1, t2, t3⟩ := hSw
                go_simp
                try simp [*]
                try (intro hh; exfalso; omega)
                try omega
              try simp only [Act.put, List.setIfInBounds_toArray, List.set_cons_zero, List.set_cons_succ, List.getElem_toArray, List.getElem_cons_succ, List.getElem_cons_zero]
              refine wpAnyH_take (i := 11) (oi := _) (v := Value.int .i64 (j : Int)) rfl (by kernel_rfl) (by kernel_rfl) (by kernel_rfl) (fun _ _ _ h => h) (Or.inl ⟨by rfl, fun w' hSw => ?_⟩) hHeld ?_
              · obtain ⟨t0, t1, t2, t3⟩ := hSw
                go_simp
                try simp [*]
                try (intro hh; exfalso; omega)
                try omega
              try simp only [Act.put, List.setIfInBounds_toArray, List.set_cons_zero, List.set_cons_succ, List.getElem_toArray, List.getElem_cons_succ, List.getElem_cons_zero]
              refine wpAnyH_take (i := 12) (oi := _) (v := Value.pointer (some ⟨ga, oa + j, none⟩)) rfl (by kernel_rfl) (by kernel_rfl) (by kernel_rfl) (fun _ _ _ h => h) (Or.inl ⟨by rfl, fun w' hSw => ?_⟩) hHeld ?_
              · obtain ⟨t0, t1, t2, t3⟩ := hSw
                go_simp
                try simp [*]
                try (intro hh; exfalso; omega)
                try omega
              try simp only [Act.put, List.setIfInBounds_toArray, List.set_cons_zero, List.set_cons_succ, List.getElem_toArray, List.getElem_cons_succ, List.getElem_cons_zero]
              refine wpAnyH_take (i := 13) (oi := _) (v := Value.int .i64 vb1) rfl (by kernel_rfl) (by kernel_rfl) (by kernel_rfl) (fun _ _ _ h => h) (Or.inl ⟨by rfl, fun w' hSw => ?_⟩) hHeld ?_
              · obtain ⟨t0, t1, t2, t3⟩ := hSw
                go_simp
                try simp [*]
                try (intro hh; exfalso; omega)
                try omega
              try simp only [Act.put, List.setIfInBounds_toArray, List.set_cons_zero, List.set_cons_succ, List.getElem_toArray, List.getElem_cons_succ, List.getElem_cons_zero]
              refine wpAnyH_take (i := 14) (oi := _) (v := Value.bool false) rfl (by kernel_rfl) (by kernel_rfl) (by kernel_rfl) (fun _ _ _ h => h) (Or.inl ⟨by rfl, fun w' hSw => ?_⟩) hHeld ?_
              · obtain ⟨t0, t1, t2, t3⟩ := hSw
                go_simp
                try simp [*]
                try (intro hh; exfalso; omega)
                try omega
              try simp only [Act.put, List.setIfInBounds_toArray, List.set_cons_zero, List.set_cons_succ, List.getElem_toArray, List.getElem_cons_succ, List.getElem_cons_zero]
              refine wpAnyH_take (i := 15) (oi := _) (v := Value.bool false) rfl (by kernel_rfl) (by kernel_rfl) (by kernel_rfl) (fun _ _ _ h => h) (Or.inl ⟨by rfl, fun w' hSw => ?_⟩) hHeld ?_
              · obtain ⟨t0, t1, t2, t3⟩ := hSw
                go_simp
                try simp [*]
                try (intro hh; exfalso; omega)
                try omega
              try simp only [Act.put, List.setIfInBounds_toArray, List.set_cons_zero, List.set_cons_succ, List.getElem_toArray, List.getElem_cons_succ, List.getElem_cons_zero]
              refine wpAnyH_take (i := 16) (oi := _) (v := Value.bool false) rfl (by kernel_rfl) (by kernel_rfl) (by kernel_rfl) (fun _ _ _ h => h) (Or.inl ⟨by rfl, fun w' hSw => ?_⟩) hHeld ?_
              · obtain ⟨t0, t1, t2, t3⟩ := hSw
                go_simp
                try simp [*]
                try (intro hh; exfalso; omega)
                try omega
              try simp only [Act.put, List.setIfInBounds_toArray, List.set_cons_zero, List.set_cons_succ, List.getElem_toArray, List.getElem_cons_succ, List.getElem_cons_zero]
              refine wpAnyH_take (i := 17) (oi := _) (v := Value.slice (some ⟨gx, ox, none⟩) k cx) rfl (by kernel_rfl) (by kernel_rfl) (by kernel_rfl) (fun _ _ _ h => h) (Or.inl ⟨by rfl, fun w' hSw => ?_⟩) hHeld ?_
              · obtain ⟨t0, t1, t2, t3⟩ := hSw
                go_simp
                try simp [*]
                try (intro hh; exfalso; omega)
                try omega
              try simp only [Act.put, List.setIfInBounds_toArray, List.set_cons_zero, List.set_cons_succ, List.getElem_toArray, List.getElem_cons_succ, List.getElem_cons_zero]
              refine wpAnyH_take (i := 18) (oi := _) (v := Value.int .i64 (j : Int)) rfl (by kernel_rfl) (by kernel_rfl) (by kernel_rfl) (fun _ _ _ h => h) (Or.inl ⟨by rfl, fun w' hSw => ?_⟩) hHeld ?_
              · obtain ⟨t0, t1, t2, t3⟩ := hSw
                go_simp
                try simp [*]
                try (intro hh; exfalso; omega)
                try omega
              try simp only [Act.put, List.setIfInBounds_toArray, List.set_cons_zero, List.set_cons_succ, List.getElem_toArray, List.getElem_cons_succ, List.getElem_cons_zero]
              refine wpAnyH_take (i := 19) (oi := _) (v := Value.pointer (some ⟨gx, ox + j, none⟩)) rfl (by kernel_rfl) (by kernel_rfl) (by kernel_rfl) (fun _ _ _ h => h) (Or.inl ⟨by rfl, fun w' hSw => ?_⟩) hHeld ?_
              · obtain ⟨t0, t1, t2, t3⟩ := hSw
                go_simp
                try simp [*]
                try (intro hh; exfalso; omega)
                try omega
              try simp only [Act.put, List.setIfInBounds_toArray, List.set_cons_zero, List.set_cons_succ, List.getElem_toArray, List.getElem_cons_succ, List.getElem_cons_zero]
              refine wpAnyH_take (i := 20) (oi := _) (v := Value.int .i64 vy1) rfl (by kernel_rfl) (by kernel_rfl) (by kernel_rfl) (fun _ _ _ h => h) (Or.inl ⟨by rfl, fun w' hSw => ?_⟩) hHeld ?_
              · obtain ⟨t0, t1, t2, t3⟩ := hSw
                go_simp
                try simp [*]
                try (intro hh; exfalso; omega)
                try omega
              try simp only [Act.put, List.setIfInBounds_toArray, List.set_cons_zero, List.set_cons_succ, List.getElem_toArray, List.getElem_cons_succ, List.getElem_cons_zero]
              refine wpAnyH_take (i := 21) (oi := _) (v := Value.bool true) rfl (by kernel_rfl) (by kernel_rfl) (by kernel_rfl) (fun _ _ _ h => h) (Or.inl ⟨by rfl, fun w' hSw => ?_⟩) hHeld ?_
              · obtain ⟨t0, t1, t2, t3⟩ := hSw
                go_simp
                try simp [*]
                try (intro hh; exfalso; omega)
                try omega
              try simp only [Act.put, List.setIfInBounds_toArray, List.set_cons_zero, List.set_cons_succ, List.getElem_toArray, List.getElem_cons_succ, List.getElem_cons_zero]
              refine wpAnyH_take (i := 22) (oi := _) (v := Value.bool true) rfl (by kernel_rfl) (by kernel_rfl) (by kernel_rfl) (fun _ _ _ h => h) (Or.inl ⟨by rfl, fun w' hSw => ?_⟩) hHeld ?_
              · obtain ⟨t0, t1, t2, t3⟩ := hSw
                go_simp
                try simp [*]
                try (intro hh; exfalso; omega)
                try omega
              try simp only [Act.put, List.setIfInBounds_toArray, List.set_cons_zero, List.set_cons_succ, List.getElem_toArray, List.getElem_cons_succ, List.getElem_cons_zero]
              refine wpAnyH_take (i := 23) (oi := _) (v := Value.slice (some ⟨gy, oy, none⟩) k cy) rfl (by kernel_rfl) (by kernel_rfl) (by kernel_rfl) (fun _ _ _ h => h) (Or.inl ⟨by rfl, fun w' hSw => ?_⟩) hHeld ?_
              · obtain ⟨t0, t1, t2, t3⟩ := hSw
                go_simp
                try simp [*]
                try (intro hh; exfalso; omega)
                try omega
              try simp only [Act.put, List.setIfInBounds_toArray, List.set_cons_zero, List.set_cons_succ, List.getElem_toArray, List.getElem_cons_succ, List.getElem_cons_zero]
              refine wpAnyH_take (i := 24) (oi := _) (v := Value.int .i64 (j : Int)) rfl (by kernel_rfl) (by kernel_rfl) (by kernel_rfl) (fun _ _ _ h => h) (Or.inl ⟨by rfl, fun w' hSw => ?_⟩) hHeld ?_
              · obtain ⟨t0, t1, t2, t3⟩ := hSw
                go_simp
                try simp [*]
                try (intro hh; exfalso; omega)
                try omega
              try simp only [Act.put, List.setIfInBounds_toArray, List.set_cons_zero, List.set_cons_succ, List.getElem_toArray, List.getElem_cons_succ, List.getElem_cons_zero]
              refine wpAnyH_take (i := 25) (oi := _) (v := Value.pointer (some ⟨gy, oy + j, none⟩)) rfl (by kernel_rfl) (by kernel_rfl) (by kernel_rfl) (fun _ _ _ h => h) (Or.inl ⟨by rfl, fun w' hSw => ?_⟩) hHeld ?_
              · obtain ⟨t0, t1, t2, t3⟩ := hSw
                go_simp
                try simp [*]
                try (intro hh; exfalso; omega)
                try omega
              try simp only [Act.put, List.setIfInBounds_toArray, List.set_cons_zero, List.set_cons_succ, List.getElem_toArray, List.getElem_cons_succ, List.getElem_cons_zero]
              refine wpAnyH_take (i := 26) (oi := _) (v := Value.int .i64 vy1) rfl (by kernel_rfl) (by kernel_rfl) (by kernel_rfl) (fun _ _ _ h => h) (Or.inl ⟨by rfl, fun w' hSw => ?_⟩) hHeld ?_
              · obtain ⟨t0, t1, t2, t3⟩ := hSw
                go_simp
                try simp [*]
                try (intro hh; exfalso; omega)
                try omega
              try simp only [Act.put, List.setIfInBounds_toArray, List.set_cons_zero, List.set_cons_succ, List.getElem_toArray, List.getElem_cons_succ, List.getElem_cons_zero]
              refine wpAnyH_take (i := 27) (oi := _) (v := Value.slice (some ⟨gx, ox, none⟩) k cx) rfl (by kernel_rfl) (by kernel_rfl) (by kernel_rfl) (fun _ _ _ h => h) (Or.inl ⟨by rfl, fun w' hSw => ?_⟩) hHeld ?_
              · obtain ⟨t0, t1, t2, t3⟩ := hSw
                go_simp
                try simp [*]
                try (intro hh; exfalso; omega)
                try omega
              try simp only [Act.put, List.setIfInBounds_toArray, List.set_cons_zero, List.set_cons_succ, List.getElem_toArray, List.getElem_cons_succ, List.getElem_cons_zero]
              refine wpAnyH_take (i := 28) (oi := _) (v := Value.int .i64 (j : Int)) rfl (by kernel_rfl) (by kernel_rfl) (by kernel_rfl) (fun _ _ _ h => h) (Or.inl ⟨by rfl, fun w' hSw => ?_⟩) hHeld ?_
              · obtain ⟨t0, t1, t2, t3⟩ := hSw
                go_simp
                try simp [*]
                try (intro hh; exfalso; omega)
                try omega
              try simp only [Act.put, List.setIfInBounds_toArray, List.set_cons_zero, List.set_cons_succ, List.getElem_toArray, List.getElem_cons_succ, List.getElem_cons_zero]
              refine wpAnyH_take (i := 29) (oi := _) (v := Value.pointer (some ⟨gx, ox + j, none⟩)) rfl (by kernel_rfl) (by kernel_rfl) (by kernel_rfl) (fun _ _ _ h => h) (Or.inl ⟨by rfl, fun w' hSw => ?_⟩) hHeld ?_
              · obtain ⟨t0, t1, t2, t3⟩ := hSw
                go_simp
                try simp [*]
                try (intro hh; exfalso; omega)
                try omega
              try simp only [Act.put, List.setIfInBounds_toArray, List.set_cons_zero, List.set_cons_succ, List.getElem_toArray, List.getElem_cons_succ, List.getElem_cons_zero]
              refine wpAnyH_take (i := 30) (oi := _) (v := Value.int .i64 vy1) rfl (by kernel_rfl) (by kernel_rfl) (by kernel_rfl) (fun _ _ _ h => h) (Or.inl ⟨by rfl, fun w' hSw => ?_⟩) hHeld ?_
              · obtain ⟨t0, t1, t2, t3⟩ := hSw
                go_simp
                try simp [*]
                try (intro hh; exfalso; omega)
                try omega
              try simp only [Act.put, List.setIfInBounds_toArray, List.set_cons_zero, List.set_cons_succ, List.getElem_toArray, List.getElem_cons_succ, List.getElem_cons_zero]
              refine wpAnyH_take (i := 31) (oi := _) (v := Value.bool false) rfl (by kernel_rfl) (by kernel_rfl) (by kernel_rfl) (fun _ _ _ h => h) (Or.inl ⟨by rfl, fun w' hSw => ?_⟩) hHeld ?_
              · obtain ⟨t0, t1, t2, t3⟩ := hSw
                go_simp
                try simp [*]
                try (intro hh; exfalso; omega)
                try omega
              try simp only [Act.put, List.setIfInBounds_toArray, List.set_cons_zero, List.set_cons_succ, List.getElem_toArray, List.getElem_cons_succ, List.getElem_cons_zero]
              refine wpAnyH_take (i := 32) (oi := _) (v := Value.bool false) rfl (by kernel_rfl) (by kernel_rfl) (by kernel_rfl) (fun _ _ _ h => h) (Or.inl ⟨by rfl, fun w' hSw => ?_⟩) hHeld ?_
              · obtain ⟨t0, t1, t2, t3⟩ := hSw
                go_simp
                try simp [*]
                try (intro hh; exfalso; omega)
                try omega
              try simp only [Act.put, List.setIfInBounds_toArray, List.set_cons_zero, List.set_cons_succ, List.getElem_toArray, List.getElem_cons_succ, List.getElem_cons_zero]
              refine wpAnyH_take (i := 33) (oi := _) (v := Value.bool false) rfl (by kernel_rfl) (by kernel_rfl) (by kernel_rfl) (fun _ _ _ h => h) (Or.inl ⟨by rfl, fun w' hSw => ?_⟩) hHeld ?_
              · obtain ⟨t0, t1, t2, t3⟩ := hSw
                go_simp
                try simp [*]
                try (intro hh; exfalso; omega)
                try omega
              try simp only [Act.put, List.setIfInBounds_toArray, List.set_cons_zero, List.set_cons_succ, List.getElem_toArray, List.getElem_cons_succ, List.getElem_cons_zero]
              refine wpAnyH_done (by kernel_rfl) ?_ _
              clear hHeld
              go_wp2_with fail
              go_roundw
              case rel => exact ⟨j + 1, by omega, by go_num, HBR.out.drew⟩
              case measure => simp [intOf]; omega
        · obtain rfl : j = k := by omega
          go_wp2_with fail
          refine (fine_any _).mono ?_
          rintro e wz ⟨rfl, hb⟩
          have HBZ := Lib.hid (HUP.out _ (HU10.out.trans ((HBR.out.trans (hb.mono HBR.out.size)).mono HU10.out.size)))
          clear hb
          go_wp2_with fail
          go_ret
          exact ⟨by first | rfl | simp, HBZ.out⟩
end Go.Proofs.Ytdohfpnnmppdkaa

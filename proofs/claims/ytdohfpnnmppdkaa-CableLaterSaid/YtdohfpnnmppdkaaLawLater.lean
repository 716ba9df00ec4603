/-
  Cables: what a node gets does not depend on lesser ranks.
-/
import Derived.Test.YtdohfpnnmppdkaaLtMath
import Derived.Test.YtdohfpnnmppdkaaCbR
import Derived.Test.YtdohfpnnmppdkaaCbQ
import Derived.Test.YtdohfpnnmppdkaaEvFn
import Derived.Deep.CutRange
namespace Go.Proofs.Ytdohfpnnmppdkaa
open Go.RowKit Go.Shelf
set_option linter.unusedSimpArgs false
attribute [local go_sem] Oper.semAt_some
def qF (rk rq q0 : Nat → Int) (L : Int) (k j : Nat) : Int := if j < k ∧ L ≤ rk j then rq j else q0 j
theorem rqF_bd {kk : World} {v : Value} {n : Nat} {rs : List Int} (h : Sk .u16 n kk v rs) (k : Nat) : 0 ≤ rqF rs k ∧ rqF rs k ≤ 65536 := by
  obtain ⟨a, c, -, -, hc⟩ := h
  unfold rqF
  by_cases hk : k < rs.length
  · rw [if_pos hk]
    have := u16_of_wf (hc k hk).1
    omega
  · rw [if_neg hk]; decide
theorem mapI (f : Nat → Int) (n : Nat) : fI f n = (fL f n).map (fun x => Value.int .i64 x) := by unfold fI fL; simp
theorem set3c {W : World} {b : Nat} {x y z : Value} {t : TypeId} (h : W.heap[b]? = some (.cells #[x, y, z] t (0, 0))) (u : Value) : (W.setCell ⟨b, 2, none⟩ u).heap[b]? = some (.cells #[x, y, u] t (0, 0)) := by
  simp [World.setCell, Array.getElem?_modify, h]
set_option maxRecDepth 100000 in
set_option maxHeartbeats 64000000 in
theorem later_any (sl sh : Int) (sv qv ov kv : Value) (ns : List Nd) (rs os ks : List Int) (lst more : Int) (hlst : 0 ≤ lst ∧ lst ≤ 255) (hmore : 0 ≤ more ∧ more ≤ 65535) (w : World) (hN : Nds w.heap.size w sv ns) (hQ : Sk .u16 w.heap.size w qv rs) (hO : Sk .u16 w.heap.size w ov os) (hK : Sk .u8 w.heap.size w kv ks) :
    Calls Try.prog 10 #[.agg #[.int .i64 sl, .int .i64 sh, sv], qv, ov, kv, .int .u8 lst, .int .u16 more] w fun e w' => e = .returned (.bool true) ∧ Below w.heap.size w w' := by
  obtain ⟨i0, hi0, hz0, hz1, hz2⟩ := info_parts infoI62
  have c1 := Lib.hid (fun W (h : Below w.heap.size w W) => valid_any sl sh sv ns W (hN.at h))
  have HV := Lib.hid (fun (h : valB sl sh ns = true) => valB_ok h)
  have cF := Lib.hid (fun W => fine_any W)
  have hNN := hN
  have hQQ := hQ
  have hOO := hO
  have hKK := hK
  obtain ⟨a, cap, hsv, -, hcc⟩ := hN
  obtain ⟨qa, qc, rfl⟩ := hQ.form
  obtain ⟨oa, oc, rfl⟩ := hO.form
  obtain ⟨ka, kc, rfl⟩ := hK.form
  subst hsv
  generalize hVB : valB sl sh ns = VB at *
  cases VB
  · clear HV hcc hNN hQ hO hK hQQ hOO hKK hVB
    generalize ns.length = n at *
    generalize rs.length = rn at *
    generalize os.length = on at *
    generalize ks.length = kn at *
    obtain ⟨A, hA⟩ : ∃ A, A = w.alloc (.cells #[.int .i64 sl, .int .i64 sh, .slice a n cap] 26) := ⟨_, rfl⟩
    have HBA := Lib.hid (show Below w.heap.size w A by rw [hA]; exact ((Below.refl _ _).alloc (Nat.le_refl _) _))
    have hltA : w.heap.size < A.heap.size := by rw [hA]; simp
    have q0 : A.cell? ⟨w.heap.size, 0, none⟩ = some (.int .i64 sl) := by rw [hA]; exact (cellHB (World.alloc_heap_new w _) 0).trans (by simp)
    have q1 : A.cell? ⟨w.heap.size, 1, none⟩ = some (.int .i64 sh) := by rw [hA]; exact (cellHB (World.alloc_heap_new w _) 1).trans (by simp)
    have q2 : A.cell? ⟨w.heap.size, 2, none⟩ = some (.slice a n cap) := by rw [hA]; exact (cellHB (World.alloc_heap_new w _) 2).trans (by simp)
    go_enter Try.func10, Try.ntmps10
    go_upto_region 1 with fail
    rw [← hA]
    clear hA hltA
    go_wp2_with fail
    refine (c1.out _ HBA.out).mono ?_
    rintro e w1 ⟨rfl, hb⟩
    have HB1 := Lib.hid (HBA.out.trans (hb.mono HBA.out.size))
    clear hb q0 q1 q2
    go_wp2_with fail
    refine (cF.out _).mono ?_
    rintro e w2 ⟨rfl, hb⟩
    have HB2 := Lib.hid (HB1.out.trans (hb.mono HB1.out.size))
    clear hb
    go_wp2_with fail
    go_ret
    exact ⟨rfl, HB2.out⟩
  obtain ⟨hv, hn20⟩ := HV.out rfl
  have hn0 := hv.pos
  obtain ⟨nb, off, rfl, hnb, -⟩ := hcc 0 hn0
  obtain ⟨P, hP⟩ : ∃ P, P = par ns := ⟨_, rfl⟩
  obtain ⟨rq, hrq⟩ : ∃ f, f = rqF rs := ⟨_, rfl⟩
  obtain ⟨q0, hq0⟩ : ∃ f, f = rqF os := ⟨_, rfl⟩
  obtain ⟨rk, hrk⟩ : ∃ f, f = rkF ks := ⟨_, rfl⟩
  obtain ⟨L8, hL8⟩ : ∃ L8, L8 = lst.tmod 8 := ⟨_, rfl⟩
  have hbq : ∀ k, 0 ≤ rq k ∧ rq k ≤ 65536 := fun k => by rw [hrq]; exact rqF_bd hQQ k
  have hb0 : ∀ k, 0 ≤ q0 k ∧ q0 k ≤ 65536 := fun k => by rw [hq0]; exact rqF_bd hOO k
  have hbn : ∀ k, 0 ≤ qF rk rq q0 L8 ns.length k ∧ qF rk rq q0 L8 ns.length k ≤ 65536 := fun k => by
    unfold qF
    split
    · exact hbq k
    · exact hb0 k
  have hdv := grdL_valid hmore.1 hv
  obtain ⟨AF, hAF⟩ : ∃ f : Nat → Int, f = fun j => (shF (par ns) (limF ns) (ti (fL rq ns.length)) (ordO (ti (fL rk ns.length)) ns.length)).2 j := ⟨_, rfl⟩
  obtain ⟨BF, hBF⟩ : ∃ f : Nat → Int, f = fun j => (shF (par ns) (limF ns) (ti (fL (qF rk rq q0 L8 ns.length) ns.length)) (ordO (ti (fL rk ns.length)) ns.length)).2 j := ⟨_, rfl⟩
  obtain ⟨XF, hXF⟩ : ∃ f : Nat → Int, f = fun j => (shF (par ns) (limF (grdL ns more)) (ti (fL rq ns.length)) (ordO (ti (fL rk ns.length)) ns.length)).2 j := ⟨_, rfl⟩
  obtain ⟨fs, hfs⟩ : ∃ f : Nat, f = tn (ordO (ti (fL rk ns.length)) ns.length) 0 := ⟨_, rfl⟩
  have HAB := Lib.hid (show ∀ k, k < ns.length → L8 ≤ rk k → AF k = BF k from fun k hk hL => by
    rw [hAF, hBF]
    exact later_eq (par ns) (limF ns) rk rq (qF rk rq q0 L8 ns.length) ns.length L8 (fun j hj hr => by unfold qF; rw [if_pos ⟨hj, hr⟩]) k hk hL)
  have HFS := Lib.hid (show fs < ns.length ∧ AF fs ≤ XF fs from by
    rw [hAF, hXF, hfs]
    exact first_le (par ns) (limF ns) (limF (grdL ns more)) (ti (fL rk ns.length)) (ti (fL rq ns.length)) ns.length hn0 (grdL_lim hmore.1 hv))
  have cG1 := Lib.hid (fun W (h : Below w.heap.size w W) => granting_any sl sh (.slice (some ⟨nb, off, none⟩) ns.length cap) (.slice qa rs.length qc) (.slice ka ks.length kc) ns rs ks W (by omega) (hNN.at h) (hQQ.at h) (hKK.at h))
  have cG2 := Lib.hid (fun W (h : Below w.heap.size w W) => granting_any sl sh (.slice (some ⟨nb, off, none⟩) ns.length cap) (.slice oa os.length oc) (.slice ka ks.length kc) ns os ks W (by omega) (hNN.at h) (hOO.at h) (hKK.at h))
  rw [← hrq, ← hrk] at cG1
  rw [← hq0, ← hrk] at cG2
  have cS1 := Lib.hid (show ∀ W v1 v2, Below w.heap.size w W → Il W.heap.size W v1 (fL rq ns.length) → Il W.heap.size W v2 (fL rk ns.length) → Calls Try.prog 57 #[.agg #[.int .i64 sl, .int .i64 sh, .slice (some ⟨nb, off, none⟩) ns.length cap], v1, v2] W fun e w' => ∃ v, e = .returned (.tuple #[v, .int .i64 0]) ∧ Rd w' v ns.length AF ∧ Below W.heap.size W w' from fun W v1 v2 h h1 h2 => by
    refine (share57_ok sl sh _ v1 v2 ns _ _ W (hNN.at h) h1 h2 (shaE_of hv (fL_len _ _) (fL_len _ _) (fL_bd fun k _ => hbq k))).mono fun e w' hp => ?_
    obtain ⟨v, he, hi, hb⟩ := hp
    refine ⟨v, he, ?_, hb⟩
    rw [hAF]; exact rd_of_il hi hn0)
  have cS2 := Lib.hid (show ∀ W v1 v2, Below w.heap.size w W → Il W.heap.size W v1 (fL (qF rk rq q0 L8 ns.length) ns.length) → Il W.heap.size W v2 (fL rk ns.length) → Calls Try.prog 57 #[.agg #[.int .i64 sl, .int .i64 sh, .slice (some ⟨nb, off, none⟩) ns.length cap], v1, v2] W fun e w' => ∃ v, e = .returned (.tuple #[v, .int .i64 0]) ∧ Rd w' v ns.length BF ∧ Below W.heap.size W w' from fun W v1 v2 h h1 h2 => by
    refine (share57_ok sl sh _ v1 v2 ns _ _ W (hNN.at h) h1 h2 (shaE_of hv (fL_len _ _) (fL_len _ _) (fL_bd fun k _ => hbn k))).mono fun e w' hp => ?_
    obtain ⟨v, he, hi, hb⟩ := hp
    refine ⟨v, he, ?_, hb⟩
    rw [hBF]; exact rd_of_il hi hn0)
  have cS3 := Lib.hid (show ∀ W dv v1 v2, Nds W.heap.size W dv (grdL ns more) → Il W.heap.size W v1 (fL rq ns.length) → Il W.heap.size W v2 (fL rk ns.length) → Calls Try.prog 57 #[.agg #[.int .i64 sl, .int .i64 sh, dv], v1, v2] W fun e w' => ∃ v, e = .returned (.tuple #[v, .int .i64 0]) ∧ Rd w' v ns.length XF ∧ Below W.heap.size W w' from fun W dv v1 v2 h h1 h2 => by
    refine (share57_ok sl sh _ v1 v2 (grdL ns more) _ _ W h h1 h2 (shaE_of hdv (by rw [fL_len, grdL_len]) (by rw [fL_len, grdL_len]) (fL_bd fun k _ => hbq k))).mono fun e w' hp => ?_
    obtain ⟨v, he, hi, hb⟩ := hp
    rw [grdL_len, grdL_par] at hi
    refine ⟨v, he, ?_, hb⟩
    rw [hXF]; exact rd_of_il hi hn0)
  have cO := Lib.hid (show ∀ W v2, Il W.heap.size W v2 (fL rk ns.length) → Calls Try.prog 58 #[v2] W fun e w' => ∃ g cp, e = .returned (.slice (some ⟨g, 0, none⟩) ns.length cp) ∧ w'.cell? ⟨g, 0, none⟩ = some (.int .i64 (fs : Int)) ∧ Below W.heap.size W w' from fun W v2 h => by
    refine (refOrder_any v2 (fL rk ns.length) ns.length (fL_len _ _) hn0 (by omega) W h).mono fun e w' hp => ?_
    obtain ⟨v, he, ho, hb⟩ := hp
    obtain ⟨g, cp, rfl, -, -, -, hc⟩ := own_next ho hn0
    exact ⟨g, cp, he, by rw [hfs]; exact hc 0 hn0, hb⟩)
  have HCELL := Lib.hid (show ∀ W, Below w.heap.size w W → ∀ j u, ((List.range (ns.length * 8)).map (ndc (nd ns)))[j]? = some u → W.cell? ((⟨nb, off, none⟩ : Addr).add j) = some u from fun W h j u hu => by
    have hj : j < ns.length * 8 := by
      by_cases hj : j < ns.length * 8
      · exact hj
      · rw [List.getElem?_eq_none (by simpa using hj)] at hu; cases hu
    rw [add_at, nds_cells (hNN.at h) hj]
    simpa [hj] using hu)
  have HONE := Lib.hid (show ∀ u, u ∈ (List.range (ns.length * 8)).map (ndc (nd ns)) → u.oneCell' = true from fun u hu => by
    obtain ⟨j, _, rfl⟩ := List.mem_map.1 hu
    unfold ndc
    (repeat' split) <;> rfl)
  have HLEN := Lib.hid (show ((List.range (ns.length * 8)).map (ndc (nd ns))).length = ns.length * 8 by simp)
  have HROW := Lib.hid (fun (W : World) base v (h : W.ownsRow base 62 8 v ns.length ((List.range (ns.length * 8)).map (ndc (nd ns)))) => show ∃ G cp, v = .slice (some ⟨G, 0, none⟩) ns.length cp ∧ base ≤ G ∧ ns.length ≤ cp ∧ NdR W G ns.length cp (mgF ns more 0) from by
    obtain ⟨g, cp, h1, h2, h3, h4⟩ := ndr_of_own hn0 h
    rw [show mgF ns more 0 = nd ns from funext fun j => if_neg (by omega)]
    exact ⟨g, cp, h1, h2, h3, h4⟩)
  have HMG := Lib.hid (fun k x => mg_set ns more k x)
  have HDS := Lib.hid (fun W G cp (hc : ns.length ≤ cp) (h : NdR W G ns.length cp (mgF ns more ns.length)) => show Nds W.heap.size W (.slice (some ⟨G, 0, none⟩) ns.length cp) (grdL ns more) by
    have q := nds_of_ndr (ns := grdL ns more) (f := mgF ns more ns.length) (by rw [grdL_len]; exact h) (by rw [grdL_len]; exact hc) (fun k hk => by
      rw [grdL_len] at hk
      rw [grdL_nd hk]
      exact if_pos hk)
    rw [grdL_len] at q
    exact q)
  have HLM := Lib.hid (show ∀ k, k < ns.length → 0 ≤ (nd ns k).lim ∧ (nd ns k).lim ≤ 3932160 from fun k hk => (hv.all.node hk).2.1)
  have HMO := Lib.hid hmore
  have HND := Lib.hid (show ∀ k, mgF ns more k k = nd ns k from fun k => if_neg (by omega))
  have HQ1 := Lib.hid (show ∀ k, L8 ≤ rk k → (fun j => if j = k then rq k else qF rk rq q0 L8 k j) = qF rk rq q0 L8 (k + 1) from fun k hL => funext fun j => by
    unfold qF
    by_cases h : j = k
    · subst h; rw [if_pos rfl, if_pos ⟨by omega, hL⟩]
    · rw [if_neg h]
      by_cases h2 : j < k ∧ L8 ≤ rk j
      · rw [if_pos h2, if_pos ⟨by omega, h2.2⟩]
      · rw [if_neg h2, if_neg fun h3 => h2 ⟨by omega, h3.2⟩])
  have HQ0 := Lib.hid (show ∀ k, ¬ L8 ≤ rk k → qF rk rq q0 L8 k = qF rk rq q0 L8 (k + 1) from fun k hL => funext fun j => by
    unfold qF
    by_cases h2 : j < k ∧ L8 ≤ rk j
    · rw [if_pos h2, if_pos ⟨by omega, h2.2⟩]
    · rw [if_neg h2, if_neg fun h3 => h2 ⟨by by_cases e : j = k; (subst e; exact absurd h3.2 hL); omega, h3.2⟩])
  have HQS := Lib.hid (show qF rk rq q0 L8 0 = q0 from funext fun j => if_neg (by omega))
  obtain ⟨qf, hqf⟩ : ∃ qf : Nat → Nat → Int, qf = qF rk rq q0 L8 := ⟨_, rfl⟩
  rw [← hqf] at HQ1 HQ0 HQS cS2
  clear HV hcc hNN hQ hO hK hQQ hOO hKK hVB hv hdv hbq hb0 hbn hrq hq0 hrk hAF hBF hXF hfs hP hqf hmore
  obtain ⟨hls0, hls1⟩ := hlst
  have hy8 := hL8.symm
  clear hL8
  generalize (List.range (ns.length * 8)).map (ndc (nd ns)) = NW at *
  have hn60 : ns.length ≤ 60 := by omega
  generalize grdL ns more = dns at *
  generalize hnn : ns.length = n at *
  generalize rs.length = rn at *
  generalize os.length = on at *
  generalize ks.length = kn at *
  clear hnn hn20
  obtain ⟨A, hA⟩ : ∃ A, A = w.alloc (.cells #[.int .i64 sl, .int .i64 sh, .slice (some ⟨nb, off, none⟩) n cap] 26) := ⟨_, rfl⟩
  have HBA := Lib.hid (show Below w.heap.size w A by rw [hA]; exact ((Below.refl _ _).alloc (Nat.le_refl _) _))
  have hltA : w.heap.size < A.heap.size := by rw [hA]; simp
  have p0 : A.cell? ⟨w.heap.size, 0, none⟩ = some (.int .i64 sl) := by rw [hA]; exact (cellHB (World.alloc_heap_new w _) 0).trans (by simp)
  have p1 : A.cell? ⟨w.heap.size, 1, none⟩ = some (.int .i64 sh) := by rw [hA]; exact (cellHB (World.alloc_heap_new w _) 1).trans (by simp)
  have p2 : A.cell? ⟨w.heap.size, 2, none⟩ = some (.slice (some ⟨nb, off, none⟩) n cap) := by rw [hA]; exact (cellHB (World.alloc_heap_new w _) 2).trans (by simp)
  have KK := Lib.hid (show ∀ W, Below A.heap.size A W → W.cell? ⟨w.heap.size, 0, none⟩ = some (.int .i64 sl) ∧ W.cell? ⟨w.heap.size, 1, none⟩ = some (.int .i64 sh) ∧ W.cell? ⟨w.heap.size, 2, none⟩ = some (.slice (some ⟨nb, off, none⟩) n cap) from fun W h => ⟨(h.cell (p := ⟨w.heap.size, 0, none⟩) hltA).trans p0, (h.cell (p := ⟨w.heap.size, 1, none⟩) hltA).trans p1, (h.cell (p := ⟨w.heap.size, 2, none⟩) hltA).trans p2⟩)
  have HLT := Lib.hid hltA
  clear hltA p0 p1 p2
  have HUP := Lib.hid (show ∀ W, Below A.heap.size A W → Below w.heap.size w W from fun W h => HBA.out.trans (h.mono HBA.out.size))
  obtain ⟨k0, k1, k2⟩ := KK.out _ (Below.refl _ _)
  go_enter Try.func10, Try.ntmps10
  go_upto_region 1 with fail
  rw [← hA]
  clear hA
  go_wp2_with fail
  refine (c1.out _ HBA.out).mono ?_
  rintro e w1 ⟨rfl, hb⟩
  have HB1 := Lib.hid hb
  clear hb k0 k1 k2
  obtain ⟨k0, k1, k2⟩ := KK.out _ HB1.out
  go_wp2_with fail
  refine (cG1.out _ (HUP.out _ HB1.out)).mono ?_
  rintro e w2 ⟨v1, v2, rfl, hr, hk, -, hb⟩
  have HB2 := Lib.hid (HB1.out.trans (hb.mono HB1.out.size))
  obtain ⟨g1, cp1, J1, rfl, -, hc1, hR1⟩ := own_row hr hn0
  obtain ⟨g2, cp2, J2, rfl, -, hc2, hR2⟩ := own_row hk hn0
  have HR1 := Lib.hid hR1
  have HR2 := Lib.hid hR2
  have HC1 := Lib.hid hc1
  have HC2 := Lib.hid hc2
  clear hb hr hk hR1 hR2 k0 k1 k2 hc1 hc2
  obtain ⟨k0, k1, k2⟩ := KK.out _ HB2.out
  go_wp2_with fail
  refine (cG2.out _ (HUP.out _ HB2.out)).mono ?_
  rintro e w3 ⟨v3, v4, rfl, hr, -, -, hb⟩
  obtain ⟨g3, cp3, J3, rfl, hg3, hc3, hR3⟩ := own_row hr hn0
  have HB3 := Lib.hid hb
  have HR3 := Lib.hid (show RowC w3 g3 2 cp3 (rmC n J3 (qf 0)) by rw [HQS.out]; exact hR3)
  have HC3 := Lib.hid hc3
  have HG3 := Lib.hid hg3
  clear hb hr hR3 k0 k1 k2 hc3 hg3
  go_wp2_with fail
  go_loopw [17] (fun iv wr => ∃ k : Nat, k ≤ n ∧ iv = .int .i64 k ∧ RowC wr g3 2 cp3 (rmC n J3 (qf k)) ∧ Below w2.heap.size w2 wr) (fun iv _ => n - (intOf iv).toNat)
  case atStart => exact ⟨0, Nat.zero_le _, rfl, HR3.out, HB3.out⟩
  case round =>
    obtain ⟨k, hk, rfl, hR, hB⟩ := hrel
    have HR := Lib.hid hR
    have HB := Lib.hid hB
    clear hR hB
    by_cases hlt : k < n
    · have hki : (k : Int) < (n : Int) := by omega
      have u0 := row_at (HR2.out.keep HB.out) HC2.out hlt
      have u1 := row_at (HR1.out.keep HB.out) HC1.out hlt
      by_cases hL : L8 ≤ rk k
      · have uf := HR.out.froz k
        have hgl := HR.out.lt
        have u3 := row_at HR.out HC3.out hlt
        go_wp2_with fail
        go_roundw
        case rel =>
          refine ⟨k + 1, by omega, by go_num, ?_, HB.out.setCell (p := ⟨g3, k, none⟩) HG3.out _⟩
          rw [← HQ1.out k hL]
          exact rmC_set HR.out k hlt _
        case measure => simp [intOf]; omega
      · go_wp2_with fail
        go_roundw
        case rel => exact ⟨k + 1, by omega, by go_num, by rw [← HQ0.out k (by omega)]; exact HR.out, HB.out⟩
        case measure => simp [intOf]; omega
    · obtain rfl : n = k := by omega
      have HBL := Lib.hid (show Below A.heap.size A wr from HB2.out.trans (HB.out.mono HB2.out.size))
      have HI1 := Lib.hid (row_il (HR1.out.keep HB.out) HC1.out)
      have HI2 := Lib.hid (row_il (HR2.out.keep HB.out) HC2.out)
      have HI3 := Lib.hid (row_il HR.out HC3.out)
      clear HB HR HR1 HR2 HR3 HB3 HB2 HB1 HQ1 HQ0 HQS
      obtain ⟨k0, k1, k2⟩ := KK.out _ HBL.out
      go_wp2_with fail
      refine (cS1.out _ _ _ (HUP.out _ HBL.out) HI1.out HI2.out).mono ?_
      rintro e w4 ⟨va, rfl, ⟨ba, oa', ca, rfl, hba, hA⟩, hb⟩
      have HA := Lib.hid hA
      have HB4 := Lib.hid (HBL.out.trans (hb.mono HBL.out.size))
      have HJ1 := Lib.hid (HI1.out.at hb)
      have HJ2 := Lib.hid (HI2.out.at hb)
      have HJ3 := Lib.hid (HI3.out.at hb)
      clear hb hA k0 k1 k2 HI1 HI2 HI3
      obtain ⟨k0, k1, k2⟩ := KK.out _ HB4.out
      go_wp2_with fail
      refine (cS2.out _ _ _ (HUP.out _ HB4.out) HJ3.out HJ2.out).mono ?_
      rintro e w5 ⟨vb, rfl, ⟨bb, ob', cb, rfl, hbb, hBc⟩, hb⟩
      have HBC := Lib.hid hBc
      have HB5 := Lib.hid (HB4.out.trans (hb.mono HB4.out.size))
      have HK1 := Lib.hid (HJ1.out.at hb)
      have HK2 := Lib.hid (HJ2.out.at hb)
      have HAW := Lib.hid (show ∀ Z, Below w5.heap.size w5 Z → ∀ k, k < n → Z.cell? ⟨ba, oa' + k, none⟩ = some (.int .i64 (AF k)) from fun Z h => HA.out Z (hb.trans (h.mono hb.size)))
      clear hb hBc k0 k1 k2 HJ1 HJ2 HJ3 HA hba hbb
      obtain ⟨k0, k1, k2⟩ := KK.out _ HB5.out
      obtain ⟨V, hV⟩ : ∃ V, V = w5.alloc (.cells #[.int .i64 sl, .int .i64 sh, .slice (some ⟨nb, off, none⟩) n cap] 26) := ⟨_, rfl⟩
      obtain ⟨D, hD⟩ : ∃ D, D = w5.heap.size := ⟨_, rfl⟩
      have HDV := Lib.hid (show V.heap[D]? = some (.cells #[.int .i64 sl, .int .i64 sh, .slice (some ⟨nb, off, none⟩) n cap] 26 (0, 0)) by rw [hV, hD]; exact World.alloc_heap_new _ _)
      have HBV := Lib.hid (show Below D w5 V by rw [hV, hD]; exact (Below.refl _ _).alloc (Nat.le_refl _) _)
      have HDZ := Lib.hid (show D < V.heap.size ∧ w.heap.size < D ∧ D = w5.heap.size from ⟨(Array.getElem?_eq_some_iff.1 HDV.out).1, by rw [hD]; exact Nat.lt_of_lt_of_le HLT.out HB5.out.size, hD⟩)
      go_upto_region 13 with fail
      rw [← hV, ← hD]
      clear hV k0 k1 k2
      rw [← hD] at HAW HBC
      have HBD := Lib.hid (show Below A.heap.size A w5 from HB5.out)
      have HVA := Lib.hid (show Below A.heap.size A V from HB5.out.trans (HBV.out.mono (by rw [hD]; exact HB5.out.size)))
      clear hD
      obtain ⟨k0, k1, k2⟩ := KK.out _ HVA.out
      obtain ⟨ka0, ka1, ka2⟩ := KK.out _ (HVA.out.alloc HVA.out.size (.cells #[] 62))
      have hzD : D < V.heap.size := HDZ.out.1
      have hm8 : n * 64 ≤ 3840 := by omega
      go_upto_region 14 with (at_builtin; refine wpList_append_own _ rfl _ _ 24 rfl V.heap.size 62 i0 (.agg #[.int .i64 0, .int .i64 0, .int .i64 0, .int .i64 0, .int .i64 0, .int .i64 0, .int .i64 0, .int .i64 0]) 8 64 Try.underlying24 hi0 hz0 hz1 hz2 rfl (by decide) _ _ _ rfl (World.ownsRow_made V #[] 0 (Nat.le_refl _) (by unfold maxLen; omega) rfl) ⟨nb, off, none⟩ n cap NW rfl HLEN.out (HCELL.out _ (HUP.out _ (HVA.out.alloc HVA.out.size _))) HONE.out (by unfold maxLen; omega) (by omega) (by simp) ?_; intro v' w6 hown' hgrow _; rw [Nat.zero_add, List.nil_append] at hown'; obtain ⟨G, cp, rfl, hG, hcp, hNd⟩ := HROW.out _ _ _ hown'; have HB6 := Lib.hid (show Below V.heap.size V w6 from ((Below.refl V.heap.size V).alloc (Nat.le_refl _) _).grown hgrow (by simp) (fun r e => ((World.ownsRow_made V #[] 0 (Nat.le_refl _) (by unfold maxLen; omega) rfl : (V.alloc (.cells #[] 62)).ownsRow V.heap.size 62 8 _ 0 []).lt r e).1)); have HD6 := Lib.hid ((HB6.out.block D hzD).trans HDV.out); have HNd := Lib.hid hNd; have d2 := cellHB HD6.out 2; have df := frozH HD6.out 2; have HGG := Lib.hid hG; have HCP := Lib.hid hcp; clear hown' hgrow hNd k0 k1 k2 ka0 ka1 ka2 hG hcp)
      obtain ⟨V6, hV6⟩ : ∃ V, V = w6.setCell ⟨D, 2, none⟩ (.slice (some ⟨G, 0, none⟩) n cp) := ⟨_, rfl⟩
      have HE6 := Lib.hid (show V6.heap[D]? = some (.cells #[.int .i64 sl, .int .i64 sh, .slice (some ⟨G, 0, none⟩) n cp] 26 (0, 0)) by rw [hV6]; exact set3c HD6.out _)
      have hDG : D < G := Nat.lt_of_lt_of_le hzD HGG.out
      have hGD : G ≠ D := by omega
      have HN6 := Lib.hid (show NdR V6 G n cp (mgF ns more 0) by rw [hV6]; exact HNd.out.far hGD)
      have HBV6 := Lib.hid (show Below D w5 V6 by rw [hV6]; exact (HBV.out.trans (HB6.out.mono (Nat.le_of_lt hzD))).setCell (p := ⟨D, 2, none⟩) (Nat.le_refl _) _)
      have HLE := Lib.hid (show A.heap.size ≤ D by rw [HDZ.out.2.2]; exact HBD.out.size)
      have HDG := Lib.hid hDG
      rw [← hV6]
      clear hV6 d2 df HD6 HNd HB6 HBV HDV HVA hzD hDG HCELL HONE HLEN HROW HGG
      have d2 := cellHB HE6.out 2
      go_wp2_with fail
      go_loopw [23] (fun iv wr => ∃ k : Nat, k ≤ n ∧ iv = .int .i64 k ∧ wr.heap[D]? = some (.cells #[.int .i64 sl, .int .i64 sh, .slice (some ⟨G, 0, none⟩) n cp] 26 (0, 0)) ∧ NdR wr G n cp (mgF ns more k) ∧ Below D w5 wr) (fun iv _ => n - (intOf iv).toNat)
      case atStart => exact ⟨0, Nat.zero_le _, rfl, HE6.out, HN6.out, HBV6.out⟩
      case round =>
        obtain ⟨k, hk, rfl, hDr, hNr, hB⟩ := hrel
        have HDr := Lib.hid hDr
        have HNr := Lib.hid hNr
        have HB := Lib.hid hB
        clear d2
        have d0 := cellHB hDr 0
        have d1 := cellHB hDr 1
        have d2 := cellHB hDr 2
        clear hDr hNr hB
        by_cases hlt : k < n
        · have hki : (k : Int) < (n : Int) := by omega
          have hlm := HLM.out k hlt
          have hmo := HMO.out
          have l0 := HNr.out.cell HCP.out (j := k * 8 + 3) (by omega)
          rw [ndc_3, HND.out] at l0
          have lf := HNr.out.froz (k * 8 + 3)
          have hgl := HNr.out.lt
          have HMK := Lib.hid (HMG.out k)
          generalize (nd ns k).lim = lk at *
          have hwr : IntKind.i64.wrap (lk + more) = lk + more := wrap64_id (by omega)
          obtain ⟨hmo0, hmo1⟩ := hmo
          have hwm : IntKind.i64.wrap more = more := wrap64_id (by omega)
          clear hlm
          go_upto_region 17 with fail
          refine wp_region_held_drew (S := fun w' => w'.cell? ⟨D, 2, none⟩ = some (Value.slice (some ⟨G, 0, none⟩) n cp)) (by kernel_rfl) (by simpa [go_sem] using d2) (fun hHeld => ?_)
          refine wpAnyH_take (i := 0) (oi := _) (v := Value.pointer (some ⟨D, 2, none⟩)) rfl (by kernel_rfl) (by kernel_rfl) (by kernel_rfl) (fun _ _ _ h => h) (Or.inl ⟨by rfl, fun w' hSw => ?_⟩) hHeld ?_
          · have t0 := hSw
            go_simp
            try simp [*]
            try (intro hh; exfalso; omega)
            try omega
          try simp only [Act.put, List.setIfInBounds_toArray, List.set_cons_zero, List.set_cons_succ, List.getElem_toArray, List.getElem_cons_succ, List.getElem_cons_zero]
          refine wpAnyH_take (i := 1) (oi := _) (v := Value.slice (some ⟨G, 0, none⟩) n cp) rfl (by kernel_rfl) (by kernel_rfl) (by kernel_rfl) (fun _ _ _ h => h) (Or.inl ⟨by rfl, fun w' hSw => ?_⟩) hHeld ?_
          · have t0 := hSw
            go_simp
            try simp [*]
            try (intro hh; exfalso; omega)
            try omega
          try simp only [Act.put, List.setIfInBounds_toArray, List.set_cons_zero, List.set_cons_succ, List.getElem_toArray, List.getElem_cons_succ, List.getElem_cons_zero]
          refine wpAnyH_take (i := 2) (oi := _) (v := Value.int .i64 (k : Int)) rfl (by kernel_rfl) (by kernel_rfl) (by kernel_rfl) (fun _ _ _ h => h) (Or.inl ⟨by rfl, fun w' hSw => ?_⟩) hHeld ?_
          · have t0 := hSw
            go_simp
            try simp [*]
            try (intro hh; exfalso; omega)
            try omega
          try simp only [Act.put, List.setIfInBounds_toArray, List.set_cons_zero, List.set_cons_succ, List.getElem_toArray, List.getElem_cons_succ, List.getElem_cons_zero]
          refine wpAnyH_take (i := 3) (oi := _) (v := Value.pointer (some ⟨D, 2, none⟩)) rfl (by kernel_rfl) (by kernel_rfl) (by kernel_rfl) (fun _ _ _ h => h) (Or.inl ⟨by rfl, fun w' hSw => ?_⟩) hHeld ?_
          · have t0 := hSw
            go_simp
            try simp [*]
            try (intro hh; exfalso; omega)
            try omega
          try simp only [Act.put, List.setIfInBounds_toArray, List.set_cons_zero, List.set_cons_succ, List.getElem_toArray, List.getElem_cons_succ, List.getElem_cons_zero]
          refine wpAnyH_take (i := 4) (oi := _) (v := Value.slice (some ⟨G, 0, none⟩) n cp) rfl (by kernel_rfl) (by kernel_rfl) (by kernel_rfl) (fun _ _ _ h => h) (Or.inl ⟨by rfl, fun w' hSw => ?_⟩) hHeld ?_
          · have t0 := hSw
            go_simp
            try simp [*]
            try (intro hh; exfalso; omega)
            try omega
          try simp only [Act.put, List.setIfInBounds_toArray, List.set_cons_zero, List.set_cons_succ, List.getElem_toArray, List.getElem_cons_succ, List.getElem_cons_zero]
          refine wpAnyH_take (i := 5) (oi := _) (v := Value.int .i64 (k : Int)) rfl (by kernel_rfl) (by kernel_rfl) (by kernel_rfl) (fun _ _ _ h => h) (Or.inl ⟨by rfl, fun w' hSw => ?_⟩) hHeld ?_
          · have t0 := hSw
            go_simp
            try simp [*]
            try (intro hh; exfalso; omega)
            try omega
          try simp only [Act.put, List.setIfInBounds_toArray, List.set_cons_zero, List.set_cons_succ, List.getElem_toArray, List.getElem_cons_succ, List.getElem_cons_zero]
          refine wpAnyH_take (i := 6) (oi := _) (v := Value.pointer (some ⟨G, k * 8, none⟩)) rfl (by kernel_rfl) (by kernel_rfl) (by kernel_rfl) (fun _ _ _ h => h) (Or.inl ⟨by rfl, fun w' hSw => ?_⟩) hHeld ?_
          · have t0 := hSw
            go_simp
            try simp [*]
            try (intro hh; exfalso; omega)
            try omega
          try simp only [Act.put, List.setIfInBounds_toArray, List.set_cons_zero, List.set_cons_succ, List.getElem_toArray, List.getElem_cons_succ, List.getElem_cons_zero]
          refine wpAnyH_take (i := 7) (oi := _) (v := Value.pointer (some ⟨G, k * 8 + 3, none⟩)) rfl (by kernel_rfl) (by kernel_rfl) (by kernel_rfl) (fun _ _ _ h => h) (Or.inl ⟨by rfl, fun w' hSw => ?_⟩) hHeld ?_
          · have t0 := hSw
            go_simp
            try simp [*]
            try (intro hh; exfalso; omega)
            try omega
          try simp only [Act.put, List.setIfInBounds_toArray, List.set_cons_zero, List.set_cons_succ, List.getElem_toArray, List.getElem_cons_succ, List.getElem_cons_zero]
          refine wpAnyH_take (i := 9) (oi := _) (v := Value.int .u16 more) rfl (by kernel_rfl) (by kernel_rfl) (by kernel_rfl) (fun _ _ _ h => h) (Or.inl ⟨by rfl, fun w' hSw => ?_⟩) hHeld ?_
          · have t0 := hSw
            go_simp
            try simp [*]
            try (intro hh; exfalso; omega)
            try omega
          try simp only [Act.put, List.setIfInBounds_toArray, List.set_cons_zero, List.set_cons_succ, List.getElem_toArray, List.getElem_cons_succ, List.getElem_cons_zero]
          refine wpAnyH_take (i := 10) (oi := _) (v := Value.int .i64 more) rfl (by kernel_rfl) (by kernel_rfl) (by kernel_rfl) (fun _ _ _ h => h) (Or.inl ⟨by rfl, fun w' hSw => ?_⟩) hHeld ?_
          · have t0 := hSw
            go_simp
            try simp [*]
            try (intro hh; exfalso; omega)
            try omega
          try simp only [Act.put, List.setIfInBounds_toArray, List.set_cons_zero, List.set_cons_succ, List.getElem_toArray, List.getElem_cons_succ, List.getElem_cons_zero]
          refine wpAnyH_ready (rs := [8]) (by kernel_rfl) (by simp) ?_
          refine AllReadyH.cons (o := _) rfl (fun K hK => ?_) AllReadyH.nil
          go_simp
          clear hHeld
          refine hK.out _ _ (by simpa [go_sem] using d2) (fun hHeld => ?_)
          clear hK K
          try simp only [Act.put, List.setIfInBounds_toArray, List.set_cons_zero, List.set_cons_succ, List.getElem_toArray, List.getElem_cons_succ, List.getElem_cons_zero]
          refine wpAnyH_take (i := 11) (oi := _) (v := Value.int .i64 (lk + more)) rfl (by kernel_rfl) (by kernel_rfl) (by kernel_rfl) (fun _ _ _ h => h) (Or.inl ⟨by rfl, fun w' hSw => ?_⟩) hHeld ?_
          · have t0 := hSw
            go_simp
            try simp [*]
            try (intro hh; exfalso; omega)
            try omega
          try simp only [Act.put, List.setIfInBounds_toArray, List.set_cons_zero, List.set_cons_succ, List.getElem_toArray, List.getElem_cons_succ, List.getElem_cons_zero]
          refine wpAnyH_take (i := 12) (oi := _) (v := Value.int .i64 (min 3932160 (lk + more))) rfl (by kernel_rfl) (by kernel_rfl) (by kernel_rfl) (fun _ _ _ h => h) (Or.inl ⟨by rfl, fun w' hSw => ?_⟩) hHeld ?_
          · have t0 := hSw
            go_simp
            try simp [*]
            try (intro hh; exfalso; omega)
            try omega
          try simp only [Act.put, List.setIfInBounds_toArray, List.set_cons_zero, List.set_cons_succ, List.getElem_toArray, List.getElem_cons_succ, List.getElem_cons_zero]
          refine wpAnyH_take (i := 13) (oi := _) (v := Value.pointer (some ⟨G, k * 8, none⟩)) rfl (by kernel_rfl) (by kernel_rfl) (by kernel_rfl) (fun _ _ _ h => h) (Or.inl ⟨by rfl, fun w' hSw => ?_⟩) hHeld ?_
          · have t0 := hSw
            go_simp
            try simp [*]
            try (intro hh; exfalso; omega)
            try omega
          try simp only [Act.put, List.setIfInBounds_toArray, List.set_cons_zero, List.set_cons_succ, List.getElem_toArray, List.getElem_cons_succ, List.getElem_cons_zero]
          refine wpAnyH_take (i := 14) (oi := _) (v := Value.pointer (some ⟨G, k * 8 + 3, none⟩)) rfl (by kernel_rfl) (by kernel_rfl) (by kernel_rfl) (fun _ _ _ h => h) (Or.inl ⟨by rfl, fun w' hSw => ?_⟩) hHeld ?_
          · have t0 := hSw
            go_simp
            try simp [*]
            try (intro hh; exfalso; omega)
            try omega
          try simp only [Act.put, List.setIfInBounds_toArray, List.set_cons_zero, List.set_cons_succ, List.getElem_toArray, List.getElem_cons_succ, List.getElem_cons_zero]
          refine wpAnyH_ready (rs := [15]) (by kernel_rfl) (by simp) ?_
          refine AllReadyH.cons (o := _) rfl (fun K hK => ?_) AllReadyH.nil
          go_simp
          clear hHeld
          refine hK.out _ _ (by simp [go_sem, *]) (fun hHeld => ?_)
          clear hK K
          try simp only [Act.put, List.setIfInBounds_toArray, List.set_cons_zero, List.set_cons_succ, List.getElem_toArray, List.getElem_cons_succ, List.getElem_cons_zero]
          refine wpAnyH_done (by kernel_rfl) ?_ _
          clear hHeld
          go_wp2_with fail
          go_roundw
          case rel => exact ⟨k + 1, by omega, by go_num, (Below.heap_setCell _ _ _ _ (Ne.symm hGD)).trans HDr.out, ndr_set1 HNr.out.drew (by omega) (fun x => HMK.out x), HB.out.drew.setCell (p := ⟨G, k * 8 + 3, none⟩) (Nat.le_of_lt HDG.out) _⟩
          case measure => simp [intOf]; omega
        · obtain rfl : n = k := by omega
          have hB5 : Below w5.heap.size w5 wr := by rw [← HDZ.out.2.2]; exact HB.out
          have HDN := Lib.hid (HDS.out wr G cp HCP.out HNr.out)
          have HI1 := Lib.hid (HK1.out.at hB5)
          have HI2 := Lib.hid (HK2.out.at hB5)
          have HB9 := Lib.hid hB5
          clear hB5 HNr HDr HK1 HK2 HE6 HN6 HBV6 HMG HND HLM
          go_wp2_with fail
          refine (cS3.out _ _ _ _ HDN.out HI1.out HI2.out).mono ?_
          rintro e w7 ⟨vx, rfl, ⟨bx, ox, cx, rfl, hbx, hX⟩, hb⟩
          have HX := Lib.hid hX
          have HB7 := Lib.hid (HB9.out.trans (hb.mono HB9.out.size))
          have HL2 := Lib.hid (HI2.out.at hb)
          clear hb hX hbx d0 d1 d2 HI1 HI2 HDN
          go_wp2_with fail
          refine (cO.out _ _ HL2.out).mono ?_
          rintro e w8 ⟨g8, c8, rfl, hf, hb⟩
          have HB8 := Lib.hid (HB7.out.trans (hb.mono HB7.out.size))
          have HL3 := Lib.hid (HL2.out.at hb)
          have HX8 := Lib.hid (show ∀ Z, Below w8.heap.size w8 Z → ∀ k, k < n → Z.cell? ⟨bx, ox + k, none⟩ = some (.int .i64 (XF k)) from fun Z h => HX.out Z (hb.trans (h.mono hb.size)))
          have HA8 := Lib.hid (show ∀ Z, Below w8.heap.size w8 Z → ∀ k, k < n → Z.cell? ⟨ba, oa' + k, none⟩ = some (.int .i64 (AF k)) from fun Z h => HAW.out Z (by rw [HDZ.out.2.2]; exact HB8.out.trans (h.mono HB8.out.size)))
          have HC8 := Lib.hid (show ∀ Z, Below w8.heap.size w8 Z → ∀ k, k < n → Z.cell? ⟨bb, ob' + k, none⟩ = some (.int .i64 (BF k)) from fun Z h => HBC.out Z (by rw [HDZ.out.2.2]; exact HB8.out.trans (h.mono HB8.out.size)))
          have HO8 := Lib.hid (show ∀ Z, Below w8.heap.size w8 Z → ∀ k, k < n → Z.cell? ⟨g2, k, none⟩ = some (.int .i64 (rk k)) from fun Z h k hk => by
            obtain ⟨a', c', e', -, h3⟩ := HL3.out
            simp only [Value.slice.injEq] at e'
            obtain ⟨rfl, -, -⟩ := e'
            rw [fL_len] at h3
            obtain ⟨b', o', e1, e2, e3⟩ := h3 k hk
            simp only [Option.some.injEq, Addr.mk.injEq] at e1
            obtain ⟨rfl, rfl, -⟩ := e1
            rw [Nat.zero_add, fL_ti _ hk] at e3
            exact (h.cell (p := ⟨_, _, none⟩) e2).trans e3)
          clear hb HX HAW HBC HL2 HL3
          obtain ⟨hfn, hfle⟩ := HFS.out
          have hfi : (fs : Int) < (n : Int) := by omega
          have HFN := Lib.hid hfn
          have HFL := Lib.hid hfle
          clear hfle HFS
          go_wp2_with fail
          go_loopw [27] (fun iv wr => ∃ k : Nat, k ≤ n ∧ iv = .int .i64 k ∧ Below w8.heap.size w8 wr) (fun iv _ => n - (intOf iv).toNat)
          case atStart => exact ⟨0, Nat.zero_le _, rfl, Below.refl _ _⟩
          case round =>
            obtain ⟨k, hk, rfl, hB⟩ := hrel
            have HBW := Lib.hid hB
            clear hB hf
            have hwl : IntKind.i64.wrap lst = lst := wrap64_id (by omega)
            by_cases hlt : k < n
            · have hki : (k : Int) < (n : Int) := by omega
              have u0 := HO8.out wr HBW.out k hlt
              have u1 := HA8.out wr HBW.out k hlt
              have u2 := HC8.out wr HBW.out k hlt
              by_cases hL : L8 ≤ rk k
              · rw [← HAB.out k hlt hL] at u2
                generalize AF k = ak at *
                go_upto_region 25 with fail
                refine wp_region_held_drew (S := fun w' => w'.cell? ⟨g2, k, none⟩ = some (Value.int .i64 (rk k)) ∧ w'.cell? ⟨ba, oa' + k, none⟩ = some (Value.int .i64 ak) ∧ w'.cell? ⟨bb, ob' + k, none⟩ = some (Value.int .i64 ak)) (by kernel_rfl) ⟨by simpa [go_sem] using u0, by simpa [go_sem] using u1, by simpa [go_sem] using u2⟩ (fun hHeld => ?_)
                refine wpAnyH_take (i := 0) (oi := _) (v := Value.slice (some ⟨g2, 0, none⟩) n cp2) rfl (by kernel_rfl) (by kernel_rfl) (by kernel_rfl) (fun _ _ _ h => h) (Or.inl ⟨by rfl, fun w' hSw => ?_⟩) hHeld ?_
                · obtain ⟨t0, t1, t2⟩ := hSw
                  go_simp
                  try simp [*]
                  try (intro hh; exfalso; omega)
                  try omega
                try simp only [Act.put, List.setIfInBounds_toArray, List.set_cons_zero, List.set_cons_succ, List.getElem_toArray, List.getElem_cons_succ, List.getElem_cons_zero]
                refine wpAnyH_take (i := 1) (oi := _) (v := Value.int .i64 (k : Int)) rfl (by kernel_rfl) (by kernel_rfl) (by kernel_rfl) (fun _ _ _ h => h) (Or.inl ⟨by rfl, fun w' hSw => ?_⟩) hHeld ?_
                · obtain ⟨t0, t1, t2⟩ := hSw
                  go_simp
                  try simp [*]
                  try (intro hh; exfalso; omega)
                  try omega
                try simp only [Act.put, List.setIfInBounds_toArray, List.set_cons_zero, List.set_cons_succ, List.getElem_toArray, List.getElem_cons_succ, List.getElem_cons_zero]
                refine wpAnyH_take (i := 2) (oi := _) (v := Value.pointer (some ⟨g2, k, none⟩)) rfl (by kernel_rfl) (by kernel_rfl) (by kernel_rfl) (fun _ _ _ h => h) (Or.inl ⟨by rfl, fun w' hSw => ?_⟩) hHeld ?_
                · obtain ⟨t0, t1, t2⟩ := hSw
                  go_simp
                  try simp [*]
                  try (intro hh; exfalso; omega)
                  try omega
                try simp only [Act.put, List.setIfInBounds_toArray, List.set_cons_zero, List.set_cons_succ, List.getElem_toArray, List.getElem_cons_succ, List.getElem_cons_zero]
                refine wpAnyH_take (i := 3) (oi := _) (v := Value.int .i64 (rk k)) rfl (by kernel_rfl) (by kernel_rfl) (by kernel_rfl) (fun _ _ _ h => h) (Or.inl ⟨by rfl, fun w' hSw => ?_⟩) hHeld ?_
                · obtain ⟨t0, t1, t2⟩ := hSw
                  go_simp
                  try simp [*]
                  try (intro hh; exfalso; omega)
                  try omega
                try simp only [Act.put, List.setIfInBounds_toArray, List.set_cons_zero, List.set_cons_succ, List.getElem_toArray, List.getElem_cons_succ, List.getElem_cons_zero]
                refine wpAnyH_take (i := 4) (oi := _) (v := Value.int .u8 lst) rfl (by kernel_rfl) (by kernel_rfl) (by kernel_rfl) (fun _ _ _ h => h) (Or.inl ⟨by rfl, fun w' hSw => ?_⟩) hHeld ?_
                · obtain ⟨t0, t1, t2⟩ := hSw
                  go_simp
                  try simp [*]
                  try (intro hh; exfalso; omega)
                  try omega
                try simp only [Act.put, List.setIfInBounds_toArray, List.set_cons_zero, List.set_cons_succ, List.getElem_toArray, List.getElem_cons_succ, List.getElem_cons_zero]
                refine wpAnyH_take (i := 5) (oi := _) (v := Value.int .i64 lst) rfl (by kernel_rfl) (by kernel_rfl) (by kernel_rfl) (fun _ _ _ h => h) (Or.inl ⟨by rfl, fun w' hSw => ?_⟩) hHeld ?_
                · obtain ⟨t0, t1, t2⟩ := hSw
                  go_simp
                  try simp [*]
                  try (intro hh; exfalso; omega)
                  try omega
                try simp only [Act.put, List.setIfInBounds_toArray, List.set_cons_zero, List.set_cons_succ, List.getElem_toArray, List.getElem_cons_succ, List.getElem_cons_zero]
                refine wpAnyH_take (i := 6) (oi := _) (v := Value.int .i64 L8) rfl (by kernel_rfl) (by kernel_rfl) (by kernel_rfl) (fun _ _ _ h => h) (Or.inl ⟨by rfl, fun w' hSw => ?_⟩) hHeld ?_
                · obtain ⟨t0, t1, t2⟩ := hSw
                  go_simp
                  try simp [*]
                  try (intro hh; exfalso; omega)
                  try omega
                try simp only [Act.put, List.setIfInBounds_toArray, List.set_cons_zero, List.set_cons_succ, List.getElem_toArray, List.getElem_cons_succ, List.getElem_cons_zero]
                refine wpAnyH_take (i := 7) (oi := _) (v := Value.bool true) rfl (by kernel_rfl) (by kernel_rfl) (by kernel_rfl) (fun _ _ _ h => h) (Or.inl ⟨by rfl, fun w' hSw => ?_⟩) hHeld ?_
                · obtain ⟨t0, t1, t2⟩ := hSw
                  go_simp
                  try simp [*]
                  try (intro hh; exfalso; omega)
                  try omega
                try simp only [Act.put, List.setIfInBounds_toArray, List.set_cons_zero, List.set_cons_succ, List.getElem_toArray, List.getElem_cons_succ, List.getElem_cons_zero]
                refine wpAnyH_take (i := 8) (oi := _) (v := Value.bool true) rfl (by kernel_rfl) (by kernel_rfl) (by kernel_rfl) (fun _ _ _ h => h) (Or.inl ⟨by rfl, fun w' hSw => ?_⟩) hHeld ?_
                · obtain ⟨t0, t1, t2⟩ := hSw
                  go_simp
                  try simp [*]
                  try (intro hh; exfalso; omega)
                  try omega
                try simp only [Act.put, List.setIfInBounds_toArray, List.set_cons_zero, List.set_cons_succ, List.getElem_toArray, List.getElem_cons_succ, List.getElem_cons_zero]
                refine wpAnyH_take (i := 9) (oi := _) (v := Value.slice (some ⟨ba, oa', none⟩) n ca) rfl (by kernel_rfl) (by kernel_rfl) (by kernel_rfl) (fun _ _ _ h => h) (Or.inl ⟨by rfl, fun w' hSw => ?_⟩) hHeld ?_
                · obtain ⟨t0, t1, t2⟩ := hSw
                  go_simp
                  try simp [*]
                  try (intro hh; exfalso; omega)
                  try omega
                try simp only [Act.put, List.setIfInBounds_toArray, List.set_cons_zero, List.set_cons_succ, List.getElem_toArray, List.getElem_cons_succ, List.getElem_cons_zero]
                refine wpAnyH_take (i := 10) (oi := _) (v := Value.int .i64 (k : Int)) rfl (by kernel_rfl) (by kernel_rfl) (by kernel_rfl) (fun _ _ _ h => h) (Or.inl ⟨by rfl, fun w' hSw => ?_⟩) hHeld ?_
                · obtain ⟨t0, t1, t2⟩ := hSw
                  go_simp
                  try simp [*]
                  try (intro hh; exfalso; omega)
                  try omega
                try simp only [Act.put, List.setIfInBounds_toArray, List.set_cons_zero, List.set_cons_succ, List.getElem_toArray, List.getElem_cons_succ, List.getElem_cons_zero]
                refine wpAnyH_take (i := 11) (oi := _) (v := Value.pointer (some ⟨ba, oa' + k, none⟩)) rfl (by kernel_rfl) (by kernel_rfl) (by kernel_rfl) (fun _ _ _ h => h) (Or.inl ⟨by rfl, fun w' hSw => ?_⟩) hHeld ?_
                · obtain ⟨t0, t1, t2⟩ := hSw
                  go_simp
                  try simp [*]
                  try (intro hh; exfalso; omega)
                  try omega
                try simp only [Act.put, List.setIfInBounds_toArray, List.set_cons_zero, List.set_cons_succ, List.getElem_toArray, List.getElem_cons_succ, List.getElem_cons_zero]
                refine wpAnyH_take (i := 12) (oi := _) (v := Value.int .i64 ak) rfl (by kernel_rfl) (by kernel_rfl) (by kernel_rfl) (fun _ _ _ h => h) (Or.inl ⟨by rfl, fun w' hSw => ?_⟩) hHeld ?_
                · obtain ⟨t0, t1, t2⟩ := hSw
                  go_simp
                  try simp [*]
                  try (intro hh; exfalso; omega)
                  try omega
                try simp only [Act.put, List.setIfInBounds_toArray, List.set_cons_zero, List.set_cons_succ, List.getElem_toArray, List.getElem_cons_succ, List.getElem_cons_zero]
                refine wpAnyH_take (i := 13) (oi := _) (v := Value.slice (some ⟨bb, ob', none⟩) n cb) rfl (by kernel_rfl) (by kernel_rfl) (by kernel_rfl) (fun _ _ _ h => h) (Or.inl ⟨by rfl, fun w' hSw => ?_⟩) hHeld ?_
                · obtain ⟨t0, t1, t2⟩ := hSw
                  go_simp
                  try simp [*]
                  try (intro hh; exfalso; omega)
                  try omega
                try simp only [Act.put, List.setIfInBounds_toArray, List.set_cons_zero, List.set_cons_succ, List.getElem_toArray, List.getElem_cons_succ, List.getElem_cons_zero]
                refine wpAnyH_take (i := 14) (oi := _) (v := Value.int .i64 (k : Int)) rfl (by kernel_rfl) (by kernel_rfl) (by kernel_rfl) (fun _ _ _ h => h) (Or.inl ⟨by rfl, fun w' hSw => ?_⟩) hHeld ?_
                · obtain ⟨t0, t1, t2⟩ := hSw
                  go_simp
                  try simp [*]
                  try (intro hh; exfalso; omega)
                  try omega
                try simp only [Act.put, List.setIfInBounds_toArray, List.set_cons_zero, List.set_cons_succ, List.getElem_toArray, List.getElem_cons_succ, List.getElem_cons_zero]
                refine wpAnyH_take (i := 15) (oi := _) (v := Value.pointer (some ⟨bb, ob' + k, none⟩)) rfl (by kernel_rfl) (by kernel_rfl) (by kernel_rfl) (fun _ _ _ h => h) (Or.inl ⟨by rfl, fun w' hSw => ?_⟩) hHeld ?_
                · obtain ⟨t0, t1, t2⟩ := hSw
                  go_simp
                  try simp [*]
                  try (intro hh; exfalso; omega)
                  try omega
                try simp only [Act.put, List.setIfInBounds_toArray, List.set_cons_zero, List.set_cons_succ, List.getElem_toArray, List.getElem_cons_succ, List.getElem_cons_zero]
                refine wpAnyH_take (i := 16) (oi := _) (v := Value.int .i64 ak) rfl (by kernel_rfl) (by kernel_rfl) (by kernel_rfl) (fun _ _ _ h => h) (Or.inl ⟨by rfl, fun w' hSw => ?_⟩) hHeld ?_
                · obtain ⟨t0, t1, t2⟩ := hSw
                  go_simp
                  try simp [*]
                  try (intro hh; exfalso; omega)
                  try omega
                try simp only [Act.put, List.setIfInBounds_toArray, List.set_cons_zero, List.set_cons_succ, List.getElem_toArray, List.getElem_cons_succ, List.getElem_cons_zero]
                refine wpAnyH_take (i := 17) (oi := _) (v := Value.bool false) rfl (by kernel_rfl) (by kernel_rfl) (by kernel_rfl) (fun _ _ _ h => h) (Or.inl ⟨by rfl, fun w' hSw => ?_⟩) hHeld ?_
                · obtain ⟨t0, t1, t2⟩ := hSw
                  go_simp
                  try simp [*]
                  try (intro hh; exfalso; omega)
                  try omega
                try simp only [Act.put, List.setIfInBounds_toArray, List.set_cons_zero, List.set_cons_succ, List.getElem_toArray, List.getElem_cons_succ, List.getElem_cons_zero]
                refine wpAnyH_take (i := 18) (oi := _) (v := Value.bool false) rfl (by kernel_rfl) (by kernel_rfl) (by kernel_rfl) (fun _ _ _ h => h) (Or.inl ⟨by rfl, fun w' hSw => ?_⟩) hHeld ?_
                · obtain ⟨t0, t1, t2⟩ := hSw
                  go_simp
                  try simp [*]
                  try (intro hh; exfalso; omega)
                  try omega
                try simp only [Act.put, List.setIfInBounds_toArray, List.set_cons_zero, List.set_cons_succ, List.getElem_toArray, List.getElem_cons_succ, List.getElem_cons_zero]
                refine wpAnyH_done (by kernel_rfl) ?_ _
                clear hHeld
                go_wp2_with fail
                go_roundw
                case rel => exact ⟨k + 1, by omega, by go_num, HBW.out.drew⟩
                case measure => simp [intOf]; omega
              · go_upto_region 25 with fail
                refine wp_region_held_drew (S := fun w' => w'.cell? ⟨g2, k, none⟩ = some (Value.int .i64 (rk k))) (by kernel_rfl) (by simpa [go_sem] using u0) (fun hHeld => ?_)
                refine wpAnyH_take (i := 0) (oi := _) (v := Value.slice (some ⟨g2, 0, none⟩) n cp2) rfl (by kernel_rfl) (by kernel_rfl) (by kernel_rfl) (fun _ _ _ h => h) (Or.inl ⟨by rfl, fun w' hSw => ?_⟩) hHeld ?_
                · have t0 := hSw
                  go_simp
                  try simp [*]
                  try (intro hh; exfalso; omega)
                  try omega
                try simp only [Act.put, List.setIfInBounds_toArray, List.set_cons_zero, List.set_cons_succ, List.getElem_toArray, List.getElem_cons_succ, List.getElem_cons_zero]
                refine wpAnyH_take (i := 1) (oi := _) (v := Value.int .i64 (k : Int)) rfl (by kernel_rfl) (by kernel_rfl) (by kernel_rfl) (fun _ _ _ h => h) (Or.inl ⟨by rfl, fun w' hSw => ?_⟩) hHeld ?_
                · have t0 := hSw
                  go_simp
                  try simp [*]
                  try (intro hh; exfalso; omega)
                  try omega
                try simp only [Act.put, List.setIfInBounds_toArray, List.set_cons_zero, List.set_cons_succ, List.getElem_toArray, List.getElem_cons_succ, List.getElem_cons_zero]
                refine wpAnyH_take (i := 2) (oi := _) (v := Value.pointer (some ⟨g2, k, none⟩)) rfl (by kernel_rfl) (by kernel_rfl) (by kernel_rfl) (fun _ _ _ h => h) (Or.inl ⟨by rfl, fun w' hSw => ?_⟩) hHeld ?_
                · have t0 := hSw
                  go_simp
                  try simp [*]
                  try (intro hh; exfalso; omega)
                  try omega
                try simp only [Act.put, List.setIfInBounds_toArray, List.set_cons_zero, List.set_cons_succ, List.getElem_toArray, List.getElem_cons_succ, List.getElem_cons_zero]
                refine wpAnyH_take (i := 3) (oi := _) (v := Value.int .i64 (rk k)) rfl (by kernel_rfl) (by kernel_rfl) (by kernel_rfl) (fun _ _ _ h => h) (Or.inl ⟨by rfl, fun w' hSw => ?_⟩) hHeld ?_
                · have t0 := hSw
                  go_simp
                  try simp [*]
                  try (intro hh; exfalso; omega)
                  try omega
                try simp only [Act.put, List.setIfInBounds_toArray, List.set_cons_zero, List.set_cons_succ, List.getElem_toArray, List.getElem_cons_succ, List.getElem_cons_zero]
                refine wpAnyH_take (i := 4) (oi := _) (v := Value.int .u8 lst) rfl (by kernel_rfl) (by kernel_rfl) (by kernel_rfl) (fun _ _ _ h => h) (Or.inl ⟨by rfl, fun w' hSw => ?_⟩) hHeld ?_
                · have t0 := hSw
                  go_simp
                  try simp [*]
                  try (intro hh; exfalso; omega)
                  try omega
                try simp only [Act.put, List.setIfInBounds_toArray, List.set_cons_zero, List.set_cons_succ, List.getElem_toArray, List.getElem_cons_succ, List.getElem_cons_zero]
                refine wpAnyH_take (i := 5) (oi := _) (v := Value.int .i64 lst) rfl (by kernel_rfl) (by kernel_rfl) (by kernel_rfl) (fun _ _ _ h => h) (Or.inl ⟨by rfl, fun w' hSw => ?_⟩) hHeld ?_
                · have t0 := hSw
                  go_simp
                  try simp [*]
                  try (intro hh; exfalso; omega)
                  try omega
                try simp only [Act.put, List.setIfInBounds_toArray, List.set_cons_zero, List.set_cons_succ, List.getElem_toArray, List.getElem_cons_succ, List.getElem_cons_zero]
                refine wpAnyH_take (i := 6) (oi := _) (v := Value.int .i64 L8) rfl (by kernel_rfl) (by kernel_rfl) (by kernel_rfl) (fun _ _ _ h => h) (Or.inl ⟨by rfl, fun w' hSw => ?_⟩) hHeld ?_
                · have t0 := hSw
                  go_simp
                  try simp [*]
                  try (intro hh; exfalso; omega)
                  try omega
                try simp only [Act.put, List.setIfInBounds_toArray, List.set_cons_zero, List.set_cons_succ, List.getElem_toArray, List.getElem_cons_succ, List.getElem_cons_zero]
                refine wpAnyH_take (i := 7) (oi := _) (v := Value.bool false) rfl (by kernel_rfl) (by kernel_rfl) (by kernel_rfl) (fun _ _ _ h => h) (Or.inl ⟨by rfl, fun w' hSw => ?_⟩) hHeld ?_
                · have t0 := hSw
                  go_simp
                  try simp [*]
                  try (intro hh; exfalso; omega)
                  try omega
                try simp only [Act.put, List.setIfInBounds_toArray, List.set_cons_zero, List.set_cons_succ, List.getElem_toArray, List.getElem_cons_succ, List.getElem_cons_zero]
                refine wpAnyH_take (i := 8) (oi := _) (v := Value.bool false) rfl (by kernel_rfl) (by kernel_rfl) (by kernel_rfl) (fun _ _ _ h => h) (Or.inl ⟨by rfl, fun w' hSw => ?_⟩) hHeld ?_
                · have t0 := hSw
                  go_simp
                  try simp [*]
                  try (intro hh; exfalso; omega)
                  try omega
                try simp only [Act.put, List.setIfInBounds_toArray, List.set_cons_zero, List.set_cons_succ, List.getElem_toArray, List.getElem_cons_succ, List.getElem_cons_zero]
                refine wpAnyH_take (i := 9) (oi := _) (v := undef) rfl (by kernel_rfl) (by kernel_rfl) (by kernel_rfl) (fun _ _ _ h => h) (Or.inr ⟨by rfl, rfl⟩) hHeld ?_
                try simp only [Act.put, List.setIfInBounds_toArray, List.set_cons_zero, List.set_cons_succ, List.getElem_toArray, List.getElem_cons_succ, List.getElem_cons_zero]
                refine wpAnyH_take (i := 10) (oi := _) (v := undef) rfl (by kernel_rfl) (by kernel_rfl) (by kernel_rfl) (fun _ _ _ h => h) (Or.inr ⟨by rfl, rfl⟩) hHeld ?_
                try simp only [Act.put, List.setIfInBounds_toArray, List.set_cons_zero, List.set_cons_succ, List.getElem_toArray, List.getElem_cons_succ, List.getElem_cons_zero]
                refine wpAnyH_take (i := 11) (oi := _) (v := undef) rfl (by kernel_rfl) (by kernel_rfl) (by kernel_rfl) (fun _ _ _ h => h) (Or.inr ⟨by rfl, rfl⟩) hHeld ?_
                try simp only [Act.put, List.setIfInBounds_toArray, List.set_cons_zero, List.set_cons_succ, List.getElem_toArray, List.getElem_cons_succ, List.getElem_cons_zero]
                refine wpAnyH_take (i := 12) (oi := _) (v := undef) rfl (by kernel_rfl) (by kernel_rfl) (by kernel_rfl) (fun _ _ _ h => h) (Or.inr ⟨by rfl, rfl⟩) hHeld ?_
                try simp only [Act.put, List.setIfInBounds_toArray, List.set_cons_zero, List.set_cons_succ, List.getElem_toArray, List.getElem_cons_succ, List.getElem_cons_zero]
                refine wpAnyH_take (i := 13) (oi := _) (v := undef) rfl (by kernel_rfl) (by kernel_rfl) (by kernel_rfl) (fun _ _ _ h => h) (Or.inr ⟨by rfl, rfl⟩) hHeld ?_
                try simp only [Act.put, List.setIfInBounds_toArray, List.set_cons_zero, List.set_cons_succ, List.getElem_toArray, List.getElem_cons_succ, List.getElem_cons_zero]
                refine wpAnyH_take (i := 14) (oi := _) (v := undef) rfl (by kernel_rfl) (by kernel_rfl) (by kernel_rfl) (fun _ _ _ h => h) (Or.inr ⟨by rfl, rfl⟩) hHeld ?_
                try simp only [Act.put, List.setIfInBounds_toArray, List.set_cons_zero, List.set_cons_succ, List.getElem_toArray, List.getElem_cons_succ, List.getElem_cons_zero]
                refine wpAnyH_take (i := 15) (oi := _) (v := undef) rfl (by kernel_rfl) (by kernel_rfl) (by kernel_rfl) (fun _ _ _ h => h) (Or.inr ⟨by rfl, rfl⟩) hHeld ?_
                try simp only [Act.put, List.setIfInBounds_toArray, List.set_cons_zero, List.set_cons_succ, List.getElem_toArray, List.getElem_cons_succ, List.getElem_cons_zero]
                refine wpAnyH_take (i := 16) (oi := _) (v := undef) rfl (by kernel_rfl) (by kernel_rfl) (by kernel_rfl) (fun _ _ _ h => h) (Or.inr ⟨by rfl, rfl⟩) hHeld ?_
                try simp only [Act.put, List.setIfInBounds_toArray, List.set_cons_zero, List.set_cons_succ, List.getElem_toArray, List.getElem_cons_succ, List.getElem_cons_zero]
                refine wpAnyH_take (i := 17) (oi := _) (v := undef) rfl (by kernel_rfl) (by kernel_rfl) (by kernel_rfl) (fun _ _ _ h => h) (Or.inr ⟨by rfl, rfl⟩) hHeld ?_
                try simp only [Act.put, List.setIfInBounds_toArray, List.set_cons_zero, List.set_cons_succ, List.getElem_toArray, List.getElem_cons_succ, List.getElem_cons_zero]
                refine wpAnyH_take (i := 18) (oi := _) (v := Value.bool false) rfl (by kernel_rfl) (by kernel_rfl) (by kernel_rfl) (fun _ _ _ h => h) (Or.inl ⟨by rfl, fun w' hSw => ?_⟩) hHeld ?_
                · have t0 := hSw
                  go_simp
                  try simp [*]
                  try (intro hh; exfalso; omega)
                  try omega
                try simp only [Act.put, List.setIfInBounds_toArray, List.set_cons_zero, List.set_cons_succ, List.getElem_toArray, List.getElem_cons_succ, List.getElem_cons_zero]
                refine wpAnyH_done (by kernel_rfl) ?_ _
                clear hHeld
                go_wp2_with fail
                go_roundw
                case rel => exact ⟨k + 1, by omega, by go_num, HBW.out.drew⟩
                case measure => simp [intOf]; omega
            · obtain rfl : n = k := by omega
              have x0 := HX8.out wr HBW.out fs HFN.out
              have x1 := HA8.out wr HBW.out fs HFN.out
              have hge := HFL.out
              have KX := Lib.hid (show ∀ Z, Below w8.heap.size w8 Z → Z.cell? ⟨bx, ox + fs, none⟩ = some (.int .i64 (XF fs)) ∧ Z.cell? ⟨ba, oa' + fs, none⟩ = some (.int .i64 (AF fs)) from fun Z h => ⟨HX8.out Z h fs HFN.out, HA8.out Z h fs HFN.out⟩)
              generalize XF fs = xf at *
              generalize AF fs = af at *
              have HD9 := Lib.hid (show Below w8.heap.size w8 wr.drew from HBW.out.drew)
              go_upto_region 27 with fail
              refine wp_region_held_drew (S := fun w' => w'.cell? ⟨bx, ox + fs, none⟩ = some (Value.int .i64 xf) ∧ w'.cell? ⟨ba, oa' + fs, none⟩ = some (Value.int .i64 af)) (by kernel_rfl) ⟨by simpa [go_sem] using x0, by simpa [go_sem] using x1⟩ (fun hHeld => ?_)
              refine wpAnyH_take (i := 0) (oi := _) (v := Value.slice (some ⟨bx, ox, none⟩) n cx) rfl (by kernel_rfl) (by kernel_rfl) (by kernel_rfl) (fun _ _ _ h => h) (Or.inl ⟨by rfl, fun w' hSw => ?_⟩) hHeld ?_
              · obtain ⟨t0, t1⟩ := hSw
                go_simp
                try simp [*]
                try (intro hh; exfalso; omega)
                try omega
              try simp only [Act.put, List.setIfInBounds_toArray, List.set_cons_zero, List.set_cons_succ, List.getElem_toArray, List.getElem_cons_succ, List.getElem_cons_zero]
              refine wpAnyH_take (i := 1) (oi := _) (v := Value.int .i64 (fs : Int)) rfl (by kernel_rfl) (by kernel_rfl) (by kernel_rfl) (fun _ _ _ h => h) (Or.inl ⟨by rfl, fun w' hSw => ?_⟩) hHeld ?_
              · obtain ⟨t0, t1⟩ := hSw
                go_simp
                try simp [*]
                try (intro hh; exfalso; omega)
                try omega
              try simp only [Act.put, List.setIfInBounds_toArray, List.set_cons_zero, List.set_cons_succ, List.getElem_toArray, List.getElem_cons_succ, List.getElem_cons_zero]
              refine wpAnyH_take (i := 2) (oi := _) (v := Value.pointer (some ⟨bx, ox + fs, none⟩)) rfl (by kernel_rfl) (by kernel_rfl) (by kernel_rfl) (fun _ _ _ h => h) (Or.inl ⟨by rfl, fun w' hSw => ?_⟩) hHeld ?_
              · obtain ⟨t0, t1⟩ := hSw
                go_simp
                try simp [*]
                try (intro hh; exfalso; omega)
                try omega
              try simp only [Act.put, List.setIfInBounds_toArray, List.set_cons_zero, List.set_cons_succ, List.getElem_toArray, List.getElem_cons_succ, List.getElem_cons_zero]
              refine wpAnyH_take (i := 3) (oi := _) (v := Value.int .i64 xf) rfl (by kernel_rfl) (by kernel_rfl) (by kernel_rfl) (fun _ _ _ h => h) (Or.inl ⟨by rfl, fun w' hSw => ?_⟩) hHeld ?_
              · obtain ⟨t0, t1⟩ := hSw
                go_simp
                try simp [*]
                try (intro hh; exfalso; omega)
                try omega
              try simp only [Act.put, List.setIfInBounds_toArray, List.set_cons_zero, List.set_cons_succ, List.getElem_toArray, List.getElem_cons_succ, List.getElem_cons_zero]
              refine wpAnyH_take (i := 4) (oi := _) (v := Value.slice (some ⟨ba, oa', none⟩) n ca) rfl (by kernel_rfl) (by kernel_rfl) (by kernel_rfl) (fun _ _ _ h => h) (Or.inl ⟨by rfl, fun w' hSw => ?_⟩) hHeld ?_
              · obtain ⟨t0, t1⟩ := hSw
                go_simp
                try simp [*]
                try (intro hh; exfalso; omega)
                try omega
              try simp only [Act.put, List.setIfInBounds_toArray, List.set_cons_zero, List.set_cons_succ, List.getElem_toArray, List.getElem_cons_succ, List.getElem_cons_zero]
              refine wpAnyH_take (i := 5) (oi := _) (v := Value.int .i64 (fs : Int)) rfl (by kernel_rfl) (by kernel_rfl) (by kernel_rfl) (fun _ _ _ h => h) (Or.inl ⟨by rfl, fun w' hSw => ?_⟩) hHeld ?_
              · obtain ⟨t0, t1⟩ := hSw
                go_simp
                try simp [*]
                try (intro hh; exfalso; omega)
                try omega
              try simp only [Act.put, List.setIfInBounds_toArray, List.set_cons_zero, List.set_cons_succ, List.getElem_toArray, List.getElem_cons_succ, List.getElem_cons_zero]
              refine wpAnyH_take (i := 6) (oi := _) (v := Value.pointer (some ⟨ba, oa' + fs, none⟩)) rfl (by kernel_rfl) (by kernel_rfl) (by kernel_rfl) (fun _ _ _ h => h) (Or.inl ⟨by rfl, fun w' hSw => ?_⟩) hHeld ?_
              · obtain ⟨t0, t1⟩ := hSw
                go_simp
                try simp [*]
                try (intro hh; exfalso; omega)
                try omega
              try simp only [Act.put, List.setIfInBounds_toArray, List.set_cons_zero, List.set_cons_succ, List.getElem_toArray, List.getElem_cons_succ, List.getElem_cons_zero]
              refine wpAnyH_take (i := 7) (oi := _) (v := Value.int .i64 af) rfl (by kernel_rfl) (by kernel_rfl) (by kernel_rfl) (fun _ _ _ h => h) (Or.inl ⟨by rfl, fun w' hSw => ?_⟩) hHeld ?_
              · obtain ⟨t0, t1⟩ := hSw
                go_simp
                try simp [*]
                try (intro hh; exfalso; omega)
                try omega
              try simp only [Act.put, List.setIfInBounds_toArray, List.set_cons_zero, List.set_cons_succ, List.getElem_toArray, List.getElem_cons_succ, List.getElem_cons_zero]
              refine wpAnyH_take (i := 8) (oi := _) (v := Value.bool true) rfl (by kernel_rfl) (by kernel_rfl) (by kernel_rfl) (fun _ _ _ h => h) (Or.inl ⟨by rfl, fun w' hSw => ?_⟩) hHeld ?_
              · obtain ⟨t0, t1⟩ := hSw
                go_simp
                try simp [*]
                try (intro hh; exfalso; omega)
                try omega
              try simp only [Act.put, List.setIfInBounds_toArray, List.set_cons_zero, List.set_cons_succ, List.getElem_toArray, List.getElem_cons_succ, List.getElem_cons_zero]
              refine wpAnyH_take (i := 9) (oi := _) (v := Value.bool true) rfl (by kernel_rfl) (by kernel_rfl) (by kernel_rfl) (fun _ _ _ h => h) (Or.inl ⟨by rfl, fun w' hSw => ?_⟩) hHeld ?_
              · obtain ⟨t0, t1⟩ := hSw
                go_simp
                try simp [*]
                try (intro hh; exfalso; omega)
                try omega
              try simp only [Act.put, List.setIfInBounds_toArray, List.set_cons_zero, List.set_cons_succ, List.getElem_toArray, List.getElem_cons_succ, List.getElem_cons_zero]
              refine wpAnyH_ready (rs := [10]) (by kernel_rfl) (by simp) ?_
              refine AllReadyH.cons (o := _) rfl (fun K hK => ?_) AllReadyH.nil
              go_simp
              go_at_call 20
              refine Calls.mono (cF.out _) ?_
              rintro e v9 ⟨rfl, hb⟩
              have HB10 := Lib.hid (HD9.out.trans (hb.mono HD9.out.size))
              clear hb
              clear hHeld
              refine hK.out _ _ (KX.out _ HB10.out) (fun hHeld => ?_)
              clear hK K
              try simp only [Act.put, List.setIfInBounds_toArray, List.set_cons_zero, List.set_cons_succ, List.getElem_toArray, List.getElem_cons_succ, List.getElem_cons_zero]
              refine wpAnyH_take (i := 11) (oi := _) (v := Value.bool true) rfl (by kernel_rfl) (by kernel_rfl) (by kernel_rfl) (fun _ _ _ h => h) (Or.inl ⟨by rfl, fun w' hSw => ?_⟩) hHeld ?_
              · obtain ⟨t0, t1⟩ := hSw
                go_simp
                try simp [*]
                try (intro hh; exfalso; omega)
                try omega
              try simp only [Act.put, List.setIfInBounds_toArray, List.set_cons_zero, List.set_cons_succ, List.getElem_toArray, List.getElem_cons_succ, List.getElem_cons_zero]
              refine wpAnyH_take (i := 12) (oi := _) (v := Value.bool true) rfl (by kernel_rfl) (by kernel_rfl) (by kernel_rfl) (fun _ _ _ h => h) (Or.inl ⟨by rfl, fun w' hSw => ?_⟩) hHeld ?_
              · obtain ⟨t0, t1⟩ := hSw
                go_simp
                try simp [*]
                try (intro hh; exfalso; omega)
                try omega
              try simp only [Act.put, List.setIfInBounds_toArray, List.set_cons_zero, List.set_cons_succ, List.getElem_toArray, List.getElem_cons_succ, List.getElem_cons_zero]
              refine wpAnyH_done (by kernel_rfl) ?_ _
              clear hHeld
              go_wp2_with fail
              go_ret
              exact ⟨rfl, HUP.out _ (HBD.out.trans ((HB8.out.trans (HB10.out.mono HB8.out.size)).mono HBD.out.size))⟩
end Go.Proofs.Ytdohfpnnmppdkaa

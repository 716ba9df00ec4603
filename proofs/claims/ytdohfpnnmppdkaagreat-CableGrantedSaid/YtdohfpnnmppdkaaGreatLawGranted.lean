/-
  Cables: what is granted exceeds no limit, and what is not granted has a full segment.
-/
import Derived.Test.YtdohfpnnmppdkaaGreatZc
import Derived.Test.YtdohfpnnmppdkaaGreatCbR
import Derived.Test.YtdohfpnnmppdkaaGreatCbQ
import Derived.Test.YtdohfpnnmppdkaaGreatEvFn
namespace Go.Proofs.YtdohfpnnmppdkaaGreat
open Go.RowKit Go.Shelf
set_option linter.unusedSimpArgs false
attribute [local go_sem] Oper.semAt_some
theorem rqF_bd {kk : World} {v : Value} {n : Nat} {rs : List Int} (h : Sk .u16 n kk v rs) (k : Nat) : 0 ≤ rqF rs k ∧ rqF rs k ≤ 65536 := by
  obtain ⟨a, c, -, -, hc⟩ := h
  unfold rqF
  by_cases hk : k < rs.length
  · rw [if_pos hk]
    have := u16_of_wf (hc k hk).1
    omega
  · rw [if_neg hk]; decide
/-- the sum over a list of nodes -/
def ls (f : Nat → Int) : List Nat → Int
  | [] => 0
  | a :: l => f a + ls f l
theorem ls_app (f : Nat → Int) (l m : List Nat) : ls f (l ++ m) = ls f l + ls f m := by
  induction l with
  | nil => simp [ls]
  | cons a l ih => show f a + ls f (l ++ m) = f a + ls f l + ls f m; rw [ih]; omega
theorem ls_bd {f : Nat → Int} {M : Int} (hf : ∀ k, 0 ≤ f k ∧ f k ≤ M) (l : List Nat) : 0 ≤ ls f l ∧ ls f l ≤ l.length * M := by
  induction l with
  | nil => simp [ls]
  | cons a l ih =>
    have := hf a
    show 0 ≤ f a + ls f l ∧ f a + ls f l ≤ ((l.length + 1 : Nat) : Int) * M
    rw [Int.natCast_add, Int.add_mul]
    simp only [Int.natCast_one, Int.one_mul]
    omega
theorem ls_pick (f : Nat → Int) (p : Nat → Bool) : ∀ n, ls f (pick n p) = sm f p n := by
  intro n
  induction n with
  | zero => rfl
  | succ n ih =>
    have e : pick (n + 1) p = pick n p ++ (if p n = true then [n] else []) := by
      unfold pick
      rw [List.range_succ, List.filter_append]
      by_cases h : p n = true
      · simp [h]
      · simp [h]
    rw [e, ls_app, ih]
    show _ = sm f p n + _
    by_cases h : p n = true
    · rw [if_pos h, if_pos h]; simp [ls]
    · rw [if_neg h, if_neg h]; simp [ls]
theorem mem_tn {l : List Nat} {x : Nat} (h : x ∈ l) : ∃ t, t < l.length ∧ tn l t = x := by
  obtain ⟨t, ht, e⟩ := List.getElem_of_mem h
  exact ⟨t, ht, by unfold tn; rw [List.getElem?_eq_getElem ht]; exact e⟩
set_option maxRecDepth 100000 in
set_option maxHeartbeats 64000000 in
theorem granted_any (sl sh : Int) (sv qv kv : Value) (ns : List Nd) (rs ks : List Int) (w : World) (hN : Nds w.heap.size w sv ns) (hQ : Sk .u16 w.heap.size w qv rs) (hK : Sk .u8 w.heap.size w kv ks) :
    Calls Tryz.prog 4 #[.agg #[.int .i64 sl, .int .i64 sh, sv], qv, kv] w fun e w' => e = .returned (.bool true) ∧ Below w.heap.size w w' := by
  have c1 := Lib.hid (fun W (h : Below w.heap.size w W) => valid_any sl sh sv ns W (hN.at h))
  have HV := Lib.hid (fun (h : valB sl sh ns = true) => valB_ok h)
  have cF := Lib.hid (fun W => fine_any W)
  have hNN := hN
  have hQQ := hQ
  have hKK := hK
  obtain ⟨a, cap, hsv, -, hcc⟩ := hN
  obtain ⟨qa, qc, rfl⟩ := hQ.form
  obtain ⟨ka, kc, rfl⟩ := hK.form
  subst hsv
  generalize hVB : valB sl sh ns = VB at *
  cases VB
  · clear HV hcc hNN hQ hK hQQ hKK hVB
    generalize ns.length = n at *
    generalize rs.length = rn at *
    generalize ks.length = kn at *
    obtain ⟨A, hA⟩ : ∃ A, A = w.alloc (.cells #[.int .i64 sl, .int .i64 sh, .slice a n cap] 26) := ⟨_, rfl⟩
    have HBA := Lib.hid (show Below w.heap.size w A by rw [hA]; exact ((Below.refl _ _).alloc (Nat.le_refl _) _))
    have q0 : A.cell? ⟨w.heap.size, 0, none⟩ = some (.int .i64 sl) := by rw [hA]; exact (cellHB (World.alloc_heap_new w _) 0).trans (by simp)
    have q1 : A.cell? ⟨w.heap.size, 1, none⟩ = some (.int .i64 sh) := by rw [hA]; exact (cellHB (World.alloc_heap_new w _) 1).trans (by simp)
    have q2 : A.cell? ⟨w.heap.size, 2, none⟩ = some (.slice a n cap) := by rw [hA]; exact (cellHB (World.alloc_heap_new w _) 2).trans (by simp)
    go_enter Tryz.func4, Tryz.ntmps4
    go_upto_region 1 with fail
    rw [← hA]
    clear hA
    go_wp2_with fail
    refine (c1.out _ HBA.out).mono ?_
    rintro e w1 ⟨rfl, hb⟩
    have HB1 := Lib.hid (HBA.out.trans (hb.mono HBA.out.size))
    clear hb q0 q1 q2
    go_wp2_with fail
    refine (cF.out _).mono ?_
    rintro e w2 ⟨rfl, hb⟩
    have HB2 := Lib.hid (HB1.out.trans (hb.mono HB1.out.size))
    clear hb
    go_wp2_with fail
    go_ret
    exact ⟨rfl, HB2.out⟩
  obtain ⟨hv, hn20⟩ := HV.out rfl
  have hn0 := hv.pos
  obtain ⟨nb, off, rfl, hnb, -⟩ := hcc 0 hn0
  obtain ⟨rq, hrq⟩ : ∃ f, f = rqF rs := ⟨_, rfl⟩
  obtain ⟨rk, hrk⟩ : ∃ f, f = rkF ks := ⟨_, rfl⟩
  have hbq : ∀ k, 0 ≤ rq k ∧ rq k ≤ 65536 := fun k => by rw [hrq]; exact rqF_bd hQQ k
  obtain ⟨GF, hGF⟩ : ∃ f : Nat → Int, f = (shF (par ns) (limF ns) (ti (fL rq ns.length)) (ordO (ti (fL rk ns.length)) ns.length)).2 := ⟨_, rfl⟩
  have hT := ordO_turn (ti (fL rk ns.length)) ns.length
  have hl0 : ∀ k, 0 ≤ limF ns k := fun k => (limF_bd hv.all k).1
  have hq0 : ∀ k, 0 ≤ ti (fL rq ns.length) k := fun k => (fL_bd (fun k _ => hbq k) k).1
  have hgb : ∀ k, 0 ≤ GF k ∧ GF k ≤ ti (fL rq ns.length) k := fun k => by rw [hGF]; exact (shF_bd (P := par ns) hl0 hq0 _).gr k
  have hgb2 : ∀ k, 0 ≤ GF k ∧ GF k ≤ 65536 := fun k => ⟨(hgb k).1, Int.le_trans (hgb k).2 (fL_bd (fun k _ => hbq k) k).2⟩
  have HGR := Lib.hid (show ∀ k, k < ns.length → 0 ≤ GF k ∧ GF k ≤ rq k from fun k hk => by have := hgb k; rw [fL_ti _ hk] at this; exact this)
  have HGB := Lib.hid hgb2
  have HLE := Lib.hid (show ∀ k, k < ns.length → caF ns (ti (fL GF ns.length)) k ≤ (nd ns k).lim from fun k hk => by
    have q := share_limit (par ns) (limF ns) (ti (fL rq ns.length)) hl0 hq0 (ti (fL rk ns.length)) ns.length k _ hT
    rw [← hGF] at q
    unfold caF
    rw [sm_extz (f' := GF) _ fun i hi => fL_ti GF hi]
    unfold limF at q
    rw [if_pos hk] at q
    exact q)
  obtain ⟨SM, hSM⟩ : ∃ f : Nat → Int, f = fun j => sm GF (fun i => decide (j ∈ pth (par ns) i)) ns.length := ⟨_, rfl⟩
  have HFU := Lib.hid (show ∀ k, k < ns.length → GF k ≠ rq k → ∃ t, t < (pth (par ns) k).length ∧ SM (tn (pth (par ns) k) t) = limF ns (tn (pth (par ns) k) t) from fun k hk hne => by
    have h1 := hgb k
    rw [fL_ti _ hk] at h1
    obtain ⟨j, hj, hs⟩ := share_full (par ns) (limF ns) (ti (fL rq ns.length)) hl0 hq0 (ti (fL rk ns.length)) ns.length k _ hT hk (by rw [← hGF, fL_ti _ hk]; omega)
    obtain ⟨t, ht, e⟩ := mem_tn hj
    refine ⟨t, ht, ?_⟩
    rw [e, hSM]
    rw [← hGF] at hs
    exact hs)
  have HSU := Lib.hid (show ∀ j, ls GF (sub (par ns) ns.length j) = SM j from fun j => by rw [hSM]; exact ls_pick GF _ _)
  have HLS := Lib.hid (show ∀ l, l.length ≤ 60 → 0 ≤ ls GF l ∧ ls GF l ≤ 4000000 from fun l hl => by
    have q := ls_bd (M := 65536) hgb2 l
    have : (l.length : Int) * 65536 ≤ 60 * 65536 := Int.mul_le_mul_of_nonneg_right (by omega) (by decide)
    omega)
  have HSL := Lib.hid (show ∀ j, (sub (par ns) ns.length j).length ≤ 60 from fun j => by
    have : (sub (par ns) ns.length j).length ≤ (List.range ns.length).length := List.length_filter_le _ _
    simp at this
    have := hv.len
    omega)
  have HSJ := Lib.hid (show ∀ j, j < ns.length → 0 < (sub (par ns) ns.length j).length from fun j hj => List.length_pos_of_mem (a := j) (by unfold sub; rw [mem_pick]; exact ⟨hj, decide_eq_true (self_mem _ _)⟩))
  have HSN := Lib.hid (show ∀ j t, t < (sub (par ns) ns.length j).length → tn (sub (par ns) ns.length j) t < ns.length from fun j t ht => (mem_pick.1 (tn_mem ht)).1)
  have HPN := Lib.hid (show ∀ k, k < ns.length → ∀ t, t < (pth (par ns) k).length → tn (pth (par ns) k) t < ns.length from fun k hk t ht => hv.all.path_lt hk (tn_mem ht))
  have HPL := Lib.hid (show ∀ k, k < ns.length → 0 < (pth (par ns) k).length ∧ (pth (par ns) k).length ≤ 60 from fun k hk => ⟨List.length_pos_of_mem (self_mem _ _), by have := pth_len hv.all.tree k; have := hv.len; omega⟩)
  have cG := Lib.hid (fun W (h : Below w.heap.size w W) => granting_any sl sh (.slice (some ⟨nb, off, none⟩) ns.length cap) (.slice qa rs.length qc) (.slice ka ks.length kc) ns rs ks W (by omega) (hNN.at h) (hQQ.at h) (hKK.at h))
  rw [← hrq, ← hrk] at cG
  have cS := Lib.hid (show ∀ W v1 v2, Below w.heap.size w W → Il W.heap.size W v1 (fL rq ns.length) → Il W.heap.size W v2 (fL rk ns.length) → Calls Tryz.prog 7 #[.agg #[.int .i64 sl, .int .i64 sh, .slice (some ⟨nb, off, none⟩) ns.length cap], v1, v2] W fun e w' => ∃ v, e = .returned (.tuple #[v, .int .i64 0]) ∧ Il w'.heap.size w' v (fL GF ns.length) ∧ Below W.heap.size W w' from fun W v1 v2 h h1 h2 => by
    have q := share57_ok sl sh _ v1 v2 ns _ _ W (hNN.at h) h1 h2 (shaE_of hv (fL_len _ _) (fL_len _ _) (fL_bd fun k _ => hbq k))
    rw [← hGF] at q
    exact q)
  have cK := Lib.hid (show ∀ W v, Below w.heap.size w W → Il W.heap.size W v (fL GF ns.length) → Calls Tryz.prog 9 #[.agg #[.int .i64 sl, .int .i64 sh, .slice (some ⟨nb, off, none⟩) ns.length cap], v] W fun e w' => e = .returned (.tuple #[.int .i64 0, .int .i64 0]) ∧ Below W.heap.size W w' from fun W v h hi =>
    check9_ok sl sh _ v ns (fL GF ns.length) hv (fL_len _ _) (fL_bd fun k _ => hgb2 k) HLE.out W (hNN.at h) hi)
  have cP := Lib.hid (show ∀ k, k < ns.length → ∀ W, Below w.heap.size w W → Calls Tryz.prog 14 #[.agg #[.int .i64 sl, .int .i64 sh, .slice (some ⟨nb, off, none⟩) ns.length cap], .int .i64 (k : Int)] W fun e w' => ∃ v, e = .returned (.tuple #[v, .int .i64 0]) ∧ w'.ownsRow W.heap.size 3 1 v (pth (par ns) k).length (flatN (pth (par ns) k)) ∧ Below W.heap.size W w' from fun k hk W h =>
    path_ok sl sh _ ns k hv hk W (hNN.at h))
  have cU := Lib.hid (show ∀ k, k < ns.length → ∀ W, Below w.heap.size w W → Calls Tryz.prog 15 #[.agg #[.int .i64 sl, .int .i64 sh, .slice (some ⟨nb, off, none⟩) ns.length cap], .int .i64 (k : Int)] W fun e w' => ∃ v, e = .returned (.tuple #[v, .int .i64 0]) ∧ w'.ownsRow W.heap.size 3 1 v (sub (par ns) ns.length k).length (flatN (sub (par ns) ns.length k)) ∧ Below W.heap.size W w' from fun k hk W h =>
    subtree_ok sl sh _ ns k hv hk W (hNN.at h))
  have HLC := Lib.hid (show ∀ W k, Below w.heap.size w W → k < ns.length → W.cell? ⟨nb, off + k * 8 + 3, none⟩ = some (.int .i64 (limF ns k)) from fun W k hb hk => by
    obtain ⟨b', off', h1, h2, e0, e1, e2, e3, e4, e5, e6, e7⟩ := hcc k hk
    simp only [Option.some.injEq, Addr.mk.injEq] at h1
    obtain ⟨rfl, rfl, -⟩ := h1
    unfold limF
    rw [if_pos hk]
    exact (hb.cell (p := ⟨nb, _, none⟩) h2).trans e3)
  clear HV hcc hNN hQ hK hQQ hKK hVB hv hbq hrq hrk hGF hT hl0 hq0 hgb hgb2 hSM HLE
  generalize sub (par ns) ns.length = SU at *
  generalize pth (par ns) = PF at *
  generalize limF ns = lim at *
  have hn60 : ns.length ≤ 60 := by omega
  generalize ns.length = n at *
  generalize rs.length = rn at *
  generalize ks.length = kn at *
  clear hn20
  obtain ⟨A, hA⟩ : ∃ A, A = w.alloc (.cells #[.int .i64 sl, .int .i64 sh, .slice (some ⟨nb, off, none⟩) n cap] 26) := ⟨_, rfl⟩
  have HBA := Lib.hid (show Below w.heap.size w A by rw [hA]; exact ((Below.refl _ _).alloc (Nat.le_refl _) _))
  have hltA : w.heap.size < A.heap.size := by rw [hA]; simp
  have p0 : A.cell? ⟨w.heap.size, 0, none⟩ = some (.int .i64 sl) := by rw [hA]; exact (cellHB (World.alloc_heap_new w _) 0).trans (by simp)
  have p1 : A.cell? ⟨w.heap.size, 1, none⟩ = some (.int .i64 sh) := by rw [hA]; exact (cellHB (World.alloc_heap_new w _) 1).trans (by simp)
  have p2 : A.cell? ⟨w.heap.size, 2, none⟩ = some (.slice (some ⟨nb, off, none⟩) n cap) := by rw [hA]; exact (cellHB (World.alloc_heap_new w _) 2).trans (by simp)
  have KK := Lib.hid (show ∀ W, Below A.heap.size A W → W.cell? ⟨w.heap.size, 0, none⟩ = some (.int .i64 sl) ∧ W.cell? ⟨w.heap.size, 1, none⟩ = some (.int .i64 sh) ∧ W.cell? ⟨w.heap.size, 2, none⟩ = some (.slice (some ⟨nb, off, none⟩) n cap) from fun W h => ⟨(h.cell (p := ⟨w.heap.size, 0, none⟩) hltA).trans p0, (h.cell (p := ⟨w.heap.size, 1, none⟩) hltA).trans p1, (h.cell (p := ⟨w.heap.size, 2, none⟩) hltA).trans p2⟩)
  clear hltA p0 p1 p2
  have HUP := Lib.hid (show ∀ W, Below A.heap.size A W → Below w.heap.size w W from fun W h => HBA.out.trans (h.mono HBA.out.size))
  obtain ⟨k0, k1, k2⟩ := KK.out _ (Below.refl _ _)
  go_enter Tryz.func4, Tryz.ntmps4
  go_upto_region 1 with fail
  rw [← hA]
  clear hA
  go_wp2_with fail
  refine (c1.out _ HBA.out).mono ?_
  rintro e w1 ⟨rfl, hb⟩
  have HB1 := Lib.hid hb
  clear hb k0 k1 k2
  obtain ⟨k0, k1, k2⟩ := KK.out _ HB1.out
  go_wp2_with fail
  refine (cG.out _ (HUP.out _ HB1.out)).mono ?_
  rintro e w2 ⟨v1, v2, rfl, hr, hk, -, hb⟩
  have HB2 := Lib.hid (HB1.out.trans (hb.mono HB1.out.size))
  obtain ⟨g1, cp1, J1, rfl, -, hc1, hR1⟩ := own_row hr hn0
  obtain ⟨g2, cp2, J2, rfl, -, hc2, hR2⟩ := own_row hk hn0
  have HI1 := Lib.hid (row_il hR1 hc1)
  have HI2 := Lib.hid (row_il hR2 hc2)
  have HR1 := Lib.hid hR1
  have HC1 := Lib.hid hc1
  clear hb hr hk hR1 hR2 hc1 hc2 k0 k1 k2
  obtain ⟨k0, k1, k2⟩ := KK.out _ HB2.out
  go_wp2_with fail
  refine (cS.out _ _ _ (HUP.out _ HB2.out) HI1.out HI2.out).mono ?_
  rintro e w3 ⟨gv, rfl, hgi, hb⟩
  obtain ⟨gb, go, gc, rfl, hgbl, hgcell⟩ := rd_of_il hgi hn0
  have HB3 := Lib.hid (HB2.out.trans (hb.mono HB2.out.size))
  have HGI := Lib.hid hgi
  have HGC := Lib.hid hgcell
  have HRC := Lib.hid (show ∀ Z, Below w3.heap.size w3 Z → ∀ k, k < n → Z.cell? ⟨g1, k, none⟩ = some (.int .i64 (rq k)) from fun Z h k hk => row_at (HR1.out.keep (hb.trans (h.mono hb.size))) HC1.out hk)
  clear hb hgi hgcell hgbl HI1 HI2 HR1 HC1 k0 k1 k2
  obtain ⟨k0, k1, k2⟩ := KK.out _ HB3.out
  go_wp2_with fail
  refine (cK.out _ _ (HUP.out _ HB3.out) HGI.out).mono ?_
  rintro e w4 ⟨rfl, hb⟩
  have HB34 := Lib.hid hb
  have HB4 := Lib.hid (HB3.out.trans (hb.mono HB3.out.size))
  clear hb HGI k0 k1 k2
  go_wp2_with fail
  go_loopw [12] (fun iv wr => ∃ k : Nat, k ≤ n ∧ iv = .int .i64 k ∧ Below w4.heap.size w4 wr) (fun iv _ => n - (intOf iv).toNat)
  case atStart => exact ⟨0, Nat.zero_le _, rfl, Below.refl _ _⟩
  case round =>
    obtain ⟨k, hk, rfl, hB⟩ := hrel
    have HB := Lib.hid hB
    clear hB
    have HBD := Lib.hid (show Below A.heap.size A wr from HB4.out.trans (HB.out.mono HB4.out.size))
    have HBG := Lib.hid (show Below w3.heap.size w3 wr from HB34.out.trans (HB.out.mono HB34.out.size))
    by_cases hlt : k < n
    · have hki : (k : Int) < (n : Int) := by omega
      obtain ⟨W0, rfl⟩ : ∃ W0, W0 = wr := ⟨_, rfl⟩
      have u0 := HGC.out W0 HBG.out k hlt
      have u1 := HRC.out W0 HBG.out k hlt
      obtain ⟨hg0, hg1⟩ := HGR.out k hlt
      have hg0' : ¬ GF k < 0 := by omega
      have hg1' : ¬ rq k < GF k := by omega
      have HEX := Lib.hid (HFU.out k hlt)
      generalize GF k = gk at *
      generalize rq k = rqk at *
      go_upto_region 13 with fail
      refine wp_region_held_drew (S := fun w' => w'.cell? ⟨gb, go + k, none⟩ = some (Value.int .i64 gk) ∧ w'.cell? ⟨g1, k, none⟩ = some (Value.int .i64 rqk)) (by kernel_rfl) ⟨by simpa [go_sem] using u0, by simpa [go_sem] using u1⟩ (fun hHeld => ?_)
      refine wpAnyH_take (i := 0) (oi := _) (v := Value.slice (some ⟨gb, go, none⟩) n gc) rfl (by kernel_rfl) (by kernel_rfl) (by kernel_rfl) (fun _ _ _ h => h) (Or.inl ⟨by rfl, fun w' hSw => ?_⟩) hHeld ?_
      · obtain ⟨t0, t1⟩ := hSw
        go_simp
        try simp [*]
        try (intro hh; exfalso; omega)
        try omega
      try simp only [Act.put, List.setIfInBounds_toArray, List.set_cons_zero, List.set_cons_succ, List.getElem_toArray, List.getElem_cons_succ, List.getElem_cons_zero]
      refine wpAnyH_take (i := 1) (oi := _) (v := Value.int .i64 (k : Int)) rfl (by kernel_rfl) (by kernel_rfl) (by kernel_rfl) (fun _ _ _ h => h) (Or.inl ⟨by rfl, fun w' hSw => ?_⟩) hHeld ?_
      · obtain ⟨t0, t1⟩ := hSw
        go_simp
        try simp [*]
        try (intro hh; exfalso; omega)
        try omega
      try simp only [Act.put, List.setIfInBounds_toArray, List.set_cons_zero, List.set_cons_succ, List.getElem_toArray, List.getElem_cons_succ, List.getElem_cons_zero]
      refine wpAnyH_take (i := 2) (oi := _) (v := Value.pointer (some ⟨gb, go + k, none⟩)) rfl (by kernel_rfl) (by kernel_rfl) (by kernel_rfl) (fun _ _ _ h => h) (Or.inl ⟨by rfl, fun w' hSw => ?_⟩) hHeld ?_
      · obtain ⟨t0, t1⟩ := hSw
        go_simp
        try simp [*]
        try (intro hh; exfalso; omega)
        try omega
      try simp only [Act.put, List.setIfInBounds_toArray, List.set_cons_zero, List.set_cons_succ, List.getElem_toArray, List.getElem_cons_succ, List.getElem_cons_zero]
      refine wpAnyH_take (i := 3) (oi := _) (v := Value.int .i64 gk) rfl (by kernel_rfl) (by kernel_rfl) (by kernel_rfl) (fun _ _ _ h => h) (Or.inl ⟨by rfl, fun w' hSw => ?_⟩) hHeld ?_
      · obtain ⟨t0, t1⟩ := hSw
        go_simp
        try simp [*]
        try (intro hh; exfalso; omega)
        try omega
      try simp only [Act.put, List.setIfInBounds_toArray, List.set_cons_zero, List.set_cons_succ, List.getElem_toArray, List.getElem_cons_succ, List.getElem_cons_zero]
      refine wpAnyH_take (i := 4) (oi := _) (v := Value.bool false) rfl (by kernel_rfl) (by kernel_rfl) (by kernel_rfl) (fun _ _ _ h => h) (Or.inl ⟨by rfl, fun w' hSw => ?_⟩) hHeld ?_
      · obtain ⟨t0, t1⟩ := hSw
        go_simp
        try simp [*]
        try (intro hh; exfalso; omega)
        try omega
      try simp only [Act.put, List.setIfInBounds_toArray, List.set_cons_zero, List.set_cons_succ, List.getElem_toArray, List.getElem_cons_succ, List.getElem_cons_zero]
      refine wpAnyH_take (i := 5) (oi := _) (v := Value.bool false) rfl (by kernel_rfl) (by kernel_rfl) (by kernel_rfl) (fun _ _ _ h => h) (Or.inl ⟨by rfl, fun w' hSw => ?_⟩) hHeld ?_
      · obtain ⟨t0, t1⟩ := hSw
        go_simp
        try simp [*]
        try (intro hh; exfalso; omega)
        try omega
      try simp only [Act.put, List.setIfInBounds_toArray, List.set_cons_zero, List.set_cons_succ, List.getElem_toArray, List.getElem_cons_succ, List.getElem_cons_zero]
      refine wpAnyH_take (i := 6) (oi := _) (v := Value.slice (some ⟨gb, go, none⟩) n gc) rfl (by kernel_rfl) (by kernel_rfl) (by kernel_rfl) (fun _ _ _ h => h) (Or.inl ⟨by rfl, fun w' hSw => ?_⟩) hHeld ?_
      · obtain ⟨t0, t1⟩ := hSw
        go_simp
        try simp [*]
        try (intro hh; exfalso; omega)
        try omega
      try simp only [Act.put, List.setIfInBounds_toArray, List.set_cons_zero, List.set_cons_succ, List.getElem_toArray, List.getElem_cons_succ, List.getElem_cons_zero]
      refine wpAnyH_take (i := 7) (oi := _) (v := Value.int .i64 (k : Int)) rfl (by kernel_rfl) (by kernel_rfl) (by kernel_rfl) (fun _ _ _ h => h) (Or.inl ⟨by rfl, fun w' hSw => ?_⟩) hHeld ?_
      · obtain ⟨t0, t1⟩ := hSw
        go_simp
        try simp [*]
        try (intro hh; exfalso; omega)
        try omega
      try simp only [Act.put, List.setIfInBounds_toArray, List.set_cons_zero, List.set_cons_succ, List.getElem_toArray, List.getElem_cons_succ, List.getElem_cons_zero]
      refine wpAnyH_take (i := 8) (oi := _) (v := Value.pointer (some ⟨gb, go + k, none⟩)) rfl (by kernel_rfl) (by kernel_rfl) (by kernel_rfl) (fun _ _ _ h => h) (Or.inl ⟨by rfl, fun w' hSw => ?_⟩) hHeld ?_
      · obtain ⟨t0, t1⟩ := hSw
        go_simp
        try simp [*]
        try (intro hh; exfalso; omega)
        try omega
      try simp only [Act.put, List.setIfInBounds_toArray, List.set_cons_zero, List.set_cons_succ, List.getElem_toArray, List.getElem_cons_succ, List.getElem_cons_zero]
      refine wpAnyH_take (i := 9) (oi := _) (v := Value.int .i64 gk) rfl (by kernel_rfl) (by kernel_rfl) (by kernel_rfl) (fun _ _ _ h => h) (Or.inl ⟨by rfl, fun w' hSw => ?_⟩) hHeld ?_
      · obtain ⟨t0, t1⟩ := hSw
        go_simp
        try simp [*]
        try (intro hh; exfalso; omega)
        try omega
      try simp only [Act.put, List.setIfInBounds_toArray, List.set_cons_zero, List.set_cons_succ, List.getElem_toArray, List.getElem_cons_succ, List.getElem_cons_zero]
      refine wpAnyH_take (i := 10) (oi := _) (v := Value.slice (some ⟨g1, 0, none⟩) n cp1) rfl (by kernel_rfl) (by kernel_rfl) (by kernel_rfl) (fun _ _ _ h => h) (Or.inl ⟨by rfl, fun w' hSw => ?_⟩) hHeld ?_
      · obtain ⟨t0, t1⟩ := hSw
        go_simp
        try simp [*]
        try (intro hh; exfalso; omega)
        try omega
      try simp only [Act.put, List.setIfInBounds_toArray, List.set_cons_zero, List.set_cons_succ, List.getElem_toArray, List.getElem_cons_succ, List.getElem_cons_zero]
      refine wpAnyH_take (i := 11) (oi := _) (v := Value.int .i64 (k : Int)) rfl (by kernel_rfl) (by kernel_rfl) (by kernel_rfl) (fun _ _ _ h => h) (Or.inl ⟨by rfl, fun w' hSw => ?_⟩) hHeld ?_
      · obtain ⟨t0, t1⟩ := hSw
        go_simp
        try simp [*]
        try (intro hh; exfalso; omega)
        try omega
      try simp only [Act.put, List.setIfInBounds_toArray, List.set_cons_zero, List.set_cons_succ, List.getElem_toArray, List.getElem_cons_succ, List.getElem_cons_zero]
      refine wpAnyH_take (i := 12) (oi := _) (v := Value.pointer (some ⟨g1, k, none⟩)) rfl (by kernel_rfl) (by kernel_rfl) (by kernel_rfl) (fun _ _ _ h => h) (Or.inl ⟨by rfl, fun w' hSw => ?_⟩) hHeld ?_
      · obtain ⟨t0, t1⟩ := hSw
        go_simp
        try simp [*]
        try (intro hh; exfalso; omega)
        try omega
      try simp only [Act.put, List.setIfInBounds_toArray, List.set_cons_zero, List.set_cons_succ, List.getElem_toArray, List.getElem_cons_succ, List.getElem_cons_zero]
      refine wpAnyH_take (i := 13) (oi := _) (v := Value.int .i64 rqk) rfl (by kernel_rfl) (by kernel_rfl) (by kernel_rfl) (fun _ _ _ h => h) (Or.inl ⟨by rfl, fun w' hSw => ?_⟩) hHeld ?_
      · obtain ⟨t0, t1⟩ := hSw
        go_simp
        try simp [*]
        try (intro hh; exfalso; omega)
        try omega
      try simp only [Act.put, List.setIfInBounds_toArray, List.set_cons_zero, List.set_cons_succ, List.getElem_toArray, List.getElem_cons_succ, List.getElem_cons_zero]
      refine wpAnyH_take (i := 14) (oi := _) (v := Value.bool false) rfl (by kernel_rfl) (by kernel_rfl) (by kernel_rfl) (fun _ _ _ h => h) (Or.inl ⟨by rfl, fun w' hSw => ?_⟩) hHeld ?_
      · obtain ⟨t0, t1⟩ := hSw
        go_simp
        try simp [*]
        try (intro hh; exfalso; omega)
        try omega
      try simp only [Act.put, List.setIfInBounds_toArray, List.set_cons_zero, List.set_cons_succ, List.getElem_toArray, List.getElem_cons_succ, List.getElem_cons_zero]
      refine wpAnyH_take (i := 15) (oi := _) (v := Value.bool false) rfl (by kernel_rfl) (by kernel_rfl) (by kernel_rfl) (fun _ _ _ h => h) (Or.inl ⟨by rfl, fun w' hSw => ?_⟩) hHeld ?_
      · obtain ⟨t0, t1⟩ := hSw
        go_simp
        try simp [*]
        try (intro hh; exfalso; omega)
        try omega
      try simp only [Act.put, List.setIfInBounds_toArray, List.set_cons_zero, List.set_cons_succ, List.getElem_toArray, List.getElem_cons_succ, List.getElem_cons_zero]
      refine wpAnyH_done (by kernel_rfl) ?_ _
      clear hHeld
      go_upto_region 15 with fail
      by_cases heq : gk = rqk
      · subst heq
        clear HEX
        refine wp_region_held_drew (S := fun w' => w'.cell? ⟨gb, go + k, none⟩ = some (Value.int .i64 gk) ∧ w'.cell? ⟨g1, k, none⟩ = some (Value.int .i64 gk)) (by kernel_rfl) ⟨by simpa [go_sem] using u0, by simpa [go_sem] using u1⟩ (fun hHeld => ?_)
        refine wpAnyH_take (i := 0) (oi := _) (v := Value.slice (some ⟨gb, go, none⟩) n gc) rfl (by kernel_rfl) (by kernel_rfl) (by kernel_rfl) (fun _ _ _ h => h) (Or.inl ⟨by rfl, fun w' hSw => ?_⟩) hHeld ?_
        · obtain ⟨t0, t1⟩ := hSw
          go_simp
          try simp [*]
          try (intro hh; exfalso; omega)
          try omega
        try simp only [Act.put, List.setIfInBounds_toArray, List.set_cons_zero, List.set_cons_succ, List.getElem_toArray, List.getElem_cons_succ, List.getElem_cons_zero]
        refine wpAnyH_take (i := 1) (oi := _) (v := Value.int .i64 (k : Int)) rfl (by kernel_rfl) (by kernel_rfl) (by kernel_rfl) (fun _ _ _ h => h) (Or.inl ⟨by rfl, fun w' hSw => ?_⟩) hHeld ?_
        · obtain ⟨t0, t1⟩ := hSw
          go_simp
          try simp [*]
          try (intro hh; exfalso; omega)
          try omega
        try simp only [Act.put, List.setIfInBounds_toArray, List.set_cons_zero, List.set_cons_succ, List.getElem_toArray, List.getElem_cons_succ, List.getElem_cons_zero]
        refine wpAnyH_take (i := 2) (oi := _) (v := Value.pointer (some ⟨gb, go + k, none⟩)) rfl (by kernel_rfl) (by kernel_rfl) (by kernel_rfl) (fun _ _ _ h => h) (Or.inl ⟨by rfl, fun w' hSw => ?_⟩) hHeld ?_
        · obtain ⟨t0, t1⟩ := hSw
          go_simp
          try simp [*]
          try (intro hh; exfalso; omega)
          try omega
        try simp only [Act.put, List.setIfInBounds_toArray, List.set_cons_zero, List.set_cons_succ, List.getElem_toArray, List.getElem_cons_succ, List.getElem_cons_zero]
        refine wpAnyH_take (i := 3) (oi := _) (v := Value.int .i64 gk) rfl (by kernel_rfl) (by kernel_rfl) (by kernel_rfl) (fun _ _ _ h => h) (Or.inl ⟨by rfl, fun w' hSw => ?_⟩) hHeld ?_
        · obtain ⟨t0, t1⟩ := hSw
          go_simp
          try simp [*]
          try (intro hh; exfalso; omega)
          try omega
        try simp only [Act.put, List.setIfInBounds_toArray, List.set_cons_zero, List.set_cons_succ, List.getElem_toArray, List.getElem_cons_succ, List.getElem_cons_zero]
        refine wpAnyH_take (i := 4) (oi := _) (v := Value.slice (some ⟨g1, 0, none⟩) n cp1) rfl (by kernel_rfl) (by kernel_rfl) (by kernel_rfl) (fun _ _ _ h => h) (Or.inl ⟨by rfl, fun w' hSw => ?_⟩) hHeld ?_
        · obtain ⟨t0, t1⟩ := hSw
          go_simp
          try simp [*]
          try (intro hh; exfalso; omega)
          try omega
        try simp only [Act.put, List.setIfInBounds_toArray, List.set_cons_zero, List.set_cons_succ, List.getElem_toArray, List.getElem_cons_succ, List.getElem_cons_zero]
        refine wpAnyH_take (i := 5) (oi := _) (v := Value.int .i64 (k : Int)) rfl (by kernel_rfl) (by kernel_rfl) (by kernel_rfl) (fun _ _ _ h => h) (Or.inl ⟨by rfl, fun w' hSw => ?_⟩) hHeld ?_
        · obtain ⟨t0, t1⟩ := hSw
          go_simp
          try simp [*]
          try (intro hh; exfalso; omega)
          try omega
        try simp only [Act.put, List.setIfInBounds_toArray, List.set_cons_zero, List.set_cons_succ, List.getElem_toArray, List.getElem_cons_succ, List.getElem_cons_zero]
        refine wpAnyH_take (i := 6) (oi := _) (v := Value.pointer (some ⟨g1, k, none⟩)) rfl (by kernel_rfl) (by kernel_rfl) (by kernel_rfl) (fun _ _ _ h => h) (Or.inl ⟨by rfl, fun w' hSw => ?_⟩) hHeld ?_
        · obtain ⟨t0, t1⟩ := hSw
          go_simp
          try simp [*]
          try (intro hh; exfalso; omega)
          try omega
        try simp only [Act.put, List.setIfInBounds_toArray, List.set_cons_zero, List.set_cons_succ, List.getElem_toArray, List.getElem_cons_succ, List.getElem_cons_zero]
        refine wpAnyH_take (i := 7) (oi := _) (v := Value.int .i64 gk) rfl (by kernel_rfl) (by kernel_rfl) (by kernel_rfl) (fun _ _ _ h => h) (Or.inl ⟨by rfl, fun w' hSw => ?_⟩) hHeld ?_
        · obtain ⟨t0, t1⟩ := hSw
          go_simp
          try simp [*]
          try (intro hh; exfalso; omega)
          try omega
        try simp only [Act.put, List.setIfInBounds_toArray, List.set_cons_zero, List.set_cons_succ, List.getElem_toArray, List.getElem_cons_succ, List.getElem_cons_zero]
        refine wpAnyH_take (i := 8) (oi := _) (v := Value.bool true) rfl (by kernel_rfl) (by kernel_rfl) (by kernel_rfl) (fun _ _ _ h => h) (Or.inl ⟨by rfl, fun w' hSw => ?_⟩) hHeld ?_
        · obtain ⟨t0, t1⟩ := hSw
          go_simp
          try simp [*]
          try (intro hh; exfalso; omega)
          try omega
        try simp only [Act.put, List.setIfInBounds_toArray, List.set_cons_zero, List.set_cons_succ, List.getElem_toArray, List.getElem_cons_succ, List.getElem_cons_zero]
        refine wpAnyH_done (by kernel_rfl) ?_ _
        clear hHeld
        go_wp2_with fail
        go_roundw
        case rel => exact ⟨k + 1, by omega, by go_num, HB.out.drew.drew⟩
        case measure => simp [intOf]; omega
      · have hne : (gk == rqk) = false := by simpa using heq
        refine wp_region_held_drew (S := fun w' => w'.cell? ⟨gb, go + k, none⟩ = some (Value.int .i64 gk) ∧ w'.cell? ⟨g1, k, none⟩ = some (Value.int .i64 rqk)) (by kernel_rfl) ⟨by simpa [go_sem] using u0, by simpa [go_sem] using u1⟩ (fun hHeld => ?_)
        refine wpAnyH_take (i := 0) (oi := _) (v := Value.slice (some ⟨gb, go, none⟩) n gc) rfl (by kernel_rfl) (by kernel_rfl) (by kernel_rfl) (fun _ _ _ h => h) (Or.inl ⟨by rfl, fun w' hSw => ?_⟩) hHeld ?_
        · obtain ⟨t0, t1⟩ := hSw
          go_simp
          try simp [*]
          try (intro hh; exfalso; omega)
          try omega
        try simp only [Act.put, List.setIfInBounds_toArray, List.set_cons_zero, List.set_cons_succ, List.getElem_toArray, List.getElem_cons_succ, List.getElem_cons_zero]
        refine wpAnyH_take (i := 1) (oi := _) (v := Value.int .i64 (k : Int)) rfl (by kernel_rfl) (by kernel_rfl) (by kernel_rfl) (fun _ _ _ h => h) (Or.inl ⟨by rfl, fun w' hSw => ?_⟩) hHeld ?_
        · obtain ⟨t0, t1⟩ := hSw
          go_simp
          try simp [*]
          try (intro hh; exfalso; omega)
          try omega
        try simp only [Act.put, List.setIfInBounds_toArray, List.set_cons_zero, List.set_cons_succ, List.getElem_toArray, List.getElem_cons_succ, List.getElem_cons_zero]
        refine wpAnyH_take (i := 2) (oi := _) (v := Value.pointer (some ⟨gb, go + k, none⟩)) rfl (by kernel_rfl) (by kernel_rfl) (by kernel_rfl) (fun _ _ _ h => h) (Or.inl ⟨by rfl, fun w' hSw => ?_⟩) hHeld ?_
        · obtain ⟨t0, t1⟩ := hSw
          go_simp
          try simp [*]
          try (intro hh; exfalso; omega)
          try omega
        try simp only [Act.put, List.setIfInBounds_toArray, List.set_cons_zero, List.set_cons_succ, List.getElem_toArray, List.getElem_cons_succ, List.getElem_cons_zero]
        refine wpAnyH_take (i := 3) (oi := _) (v := Value.int .i64 gk) rfl (by kernel_rfl) (by kernel_rfl) (by kernel_rfl) (fun _ _ _ h => h) (Or.inl ⟨by rfl, fun w' hSw => ?_⟩) hHeld ?_
        · obtain ⟨t0, t1⟩ := hSw
          go_simp
          try simp [*]
          try (intro hh; exfalso; omega)
          try omega
        try simp only [Act.put, List.setIfInBounds_toArray, List.set_cons_zero, List.set_cons_succ, List.getElem_toArray, List.getElem_cons_succ, List.getElem_cons_zero]
        refine wpAnyH_take (i := 4) (oi := _) (v := Value.slice (some ⟨g1, 0, none⟩) n cp1) rfl (by kernel_rfl) (by kernel_rfl) (by kernel_rfl) (fun _ _ _ h => h) (Or.inl ⟨by rfl, fun w' hSw => ?_⟩) hHeld ?_
        · obtain ⟨t0, t1⟩ := hSw
          go_simp
          try simp [*]
          try (intro hh; exfalso; omega)
          try omega
        try simp only [Act.put, List.setIfInBounds_toArray, List.set_cons_zero, List.set_cons_succ, List.getElem_toArray, List.getElem_cons_succ, List.getElem_cons_zero]
        refine wpAnyH_take (i := 5) (oi := _) (v := Value.int .i64 (k : Int)) rfl (by kernel_rfl) (by kernel_rfl) (by kernel_rfl) (fun _ _ _ h => h) (Or.inl ⟨by rfl, fun w' hSw => ?_⟩) hHeld ?_
        · obtain ⟨t0, t1⟩ := hSw
          go_simp
          try simp [*]
          try (intro hh; exfalso; omega)
          try omega
        try simp only [Act.put, List.setIfInBounds_toArray, List.set_cons_zero, List.set_cons_succ, List.getElem_toArray, List.getElem_cons_succ, List.getElem_cons_zero]
        refine wpAnyH_take (i := 6) (oi := _) (v := Value.pointer (some ⟨g1, k, none⟩)) rfl (by kernel_rfl) (by kernel_rfl) (by kernel_rfl) (fun _ _ _ h => h) (Or.inl ⟨by rfl, fun w' hSw => ?_⟩) hHeld ?_
        · obtain ⟨t0, t1⟩ := hSw
          go_simp
          try simp [*]
          try (intro hh; exfalso; omega)
          try omega
        try simp only [Act.put, List.setIfInBounds_toArray, List.set_cons_zero, List.set_cons_succ, List.getElem_toArray, List.getElem_cons_succ, List.getElem_cons_zero]
        refine wpAnyH_take (i := 7) (oi := _) (v := Value.int .i64 rqk) rfl (by kernel_rfl) (by kernel_rfl) (by kernel_rfl) (fun _ _ _ h => h) (Or.inl ⟨by rfl, fun w' hSw => ?_⟩) hHeld ?_
        · obtain ⟨t0, t1⟩ := hSw
          go_simp
          try simp [*]
          try (intro hh; exfalso; omega)
          try omega
        try simp only [Act.put, List.setIfInBounds_toArray, List.set_cons_zero, List.set_cons_succ, List.getElem_toArray, List.getElem_cons_succ, List.getElem_cons_zero]
        refine wpAnyH_take (i := 8) (oi := _) (v := Value.bool false) rfl (by kernel_rfl) (by kernel_rfl) (by kernel_rfl) (fun _ _ _ h => h) (Or.inl ⟨by rfl, fun w' hSw => ?_⟩) hHeld ?_
        · obtain ⟨t0, t1⟩ := hSw
          go_simp
          try simp [*]
          try (intro hh; exfalso; omega)
          try omega
        try simp only [Act.put, List.setIfInBounds_toArray, List.set_cons_zero, List.set_cons_succ, List.getElem_toArray, List.getElem_cons_succ, List.getElem_cons_zero]
        refine wpAnyH_done (by kernel_rfl) ?_ _
        clear hHeld
        obtain ⟨t0, ht0, hfu⟩ := HEX.out heq
        have HT0 := Lib.hid ht0
        have HFT := Lib.hid hfu
        have HD0 := Lib.hid (show Below A.heap.size A W0.drew.drew from HBD.out.drew.drew)
        clear ht0 hfu HEX u0 u1 hg0 hg1 hg0' hg1' heq hne
        obtain ⟨k0, k1, k2⟩ := KK.out _ HD0.out
        go_wp2_with fail
        refine (cP.out k hlt _ (HUP.out _ HD0.out)).mono ?_
        rintro e w5 ⟨pv, rfl, hp, hb⟩
        obtain ⟨hpl0, hpl1⟩ := HPL.out k hlt
        obtain ⟨pg, pc, rfl, -, -, hpgl, hpc⟩ := own_next hp hpl0
        have HPC := Lib.hid (show ∀ Z, Below w5.heap.size w5 Z → ∀ i, i < (PF k).length → Z.cell? ⟨pg, i, none⟩ = some (.int .i64 (tn (PF k) i : Int)) from fun Z h i hi => (h.cell (p := ⟨pg, i, none⟩) hpgl).trans (hpc i hi))
        have HB5 := Lib.hid (show Below A.heap.size A w5 from HD0.out.trans (hb.mono HD0.out.size))
        have HB45 := Lib.hid (show Below w4.heap.size w4 w5 from HB.out.drew.drew.trans (hb.mono HB.out.drew.drew.size))
        have HG5 := Lib.hid (show Below w3.heap.size w3 w5 from HBG.out.drew.drew.trans (hb.mono HBG.out.drew.drew.size))
        have HPX := Lib.hid (HPN.out k hlt)
        generalize PF k = L at *
        generalize L.length = m at *
        clear hb hp hpc hpgl k0 k1 k2
        go_wp2_with fail
        go_loopw [15, 16] (fun fv iv wr => ∃ (i : Nat) (bl : Bool), i ≤ m ∧ iv = .int .i64 i ∧ fv = .bool bl ∧ (t0 < i → bl = true) ∧ Below w5.heap.size w5 wr) (fun _ iv _ => m - (intOf iv).toNat)
        case atStart => exact ⟨0, false, Nat.zero_le _, rfl, rfl, fun h => absurd h (Nat.not_lt_zero _), Below.refl _ _⟩
        case round =>
          obtain ⟨i, bl, hi, rfl, rfl, hbl, hBi⟩ := hrel
          have HBI := Lib.hid hBi
          have HBL := Lib.hid hbl
          clear hBi hbl
          by_cases hlti : i < m
          · have hii : (i : Int) < (m : Int) := by omega
            obtain ⟨W1, rfl⟩ : ∃ W1, W1 = wr := ⟨_, rfl⟩
            have HBA1 := Lib.hid (show Below A.heap.size A W1 from HB5.out.trans (HBI.out.mono HB5.out.size))
            have y0 := HPC.out W1 HBI.out i hlti
            have hxn := HPX.out i hlti
            have HFX := Lib.hid (show i = t0 → SM (tn L i) = lim (tn L i) from fun e => by rw [e]; exact HFT.out)
            have HYC := Lib.hid (show ∀ Z, Below W1.heap.size W1 Z → Z.cell? ⟨pg, i, none⟩ = some (.int .i64 (tn L i : Int)) from fun Z h => HPC.out Z (HBI.out.trans (h.mono HBI.out.size)) i hlti)
            generalize tn L i = x at *
            have hxi : (x : Int) < (n : Int) := by omega
            have hx0 : ¬ (x : Int) < 0 := by omega
            have hxg : ¬ (n : Int) ≤ (x : Int) := by omega
            obtain ⟨k0, k1, k2⟩ := KK.out _ HBA1.out
            have l3 := HLC.out _ x (HUP.out _ HBA1.out) hxn
            go_upto_region 21 with fail
            refine wp_region_held_drew (S := fun w' => w'.cell? ⟨pg, i, none⟩ = some (Value.int .i64 (x : Int)) ∧ w'.cell? ⟨w.heap.size, 2, none⟩ = some (Value.slice (some ⟨nb, off, none⟩) n cap)) (by kernel_rfl) ⟨by simpa [go_sem] using y0, by simpa [go_sem] using k2⟩ (fun hHeld => ?_)
            refine wpAnyH_take (i := 0) (oi := _) (v := Value.slice (some ⟨pg, 0, none⟩) m pc) rfl (by kernel_rfl) (by kernel_rfl) (by kernel_rfl) (fun _ _ _ h => h) (Or.inl ⟨by rfl, fun w' hSw => ?_⟩) hHeld ?_
            · obtain ⟨t0, t1⟩ := hSw
              go_simp
              try simp [*]
              try (intro hh; exfalso; omega)
              try omega
            try simp only [Act.put, List.setIfInBounds_toArray, List.set_cons_zero, List.set_cons_succ, List.getElem_toArray, List.getElem_cons_succ, List.getElem_cons_zero]
            refine wpAnyH_take (i := 1) (oi := _) (v := Value.int .i64 (i : Int)) rfl (by kernel_rfl) (by kernel_rfl) (by kernel_rfl) (fun _ _ _ h => h) (Or.inl ⟨by rfl, fun w' hSw => ?_⟩) hHeld ?_
            · obtain ⟨t0, t1⟩ := hSw
              go_simp
              try simp [*]
              try (intro hh; exfalso; omega)
              try omega
            try simp only [Act.put, List.setIfInBounds_toArray, List.set_cons_zero, List.set_cons_succ, List.getElem_toArray, List.getElem_cons_succ, List.getElem_cons_zero]
            refine wpAnyH_take (i := 2) (oi := _) (v := Value.pointer (some ⟨pg, i, none⟩)) rfl (by kernel_rfl) (by kernel_rfl) (by kernel_rfl) (fun _ _ _ h => h) (Or.inl ⟨by rfl, fun w' hSw => ?_⟩) hHeld ?_
            · obtain ⟨t0, t1⟩ := hSw
              go_simp
              try simp [*]
              try (intro hh; exfalso; omega)
              try omega
            try simp only [Act.put, List.setIfInBounds_toArray, List.set_cons_zero, List.set_cons_succ, List.getElem_toArray, List.getElem_cons_succ, List.getElem_cons_zero]
            refine wpAnyH_take (i := 3) (oi := _) (v := Value.int .i64 (x : Int)) rfl (by kernel_rfl) (by kernel_rfl) (by kernel_rfl) (fun _ _ _ h => h) (Or.inl ⟨by rfl, fun w' hSw => ?_⟩) hHeld ?_
            · obtain ⟨t0, t1⟩ := hSw
              go_simp
              try simp [*]
              try (intro hh; exfalso; omega)
              try omega
            try simp only [Act.put, List.setIfInBounds_toArray, List.set_cons_zero, List.set_cons_succ, List.getElem_toArray, List.getElem_cons_succ, List.getElem_cons_zero]
            refine wpAnyH_take (i := 4) (oi := _) (v := Value.bool false) rfl (by kernel_rfl) (by kernel_rfl) (by kernel_rfl) (fun _ _ _ h => h) (Or.inl ⟨by rfl, fun w' hSw => ?_⟩) hHeld ?_
            · obtain ⟨t0, t1⟩ := hSw
              go_simp
              try simp [*]
              try (intro hh; exfalso; omega)
              try omega
            try simp only [Act.put, List.setIfInBounds_toArray, List.set_cons_zero, List.set_cons_succ, List.getElem_toArray, List.getElem_cons_succ, List.getElem_cons_zero]
            refine wpAnyH_take (i := 5) (oi := _) (v := Value.bool false) rfl (by kernel_rfl) (by kernel_rfl) (by kernel_rfl) (fun _ _ _ h => h) (Or.inl ⟨by rfl, fun w' hSw => ?_⟩) hHeld ?_
            · obtain ⟨t0, t1⟩ := hSw
              go_simp
              try simp [*]
              try (intro hh; exfalso; omega)
              try omega
            try simp only [Act.put, List.setIfInBounds_toArray, List.set_cons_zero, List.set_cons_succ, List.getElem_toArray, List.getElem_cons_succ, List.getElem_cons_zero]
            refine wpAnyH_take (i := 6) (oi := _) (v := Value.slice (some ⟨pg, 0, none⟩) m pc) rfl (by kernel_rfl) (by kernel_rfl) (by kernel_rfl) (fun _ _ _ h => h) (Or.inl ⟨by rfl, fun w' hSw => ?_⟩) hHeld ?_
            · obtain ⟨t0, t1⟩ := hSw
              go_simp
              try simp [*]
              try (intro hh; exfalso; omega)
              try omega
            try simp only [Act.put, List.setIfInBounds_toArray, List.set_cons_zero, List.set_cons_succ, List.getElem_toArray, List.getElem_cons_succ, List.getElem_cons_zero]
            refine wpAnyH_take (i := 7) (oi := _) (v := Value.int .i64 (i : Int)) rfl (by kernel_rfl) (by kernel_rfl) (by kernel_rfl) (fun _ _ _ h => h) (Or.inl ⟨by rfl, fun w' hSw => ?_⟩) hHeld ?_
            · obtain ⟨t0, t1⟩ := hSw
              go_simp
              try simp [*]
              try (intro hh; exfalso; omega)
              try omega
            try simp only [Act.put, List.setIfInBounds_toArray, List.set_cons_zero, List.set_cons_succ, List.getElem_toArray, List.getElem_cons_succ, List.getElem_cons_zero]
            refine wpAnyH_take (i := 8) (oi := _) (v := Value.pointer (some ⟨pg, i, none⟩)) rfl (by kernel_rfl) (by kernel_rfl) (by kernel_rfl) (fun _ _ _ h => h) (Or.inl ⟨by rfl, fun w' hSw => ?_⟩) hHeld ?_
            · obtain ⟨t0, t1⟩ := hSw
              go_simp
              try simp [*]
              try (intro hh; exfalso; omega)
              try omega
            try simp only [Act.put, List.setIfInBounds_toArray, List.set_cons_zero, List.set_cons_succ, List.getElem_toArray, List.getElem_cons_succ, List.getElem_cons_zero]
            refine wpAnyH_take (i := 9) (oi := _) (v := Value.int .i64 (x : Int)) rfl (by kernel_rfl) (by kernel_rfl) (by kernel_rfl) (fun _ _ _ h => h) (Or.inl ⟨by rfl, fun w' hSw => ?_⟩) hHeld ?_
            · obtain ⟨t0, t1⟩ := hSw
              go_simp
              try simp [*]
              try (intro hh; exfalso; omega)
              try omega
            try simp only [Act.put, List.setIfInBounds_toArray, List.set_cons_zero, List.set_cons_succ, List.getElem_toArray, List.getElem_cons_succ, List.getElem_cons_zero]
            refine wpAnyH_take (i := 10) (oi := _) (v := Value.pointer (some ⟨w.heap.size, 2, none⟩)) rfl (by kernel_rfl) (by kernel_rfl) (by kernel_rfl) (fun _ _ _ h => h) (Or.inl ⟨by rfl, fun w' hSw => ?_⟩) hHeld ?_
            · obtain ⟨t0, t1⟩ := hSw
              go_simp
              try simp [*]
              try (intro hh; exfalso; omega)
              try omega
            try simp only [Act.put, List.setIfInBounds_toArray, List.set_cons_zero, List.set_cons_succ, List.getElem_toArray, List.getElem_cons_succ, List.getElem_cons_zero]
            refine wpAnyH_take (i := 11) (oi := _) (v := Value.slice (some ⟨nb, off, none⟩) n cap) rfl (by kernel_rfl) (by kernel_rfl) (by kernel_rfl) (fun _ _ _ h => h) (Or.inl ⟨by rfl, fun w' hSw => ?_⟩) hHeld ?_
            · obtain ⟨t0, t1⟩ := hSw
              go_simp
              try simp [*]
              try (intro hh; exfalso; omega)
              try omega
            try simp only [Act.put, List.setIfInBounds_toArray, List.set_cons_zero, List.set_cons_succ, List.getElem_toArray, List.getElem_cons_succ, List.getElem_cons_zero]
            refine wpAnyH_take (i := 12) (oi := _) (v := Value.int .i64 n) rfl (by kernel_rfl) (by kernel_rfl) (by kernel_rfl) (fun _ _ _ h => h) (Or.inl ⟨by rfl, fun w' hSw => ?_⟩) hHeld ?_
            · obtain ⟨t0, t1⟩ := hSw
              go_simp
              try simp [*]
              try (intro hh; exfalso; omega)
              try omega
            try simp only [Act.put, List.setIfInBounds_toArray, List.set_cons_zero, List.set_cons_succ, List.getElem_toArray, List.getElem_cons_succ, List.getElem_cons_zero]
            refine wpAnyH_take (i := 13) (oi := _) (v := Value.bool false) rfl (by kernel_rfl) (by kernel_rfl) (by kernel_rfl) (fun _ _ _ h => h) (Or.inl ⟨by rfl, fun w' hSw => ?_⟩) hHeld ?_
            · obtain ⟨t0, t1⟩ := hSw
              go_simp
              try simp [*]
              try (intro hh; exfalso; omega)
              try omega
            try simp only [Act.put, List.setIfInBounds_toArray, List.set_cons_zero, List.set_cons_succ, List.getElem_toArray, List.getElem_cons_succ, List.getElem_cons_zero]
            refine wpAnyH_take (i := 14) (oi := _) (v := Value.bool false) rfl (by kernel_rfl) (by kernel_rfl) (by kernel_rfl) (fun _ _ _ h => h) (Or.inl ⟨by rfl, fun w' hSw => ?_⟩) hHeld ?_
            · obtain ⟨t0, t1⟩ := hSw
              go_simp
              try simp [*]
              try (intro hh; exfalso; omega)
              try omega
            try simp only [Act.put, List.setIfInBounds_toArray, List.set_cons_zero, List.set_cons_succ, List.getElem_toArray, List.getElem_cons_succ, List.getElem_cons_zero]
            refine wpAnyH_done (by kernel_rfl) ?_ _
            clear hHeld
            go_upto_region 23 with fail
            have HD1 := Lib.hid (show Below A.heap.size A W1.drew.drew from HBA1.out.drew.drew)
            have HBW := Lib.hid (show Below W1.heap.size W1 W1.drew.drew from (Below.refl _ _).drew.drew)
            have hsl := HSL.out x
            have hsj := HSJ.out x hxn
            have HSX := Lib.hid (HSN.out x)
            have HSS := Lib.hid (HSU.out x)
            have cUX := Lib.hid (cU.out x hxn)
            generalize SU x = U at *
            generalize hum : U.length = um at *
            have HUM := Lib.hid hum
            clear hum
            refine wp_region_held_drew (S := fun w' => w'.cell? ⟨w.heap.size, 0, none⟩ = some (Value.int .i64 sl) ∧ w'.cell? ⟨w.heap.size, 1, none⟩ = some (Value.int .i64 sh) ∧ w'.cell? ⟨w.heap.size, 2, none⟩ = some (Value.slice (some ⟨nb, off, none⟩) n cap) ∧ w'.cell? ⟨pg, i, none⟩ = some (Value.int .i64 (x : Int))) (by kernel_rfl) ⟨by simpa [go_sem] using k0, by simpa [go_sem] using k1, by simpa [go_sem] using k2, by simpa [go_sem] using y0⟩ (fun hHeld => ?_)
            refine wpAnyH_take (i := 0) (oi := _) (v := Value.agg #[Value.int .i64 sl, Value.int .i64 sh, Value.slice (some ⟨nb, off, none⟩) n cap]) rfl (by kernel_rfl) (by kernel_rfl) (by kernel_rfl) (fun _ _ _ h => h) (Or.inl ⟨by rfl, fun w' hSw => ?_⟩) hHeld ?_
            · obtain ⟨t0, t1, t2, t3⟩ := hSw
              go_simp
              try simp [*]
              try (intro hh; exfalso; omega)
              try omega
            try simp only [Act.put, List.setIfInBounds_toArray, List.set_cons_zero, List.set_cons_succ, List.getElem_toArray, List.getElem_cons_succ, List.getElem_cons_zero]
            refine wpAnyH_take (i := 1) (oi := _) (v := Value.slice (some ⟨pg, 0, none⟩) m pc) rfl (by kernel_rfl) (by kernel_rfl) (by kernel_rfl) (fun _ _ _ h => h) (Or.inl ⟨by rfl, fun w' hSw => ?_⟩) hHeld ?_
            · obtain ⟨t0, t1, t2, t3⟩ := hSw
              go_simp
              try simp [*]
              try (intro hh; exfalso; omega)
              try omega
            try simp only [Act.put, List.setIfInBounds_toArray, List.set_cons_zero, List.set_cons_succ, List.getElem_toArray, List.getElem_cons_succ, List.getElem_cons_zero]
            refine wpAnyH_take (i := 2) (oi := _) (v := Value.int .i64 (i : Int)) rfl (by kernel_rfl) (by kernel_rfl) (by kernel_rfl) (fun _ _ _ h => h) (Or.inl ⟨by rfl, fun w' hSw => ?_⟩) hHeld ?_
            · obtain ⟨t0, t1, t2, t3⟩ := hSw
              go_simp
              try simp [*]
              try (intro hh; exfalso; omega)
              try omega
            try simp only [Act.put, List.setIfInBounds_toArray, List.set_cons_zero, List.set_cons_succ, List.getElem_toArray, List.getElem_cons_succ, List.getElem_cons_zero]
            refine wpAnyH_take (i := 3) (oi := _) (v := Value.pointer (some ⟨pg, i, none⟩)) rfl (by kernel_rfl) (by kernel_rfl) (by kernel_rfl) (fun _ _ _ h => h) (Or.inl ⟨by rfl, fun w' hSw => ?_⟩) hHeld ?_
            · obtain ⟨t0, t1, t2, t3⟩ := hSw
              go_simp
              try simp [*]
              try (intro hh; exfalso; omega)
              try omega
            try simp only [Act.put, List.setIfInBounds_toArray, List.set_cons_zero, List.set_cons_succ, List.getElem_toArray, List.getElem_cons_succ, List.getElem_cons_zero]
            refine wpAnyH_take (i := 4) (oi := _) (v := Value.int .i64 (x : Int)) rfl (by kernel_rfl) (by kernel_rfl) (by kernel_rfl) (fun _ _ _ h => h) (Or.inl ⟨by rfl, fun w' hSw => ?_⟩) hHeld ?_
            · obtain ⟨t0, t1, t2, t3⟩ := hSw
              go_simp
              try simp [*]
              try (intro hh; exfalso; omega)
              try omega
            try simp only [Act.put, List.setIfInBounds_toArray, List.set_cons_zero, List.set_cons_succ, List.getElem_toArray, List.getElem_cons_succ, List.getElem_cons_zero]
            refine wpAnyH_ready (rs := [5]) (by kernel_rfl) (by simp) ?_
            refine AllReadyH.cons (o := _) rfl (fun K hK => ?_) AllReadyH.nil
            go_simp
            go_at_call 15
            refine Calls.mono (cUX.out _ (HUP.out _ HD1.out)) ?_
            rintro e w6 ⟨uv, rfl, hU, hb⟩
            obtain ⟨ug, uc, rfl, -, -, hugl, huc⟩ := own_next hU hsj
            have HB6 := Lib.hid (show Below W1.heap.size W1 w6 from HBW.out.trans (hb.mono HBW.out.size))
            have HUC := Lib.hid (show ∀ Z, Below w6.heap.size w6 Z → ∀ t, t < um → Z.cell? ⟨ug, t, none⟩ = some (.int .i64 (tn U t : Int)) from fun Z h t ht => (h.cell (p := ⟨ug, t, none⟩) hugl).trans (huc t ht))
            have HK6 := Lib.hid (show (w6.cell? ⟨w.heap.size, 0, none⟩ = some (.int .i64 sl) ∧ w6.cell? ⟨w.heap.size, 1, none⟩ = some (.int .i64 sh) ∧ w6.cell? ⟨w.heap.size, 2, none⟩ = some (.slice (some ⟨nb, off, none⟩) n cap) ∧ w6.cell? ⟨pg, i, none⟩ = some (.int .i64 (x : Int))) from by
                obtain ⟨q0, q1, q2⟩ := KK.out w6 (HBA1.out.trans (HB6.out.mono HBA1.out.size))
                exact ⟨q0, q1, q2, HYC.out _ HB6.out⟩)
            clear hb hU huc hugl
            clear hHeld
            refine hK.out _ _ HK6.out (fun hHeld => ?_)
            clear hK K
            try simp only [Act.put, List.setIfInBounds_toArray, List.set_cons_zero, List.set_cons_succ, List.getElem_toArray, List.getElem_cons_succ, List.getElem_cons_zero]
            refine wpAnyH_take (i := 6) (oi := _) (v := Value.tuple #[.slice (some ⟨ug, 0, none⟩) um uc, .int .i64 0]) rfl (by kernel_rfl) (by kernel_rfl) (by kernel_rfl) (fun _ _ _ h => h) (Or.inl ⟨by rfl, fun w' hSw => ?_⟩) hHeld ?_
            · obtain ⟨t0, t1, t2, t3⟩ := hSw
              go_simp
              try simp [*]
              try (intro hh; exfalso; omega)
              try omega
            try simp only [Act.put, List.setIfInBounds_toArray, List.set_cons_zero, List.set_cons_succ, List.getElem_toArray, List.getElem_cons_succ, List.getElem_cons_zero]
            refine wpAnyH_take (i := 7) (oi := _) (v := .slice (some ⟨ug, 0, none⟩) um uc) rfl (by kernel_rfl) (by kernel_rfl) (by kernel_rfl) (fun _ _ _ h => h) (Or.inl ⟨by rfl, fun w' hSw => ?_⟩) hHeld ?_
            · obtain ⟨t0, t1, t2, t3⟩ := hSw
              go_simp
              try simp [*]
              try (intro hh; exfalso; omega)
              try omega
            try simp only [Act.put, List.setIfInBounds_toArray, List.set_cons_zero, List.set_cons_succ, List.getElem_toArray, List.getElem_cons_succ, List.getElem_cons_zero]
            refine wpAnyH_take (i := 8) (oi := _) (v := .int .i64 0) rfl (by kernel_rfl) (by kernel_rfl) (by kernel_rfl) (fun _ _ _ h => h) (Or.inl ⟨by rfl, fun w' hSw => ?_⟩) hHeld ?_
            · obtain ⟨t0, t1, t2, t3⟩ := hSw
              go_simp
              try simp [*]
              try (intro hh; exfalso; omega)
              try omega
            try simp only [Act.put, List.setIfInBounds_toArray, List.set_cons_zero, List.set_cons_succ, List.getElem_toArray, List.getElem_cons_succ, List.getElem_cons_zero]
            refine wpAnyH_take (i := 9) (oi := _) (v := .slice (some ⟨ug, 0, none⟩) um uc) rfl (by kernel_rfl) (by kernel_rfl) (by kernel_rfl) (fun _ _ _ h => h) (Or.inl ⟨by rfl, fun w' hSw => ?_⟩) hHeld ?_
            · obtain ⟨t0, t1, t2, t3⟩ := hSw
              go_simp
              try simp [*]
              try (intro hh; exfalso; omega)
              try omega
            try simp only [Act.put, List.setIfInBounds_toArray, List.set_cons_zero, List.set_cons_succ, List.getElem_toArray, List.getElem_cons_succ, List.getElem_cons_zero]
            refine wpAnyH_take (i := 10) (oi := _) (v := .int .i64 0) rfl (by kernel_rfl) (by kernel_rfl) (by kernel_rfl) (fun _ _ _ h => h) (Or.inl ⟨by rfl, fun w' hSw => ?_⟩) hHeld ?_
            · obtain ⟨t0, t1, t2, t3⟩ := hSw
              go_simp
              try simp [*]
              try (intro hh; exfalso; omega)
              try omega
            try simp only [Act.put, List.setIfInBounds_toArray, List.set_cons_zero, List.set_cons_succ, List.getElem_toArray, List.getElem_cons_succ, List.getElem_cons_zero]
            refine wpAnyH_done (by kernel_rfl) ?_ _
            clear hHeld
            have HBW6 := Lib.hid HB6.out
            go_wp2_with fail
            go_loopw [19, 20] (fun sv' jv wr => ∃ j : Nat, j ≤ um ∧ jv = .int .i64 j ∧ sv' = .int .i64 (ls GF (U.take j)) ∧ Below w6.heap.size w6 wr) (fun _ jv _ => um - (intOf jv).toNat)
            case atStart => exact ⟨0, Nat.zero_le _, rfl, rfl, Below.refl _ _⟩
            case round =>
              obtain ⟨j, hj, rfl, rfl, hBj⟩ := hrel
              have HBJ := Lib.hid hBj
              clear hBj
              have HB36 := Lib.hid (show Below w3.heap.size w3 wr from HG5.out.trans ((HBI.out.trans ((HB6.out.trans (HBJ.out.mono HB6.out.size)).mono HBI.out.size)).mono HG5.out.size))
              by_cases hltj : j < um
              · have hji : (j : Int) < (um : Int) := by omega
                have z0 := HUC.out wr HBJ.out j hltj
                have hyn := HSX.out j hltj
                have HLJ := Lib.hid (show ls GF (U.take (j + 1)) = ls GF (U.take j) + GF (tn U j) by rw [tn_take (by have := HUM.out; omega), ls_app]; simp [ls])
                have hb1 := HLS.out (U.take (j + 1)) (by rw [List.length_take]; omega)
                rw [HLJ.out] at hb1
                generalize tn U j = y at *
                have z1 := HGC.out wr HB36.out y hyn
                generalize GF y = gy at *
                generalize ls GF (U.take j) = s0 at *
                have hyi : (y : Int) < (n : Int) := by omega
                have hy0 : ¬ (y : Int) < 0 := by omega
                have hyg : ¬ (n : Int) ≤ (y : Int) := by omega
                have hw2 : wrap64 (s0 + gy) = s0 + gy := by unfold wrap64; omega
                clear hb1
                go_wp2_with fail
                go_roundw
                case rel => exact ⟨j + 1, by omega, by go_num, by rw [HLJ.out, hw2], HBJ.out⟩
                case measure => simp [intOf]; omega
              · obtain rfl : um = j := by omega
                have HTK := Lib.hid (show ls GF (U.take um) = SM x by rw [← HUM.out, List.take_length]; exact HSS.out)
                rw [HTK.out]
                have HBA6 := Lib.hid (show Below A.heap.size A wr from HBA1.out.trans ((HB6.out.trans (HBJ.out.mono HB6.out.size)).mono HBA1.out.size))
                have HB51 := Lib.hid (show Below w5.heap.size w5 wr from HBI.out.trans ((HB6.out.trans (HBJ.out.mono HB6.out.size)).mono HBI.out.size))
                have y1 := HYC.out wr (HB6.out.trans (HBJ.out.mono HB6.out.size))
                have l4 := HLC.out _ x (HUP.out _ HBA6.out) hxn
                obtain ⟨m0, m1, m2⟩ := KK.out _ HBA6.out
                generalize hsx : SM x = sx at *
                generalize hlx : lim x = lx at *
                have HSXX := Lib.hid hsx
                have HLXX := Lib.hid hlx
                clear hsx hlx
                go_upto_region 31 with fail
                cases bl
                · by_cases hsl2 : sx = lx
                  · subst hsl2
                    refine wp_region_held_drew (S := fun w' => w'.cell? ⟨w.heap.size, 2, none⟩ = some (Value.slice (some ⟨nb, off, none⟩) n cap) ∧ w'.cell? ⟨pg, i, none⟩ = some (Value.int .i64 (x : Int)) ∧ w'.cell? ⟨nb, off + x * 8 + 3, none⟩ = some (Value.int .i64 sx)) (by kernel_rfl) ⟨by simpa [go_sem] using m2, by simpa [go_sem] using y1, by simpa [go_sem] using l4⟩ (fun hHeld => ?_)
                    refine wpAnyH_take (i := 0) (oi := _) (v := Value.bool false) rfl (by kernel_rfl) (by kernel_rfl) (by kernel_rfl) (fun _ _ _ h => h) (Or.inl ⟨by rfl, fun w' hSw => ?_⟩) hHeld ?_
                    · obtain ⟨t0, t1, t2⟩ := hSw
                      go_simp
                      try simp [*]
                      try (intro hh; exfalso; omega)
                      try omega
                    try simp only [Act.put, List.setIfInBounds_toArray, List.set_cons_zero, List.set_cons_succ, List.getElem_toArray, List.getElem_cons_succ, List.getElem_cons_zero]
                    refine wpAnyH_take (i := 1) (oi := _) (v := Value.bool false) rfl (by kernel_rfl) (by kernel_rfl) (by kernel_rfl) (fun _ _ _ h => h) (Or.inl ⟨by rfl, fun w' hSw => ?_⟩) hHeld ?_
                    · obtain ⟨t0, t1, t2⟩ := hSw
                      go_simp
                      try simp [*]
                      try (intro hh; exfalso; omega)
                      try omega
                    try simp only [Act.put, List.setIfInBounds_toArray, List.set_cons_zero, List.set_cons_succ, List.getElem_toArray, List.getElem_cons_succ, List.getElem_cons_zero]
                    refine wpAnyH_take (i := 2) (oi := _) (v := Value.int .i64 0) rfl (by kernel_rfl) (by kernel_rfl) (by kernel_rfl) (fun _ _ _ h => h) (Or.inl ⟨by rfl, fun w' hSw => ?_⟩) hHeld ?_
                    · obtain ⟨t0, t1, t2⟩ := hSw
                      go_simp
                      try simp [*]
                      try (intro hh; exfalso; omega)
                      try omega
                    try simp only [Act.put, List.setIfInBounds_toArray, List.set_cons_zero, List.set_cons_succ, List.getElem_toArray, List.getElem_cons_succ, List.getElem_cons_zero]
                    refine wpAnyH_take (i := 3) (oi := _) (v := Value.bool true) rfl (by kernel_rfl) (by kernel_rfl) (by kernel_rfl) (fun _ _ _ h => h) (Or.inl ⟨by rfl, fun w' hSw => ?_⟩) hHeld ?_
                    · obtain ⟨t0, t1, t2⟩ := hSw
                      go_simp
                      try simp [*]
                      try (intro hh; exfalso; omega)
                      try omega
                    try simp only [Act.put, List.setIfInBounds_toArray, List.set_cons_zero, List.set_cons_succ, List.getElem_toArray, List.getElem_cons_succ, List.getElem_cons_zero]
                    refine wpAnyH_take (i := 4) (oi := _) (v := Value.bool true) rfl (by kernel_rfl) (by kernel_rfl) (by kernel_rfl) (fun _ _ _ h => h) (Or.inl ⟨by rfl, fun w' hSw => ?_⟩) hHeld ?_
                    · obtain ⟨t0, t1, t2⟩ := hSw
                      go_simp
                      try simp [*]
                      try (intro hh; exfalso; omega)
                      try omega
                    try simp only [Act.put, List.setIfInBounds_toArray, List.set_cons_zero, List.set_cons_succ, List.getElem_toArray, List.getElem_cons_succ, List.getElem_cons_zero]
                    refine wpAnyH_take (i := 5) (oi := _) (v := Value.int .i64 sx) rfl (by kernel_rfl) (by kernel_rfl) (by kernel_rfl) (fun _ _ _ h => h) (Or.inl ⟨by rfl, fun w' hSw => ?_⟩) hHeld ?_
                    · obtain ⟨t0, t1, t2⟩ := hSw
                      go_simp
                      try simp [*]
                      try (intro hh; exfalso; omega)
                      try omega
                    try simp only [Act.put, List.setIfInBounds_toArray, List.set_cons_zero, List.set_cons_succ, List.getElem_toArray, List.getElem_cons_succ, List.getElem_cons_zero]
                    refine wpAnyH_take (i := 6) (oi := _) (v := Value.pointer (some ⟨w.heap.size, 2, none⟩)) rfl (by kernel_rfl) (by kernel_rfl) (by kernel_rfl) (fun _ _ _ h => h) (Or.inl ⟨by rfl, fun w' hSw => ?_⟩) hHeld ?_
                    · obtain ⟨t0, t1, t2⟩ := hSw
                      go_simp
                      try simp [*]
                      try (intro hh; exfalso; omega)
                      try omega
                    try simp only [Act.put, List.setIfInBounds_toArray, List.set_cons_zero, List.set_cons_succ, List.getElem_toArray, List.getElem_cons_succ, List.getElem_cons_zero]
                    refine wpAnyH_take (i := 7) (oi := _) (v := Value.slice (some ⟨nb, off, none⟩) n cap) rfl (by kernel_rfl) (by kernel_rfl) (by kernel_rfl) (fun _ _ _ h => h) (Or.inl ⟨by rfl, fun w' hSw => ?_⟩) hHeld ?_
                    · obtain ⟨t0, t1, t2⟩ := hSw
                      go_simp
                      try simp [*]
                      try (intro hh; exfalso; omega)
                      try omega
                    try simp only [Act.put, List.setIfInBounds_toArray, List.set_cons_zero, List.set_cons_succ, List.getElem_toArray, List.getElem_cons_succ, List.getElem_cons_zero]
                    refine wpAnyH_take (i := 8) (oi := _) (v := Value.slice (some ⟨pg, 0, none⟩) m pc) rfl (by kernel_rfl) (by kernel_rfl) (by kernel_rfl) (fun _ _ _ h => h) (Or.inl ⟨by rfl, fun w' hSw => ?_⟩) hHeld ?_
                    · obtain ⟨t0, t1, t2⟩ := hSw
                      go_simp
                      try simp [*]
                      try (intro hh; exfalso; omega)
                      try omega
                    try simp only [Act.put, List.setIfInBounds_toArray, List.set_cons_zero, List.set_cons_succ, List.getElem_toArray, List.getElem_cons_succ, List.getElem_cons_zero]
                    refine wpAnyH_take (i := 9) (oi := _) (v := Value.int .i64 (i : Int)) rfl (by kernel_rfl) (by kernel_rfl) (by kernel_rfl) (fun _ _ _ h => h) (Or.inl ⟨by rfl, fun w' hSw => ?_⟩) hHeld ?_
                    · obtain ⟨t0, t1, t2⟩ := hSw
                      go_simp
                      try simp [*]
                      try (intro hh; exfalso; omega)
                      try omega
                    try simp only [Act.put, List.setIfInBounds_toArray, List.set_cons_zero, List.set_cons_succ, List.getElem_toArray, List.getElem_cons_succ, List.getElem_cons_zero]
                    refine wpAnyH_take (i := 10) (oi := _) (v := Value.pointer (some ⟨pg, i, none⟩)) rfl (by kernel_rfl) (by kernel_rfl) (by kernel_rfl) (fun _ _ _ h => h) (Or.inl ⟨by rfl, fun w' hSw => ?_⟩) hHeld ?_
                    · obtain ⟨t0, t1, t2⟩ := hSw
                      go_simp
                      try simp [*]
                      try (intro hh; exfalso; omega)
                      try omega
                    try simp only [Act.put, List.setIfInBounds_toArray, List.set_cons_zero, List.set_cons_succ, List.getElem_toArray, List.getElem_cons_succ, List.getElem_cons_zero]
                    refine wpAnyH_take (i := 11) (oi := _) (v := Value.int .i64 (x : Int)) rfl (by kernel_rfl) (by kernel_rfl) (by kernel_rfl) (fun _ _ _ h => h) (Or.inl ⟨by rfl, fun w' hSw => ?_⟩) hHeld ?_
                    · obtain ⟨t0, t1, t2⟩ := hSw
                      go_simp
                      try simp [*]
                      try (intro hh; exfalso; omega)
                      try omega
                    try simp only [Act.put, List.setIfInBounds_toArray, List.set_cons_zero, List.set_cons_succ, List.getElem_toArray, List.getElem_cons_succ, List.getElem_cons_zero]
                    refine wpAnyH_take (i := 12) (oi := _) (v := Value.pointer (some ⟨nb, off + x * 8, none⟩)) rfl (by kernel_rfl) (by kernel_rfl) (by kernel_rfl) (fun _ _ _ h => h) (Or.inl ⟨by rfl, fun w' hSw => ?_⟩) hHeld ?_
                    · obtain ⟨t0, t1, t2⟩ := hSw
                      go_simp
                      try simp [*]
                      try (intro hh; exfalso; omega)
                      try omega
                    try simp only [Act.put, List.setIfInBounds_toArray, List.set_cons_zero, List.set_cons_succ, List.getElem_toArray, List.getElem_cons_succ, List.getElem_cons_zero]
                    refine wpAnyH_take (i := 13) (oi := _) (v := Value.pointer (some ⟨nb, off + x * 8 + 3, none⟩)) rfl (by kernel_rfl) (by kernel_rfl) (by kernel_rfl) (fun _ _ _ h => h) (Or.inl ⟨by rfl, fun w' hSw => ?_⟩) hHeld ?_
                    · obtain ⟨t0, t1, t2⟩ := hSw
                      go_simp
                      try simp [*]
                      try (intro hh; exfalso; omega)
                      try omega
                    try simp only [Act.put, List.setIfInBounds_toArray, List.set_cons_zero, List.set_cons_succ, List.getElem_toArray, List.getElem_cons_succ, List.getElem_cons_zero]
                    refine wpAnyH_take (i := 14) (oi := _) (v := Value.int .i64 sx) rfl (by kernel_rfl) (by kernel_rfl) (by kernel_rfl) (fun _ _ _ h => h) (Or.inl ⟨by rfl, fun w' hSw => ?_⟩) hHeld ?_
                    · obtain ⟨t0, t1, t2⟩ := hSw
                      go_simp
                      try simp [*]
                      try (intro hh; exfalso; omega)
                      try omega
                    try simp only [Act.put, List.setIfInBounds_toArray, List.set_cons_zero, List.set_cons_succ, List.getElem_toArray, List.getElem_cons_succ, List.getElem_cons_zero]
                    refine wpAnyH_take (i := 15) (oi := _) (v := Value.bool true) rfl (by kernel_rfl) (by kernel_rfl) (by kernel_rfl) (fun _ _ _ h => h) (Or.inl ⟨by rfl, fun w' hSw => ?_⟩) hHeld ?_
                    · obtain ⟨t0, t1, t2⟩ := hSw
                      go_simp
                      try simp [*]
                      try (intro hh; exfalso; omega)
                      try omega
                    try simp only [Act.put, List.setIfInBounds_toArray, List.set_cons_zero, List.set_cons_succ, List.getElem_toArray, List.getElem_cons_succ, List.getElem_cons_zero]
                    refine wpAnyH_take (i := 16) (oi := _) (v := Value.bool true) rfl (by kernel_rfl) (by kernel_rfl) (by kernel_rfl) (fun _ _ _ h => h) (Or.inl ⟨by rfl, fun w' hSw => ?_⟩) hHeld ?_
                    · obtain ⟨t0, t1, t2⟩ := hSw
                      go_simp
                      try simp [*]
                      try (intro hh; exfalso; omega)
                      try omega
                    try simp only [Act.put, List.setIfInBounds_toArray, List.set_cons_zero, List.set_cons_succ, List.getElem_toArray, List.getElem_cons_succ, List.getElem_cons_zero]
                    refine wpAnyH_take (i := 17) (oi := _) (v := Value.bool true) rfl (by kernel_rfl) (by kernel_rfl) (by kernel_rfl) (fun _ _ _ h => h) (Or.inl ⟨by rfl, fun w' hSw => ?_⟩) hHeld ?_
                    · obtain ⟨t0, t1, t2⟩ := hSw
                      go_simp
                      try simp [*]
                      try (intro hh; exfalso; omega)
                      try omega
                    try simp only [Act.put, List.setIfInBounds_toArray, List.set_cons_zero, List.set_cons_succ, List.getElem_toArray, List.getElem_cons_succ, List.getElem_cons_zero]
                    refine wpAnyH_take (i := 18) (oi := _) (v := Value.bool true) rfl (by kernel_rfl) (by kernel_rfl) (by kernel_rfl) (fun _ _ _ h => h) (Or.inl ⟨by rfl, fun w' hSw => ?_⟩) hHeld ?_
                    · obtain ⟨t0, t1, t2⟩ := hSw
                      go_simp
                      try simp [*]
                      try (intro hh; exfalso; omega)
                      try omega
                    try simp only [Act.put, List.setIfInBounds_toArray, List.set_cons_zero, List.set_cons_succ, List.getElem_toArray, List.getElem_cons_succ, List.getElem_cons_zero]
                    refine wpAnyH_done (by kernel_rfl) ?_ _
                    clear hHeld
                    go_wp2_with fail
                    go_roundw
                    case rel => exact ⟨i + 1, true, by omega, by go_num, rfl, fun _ => rfl, HB51.out.drew⟩
                    case measure => simp [intOf]; omega
                  · have hne : (sx == lx) = false := by simpa using hsl2
                    refine wp_region_held_drew (S := fun w' => w'.cell? ⟨w.heap.size, 2, none⟩ = some (Value.slice (some ⟨nb, off, none⟩) n cap) ∧ w'.cell? ⟨pg, i, none⟩ = some (Value.int .i64 (x : Int)) ∧ w'.cell? ⟨nb, off + x * 8 + 3, none⟩ = some (Value.int .i64 lx)) (by kernel_rfl) ⟨by simpa [go_sem] using m2, by simpa [go_sem] using y1, by simpa [go_sem] using l4⟩ (fun hHeld => ?_)
                    refine wpAnyH_take (i := 0) (oi := _) (v := Value.bool false) rfl (by kernel_rfl) (by kernel_rfl) (by kernel_rfl) (fun _ _ _ h => h) (Or.inl ⟨by rfl, fun w' hSw => ?_⟩) hHeld ?_
                    · obtain ⟨t0, t1, t2⟩ := hSw
                      go_simp
                      try simp [*]
                      try (intro hh; exfalso; omega)
                      try omega
                    try simp only [Act.put, List.setIfInBounds_toArray, List.set_cons_zero, List.set_cons_succ, List.getElem_toArray, List.getElem_cons_succ, List.getElem_cons_zero]
                    refine wpAnyH_take (i := 1) (oi := _) (v := Value.bool false) rfl (by kernel_rfl) (by kernel_rfl) (by kernel_rfl) (fun _ _ _ h => h) (Or.inl ⟨by rfl, fun w' hSw => ?_⟩) hHeld ?_
                    · obtain ⟨t0, t1, t2⟩ := hSw
                      go_simp
                      try simp [*]
                      try (intro hh; exfalso; omega)
                      try omega
                    try simp only [Act.put, List.setIfInBounds_toArray, List.set_cons_zero, List.set_cons_succ, List.getElem_toArray, List.getElem_cons_succ, List.getElem_cons_zero]
                    refine wpAnyH_take (i := 2) (oi := _) (v := Value.int .i64 0) rfl (by kernel_rfl) (by kernel_rfl) (by kernel_rfl) (fun _ _ _ h => h) (Or.inl ⟨by rfl, fun w' hSw => ?_⟩) hHeld ?_
                    · obtain ⟨t0, t1, t2⟩ := hSw
                      go_simp
                      try simp [*]
                      try (intro hh; exfalso; omega)
                      try omega
                    try simp only [Act.put, List.setIfInBounds_toArray, List.set_cons_zero, List.set_cons_succ, List.getElem_toArray, List.getElem_cons_succ, List.getElem_cons_zero]
                    refine wpAnyH_take (i := 3) (oi := _) (v := Value.bool true) rfl (by kernel_rfl) (by kernel_rfl) (by kernel_rfl) (fun _ _ _ h => h) (Or.inl ⟨by rfl, fun w' hSw => ?_⟩) hHeld ?_
                    · obtain ⟨t0, t1, t2⟩ := hSw
                      go_simp
                      try simp [*]
                      try (intro hh; exfalso; omega)
                      try omega
                    try simp only [Act.put, List.setIfInBounds_toArray, List.set_cons_zero, List.set_cons_succ, List.getElem_toArray, List.getElem_cons_succ, List.getElem_cons_zero]
                    refine wpAnyH_take (i := 4) (oi := _) (v := Value.bool true) rfl (by kernel_rfl) (by kernel_rfl) (by kernel_rfl) (fun _ _ _ h => h) (Or.inl ⟨by rfl, fun w' hSw => ?_⟩) hHeld ?_
                    · obtain ⟨t0, t1, t2⟩ := hSw
                      go_simp
                      try simp [*]
                      try (intro hh; exfalso; omega)
                      try omega
                    try simp only [Act.put, List.setIfInBounds_toArray, List.set_cons_zero, List.set_cons_succ, List.getElem_toArray, List.getElem_cons_succ, List.getElem_cons_zero]
                    refine wpAnyH_take (i := 5) (oi := _) (v := Value.int .i64 sx) rfl (by kernel_rfl) (by kernel_rfl) (by kernel_rfl) (fun _ _ _ h => h) (Or.inl ⟨by rfl, fun w' hSw => ?_⟩) hHeld ?_
                    · obtain ⟨t0, t1, t2⟩ := hSw
                      go_simp
                      try simp [*]
                      try (intro hh; exfalso; omega)
                      try omega
                    try simp only [Act.put, List.setIfInBounds_toArray, List.set_cons_zero, List.set_cons_succ, List.getElem_toArray, List.getElem_cons_succ, List.getElem_cons_zero]
                    refine wpAnyH_take (i := 6) (oi := _) (v := Value.pointer (some ⟨w.heap.size, 2, none⟩)) rfl (by kernel_rfl) (by kernel_rfl) (by kernel_rfl) (fun _ _ _ h => h) (Or.inl ⟨by rfl, fun w' hSw => ?_⟩) hHeld ?_
                    · obtain ⟨t0, t1, t2⟩ := hSw
                      go_simp
                      try simp [*]
                      try (intro hh; exfalso; omega)
                      try omega
                    try simp only [Act.put, List.setIfInBounds_toArray, List.set_cons_zero, List.set_cons_succ, List.getElem_toArray, List.getElem_cons_succ, List.getElem_cons_zero]
                    refine wpAnyH_take (i := 7) (oi := _) (v := Value.slice (some ⟨nb, off, none⟩) n cap) rfl (by kernel_rfl) (by kernel_rfl) (by kernel_rfl) (fun _ _ _ h => h) (Or.inl ⟨by rfl, fun w' hSw => ?_⟩) hHeld ?_
                    · obtain ⟨t0, t1, t2⟩ := hSw
                      go_simp
                      try simp [*]
                      try (intro hh; exfalso; omega)
                      try omega
                    try simp only [Act.put, List.setIfInBounds_toArray, List.set_cons_zero, List.set_cons_succ, List.getElem_toArray, List.getElem_cons_succ, List.getElem_cons_zero]
                    refine wpAnyH_take (i := 8) (oi := _) (v := Value.slice (some ⟨pg, 0, none⟩) m pc) rfl (by kernel_rfl) (by kernel_rfl) (by kernel_rfl) (fun _ _ _ h => h) (Or.inl ⟨by rfl, fun w' hSw => ?_⟩) hHeld ?_
                    · obtain ⟨t0, t1, t2⟩ := hSw
                      go_simp
                      try simp [*]
                      try (intro hh; exfalso; omega)
                      try omega
                    try simp only [Act.put, List.setIfInBounds_toArray, List.set_cons_zero, List.set_cons_succ, List.getElem_toArray, List.getElem_cons_succ, List.getElem_cons_zero]
                    refine wpAnyH_take (i := 9) (oi := _) (v := Value.int .i64 (i : Int)) rfl (by kernel_rfl) (by kernel_rfl) (by kernel_rfl) (fun _ _ _ h => h) (Or.inl ⟨by rfl, fun w' hSw => ?_⟩) hHeld ?_
                    · obtain ⟨t0, t1, t2⟩ := hSw
                      go_simp
                      try simp [*]
                      try (intro hh; exfalso; omega)
                      try omega
                    try simp only [Act.put, List.setIfInBounds_toArray, List.set_cons_zero, List.set_cons_succ, List.getElem_toArray, List.getElem_cons_succ, List.getElem_cons_zero]
                    refine wpAnyH_take (i := 10) (oi := _) (v := Value.pointer (some ⟨pg, i, none⟩)) rfl (by kernel_rfl) (by kernel_rfl) (by kernel_rfl) (fun _ _ _ h => h) (Or.inl ⟨by rfl, fun w' hSw => ?_⟩) hHeld ?_
                    · obtain ⟨t0, t1, t2⟩ := hSw
                      go_simp
                      try simp [*]
                      try (intro hh; exfalso; omega)
                      try omega
                    try simp only [Act.put, List.setIfInBounds_toArray, List.set_cons_zero, List.set_cons_succ, List.getElem_toArray, List.getElem_cons_succ, List.getElem_cons_zero]
                    refine wpAnyH_take (i := 11) (oi := _) (v := Value.int .i64 (x : Int)) rfl (by kernel_rfl) (by kernel_rfl) (by kernel_rfl) (fun _ _ _ h => h) (Or.inl ⟨by rfl, fun w' hSw => ?_⟩) hHeld ?_
                    · obtain ⟨t0, t1, t2⟩ := hSw
                      go_simp
                      try simp [*]
                      try (intro hh; exfalso; omega)
                      try omega
                    try simp only [Act.put, List.setIfInBounds_toArray, List.set_cons_zero, List.set_cons_succ, List.getElem_toArray, List.getElem_cons_succ, List.getElem_cons_zero]
                    refine wpAnyH_take (i := 12) (oi := _) (v := Value.pointer (some ⟨nb, off + x * 8, none⟩)) rfl (by kernel_rfl) (by kernel_rfl) (by kernel_rfl) (fun _ _ _ h => h) (Or.inl ⟨by rfl, fun w' hSw => ?_⟩) hHeld ?_
                    · obtain ⟨t0, t1, t2⟩ := hSw
                      go_simp
                      try simp [*]
                      try (intro hh; exfalso; omega)
                      try omega
                    try simp only [Act.put, List.setIfInBounds_toArray, List.set_cons_zero, List.set_cons_succ, List.getElem_toArray, List.getElem_cons_succ, List.getElem_cons_zero]
                    refine wpAnyH_take (i := 13) (oi := _) (v := Value.pointer (some ⟨nb, off + x * 8 + 3, none⟩)) rfl (by kernel_rfl) (by kernel_rfl) (by kernel_rfl) (fun _ _ _ h => h) (Or.inl ⟨by rfl, fun w' hSw => ?_⟩) hHeld ?_
                    · obtain ⟨t0, t1, t2⟩ := hSw
                      go_simp
                      try simp [*]
                      try (intro hh; exfalso; omega)
                      try omega
                    try simp only [Act.put, List.setIfInBounds_toArray, List.set_cons_zero, List.set_cons_succ, List.getElem_toArray, List.getElem_cons_succ, List.getElem_cons_zero]
                    refine wpAnyH_take (i := 14) (oi := _) (v := Value.int .i64 lx) rfl (by kernel_rfl) (by kernel_rfl) (by kernel_rfl) (fun _ _ _ h => h) (Or.inl ⟨by rfl, fun w' hSw => ?_⟩) hHeld ?_
                    · obtain ⟨t0, t1, t2⟩ := hSw
                      go_simp
                      try simp [*]
                      try (intro hh; exfalso; omega)
                      try omega
                    try simp only [Act.put, List.setIfInBounds_toArray, List.set_cons_zero, List.set_cons_succ, List.getElem_toArray, List.getElem_cons_succ, List.getElem_cons_zero]
                    refine wpAnyH_take (i := 15) (oi := _) (v := Value.bool false) rfl (by kernel_rfl) (by kernel_rfl) (by kernel_rfl) (fun _ _ _ h => h) (Or.inl ⟨by rfl, fun w' hSw => ?_⟩) hHeld ?_
                    · obtain ⟨t0, t1, t2⟩ := hSw
                      go_simp
                      try simp [*]
                      try (intro hh; exfalso; omega)
                      try omega
                    try simp only [Act.put, List.setIfInBounds_toArray, List.set_cons_zero, List.set_cons_succ, List.getElem_toArray, List.getElem_cons_succ, List.getElem_cons_zero]
                    refine wpAnyH_take (i := 16) (oi := _) (v := Value.bool false) rfl (by kernel_rfl) (by kernel_rfl) (by kernel_rfl) (fun _ _ _ h => h) (Or.inl ⟨by rfl, fun w' hSw => ?_⟩) hHeld ?_
                    · obtain ⟨t0, t1, t2⟩ := hSw
                      go_simp
                      try simp [*]
                      try (intro hh; exfalso; omega)
                      try omega
                    try simp only [Act.put, List.setIfInBounds_toArray, List.set_cons_zero, List.set_cons_succ, List.getElem_toArray, List.getElem_cons_succ, List.getElem_cons_zero]
                    refine wpAnyH_take (i := 17) (oi := _) (v := Value.bool false) rfl (by kernel_rfl) (by kernel_rfl) (by kernel_rfl) (fun _ _ _ h => h) (Or.inl ⟨by rfl, fun w' hSw => ?_⟩) hHeld ?_
                    · obtain ⟨t0, t1, t2⟩ := hSw
                      go_simp
                      try simp [*]
                      try (intro hh; exfalso; omega)
                      try omega
                    try simp only [Act.put, List.setIfInBounds_toArray, List.set_cons_zero, List.set_cons_succ, List.getElem_toArray, List.getElem_cons_succ, List.getElem_cons_zero]
                    refine wpAnyH_take (i := 18) (oi := _) (v := Value.bool false) rfl (by kernel_rfl) (by kernel_rfl) (by kernel_rfl) (fun _ _ _ h => h) (Or.inl ⟨by rfl, fun w' hSw => ?_⟩) hHeld ?_
                    · obtain ⟨t0, t1, t2⟩ := hSw
                      go_simp
                      try simp [*]
                      try (intro hh; exfalso; omega)
                      try omega
                    try simp only [Act.put, List.setIfInBounds_toArray, List.set_cons_zero, List.set_cons_succ, List.getElem_toArray, List.getElem_cons_succ, List.getElem_cons_zero]
                    refine wpAnyH_done (by kernel_rfl) ?_ _
                    clear hHeld
                    go_wp2_with fail
                    go_roundw
                    case rel =>
                      refine ⟨i + 1, false, by omega, by go_num, rfl, fun h => ?_, HB51.out.drew⟩
                      exfalso
                      by_cases e : i = t0
                      · exact hsl2 (HFX.out e)
                      · exact absurd (HBL.out (by omega)) (by simp)
                    case measure => simp [intOf]; omega
                · skip
                  refine wp_region_held_drew (S := fun w' => w'.cell? ⟨w.heap.size, 2, none⟩ = some (Value.slice (some ⟨nb, off, none⟩) n cap) ∧ w'.cell? ⟨pg, i, none⟩ = some (Value.int .i64 (x : Int)) ∧ w'.cell? ⟨nb, off + x * 8 + 3, none⟩ = some (Value.int .i64 lx)) (by kernel_rfl) ⟨by simpa [go_sem] using m2, by simpa [go_sem] using y1, by simpa [go_sem] using l4⟩ (fun hHeld => ?_)
                  refine wpAnyH_take (i := 0) (oi := _) (v := Value.bool true) rfl (by kernel_rfl) (by kernel_rfl) (by kernel_rfl) (fun _ _ _ h => h) (Or.inl ⟨by rfl, fun w' hSw => ?_⟩) hHeld ?_
                  · obtain ⟨t0, t1, t2⟩ := hSw
                    go_simp
                    try simp [*]
                    try (intro hh; exfalso; omega)
                    try omega
                  try simp only [Act.put, List.setIfInBounds_toArray, List.set_cons_zero, List.set_cons_succ, List.getElem_toArray, List.getElem_cons_succ, List.getElem_cons_zero]
                  refine wpAnyH_take (i := 1) (oi := _) (v := Value.bool true) rfl (by kernel_rfl) (by kernel_rfl) (by kernel_rfl) (fun _ _ _ h => h) (Or.inl ⟨by rfl, fun w' hSw => ?_⟩) hHeld ?_
                  · obtain ⟨t0, t1, t2⟩ := hSw
                    go_simp
                    try simp [*]
                    try (intro hh; exfalso; omega)
                    try omega
                  try simp only [Act.put, List.setIfInBounds_toArray, List.set_cons_zero, List.set_cons_succ, List.getElem_toArray, List.getElem_cons_succ, List.getElem_cons_zero]
                  refine wpAnyH_take (i := 2) (oi := _) (v := undef) rfl (by kernel_rfl) (by kernel_rfl) (by kernel_rfl) (fun _ _ _ h => h) (Or.inr ⟨by rfl, rfl⟩) hHeld ?_
                  try simp only [Act.put, List.setIfInBounds_toArray, List.set_cons_zero, List.set_cons_succ, List.getElem_toArray, List.getElem_cons_succ, List.getElem_cons_zero]
                  refine wpAnyH_take (i := 3) (oi := _) (v := undef) rfl (by kernel_rfl) (by kernel_rfl) (by kernel_rfl) (fun _ _ _ h => h) (Or.inr ⟨by rfl, rfl⟩) hHeld ?_
                  try simp only [Act.put, List.setIfInBounds_toArray, List.set_cons_zero, List.set_cons_succ, List.getElem_toArray, List.getElem_cons_succ, List.getElem_cons_zero]
                  refine wpAnyH_take (i := 4) (oi := _) (v := undef) rfl (by kernel_rfl) (by kernel_rfl) (by kernel_rfl) (fun _ _ _ h => h) (Or.inr ⟨by rfl, rfl⟩) hHeld ?_
                  try simp only [Act.put, List.setIfInBounds_toArray, List.set_cons_zero, List.set_cons_succ, List.getElem_toArray, List.getElem_cons_succ, List.getElem_cons_zero]
                  refine wpAnyH_take (i := 5) (oi := _) (v := undef) rfl (by kernel_rfl) (by kernel_rfl) (by kernel_rfl) (fun _ _ _ h => h) (Or.inr ⟨by rfl, rfl⟩) hHeld ?_
                  try simp only [Act.put, List.setIfInBounds_toArray, List.set_cons_zero, List.set_cons_succ, List.getElem_toArray, List.getElem_cons_succ, List.getElem_cons_zero]
                  refine wpAnyH_take (i := 6) (oi := _) (v := undef) rfl (by kernel_rfl) (by kernel_rfl) (by kernel_rfl) (fun _ _ _ h => h) (Or.inr ⟨by rfl, rfl⟩) hHeld ?_
                  try simp only [Act.put, List.setIfInBounds_toArray, List.set_cons_zero, List.set_cons_succ, List.getElem_toArray, List.getElem_cons_succ, List.getElem_cons_zero]
                  refine wpAnyH_take (i := 7) (oi := _) (v := undef) rfl (by kernel_rfl) (by kernel_rfl) (by kernel_rfl) (fun _ _ _ h => h) (Or.inr ⟨by rfl, rfl⟩) hHeld ?_
                  try simp only [Act.put, List.setIfInBounds_toArray, List.set_cons_zero, List.set_cons_succ, List.getElem_toArray, List.getElem_cons_succ, List.getElem_cons_zero]
                  refine wpAnyH_take (i := 8) (oi := _) (v := undef) rfl (by kernel_rfl) (by kernel_rfl) (by kernel_rfl) (fun _ _ _ h => h) (Or.inr ⟨by rfl, rfl⟩) hHeld ?_
                  try simp only [Act.put, List.setIfInBounds_toArray, List.set_cons_zero, List.set_cons_succ, List.getElem_toArray, List.getElem_cons_succ, List.getElem_cons_zero]
                  refine wpAnyH_take (i := 9) (oi := _) (v := undef) rfl (by kernel_rfl) (by kernel_rfl) (by kernel_rfl) (fun _ _ _ h => h) (Or.inr ⟨by rfl, rfl⟩) hHeld ?_
                  try simp only [Act.put, List.setIfInBounds_toArray, List.set_cons_zero, List.set_cons_succ, List.getElem_toArray, List.getElem_cons_succ, List.getElem_cons_zero]
                  refine wpAnyH_take (i := 10) (oi := _) (v := undef) rfl (by kernel_rfl) (by kernel_rfl) (by kernel_rfl) (fun _ _ _ h => h) (Or.inr ⟨by rfl, rfl⟩) hHeld ?_
                  try simp only [Act.put, List.setIfInBounds_toArray, List.set_cons_zero, List.set_cons_succ, List.getElem_toArray, List.getElem_cons_succ, List.getElem_cons_zero]
                  refine wpAnyH_take (i := 11) (oi := _) (v := undef) rfl (by kernel_rfl) (by kernel_rfl) (by kernel_rfl) (fun _ _ _ h => h) (Or.inr ⟨by rfl, rfl⟩) hHeld ?_
                  try simp only [Act.put, List.setIfInBounds_toArray, List.set_cons_zero, List.set_cons_succ, List.getElem_toArray, List.getElem_cons_succ, List.getElem_cons_zero]
                  refine wpAnyH_take (i := 12) (oi := _) (v := undef) rfl (by kernel_rfl) (by kernel_rfl) (by kernel_rfl) (fun _ _ _ h => h) (Or.inr ⟨by rfl, rfl⟩) hHeld ?_
                  try simp only [Act.put, List.setIfInBounds_toArray, List.set_cons_zero, List.set_cons_succ, List.getElem_toArray, List.getElem_cons_succ, List.getElem_cons_zero]
                  refine wpAnyH_take (i := 13) (oi := _) (v := undef) rfl (by kernel_rfl) (by kernel_rfl) (by kernel_rfl) (fun _ _ _ h => h) (Or.inr ⟨by rfl, rfl⟩) hHeld ?_
                  try simp only [Act.put, List.setIfInBounds_toArray, List.set_cons_zero, List.set_cons_succ, List.getElem_toArray, List.getElem_cons_succ, List.getElem_cons_zero]
                  refine wpAnyH_take (i := 14) (oi := _) (v := undef) rfl (by kernel_rfl) (by kernel_rfl) (by kernel_rfl) (fun _ _ _ h => h) (Or.inr ⟨by rfl, rfl⟩) hHeld ?_
                  try simp only [Act.put, List.setIfInBounds_toArray, List.set_cons_zero, List.set_cons_succ, List.getElem_toArray, List.getElem_cons_succ, List.getElem_cons_zero]
                  refine wpAnyH_take (i := 15) (oi := _) (v := undef) rfl (by kernel_rfl) (by kernel_rfl) (by kernel_rfl) (fun _ _ _ h => h) (Or.inr ⟨by rfl, rfl⟩) hHeld ?_
                  try simp only [Act.put, List.setIfInBounds_toArray, List.set_cons_zero, List.set_cons_succ, List.getElem_toArray, List.getElem_cons_succ, List.getElem_cons_zero]
                  refine wpAnyH_take (i := 16) (oi := _) (v := undef) rfl (by kernel_rfl) (by kernel_rfl) (by kernel_rfl) (fun _ _ _ h => h) (Or.inr ⟨by rfl, rfl⟩) hHeld ?_
                  try simp only [Act.put, List.setIfInBounds_toArray, List.set_cons_zero, List.set_cons_succ, List.getElem_toArray, List.getElem_cons_succ, List.getElem_cons_zero]
                  refine wpAnyH_take (i := 17) (oi := _) (v := Value.bool true) rfl (by kernel_rfl) (by kernel_rfl) (by kernel_rfl) (fun _ _ _ h => h) (Or.inl ⟨by rfl, fun w' hSw => ?_⟩) hHeld ?_
                  · obtain ⟨t0, t1, t2⟩ := hSw
                    go_simp
                    try simp [*]
                    try (intro hh; exfalso; omega)
                    try omega
                  try simp only [Act.put, List.setIfInBounds_toArray, List.set_cons_zero, List.set_cons_succ, List.getElem_toArray, List.getElem_cons_succ, List.getElem_cons_zero]
                  refine wpAnyH_take (i := 18) (oi := _) (v := Value.bool true) rfl (by kernel_rfl) (by kernel_rfl) (by kernel_rfl) (fun _ _ _ h => h) (Or.inl ⟨by rfl, fun w' hSw => ?_⟩) hHeld ?_
                  · obtain ⟨t0, t1, t2⟩ := hSw
                    go_simp
                    try simp [*]
                    try (intro hh; exfalso; omega)
                    try omega
                  try simp only [Act.put, List.setIfInBounds_toArray, List.set_cons_zero, List.set_cons_succ, List.getElem_toArray, List.getElem_cons_succ, List.getElem_cons_zero]
                  refine wpAnyH_done (by kernel_rfl) ?_ _
                  clear hHeld
                  go_wp2_with fail
                  go_roundw
                  case rel => exact ⟨i + 1, true, by omega, by go_num, rfl, fun _ => rfl, HB51.out.drew⟩
                  case measure => simp [intOf]; omega
          · obtain rfl : m = i := by omega
            have hb := HBL.out HT0.out
            subst hb
            have HBE := Lib.hid (show Below w4.heap.size w4 wr from HB45.out.trans (HBI.out.mono HB45.out.size))
            go_wp2_with fail
            go_roundw
            case rel => exact ⟨k + 1, by omega, by go_num, HBE.out⟩
            case measure => simp [intOf]; omega
    · obtain rfl : n = k := by omega
      go_wp2_with fail
      refine (cF.out _).mono ?_
      rintro e w9 ⟨rfl, hb⟩
      have HB9 := Lib.hid (HBD.out.trans (hb.mono HBD.out.size))
      clear hb
      go_wp2_with fail
      go_ret
      exact ⟨rfl, HUP.out _ HB9.out⟩
end Go.Proofs.YtdohfpnnmppdkaaGreat

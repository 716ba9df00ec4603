/-
  Cables: the reference's paths and subtrees.
-/
import Derived.Test.YtdohfpnnmppdkaaCbV
import Derived.Test.YtdohfpnnmppdkaaCbR
namespace Go.Proofs.Ytdohfpnnmppdkaa
open Go.RowKit Go.Shelf
set_option linter.unusedSimpArgs false
attribute [local go_sem] Oper.semAt_some
theorem flatN_take {L : List Nat} {i : Nat} (h : i < L.length) : flatN (L.take (i + 1)) = flatN (L.take i) ++ [.int .i64 (tn L i : Int)] := by rw [tn_take h, flatN_snoc]
theorem own_form3 {W : World} {base : Nat} {v : Value} {k : Nat} {xs : List Value} (h : W.ownsRow base 3 1 v k xs) : ∃ a c, v = .slice a k c := by
  rcases h.2 with ⟨h0, e⟩ | ⟨g, cap, cur, e, _⟩
  · subst h0; exact ⟨none, 0, by rw [e]⟩
  · exact ⟨_, _, e⟩
set_option maxRecDepth 100000 in
set_option maxHeartbeats 4000000 in
theorem refpath_any (sl sh : Int) (sv : Value) (ns : List Nd) (hv : AllN ns) (hl : ns.length ≤ 60) (k : Nat) (hk : k < ns.length) (w : World) (hN : Nds w.heap.size w sv ns) :
    Calls Try.prog 82 #[.agg #[.int .i64 sl, .int .i64 sh, sv], .int .i64 (k : Int)] w fun e w' => ∃ v, e = .returned v ∧ w'.ownsRow w.heap.size 3 1 v (pth (par ns) k).length (flatN (pth (par ns) k)) ∧ Below w.heap.size w w' := by
  obtain ⟨i0, hi0, hz0, hz1, hz2⟩ := info_parts infoI3
  have hU := upAt_of hN hv hk
  have hlen : (pth (par ns) k).length ≤ 60 := Nat.le_trans (pth_len hv.tree k) (by omega)
  have hk0 : (k : Int) = nxt (pth (par ns) k) 0 := by
    unfold nxt tn
    rw [if_pos (by unfold pth pthF; simp)]
    unfold pth pthF
    simp
  rw [hk0]
  obtain ⟨nb, off, n, cap, rfl, hb, hcc⟩ := hU
  have HC := Lib.hid (show ∀ W i, Below w.heap.size w W → i < (pth (par ns) k).length → tn (pth (par ns) k) i < n ∧ W.cell? ⟨nb, off + tn (pth (par ns) k) i * 8, none⟩ = some (.int .i64 (nxt (pth (par ns) k) (i + 1))) from fun W i h hi => ⟨(hcc i hi).1, (h.cell (p := ⟨nb, _, none⟩) hb).trans (hcc i hi).2⟩)
  have HNX := Lib.hid (show ∀ i, i < (pth (par ns) k).length → nxt (pth (par ns) k) i = (tn (pth (par ns) k) i : Int) from fun k hk => if_pos hk)
  have HNE := Lib.hid (show ∀ i, i = (pth (par ns) k).length → nxt (pth (par ns) k) i = -1 from fun k hk => if_neg (by omega))
  have HT := Lib.hid (fun i (h : i < (pth (par ns) k).length) => flatN_take h)
  have HTK := Lib.hid (show ∀ i, i = (pth (par ns) k).length → (pth (par ns) k).take i = pth (par ns) k from fun k e => by rw [List.take_of_length_le (by rw [e]; exact Nat.le_refl _)])
  have HDC := Lib.hid (show ∀ i, i < (pth (par ns) k).length → nxt (pth (par ns) k) (i + 1) < (tn (pth (par ns) k) i : Int) from pth_dec hv.tree k)
  clear hk0 hcc hN hv hl
  generalize pth (par ns) k = L at *
  generalize hm : L.length = m at *
  clear hm
  obtain ⟨A, hA⟩ : ∃ A, A = w.alloc (.cells #[.int .i64 sl, .int .i64 sh, .slice (some ⟨nb, off, none⟩) n cap] 26) := ⟨_, rfl⟩
  have HBA := Lib.hid (show Below w.heap.size w A by rw [hA]; exact ((Below.refl _ _).alloc (Nat.le_refl _) _))
  have hltA : w.heap.size + 1 ≤ A.heap.size := by rw [hA]; simp
  have q0 : A.cell? ⟨w.heap.size, 0, none⟩ = some (.int .i64 sl) := by rw [hA]; exact (cellHB (World.alloc_heap_new w _) 0).trans (by simp)
  have q1 : A.cell? ⟨w.heap.size, 1, none⟩ = some (.int .i64 sh) := by rw [hA]; exact (cellHB (World.alloc_heap_new w _) 1).trans (by simp)
  have q2 : A.cell? ⟨w.heap.size, 2, none⟩ = some (.slice (some ⟨nb, off, none⟩) n cap) := by rw [hA]; exact (cellHB (World.alloc_heap_new w _) 2).trans (by simp)
  have KK := Lib.hid (show ∀ W, Below A.heap.size A W → W.cell? ⟨w.heap.size, 0, none⟩ = some (.int .i64 sl) ∧ W.cell? ⟨w.heap.size, 1, none⟩ = some (.int .i64 sh) ∧ W.cell? ⟨w.heap.size, 2, none⟩ = some (.slice (some ⟨nb, off, none⟩) n cap) from fun W h => ⟨(h.cell (p := ⟨w.heap.size, 0, none⟩) (by show w.heap.size < A.heap.size; omega)).trans q0, (h.cell (p := ⟨w.heap.size, 1, none⟩) (by show w.heap.size < A.heap.size; omega)).trans q1, (h.cell (p := ⟨w.heap.size, 2, none⟩) (by show w.heap.size < A.heap.size; omega)).trans q2⟩)
  have HLT := Lib.hid hltA
  clear hltA q0 q1 q2
  obtain ⟨k0, k1, k2⟩ := KK.out _ (Below.refl _ _)
  go_enter Try.func82, Try.ntmps82
  go_upto_region 1 with fail
  rw [← hA]
  clear hA
  go_wp2_with fail
  go_loopw [1, 5] (fun kv ov wr => ∃ i : Nat, i ≤ m ∧ kv = .int .i64 (nxt L i) ∧ wr.ownsRow A.heap.size 3 1 ov i (flatN (L.take i)) ∧ Below A.heap.size A wr) (fun kv _ _ => (intOf kv + 1).toNat)
  case atStart => exact ⟨0, Nat.zero_le _, rfl, by simpa [flatN] using World.ownsRow_nil _ _ _ _, Below.refl _ _⟩
  case round =>
    obtain ⟨i, hi, rfl, hrow, hB⟩ := hrel
    have HB := Lib.hid hB
    have HROW := Lib.hid hrow
    obtain ⟨oa, oc, rfl⟩ := own_form3 hrow
    clear hrow hB k0 k1 k2
    obtain ⟨k0, k1, k2⟩ := KK.out _ HB.out
    by_cases hlt : i < m
    · have hT := HT.out i hlt
      have HDX := Lib.hid (HDC.out i hlt)
      have HTT := Lib.hid hT
      rw [HNX.out i hlt]
      obtain ⟨hxn, -⟩ := HC.out _ i (HBA.out.trans (HB.out.mono HBA.out.size)) hlt
      have HCX := Lib.hid (fun W h => (HC.out W i h hlt).2)
      generalize hyy : nxt L (i + 1) = y at *
      have HY := Lib.hid hyy
      clear hyy hT
      generalize tn L i = x at *
      have hxi : (x : Int) < (n : Int) := by omega
      have hx0 : (0 : Int) ≤ (x : Int) := by omega
      go_wp2_with (at_builtin; refine wpList_append_own _ rfl _ _ 29 rfl A.heap.size 3 i0 (.int .i64 0) 1 8 Try.underlying29 hi0 hz0 hz1 hz2 rfl (by decide) _ _ _ rfl (HROW.out.alloc _) ⟨wr.heap.size, 0, none⟩ 1 1 [.int .i64 (x : Int)] rfl rfl (one_new3 _ _) (by simp [Value.oneCell']) (by unfold maxLen; omega) (by omega) (by have := HB.out.size; simp; omega) ?_; intro v' w5 hown' hgrow _; have HG := Lib.hid hgrow; have HO := Lib.hid hown'; obtain ⟨g', cap', rfl⟩ := ownsRow_succ hown'; clear hown' hgrow; have HB5 := Lib.hid (show Below A.heap.size A w5 from (HB.out.alloc HB.out.size _).grown HG.out (by have := HB.out.size; simp; omega) (fun r e => (((HROW.out.alloc (.cells #[.int .i64 (x : Int)] 3)).lt r e).1))); have hcx := HCX.out _ (HBA.out.trans (HB5.out.mono HBA.out.size)); obtain ⟨k0, k1, k2⟩ := KK.out _ HB5.out)
      have HR5 := Lib.hid (show w5.ownsRow A.heap.size 3 1 _ (i + 1) (flatN (L.take (i + 1))) by rw [HTT.out]; exact HO.out)
      go_roundw
      case rel => exact ⟨i + 1, by omega, by rw [HY.out], HR5.out, HB5.out⟩
      case measure => have hdx := HDX.out; simp [intOf]; omega
    · obtain rfl : i = m := by omega
      rw [HNE.out i rfl]
      have HR := Lib.hid (show wr.ownsRow w.heap.size 3 1 (.slice oa i oc) i (flatN L) by have q := HROW.out; rw [HTK.out i rfl] at q; exact own_base q HBA.out.size)
      go_wp2_with fail
      go_ret
      exact ⟨_, rfl, HR.out, HBA.out.trans (HB.out.mono HBA.out.size)⟩
set_option maxHeartbeats 2000000 in
theorem refHas_any (v : Value) (zs : List Int) (x : Int) (w : World) (hI : Il w.heap.size w v zs) (hl : zs.length ≤ 1000) :
    Calls Try.prog 60 #[v, .int .i64 x] w fun e w' => e = .returned (.bool (decide (x ∈ zs))) ∧ w' = w := by
  obtain ⟨a, cap, rfl, -, hc⟩ := hI
  have HC := Lib.hid hc
  have HY := Lib.hid (show ∀ k, k < zs.length → ti zs k = x → decide (x ∈ zs) = true from fun k hk e => decide_eq_true (e ▸ ti_mem hk))
  have HN := Lib.hid (show (∀ k, k < zs.length → ti zs k ≠ x) → decide (x ∈ zs) = false from fun h => decide_eq_false fun hz => by obtain ⟨k, hk, e⟩ := mem_ti hz; exact h k hk e)
  generalize decide (x ∈ zs) = M at *
  generalize hn : zs.length = n at *
  clear hc hn
  go_enter Try.func60, Try.ntmps60
  go_wp2_with fail
  go_loop [5] (fun iv => ∃ k : Nat, k ≤ n ∧ iv = .int .i64 k ∧ (∀ j, j < k → ti zs j ≠ x)) (fun iv => n - (intOf iv).toNat)
  case atStart => exact ⟨0, Nat.zero_le _, rfl, fun j hj => absurd hj (Nat.not_lt_zero _)⟩
  case round =>
    obtain ⟨k, hk, rfl, hv⟩ := hrel
    have HV := Lib.hid hv
    clear hv
    by_cases hlt : k < n
    · obtain ⟨b, off, rfl, hb, c0⟩ := HC.out k hlt
      have hki : (k : Int) < (n : Int) := by omega
      by_cases he : ti zs k = x
      · have hM := HY.out k hlt he
        subst hM
        have heq : (ti zs k == x) = true := by rw [he]; simp
        generalize ti zs k = t at *
        clear he
        go_wp2_with fail
        go_ret
        exact ⟨rfl, rfl⟩
      · have heq : (ti zs k == x) = false := by simp; exact he
        have HX := Lib.hid (show ∀ j, j < k + 1 → ti zs j ≠ x from fun j hj => by
          rcases (show j < k ∨ j = k by omega) with h | h
          · exact HV.out j h
          · rw [h]; exact he)
        generalize ti zs k = t at *
        clear he
        go_wp2_with fail
        go_round
        case rel => exact ⟨k + 1, by omega, by go_num, HX.out⟩
        case measure => simp [intOf]; omega
    · obtain rfl : k = n := by omega
      have hM := HN.out HV.out
      subst hM
      go_wp2_with fail
      go_ret
      exact ⟨rfl, rfl⟩
theorem pick_yes {p : Nat → Bool} {i : Nat} (h : p i = true) : pick (i + 1) p = pick i p ++ [i] := by
  unfold pick
  rw [List.range_succ, List.filter_append]
  simp [h]
theorem pick_no {p : Nat → Bool} {i : Nat} (h : p i = false) : pick (i + 1) p = pick i p := by
  unfold pick
  rw [List.range_succ, List.filter_append]
  simp [h]
theorem pick_le (n : Nat) (p : Nat → Bool) : (pick n p).length ≤ n := by
  unfold pick
  exact Nat.le_trans (List.length_filter_le _ _) (by simp)
set_option maxRecDepth 100000 in
set_option maxHeartbeats 4000000 in
theorem refsub_any (sl sh : Int) (sv : Value) (ns : List Nd) (hv : AllN ns) (hl : ns.length ≤ 60) (k : Nat) (w : World) (hN : Nds w.heap.size w sv ns) :
    Calls Try.prog 86 #[.agg #[.int .i64 sl, .int .i64 sh, sv], .int .i64 (k : Int)] w fun e w' => ∃ v, e = .returned v ∧ w'.ownsRow w.heap.size 3 1 v (sub (par ns) ns.length k).length (flatN (sub (par ns) ns.length k)) ∧ Below w.heap.size w w' := by
  obtain ⟨i0, hi0, hz0, hz1, hz2⟩ := info_parts infoI3
  have cP := Lib.hid (fun W (h : Below w.heap.size w W) (i : Nat) (hi : i < ns.length) => refpath_any sl sh sv ns hv hl i hi W (hN.at h))
  have cH := Lib.hid (fun (i : Nat) v W (h : W.ownsRow W.heap.size 3 1 v (pth (par ns) i).length (flatN (pth (par ns) i)) ∨ Il W.heap.size W v (zs (pth (par ns) i))) (hi : i < ns.length) => refHas_any v (zs (pth (par ns) i)) (k : Int) W (h.elim il_of_own id) (by
    have e : (zs (pth (par ns) i)).length = (pth (par ns) i).length := by unfold zs; simp
    rw [e]; exact Nat.le_trans (pth_len hv.tree i) (by omega)))
  have HMEM := Lib.hid (show ∀ i, decide ((k : Int) ∈ zs (pth (par ns) i)) = decide (k ∈ pth (par ns) i) from fun i => by
    rw [decide_eq_decide, mem_zs]; simp)
  have HIL := Lib.hid (show ∀ (W : World) base v i, W.ownsRow base 3 1 v (pth (par ns) i).length (flatN (pth (par ns) i)) → Il W.heap.size W v (zs (pth (par ns) i)) from fun W base v i h => il_of_own h)
  have HSUB := Lib.hid (show ∀ i, i = ns.length → pick i (fun i => decide (k ∈ pth (par ns) i)) = sub (par ns) ns.length k from fun i e => by subst e; rfl)
  obtain ⟨a, cap, rfl⟩ := hN.form
  clear hN hv
  generalize sub (par ns) ns.length k = SS at *
  generalize hfp : (fun i => decide (k ∈ pth (par ns) i)) = p at *
  have HPP := Lib.hid (show ∀ i, decide (k ∈ pth (par ns) i) = p i from fun i => congrFun hfp i)
  clear hfp
  generalize hnn : ns.length = n at *
  clear hnn
  obtain ⟨A, hA⟩ : ∃ A, A = w.alloc (.cells #[.int .i64 sl, .int .i64 sh, .slice a n cap] 26) := ⟨_, rfl⟩
  have HBA := Lib.hid (show Below w.heap.size w A by rw [hA]; exact ((Below.refl _ _).alloc (Nat.le_refl _) _))
  have hltA : w.heap.size + 1 ≤ A.heap.size := by rw [hA]; simp
  have q0 : A.cell? ⟨w.heap.size, 0, none⟩ = some (.int .i64 sl) := by rw [hA]; exact (cellHB (World.alloc_heap_new w _) 0).trans (by simp)
  have q1 : A.cell? ⟨w.heap.size, 1, none⟩ = some (.int .i64 sh) := by rw [hA]; exact (cellHB (World.alloc_heap_new w _) 1).trans (by simp)
  have q2 : A.cell? ⟨w.heap.size, 2, none⟩ = some (.slice a n cap) := by rw [hA]; exact (cellHB (World.alloc_heap_new w _) 2).trans (by simp)
  have KK := Lib.hid (show ∀ W, Below A.heap.size A W → W.cell? ⟨w.heap.size, 0, none⟩ = some (.int .i64 sl) ∧ W.cell? ⟨w.heap.size, 1, none⟩ = some (.int .i64 sh) ∧ W.cell? ⟨w.heap.size, 2, none⟩ = some (.slice a n cap) from fun W h => ⟨(h.cell (p := ⟨w.heap.size, 0, none⟩) (by show w.heap.size < A.heap.size; omega)).trans q0, (h.cell (p := ⟨w.heap.size, 1, none⟩) (by show w.heap.size < A.heap.size; omega)).trans q1, (h.cell (p := ⟨w.heap.size, 2, none⟩) (by show w.heap.size < A.heap.size; omega)).trans q2⟩)
  have HLT := Lib.hid hltA
  clear hltA q0 q1 q2
  obtain ⟨k0, k1, k2⟩ := KK.out _ (Below.refl _ _)
  go_enter Try.func86, Try.ntmps86
  go_upto_region 1 with fail
  rw [← hA]
  clear hA
  go_wp2_with fail
  go_loopw [5, 6] (fun ov iv wr => ∃ i : Nat, i ≤ n ∧ iv = .int .i64 i ∧ wr.ownsRow A.heap.size 3 1 ov (pick i p).length (flatN (pick i p)) ∧ Below A.heap.size A wr) (fun _ iv _ => n - (intOf iv).toNat)
  case atStart => exact ⟨0, Nat.zero_le _, rfl, by simpa [flatN, pick] using World.ownsRow_nil _ _ _ _, Below.refl _ _⟩
  case round =>
    obtain ⟨i, hi, rfl, hrow, hB⟩ := hrel
    have HB := Lib.hid hB
    have HROW := Lib.hid hrow
    obtain ⟨oa, oc, rfl⟩ := own_form3 hrow
    clear hrow hB k0 k1 k2
    obtain ⟨k0, k1, k2⟩ := KK.out _ HB.out
    by_cases hlt : i < n
    · have hii : (i : Int) < (n : Int) := by omega
      have HY := Lib.hid (fun (h : p i = true) => pick_yes h)
      have HNN := Lib.hid (fun (h : p i = false) => pick_no h)
      have hpl := pick_le i p
      go_wp2_with fail
      refine (cP.out _ (HBA.out.trans (HB.out.mono HBA.out.size)) i hlt).mono ?_
      rintro e w2 ⟨v2, rfl, hr2, hb2⟩
      have HB2 := Lib.hid (HB.out.trans (hb2.mono HB.out.size))
      have HROW2 := Lib.hid (own_keep3 HROW.out hb2)
      have HI2 := Lib.hid (HIL.out _ _ _ _ hr2)
      clear hr2 hb2 k0 k1 k2
      obtain ⟨k0, k1, k2⟩ := KK.out _ HB2.out
      go_wp2_with fail
      refine (cH.out i v2 _ (.inr HI2.out) hlt).mono ?_
      rintro e w3 ⟨he, rfl⟩
      rw [HMEM.out, HPP.out] at he
      subst he
      cases hpi : p i
      · have HN2 := Lib.hid (HNN.out hpi)
        go_wp2_with fail
        go_roundw
        case rel => exact ⟨i + 1, by omega, by go_num, by rw [HN2.out]; exact HROW2.out, HB2.out⟩
        case measure => simp [intOf]; omega
      · have HY2 := Lib.hid (HY.out hpi)
        go_wp2_with (at_builtin; refine wpList_append_own _ rfl _ _ 29 rfl A.heap.size 3 i0 (.int .i64 0) 1 8 Try.underlying29 hi0 hz0 hz1 hz2 rfl (by decide) _ _ _ rfl (HROW2.out.alloc _) ⟨w3.heap.size, 0, none⟩ 1 1 [.int .i64 (i : Int)] rfl rfl (one_new3 _ _) (by simp [Value.oneCell']) (by unfold maxLen; omega) (by omega) (by have := HB2.out.size; simp; omega) ?_; intro v' w5 hown' hgrow _; have HG := Lib.hid hgrow; have HO := Lib.hid hown'; obtain ⟨g', cap', rfl⟩ := ownsRow_succ hown'; clear hown' hgrow; have HB5 := Lib.hid (show Below A.heap.size A w5 from (HB2.out.alloc HB2.out.size _).grown HG.out (by have := HB2.out.size; simp; omega) (fun r e => (((HROW2.out.alloc (.cells #[.int .i64 (i : Int)] 3)).lt r e).1))))
        have HR5 := Lib.hid (show w5.ownsRow A.heap.size 3 1 _ (pick (i + 1) p).length (flatN (pick (i + 1) p)) by rw [HY2.out, flatN_snoc, List.length_append]; simpa using HO.out)
        go_roundw
        case rel => exact ⟨i + 1, by omega, by go_num, HR5.out, HB5.out⟩
        case measure => simp [intOf]; omega
    · obtain rfl : i = n := by omega
      have HR := Lib.hid (show wr.ownsRow w.heap.size 3 1 (.slice oa (pick i p).length oc) SS.length (flatN SS) by have q := HROW.out; rw [HSUB.out i rfl] at q ⊢; exact own_base q HBA.out.size)
      go_wp2_with fail
      go_ret
      exact ⟨_, rfl, HR.out, HBA.out.trans (HB.out.mono HBA.out.size)⟩
end Go.Proofs.Ytdohfpnnmppdkaa

/-
  Cables: the cable of what is granted; answers that are looked for.
-/
import Derived.Test.YtdohfpnnmppdkaaGreatZa
namespace Go.Proofs.YtdohfpnnmppdkaaGreat
open Go.RowKit Go.Shelf
set_option linter.unusedSimpArgs false
attribute [local go_sem] Oper.semAt_some
theorem set3d {W : World} {b : Nat} {x y z : Value} {t : TypeId} (h : W.heap[b]? = some (.cells #[x, y, z] t (0, 0))) (u : Value) : (W.setCell ⟨b, 2, none⟩ u).heap[b]? = some (.cells #[x, y, u] t (0, 0)) := by
  simp [World.setCell, Array.getElem?_modify, h]
theorem set3e {W : World} {b : Nat} {x y z : Value} {t : TypeId} (h : W.heap[b]? = some (.cells #[x, y, z] t (0, 0))) (u v r : Value) : (((W.setCell ⟨b, 0, none⟩ u).setCell ⟨b, 1, none⟩ v).setCell ⟨b, 2, none⟩ r).heap[b]? = some (.cells #[u, v, r] t (0, 0)) := by
  simp [World.setCell, Array.getElem?_modify, h]
set_option maxRecDepth 100000 in
set_option maxHeartbeats 8000000 in
/-- the cable that draws just what is granted -/
theorem drawing_any (sl sh : Int) (sv gv : Value) (ns : List Nd) (gs : List Int) (hv : ValidC sl sh ns) (hgl : gs.length = ns.length) (w : World) (hN : Nds w.heap.size w sv ns) (hG : Il w.heap.size w gv gs) :
    Calls Tryz.prog 30 #[.agg #[.int .i64 sl, .int .i64 sh, sv], gv] w fun e w' => ∃ dv, e = .returned (.agg #[.int .i64 sl, .int .i64 sh, dv]) ∧ Nds w'.heap.size w' dv (dwL ns (ti gs)) ∧ Below w.heap.size w w' := by
  have hn0 := hv.pos
  have hn := hv.len
  have hNN := hN
  obtain ⟨a, cap, rfl, -, hcc⟩ := hN
  obtain ⟨nb, off, rfl, hnb, -⟩ := hcc 0 hn0
  obtain ⟨ga, gc, rfl, -, hgc⟩ := hG
  rw [hgl] at hgc ⊢
  obtain ⟨gb, go, rfl, hgb, -⟩ := hgc 0 hn0
  have HGC := Lib.hid (show ∀ Z, Below w.heap.size w Z → ∀ k, k < ns.length → Z.cell? ⟨gb, go + k, none⟩ = some (.int .i64 (ti gs k)) from fun Z h k hk => by
    obtain ⟨b, o, h1, h2, h3⟩ := hgc k hk
    simp only [Option.some.injEq, Addr.mk.injEq] at h1
    obtain ⟨rfl, rfl, -⟩ := h1
    exact (h.cell (p := ⟨_, _, none⟩) h2).trans h3)
  have cC := Lib.hid (fun W (h : Below w.heap.size w W) => clone_any nb off cap ns hn0 hn W (hNN.at h))
  have HF0 := Lib.hid (show dwF ns (ti gs) 0 = nd ns from funext fun j => if_neg (by omega))
  have HST := Lib.hid (fun k x => dw_set ns (ti gs) k x)
  have HDS := Lib.hid (fun W G cp (hc : ns.length ≤ cp) (h : NdR W G ns.length cp (dwF ns (ti gs) ns.length)) => show Nds W.heap.size W (.slice (some ⟨G, 0, none⟩) ns.length cp) (dwL ns (ti gs)) by
    have q := nds_of_ndr (ns := dwL ns (ti gs)) (f := dwF ns (ti gs) ns.length) (by rw [dwL_len]; exact h) (by rw [dwL_len]; exact hc) (fun k hk => by
      rw [dwL_len] at hk
      rw [dwL_nd hk]
      exact if_pos hk)
    rw [dwL_len] at q
    exact q)
  rw [← HF0.out] at cC
  clear hcc hgc hNN hv hgl hnb hgb HF0
  generalize dwF ns (ti gs) = df at *
  generalize dwL ns (ti gs) = dns at *
  generalize ti gs = g at *
  generalize ns.length = n at *
  obtain ⟨A, hA⟩ : ∃ A, A = (w.alloc (.cells #[.int .i64 sl, .int .i64 sh, .slice (some ⟨nb, off, none⟩) n cap] 26)).alloc (.cells #[.int .i64 0, .int .i64 0, .slice none 0 0] 26) := ⟨_, rfl⟩
  obtain ⟨C, hC⟩ : ∃ C, C = w.heap.size := ⟨_, rfl⟩
  have HBA := Lib.hid (show Below C w A by rw [hA, hC]; exact ((Below.refl _ _).alloc (Nat.le_refl _) _).alloc (by simp) _)
  have HAC := Lib.hid (show A.heap[C]? = some (.cells #[.int .i64 sl, .int .i64 sh, .slice (some ⟨nb, off, none⟩) n cap] 26 (0, 0)) by rw [hA, hC]; exact (Below.heap_alloc _ _ _ (by simp)).trans (World.alloc_heap_new w _))
  have HAX := Lib.hid (show A.heap[C + 1]? = some (.cells #[.int .i64 0, .int .i64 0, .slice none 0 0] 26 (0, 0)) by
    have q := World.alloc_heap_new (w.alloc (.cells #[.int .i64 sl, .int .i64 sh, .slice (some ⟨nb, off, none⟩) n cap] 26)) (.cells #[.int .i64 0, .int .i64 0, .slice none 0 0] 26)
    rw [World.size_alloc] at q
    rw [hA, hC]
    exact q)
  have HAZ := Lib.hid (show A.heap.size = C + 2 by rw [hA, hC]; simp)
  have HCW := Lib.hid hC
  have c2 := cellHB HAC.out 2
  rw [← hC] at cC HGC ⊢
  go_enter Tryz.func30, Tryz.ntmps30
  go_upto_region 1 with fail
  rw [← hA, ← hC]
  clear hA hC
  go_upto_region 2 with (go_at_call 56; refine (cC.out _ HBA.out).mono ?_; rintro e w1 ⟨G, cp, rfl, hG, hcp, hNd, hb⟩; have HB1 := Lib.hid hb; have HC1 := Lib.hid ((hb.block C (by rw [HAZ.out]; omega)).trans HAC.out); have HX1 := Lib.hid ((hb.block (C + 1) (by rw [HAZ.out]; omega)).trans HAX.out); have HGG := Lib.hid (show C + 1 < G by have := HAZ.out; omega); have HCP := Lib.hid hcp; have HNd := Lib.hid hNd; clear hb hG hcp hNd c2; have c2 := cellHB HC1.out 2; have f2 := frozH HC1.out 2)
  obtain ⟨V, hV⟩ : ∃ V, V = w1.setCell ⟨C, 2, none⟩ (.slice (some ⟨G, 0, none⟩) n cp) := ⟨_, rfl⟩
  have hGC : G ≠ C := by have := HGG.out; omega
  have hGX : G ≠ C + 1 := by have := HGG.out; omega
  have HVC := Lib.hid (show V.heap[C]? = some (.cells #[.int .i64 sl, .int .i64 sh, .slice (some ⟨G, 0, none⟩) n cp] 26 (0, 0)) by rw [hV]; exact set3d HC1.out _)
  have HVX := Lib.hid (show V.heap[C + 1]? = some (.cells #[.int .i64 0, .int .i64 0, .slice none 0 0] 26 (0, 0)) by rw [hV]; exact (Below.heap_setCell _ _ _ _ (by show C + 1 ≠ C; omega)).trans HX1.out)
  have HVN := Lib.hid (show NdR V G n cp (df 0) by rw [hV]; exact HNd.out.far hGC)
  have HVB := Lib.hid (show Below C w V by rw [hV]; exact (HBA.out.trans (HB1.out.mono (by have := HAZ.out; omega))).setCell (p := ⟨C, 2, none⟩) (Nat.le_refl _) _)
  rw [← hV]
  clear hV c2 f2 HNd HC1 HX1 HB1
  go_wp2_with fail
  go_loopw [13] (fun iv wr => ∃ k : Nat, k ≤ n ∧ iv = .int .i64 k ∧ wr.heap[C]? = some (.cells #[.int .i64 sl, .int .i64 sh, .slice (some ⟨G, 0, none⟩) n cp] 26 (0, 0)) ∧ wr.heap[C + 1]? = some (.cells #[.int .i64 0, .int .i64 0, .slice none 0 0] 26 (0, 0)) ∧ NdR wr G n cp (df k) ∧ Below C w wr) (fun iv _ => n - (intOf iv).toNat)
  case atStart => exact ⟨0, Nat.zero_le _, rfl, HVC.out, HVX.out, HVN.out, HVB.out⟩
  case round =>
    obtain ⟨k, hk, rfl, h1, h2, h3, h4⟩ := hrel
    have H1 := Lib.hid h1
    have H2 := Lib.hid h2
    have H3 := Lib.hid h3
    have H4 := Lib.hid h4
    have d0 := cellHB h1 0
    have d1 := cellHB h1 1
    have d2 := cellHB h1 2
    clear h1 h2 h3 h4
    by_cases hlt : k < n
    · have hki : (k : Int) < (n : Int) := by omega
      have u0 := HGC.out wr H4.out k hlt
      have l4 := H3.out.cell HCP.out (j := k * 8 + 4) (by omega)
      have l5 := H3.out.cell HCP.out (j := k * 8 + 5) (by omega)
      have lf4 := H3.out.froz (k * 8 + 4)
      have lf5 := H3.out.froz (k * 8 + 5)
      have hgl := H3.out.lt
      go_wp2_with fail
      go_roundw
      case rel =>
        refine ⟨k + 1, by omega, by go_num, (Below.heap_setCell _ _ _ _ (Ne.symm hGC)).trans ((Below.heap_setCell _ _ _ _ (Ne.symm hGC)).trans H1.out), (Below.heap_setCell _ _ _ _ (Ne.symm hGX)).trans ((Below.heap_setCell _ _ _ _ (Ne.symm hGX)).trans H2.out), H3.out.set2 (by omega) (by omega) (fun x _ => HST.out k x), ?_⟩
        exact (H4.out.setCell (p := ⟨G, k * 8 + 4, none⟩) (by show C ≤ G; have := HGG.out; omega) _).setCell (p := ⟨G, k * 8 + 5, none⟩) (by show C ≤ G; have := HGG.out; omega) _
      case measure => simp [intOf]; omega
    · obtain rfl : n = k := by omega
      have x0 := cellHB H2.out 0
      have x1 := cellHB H2.out 1
      have x2 := cellHB H2.out 2
      have f0 := frozH H2.out 0
      have f1 := frozH H2.out 1
      have f2 := frozH H2.out 2
      go_wp2_with fail
      have hE := set3e H2.out (.int .i64 sl) (.int .i64 sh) (.slice (some ⟨G, 0, none⟩) n cp)
      have s0 := cellHB hE 0
      have s1 := cellHB hE 1
      have s2 := cellHB hE 2
      refine bodyPost_ret (v := .agg #[.int .i64 sl, .int .i64 sh, .slice (some ⟨G, 0, none⟩) n cp]) (by simp [results, Tryz.results30, go_sem, s0, s1, s2]) rfl ⟨_, rfl, HDS.out _ G cp HCP.out (((H3.out.far hGX).far hGX).far hGX), ?_⟩
      exact ((H4.out.setCell (p := ⟨C + 1, 0, none⟩) (by show C ≤ C + 1; omega) _).setCell (p := ⟨C + 1, 1, none⟩) (by show C ≤ C + 1; omega) _).setCell (p := ⟨C + 1, 2, none⟩) (by show C ≤ C + 1; omega) _
set_option maxRecDepth 100000 in
set_option maxHeartbeats 4000000 in
/-- no answer is No -/
theorem index28_no (v : Value) (zs : List Int) (hl : zs.length ≤ 1000) (hno : ∀ k, k < zs.length → ti zs k ≠ 0) (w : World) (hI : Il w.heap.size w v zs) : Calls Tryz.prog 28 #[v, .int .i64 0] w fun e w' => e = .returned (.int .i64 (-1)) ∧ w' = w := by
  obtain ⟨a, cap, rfl, -, hc⟩ := hI
  have HC := Lib.hid hc
  have HNO := Lib.hid hno
  clear hc hno
  generalize zs.length = n at *
  go_enter Tryz.func28, Tryz.ntmps28
  go_wp2_with fail
  go_loopw [8] (fun iv wr => ∃ k : Nat, k ≤ n ∧ iv = .int .i64 k ∧ wr = w) (fun iv _ => n - (intOf iv).toNat)
  case atStart => exact ⟨0, Nat.zero_le _, rfl, rfl⟩
  case round =>
    obtain ⟨k, hk, rfl, hwr⟩ := hrel
    subst hwr
    by_cases hlt : k < n
    · have hki : (k : Int) < (n : Int) := by omega
      obtain ⟨b, off, hab, hb, c0⟩ := HC.out k hlt
      subst hab
      have hne := HNO.out k hlt
      have hne' : ((0 : Int) == ti zs k) = false := by simpa using fun e => hne e.symm
      have hne2 : ¬ (0 : Int) = ti zs k := fun e => hne e.symm
      generalize ti zs k = z at *
      clear hne
      go_wp2_with fail
      go_roundw
      case rel => exact ⟨k + 1, by omega, by go_num, by simp⟩
      case measure => simp [intOf]; omega
    · obtain rfl : n = k := by omega
      go_wp2_with fail
      go_ret
      exact ⟨rfl, rfl⟩
end Go.Proofs.YtdohfpnnmppdkaaGreat

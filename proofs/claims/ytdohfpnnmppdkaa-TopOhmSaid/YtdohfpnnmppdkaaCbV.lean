/-
  Cables: the nodes of a subtree.
-/
import Derived.Test.YtdohfpnnmppdkaaCbU
import Derived.Test.YtdohfpnnmppdkaaCbS
import Derived.Test.YtdohfpnnmppdkaaCbO
import Derived.Test.YtdohfpnnmppdkaaCbQ
import Derived.Sort.OwnSortedInts
namespace Go.Proofs.Ytdohfpnnmppdkaa
open Go.RowKit Go.Shelf
set_option linter.unusedSimpArgs false
attribute [local go_sem] Oper.semAt_some
open Go.Sort
/-- between two visits: the nodes seen so far, as a row of the call's own, and its box -/
def SuJ (Bx n₀ n₁ : Nat) (w : World) (pre : List Nat) (W : World) : Prop :=
  (∃ v, Boxed W Bx 29 v ∧ W.ownsRow (n₁ + 3) 3 1 v pre.length (flatN pre)) ∧ Below n₀ w W ∧ n₀ ≤ W.heap.size
theorem flatN_zs' (l : List Nat) : (zs l).map (Value.int .i64) = flatN l := by
  unfold zs flatN
  rw [List.map_map]
  rfl
theorem own_keep3 {W W' : World} {base : Nat} {v : Value} {k : Nat} {xs : List Value} (h : W.ownsRow base 3 1 v k xs) (hb : Below W.heap.size W W') : W'.ownsRow base 3 1 v k xs := by
  refine ⟨h.1, ?_⟩
  rcases h.2 with h0 | ⟨g, cap, cur, h1, h2, h3, h4⟩
  · exact .inl h0
  · exact .inr ⟨g, cap, cur, h1, h2, (hb.block g (Array.getElem?_eq_some_iff.1 h3).1).trans h3, h4⟩
theorem SuJ.keep {Bx n₀ n₁ : Nat} {w : World} {pre : List Nat} {W W' : World} (h : SuJ Bx n₀ n₁ w pre W) (hb : Below W.heap.size W W') : SuJ Bx n₀ n₁ w pre W' := by
  obtain ⟨⟨v, h1, h2⟩, h3, h4⟩ := h
  exact ⟨⟨v, (hb.block _ h1.lt).trans h1, own_keep3 h2 hb⟩, h3.trans (hb.mono h4), Nat.le_trans h4 hb.size⟩
set_option maxRecDepth 100000 in
set_option maxHeartbeats 4000000 in
theorem sub_visit (Bx n₀ n₁ : Nat) (w : World) (hB0 : n₀ ≤ Bx) (hB1 : Bx < n₁) (pre : List Nat) (k : Nat) (W : World) (hp : pre.length < 60) (hn1 : n₁ + 3 ≤ W.heap.size) (hJ : SuJ Bx n₀ n₁ w pre W) :
    Calls Try.prog 84 #[.int .i64 (k : Int), .pointer (some ⟨Bx, 0, none⟩)] W (VisP n₁ W (SuJ Bx n₀ n₁ w) (pre ++ [k])) := by
  obtain ⟨i0, hi, hz0, hz1, hz2⟩ := info_parts infoI3
  obtain ⟨⟨v, hv, hrow⟩, hB, hz⟩ := hJ
  have hc := hv.cell
  have HB := Lib.hid hB
  obtain ⟨a0, c0, hform⟩ := (show ∃ a c, v = .slice a pre.length c from by
    rcases hrow.2 with ⟨h0, e⟩ | ⟨g, cap, cur, e, _⟩
    · subst h0; exact ⟨none, 0, by rw [e]⟩
    · exact ⟨_, _, e⟩)
  subst hform
  have hv0 := Lib.hid hv
  have hr0 := Lib.hid hrow
  unfold VisP
  clear hB
  go_enter Try.func84, Try.ntmps84
  go_wp2_with (at_builtin; refine wpList_append_own _ rfl _ _ 29 rfl (n₁ + 3) 3 i0 (.int .i64 0) 1 8 Try.underlying29 hi hz0 hz1 hz2 rfl (by decide) _ _ _ rfl (hrow.alloc _) ⟨W.heap.size, 0, none⟩ 1 1 [.int .i64 (k : Int)] rfl rfl (one_new3 _ _) (by simp [Value.oneCell']) (by unfold maxLen; omega) (by omega) (by simp; omega) ?_; intro v' w1 hown' hgrow _; have HG := Lib.hid hgrow; have HO := Lib.hid hown'; obtain ⟨g', cap', rfl⟩ := ownsRow_succ hown'; obtain ⟨hv1, hv2, hr2, hk2, hb2⟩ := hv.appended (by decide) (own_base hrow (show Bx ≤ n₁ + 3 by omega)) (Nat.le_of_lt hv.lt) (Nat.le_refl _) (own_base hown' (show Bx ≤ n₁ + 3 by omega)) hgrow; have hc1 := hv1.cell; have hf1 := hv1.frozen)
  go_end0
  refine ⟨rfl, ⟨⟨_, hv2, ?_⟩, (HB.out.trans ((hb2.mono hB0))), ?_⟩, ?_⟩
  · rw [flatN_snoc, List.length_append]
    refine World.ownsRow.kept (base := n₁ + 3) (by simpa using HO.out) (grownBy_setCell' w1 Bx _) (.inr ?_)
    intro e
    have := (HO.out.lt _ e).1
    omega
  · have := hb2.size
    omega
  · intro b h1 h2
    refine (Below.heap_setCell _ _ _ _ (by show b ≠ Bx; omega)).trans ?_
    refine (HG.out.block b (by simp; omega) (fun e => ?_)).trans ?_
    · have := ((hr0.out.alloc (.cells #[.int .i64 (k : Int)] 3)).lt b e.symm).1
      omega
    · exact Below.heap_alloc _ _ _ (by omega)
theorem dfs_perm {ns : List Nd} (hv : AllN ns) {k : Nat} (hk : k < ns.length) : (dfs (par ns) ns.length k).Perm (sub (par ns) ns.length k) :=
  (List.perm_ext_iff_of_nodup (nodup_dfs hv.tree _ _ k (Nat.le_refl _) hk) (pick_nodup _ _)).2 fun i => by
    rw [mem_dfs_iff hv.tree hk]
    rw [mem_pick, decide_eq_true_iff]
theorem sub_len {ns : List Nd} {k : Nat} : (sub (par ns) ns.length k).length ≤ ns.length := by
  rw [show sub (par ns) ns.length k = (List.range ns.length).filter (fun i => decide (k ∈ pth (par ns) i)) from rfl]
  exact Nat.le_trans (List.length_filter_le _ _) (by simp)
/-- a row of nodes, sorted in its place -/
theorem sort_own (base : Nat) (v : Value) (l : List Nat) (n : Nat) (p : Nat → Bool) (hn : l.Nodup) (hm : ∀ i, i ∈ l ↔ i < n ∧ p i = true) (hl : l.length ≤ 60) (h0 : l ≠ []) (w : World) (hrow : w.ownsRow base 3 1 v l.length (flatN l)) :
    Calls Try.prog 85 #[v] w fun e w' => e = .returned (.tuple #[]) ∧ w'.ownsRow base 3 1 v l.length (flatN (pick n p)) ∧ w.grownBy w' v.ownBlock ∧ Below base w w' := by
  rcases hrow.2 with ⟨h, _⟩ | ⟨g, cap, cur, rfl, hb, hg, h1, h2, h3, h4⟩
  · subst h
    have := hrow.1
    exact absurd (List.length_eq_zero_iff.1 (by rename_i q; exact q)) h0
  · have hz : (zs l).length = l.length := by unfold zs; simp
    have hH : Holds (Value.int .i64) w g 0 (zs l).toArray := holds_of_blockI hg (by rw [hz]; rw [Nat.mul_one] at h4; rw [h4, flatN_zs'])
    have c := AnyM.slices_Sort_int Try.sortA g 0 cap (zs l) w hH (Array.getElem?_eq_some_iff.1 hg).1 (by rw [hz]; omega)
    rw [hz] at c
    refine c.mono fun e w' h => ?_
    obtain ⟨rfl, m, os, rfl⟩ := h
    have hs : (zs l).mergeSort (fun x y => decide (x ≤ y)) = zs (pick n p) := sort_pick (List.Perm.refl _) hn hm
    rw [hs]
    have hpl : (zs (pick n p)).length = (zs l).length := by rw [← hs]; simp
    refine ⟨rfl, ?_, grownBy_sortedI _, ?_⟩
    · have q := ownsRow_sortedI (n := m) (os := os) (ss := zs l) (ts := zs (pick n p)) hpl hb hg (by rw [hz]; exact h1) h2 h3
      rw [hz] at q
      rw [← flatN_zs']
      exact q
    · exact (Below.refl base w).grown (grownBy_sortedI _) (by have := (Array.getElem?_eq_some_iff.1 hg).1; omega) (fun r e => by cases e; exact hb)
set_option maxHeartbeats 2000000 in
theorem subtree_bad (sl sh : Int) (sv : Value) (ns : List Nd) (k : Int) (hE : nodE sl sh ns k ≠ 0) (w : World) (hN : Nds w.heap.size w sv ns) :
    Calls Try.prog 23 #[.agg #[.int .i64 sl, .int .i64 sh, sv], .int .i64 k] w fun e w' => e = .returned (.tuple #[.slice none 0 0, .int .i64 (nodE sl sh ns k)]) ∧ Below w.heap.size w w' := by
  have c1 := Lib.hid (fun W (h : Below w.heap.size w W) => checkNode_any sl sh sv ns k W (hN.at h))
  obtain ⟨a, cap, hsv⟩ := hN.form
  subst hsv
  clear hN
  generalize nodE sl sh ns k = E at *
  generalize ns.length = n at *
  have hE' : (E == 0) = false := by simpa using hE
  clear hE
  obtain ⟨A, hA⟩ : ∃ A, A = w.alloc (.cells #[.int .i64 sl, .int .i64 sh, .slice a n cap] 26) := ⟨_, rfl⟩
  have HBA := Lib.hid (show Below w.heap.size w A by rw [hA]; exact ((Below.refl _ _).alloc (Nat.le_refl _) _))
  have hltA : w.heap.size + 1 ≤ A.heap.size := by rw [hA]; simp
  have q0 : A.cell? ⟨w.heap.size, 0, none⟩ = some (.int .i64 sl) := by rw [hA]; exact (cellHB (World.alloc_heap_new w _) 0).trans (by simp)
  have q1 : A.cell? ⟨w.heap.size, 1, none⟩ = some (.int .i64 sh) := by rw [hA]; exact (cellHB (World.alloc_heap_new w _) 1).trans (by simp)
  have q2 : A.cell? ⟨w.heap.size, 2, none⟩ = some (.slice a n cap) := by rw [hA]; exact (cellHB (World.alloc_heap_new w _) 2).trans (by simp)
  have KK := Lib.hid (show ∀ W, Below A.heap.size A W → W.cell? ⟨w.heap.size, 0, none⟩ = some (.int .i64 sl) ∧ W.cell? ⟨w.heap.size, 1, none⟩ = some (.int .i64 sh) ∧ W.cell? ⟨w.heap.size, 2, none⟩ = some (.slice a n cap) from fun W h => ⟨(h.cell (p := ⟨w.heap.size, 0, none⟩) (by show w.heap.size < A.heap.size; omega)).trans q0, (h.cell (p := ⟨w.heap.size, 1, none⟩) (by show w.heap.size < A.heap.size; omega)).trans q1, (h.cell (p := ⟨w.heap.size, 2, none⟩) (by show w.heap.size < A.heap.size; omega)).trans q2⟩)
  have HLT := Lib.hid hltA
  clear hltA q0 q1 q2
  obtain ⟨k0, k1, k2⟩ := KK.out _ (Below.refl _ _)
  go_enter Try.func23, Try.ntmps23
  go_upto_region 1 with fail
  rw [← hA]
  clear hA
  go_wp2_with fail
  refine (c1.out _ HBA.out).mono ?_
  rintro e w1 ⟨rfl, hb⟩
  have HB1 := Lib.hid hb
  clear hb k0 k1 k2
  obtain ⟨k0, k1, k2⟩ := KK.out _ HB1.out
  go_wp2_with fail
  go_ret2
  exact ⟨rfl, HBA.out.trans (HB1.out.mono HBA.out.size)⟩
set_option maxRecDepth 100000 in
set_option maxHeartbeats 4000000 in
theorem subtree_ok (sl sh : Int) (sv : Value) (ns : List Nd) (k : Nat) (hv : ValidC sl sh ns) (hk : k < ns.length) (w : World) (hN : Nds w.heap.size w sv ns) :
    Calls Try.prog 23 #[.agg #[.int .i64 sl, .int .i64 sh, sv], .int .i64 (k : Int)] w fun e w' => ∃ v, e = .returned (.tuple #[v, .int .i64 0]) ∧ w'.ownsRow w.heap.size 3 1 v (sub (par ns) ns.length k).length (flatN (sub (par ns) ns.length k)) ∧ Below w.heap.size w w' := by
  have c1 := Lib.hid (fun W (h : Below w.heap.size w W) => checkNode_any sl sh sv ns k W (hN.at h))
  have hE : nodE sl sh ns (k : Int) = 0 := by
    unfold nodE
    rw [if_pos hv.err, if_pos ⟨by omega, by omega⟩]
  rw [hE] at c1
  obtain ⟨a, cap, rfl⟩ := hN.form
  have hp := dfs_perm hv.all hk
  have hdl : (dfs (par ns) ns.length k).length ≤ 60 := by rw [hp.length_eq]; exact Nat.le_trans sub_len hv.len
  have hd0 : dfs (par ns) ns.length k ≠ [] := by rw [dfs_eq hv.all.tree hk]; simp
  have cD := Lib.hid (fun (Bx : Nat) (W0 W : World) (h0 : Below w.heap.size w W0) (hB0 : W0.heap.size ≤ Bx) (hB1 : Bx < W.heap.size) (hJ : SuJ Bx W0.heap.size W.heap.size W0 [] W) =>
    down_pre sl sh a cap 84 #[.pointer (some ⟨Bx, 0, none⟩)] ns hv.all hv.len (enters_of Try.func84 (by kernel_rfl) rfl) k hk W (SuJ Bx W0.heap.size W.heap.size W0) (fun pre W W' h hb => h.keep hb)
      (fun pre W h => hN.mono (h0.trans (h.2.1.mono h0.size)) (Nat.le_trans h0.size h.2.2))
      (fun pre j W' hj hc hz hpx h => sub_visit Bx W0.heap.size W.heap.size W0 hB0 hB1 pre j W' (by have := hpx.length_le; simp at this; omega) hz h) hJ)
  have cS := Lib.hid (fun base v W (h : W.ownsRow base 3 1 v (dfs (par ns) ns.length k).length (flatN (dfs (par ns) ns.length k))) => sort_own base v (dfs (par ns) ns.length k) ns.length (fun i => decide (k ∈ pth (par ns) i)) (nodup_dfs hv.all.tree _ _ k (Nat.le_refl _) hk)
    (fun i => by rw [mem_dfs_iff hv.all.tree hk, decide_eq_true_iff]) hdl hd0 W h)
  have HRES := Lib.hid (show ∀ (W : World) base v, W.ownsRow base 3 1 v (dfs (par ns) ns.length k).length (flatN (pick ns.length (fun i => decide (k ∈ pth (par ns) i)))) → w.heap.size ≤ base → W.ownsRow w.heap.size 3 1 v (sub (par ns) ns.length k).length (flatN (sub (par ns) ns.length k)) from fun W base v h hb => by
    rw [← hp.length_eq]; exact own_base h hb)
  clear hN hE hv hp hdl hd0
  unfold WalkP at cD
  generalize sub (par ns) ns.length k = SS at *
  generalize flatN (pick ns.length (fun i => decide (k ∈ pth (par ns) i))) = FF at *
  generalize dfs (par ns) ns.length k = DD at *
  generalize hnn : ns.length = n at *
  clear hnn
  obtain ⟨A, hA⟩ : ∃ A, A = w.alloc (.cells #[.int .i64 sl, .int .i64 sh, .slice a n cap] 26) := ⟨_, rfl⟩
  have HBA := Lib.hid (show Below w.heap.size w A by rw [hA]; exact ((Below.refl _ _).alloc (Nat.le_refl _) _))
  have hltA : w.heap.size + 1 ≤ A.heap.size := by rw [hA]; simp
  have q0 : A.cell? ⟨w.heap.size, 0, none⟩ = some (.int .i64 sl) := by rw [hA]; exact (cellHB (World.alloc_heap_new w _) 0).trans (by simp)
  have q1 : A.cell? ⟨w.heap.size, 1, none⟩ = some (.int .i64 sh) := by rw [hA]; exact (cellHB (World.alloc_heap_new w _) 1).trans (by simp)
  have q2 : A.cell? ⟨w.heap.size, 2, none⟩ = some (.slice a n cap) := by rw [hA]; exact (cellHB (World.alloc_heap_new w _) 2).trans (by simp)
  have KK := Lib.hid (show ∀ W, Below A.heap.size A W → W.cell? ⟨w.heap.size, 0, none⟩ = some (.int .i64 sl) ∧ W.cell? ⟨w.heap.size, 1, none⟩ = some (.int .i64 sh) ∧ W.cell? ⟨w.heap.size, 2, none⟩ = some (.slice a n cap) from fun W h => ⟨(h.cell (p := ⟨w.heap.size, 0, none⟩) (by show w.heap.size < A.heap.size; omega)).trans q0, (h.cell (p := ⟨w.heap.size, 1, none⟩) (by show w.heap.size < A.heap.size; omega)).trans q1, (h.cell (p := ⟨w.heap.size, 2, none⟩) (by show w.heap.size < A.heap.size; omega)).trans q2⟩)
  have HLT := Lib.hid hltA
  clear hltA q0 q1 q2
  obtain ⟨k0, k1, k2⟩ := KK.out _ (Below.refl _ _)
  go_enter Try.func23, Try.ntmps23
  go_upto_region 1 with fail
  rw [← hA]
  clear hA
  go_wp2_with fail
  refine (c1.out _ HBA.out).mono ?_
  rintro e w1 ⟨rfl, hb⟩
  have HB1 := Lib.hid hb
  clear hb k0 k1 k2
  obtain ⟨k0, k1, k2⟩ := KK.out _ HB1.out
  obtain ⟨V, hV⟩ : ∃ V, V = w1.alloc (.cells #[.slice none 0 0] 29) := ⟨_, rfl⟩
  have hbV : Below w1.heap.size w1 V := by rw [hV]; exact (Below.refl _ _).alloc (Nat.le_refl _) _
  have hbx : Boxed V w1.heap.size 29 (.slice none 0 0) := by rw [hV]; exact Boxed.new _ _ _
  have HW := Lib.hid (HBA.out.trans (HB1.out.mono HBA.out.size))
  have Q := Lib.hid (cD.out w1.heap.size w1 V HW.out (Nat.le_refl _) hbx.lt ⟨⟨_, hbx, World.ownsRow_nil _ _ _ _⟩, hbV, hbV.size⟩)
  have HVZ := Lib.hid hbx.lt
  have hbAV := HB1.out.trans (hbV.mono HB1.out.size)
  clear k0 k1 k2
  obtain ⟨k0, k1, k2⟩ := KK.out _ hbAV
  go_upto_region 5 with fail
  rw [← hV]
  clear hV hbV hbx hbAV
  go_wp2_with fail
  refine Q.out.mono ?_
  rintro e w2 ⟨rfl, ⟨⟨v, hbx, hrow⟩, hb2, hz2⟩⟩
  have HX := Lib.hid hbx
  have HR := Lib.hid hrow
  have HB2 := Lib.hid (HW.out.trans (hb2.mono HW.out.size))
  have xc := hbx.cell
  clear hbx hrow hb2 k0 k1 k2
  go_wp2_with fail
  refine (cS.out _ v _ HR.out).mono ?_
  rintro e w3 ⟨rfl, hrow3, hg3, hb3⟩
  have hxe : w3.heap[w1.heap.size]? = w2.heap[w1.heap.size]? := hg3.block _ HX.out.lt (fun e => by have h1 := (HR.out.lt _ e.symm).1; have h2 := HVZ.out; omega)
  have HR3 := Lib.hid (HRES.out _ _ _ hrow3 (by have h1 := HW.out.size; have h2 := HVZ.out; omega))
  have HB3 := Lib.hid (HB2.out.trans (hb3.mono (by have h1 := HW.out.size; have h2 := HVZ.out; omega)))
  have xc3 := (cell_of_heap hxe 0).trans xc
  clear hxe hrow3 hg3 hb3 xc
  go_wp2_with fail
  go_ret2
  exact ⟨_, rfl, HR3.out, HB3.out⟩
end Go.Proofs.Ytdohfpnnmppdkaa

/-
  Cables: the voltages of all nodes.
-/
import Derived.Test.YtdohfpnnmppdkaaCbI
namespace Go.Proofs.Ytdohfpnnmppdkaa
open Go.RowKit Go.Shelf
set_option linter.unusedSimpArgs false
/-- a made row of spans -/
theorem make_spans (w : World) (n : Nat) (hn : n ≤ 1000) : ∃ w', (Instr.makeSlice 36 (.int .i64 (n : Int)) (.int .i64 (n : Int))).run Try.prog w = .ok (.slice (some ⟨w.heap.size, 0, none⟩) n n) w' ∧
    RowC w' w.heap.size 23 (n * 2) (spc (fun _ => (0, 0))) ∧ Below w.heap.size w w' ∧ w.heap.size < w'.heap.size := by
  obtain ⟨i0, hi0, hz0, hz1, hz2⟩ := info_parts (t := 23) (z := .agg #[.int .i64 0, .int .i64 0]) (size := 2) (bytes := 16) (by kernel_rfl)
  obtain ⟨w2, hM, hS, hg⟩ := run_make_full (P := Try.prog) w w.heap.size 36 23 i0 _ 2 Try.underlying36 hi0 hz0 hz1 .i64 .i64 n (by rw [hz2]; omega) (by unfold maxLen; omega) (Nat.le_refl _)
  obtain ⟨-, hR⟩ := rowC_of_own hS rfl
  have hR0 : RowC w2 w.heap.size 23 (n * 2) (spc (fun _ => (0, 0))) := hR.ext fun j hj => by
    unfold spc
    rcases Nat.mod_two_eq_zero_or_one j with m | m <;> simp [madeCells, Value.cells, hj, m]
  exact ⟨w2, hM, hR0, (Below.refl _ w).grown hg (Nat.le_refl _) (fun r e => by cases e), hR0.lt⟩
set_option maxRecDepth 100000 in
set_option maxHeartbeats 4000000 in
theorem voltages_any (sl sh : Int) (sv : Value) (ns : List Nd) (hv : ValidC sl sh ns) (w : World) (hN : Nds w.heap.size w sv ns) :
    Calls Try.prog 94 #[.agg #[.int .i64 sl, .int .i64 sh, sv]] w fun e w' => ∃ g, e = .returned (.slice (some ⟨g, 0, none⟩) ns.length ns.length) ∧ RowC w' g 23 (ns.length * 2) (spc (vol sl sh ns)) ∧ w.heap.size ≤ g ∧ Below w.heap.size w w' := by
  have c1 := Lib.hid (fun W (h : Below w.heap.size w W) => currents_any sl sh sv ns hv W (hN.at h))
  obtain ⟨a, cap, hsv⟩ := hN.form
  subst hsv
  have hn : ns.length ≤ 60 := hv.len
  have c2 := Lib.hid (fun (C Lb Cb G gc : Nat) (W4 : World) (hne : C ≠ G ∧ Lb ≠ G ∧ Cb ≠ G ∧ gc ≠ G) (hG : w.heap.size ≤ G) (hG1 : G < W4.heap.size) (h0 : VoJ ns sl sh a cap C Lb Cb G gc w.heap.size w [] W4) =>
    down_any sl sh a cap 153 #[.pointer (some ⟨C, 0, none⟩), .pointer (some ⟨Lb, 0, none⟩), .pointer (some ⟨Cb, 0, none⟩)] ns hv.all hv.len (enters_of Try.func153 (by kernel_rfl) rfl) 0 hv.pos W4 (VoJ ns sl sh a cap C Lb Cb G gc w.heap.size w)
      (fun pre W W' h hb => h.keep hb) (fun pre W h => hN.mono h.2.2.2.2.2.1 h.2.2.2.2.2.2) (fun pre j W hj hc hz h => volts_visit ns sl sh hv a cap C Lb Cb G gc w.heap.size W4.heap.size w hN hne hG hG1 pre j W hj hc hz h) h0)
  have HALL := Lib.hid (show ∀ W g, RowC W g 23 (ns.length * 2) (spc (fun j => if j ∈ dfs (par ns) ns.length 0 then vol sl sh ns j else (0, 0))) → RowC W g 23 (ns.length * 2) (spc (vol sl sh ns)) from fun W g h => h.ext fun j hj => by
    have e : j / 2 ∈ dfs (par ns) ns.length 0 := (mem_dfs_iff hv.all.tree hv.pos).2 ⟨by omega, zero_mem hv.all.tree _⟩
    unfold spc
    simp only [if_pos e])
  have HJ0 := Lib.hid (show ∀ C Lb Cb G gc W, W.heap[C]? = some (.cells #[.int .i64 sl, .int .i64 sh, .slice a ns.length cap] 26 (0, 0)) → W.heap[Lb]? = some (.cells #[.slice (some ⟨G, 0, none⟩) ns.length ns.length] 36 (0, 0)) → W.heap[Cb]? = some (.cells #[.slice (some ⟨gc, 0, none⟩) ns.length ns.length] 36 (0, 0)) →
    RowC W gc 23 (ns.length * 2) (spc (fun j => (curL ns j, curH ns j))) → RowC W G 23 (ns.length * 2) (spc (fun _ => (0, 0))) → Below w.heap.size w W → VoJ ns sl sh a cap C Lb Cb G gc w.heap.size w [] W from fun C Lb Cb G gc W h1 h2 h3 h4 h5 h6 => ⟨h1, h2, h3, h4, h5.ext fun j hj => by simp, h6, h6.size⟩)
  have HJR := Lib.hid (show ∀ C Lb Cb G gc W l, VoJ ns sl sh a cap C Lb Cb G gc w.heap.size w l W → W.heap[Lb]? = some (.cells #[.slice (some ⟨G, 0, none⟩) ns.length ns.length] 36 (0, 0)) ∧ RowC W G 23 (ns.length * 2) (spc (fun j => if j ∈ l then vol sl sh ns j else (0, 0))) ∧ Below w.heap.size w W from fun C Lb Cb G gc W l h => ⟨h.2.1, h.2.2.2.2.1, h.2.2.2.2.2.1⟩)
  clear hN hv
  generalize (fun j => (curL ns j, curH ns j)) = CU at *
  generalize VoJ ns sl sh a cap = JJ at *
  generalize dfs (par ns) ns.length 0 = DD at *
  generalize ns.length = n at *
  unfold WalkP at c2
  obtain ⟨A, hA⟩ : ∃ A, A = w.alloc (.cells #[.int .i64 sl, .int .i64 sh, .slice a n cap] 26) := ⟨_, rfl⟩
  have HBA := Lib.hid (show Below w.heap.size w A by rw [hA]; exact ((Below.refl _ _).alloc (Nat.le_refl _) _))
  have hltA : w.heap.size + 1 ≤ A.heap.size := by rw [hA]; simp
  have q0 : A.cell? ⟨w.heap.size, 0, none⟩ = some (.int .i64 sl) := by rw [hA]; exact (cellHB (World.alloc_heap_new w _) 0).trans (by simp)
  have q1 : A.cell? ⟨w.heap.size, 1, none⟩ = some (.int .i64 sh) := by rw [hA]; exact (cellHB (World.alloc_heap_new w _) 1).trans (by simp)
  have q2 : A.cell? ⟨w.heap.size, 2, none⟩ = some (.slice a n cap) := by rw [hA]; exact (cellHB (World.alloc_heap_new w _) 2).trans (by simp)
  have KK := Lib.hid (show ∀ W, Below A.heap.size A W → W.cell? ⟨w.heap.size, 0, none⟩ = some (.int .i64 sl) ∧ W.cell? ⟨w.heap.size, 1, none⟩ = some (.int .i64 sh) ∧ W.cell? ⟨w.heap.size, 2, none⟩ = some (.slice a n cap) from fun W h => ⟨(h.cell (p := ⟨w.heap.size, 0, none⟩) (by show w.heap.size < A.heap.size; omega)).trans q0, (h.cell (p := ⟨w.heap.size, 1, none⟩) (by show w.heap.size < A.heap.size; omega)).trans q1, (h.cell (p := ⟨w.heap.size, 2, none⟩) (by show w.heap.size < A.heap.size; omega)).trans q2⟩)
  have HLT := Lib.hid hltA
  clear hltA q0 q1 q2
  obtain ⟨k0, k1, k2⟩ := KK.out _ (Below.refl _ _)
  have hA0 : A.heap[w.heap.size]? = some (.cells #[.int .i64 sl, .int .i64 sh, .slice a n cap] 26 (0, 0)) := by rw [hA]; exact World.alloc_heap_new _ _
  have HA0 := Lib.hid hA0
  clear hA0
  go_enter Try.func94, Try.ntmps94
  go_upto_region 1 with fail
  rw [← hA]
  clear hA
  go_wp2_with fail
  refine (c1.out _ HBA.out).mono ?_
  rintro e w1 ⟨gc, rfl, hr, hgc, hb⟩
  obtain ⟨w2, hw2⟩ : ∃ w2, w2 = w1.alloc (.cells #[.slice (some ⟨gc, 0, none⟩) n n] 36) := ⟨_, rfl⟩
  obtain ⟨w3, hM, hR3, hb3, hz3⟩ := make_spans w2 n (by omega)
  have hb2 : Below w1.heap.size w1 w2 := by rw [hw2]; exact (Below.refl _ _).alloc (Nat.le_refl _) _
  have hz2 : w2.heap.size = w1.heap.size + 1 := by rw [hw2]; simp
  rw [hz2] at hM hR3
  obtain ⟨w4, hw4⟩ : ∃ w4, w4 = w3.alloc (.cells #[.slice (some ⟨w1.heap.size + 1, 0, none⟩) n n] 36) := ⟨_, rfl⟩
  have hb4 : Below w3.heap.size w3 w4 := by rw [hw4]; exact (Below.refl _ _).alloc (Nat.le_refl _) _
  have hb14 : Below w1.heap.size w1 w4 := hb2.trans ((hb3.mono (by omega)).trans (hb4.mono (by have := hb3.size; omega)))
  have hb24 : Below w2.heap.size w2 w4 := hb3.trans (hb4.mono hb3.size)
  have hbA4 : Below A.heap.size A w4 := hb.trans (hb14.mono hb.size)
  have e1 : w4.heap[w.heap.size]? = some (.cells #[.int .i64 sl, .int .i64 sh, .slice a n cap] 26 (0, 0)) := (hbA4.block _ (Array.getElem?_eq_some_iff.1 HA0.out).1).trans HA0.out
  have e2 : w4.heap[w3.heap.size]? = some (.cells #[.slice (some ⟨w1.heap.size + 1, 0, none⟩) n n] 36 (0, 0)) := by rw [hw4]; exact World.alloc_heap_new _ _
  have e3 : w4.heap[w1.heap.size]? = some (.cells #[.slice (some ⟨gc, 0, none⟩) n n] 36 (0, 0)) := (hb24.block _ (by omega)).trans (by rw [hw2]; exact World.alloc_heap_new _ _)
  have e4 := hr.keep hb14
  have e5 := hR3.keep hb4
  have hgcl := hr.lt
  have hAl := HBA.out.size
  have hw1l := hb.size
  have Q := Lib.hid (c2.out w.heap.size w3.heap.size w1.heap.size (w1.heap.size + 1) gc w4 ⟨by omega, by omega, by omega, by omega⟩ (by omega) (by have := hb24.size; have := hb4.size; have := hR3.lt; omega) (HJ0.out _ _ _ _ _ _ e1 e2 e3 e4 e5 (HBA.out.trans (hbA4.mono HBA.out.size))))
  have HJR1 := Lib.hid (HJR.out w.heap.size w3.heap.size w1.heap.size (w1.heap.size + 1) gc)
  have HG := Lib.hid (show w.heap.size ≤ w1.heap.size + 1 by omega)
  have KA := Lib.hid (show ∀ Z, Below A.heap.size A Z → Z.cell? ⟨w.heap.size, 0, none⟩ = some (.int .i64 sl) ∧ Z.cell? ⟨w.heap.size, 1, none⟩ = some (.int .i64 sh) ∧ Z.cell? ⟨w.heap.size, 1 + 1, none⟩ = some (.slice a n cap) from fun Z h => KK.out Z h)
  have m0 := (KK.out _ (hb.trans (hb2.mono hb.size))).2.2
  have m4 := KA.out _ hbA4
  obtain ⟨m40, m41, m42⟩ := m4
  clear hr hgc e1 e3 e4 e5 hR3 hb hb2 hb3 hb4 hb14 hb24 hbA4 hgcl hAl hw1l hz2 hz3 k0 k1 k2
  rw [hw2] at hM m0
  go_upto_region 3 with fail
  rw [← hw4]
  clear hM hw2 hw4 m0
  go_wp2_with fail
  refine Q.out.mono ?_
  rintro e w5 ⟨rfl, hj⟩
  obtain ⟨f1, f2, f3⟩ := HJR1.out _ _ hj
  have HR := Lib.hid (HALL.out _ _ f2)
  have HB := Lib.hid f3
  have l0 := cellHB f1 0
  clear hj f1 f2 f3 m40 m41 m42
  go_wp2_with fail
  go_ret
  exact ⟨_, rfl, HR.out, HG.out, HB.out⟩
set_option maxHeartbeats 2000000 in
theorem voltages_bad (sl sh : Int) (sv : Value) (ns : List Nd) (hE : cabE sl sh ns ≠ 0) (w : World) (hN : Nds w.heap.size w sv ns) :
    Calls Try.prog 30 #[.agg #[.int .i64 sl, .int .i64 sh, sv]] w fun e w' => e = .returned (.tuple #[.slice none 0 0, .int .i64 (cabE sl sh ns)]) ∧ Below w.heap.size w w' := by
  have c1 := Lib.hid (fun W (h : Below w.heap.size w W) => check25 sl sh sv ns W (hN.at h))
  obtain ⟨a, cap, hsv⟩ := hN.form
  subst hsv
  clear hN
  generalize cabE sl sh ns = E at *
  generalize ns.length = n at *
  have hE' : (E == 0) = false := by simpa using hE
  clear hE
  obtain ⟨A, hA⟩ : ∃ A, A = w.alloc (.cells #[.int .i64 sl, .int .i64 sh, .slice a n cap] 26) := ⟨_, rfl⟩
  have HBA := Lib.hid (show Below w.heap.size w A by rw [hA]; exact ((Below.refl _ _).alloc (Nat.le_refl _) _))
  have hltA : w.heap.size + 1 ≤ A.heap.size := by rw [hA]; simp
  have q0 : A.cell? ⟨w.heap.size, 0, none⟩ = some (.int .i64 sl) := by rw [hA]; exact (cellHB (World.alloc_heap_new w _) 0).trans (by simp)
  have q1 : A.cell? ⟨w.heap.size, 1, none⟩ = some (.int .i64 sh) := by rw [hA]; exact (cellHB (World.alloc_heap_new w _) 1).trans (by simp)
  have q2 : A.cell? ⟨w.heap.size, 2, none⟩ = some (.slice a n cap) := by rw [hA]; exact (cellHB (World.alloc_heap_new w _) 2).trans (by simp)
  have KK := Lib.hid (show ∀ W, Below A.heap.size A W → W.cell? ⟨w.heap.size, 0, none⟩ = some (.int .i64 sl) ∧ W.cell? ⟨w.heap.size, 1, none⟩ = some (.int .i64 sh) ∧ W.cell? ⟨w.heap.size, 2, none⟩ = some (.slice a n cap) from fun W h => ⟨(h.cell (p := ⟨w.heap.size, 0, none⟩) (by show w.heap.size < A.heap.size; omega)).trans q0, (h.cell (p := ⟨w.heap.size, 1, none⟩) (by show w.heap.size < A.heap.size; omega)).trans q1, (h.cell (p := ⟨w.heap.size, 2, none⟩) (by show w.heap.size < A.heap.size; omega)).trans q2⟩)
  have HLT := Lib.hid hltA
  clear hltA q0 q1 q2
  obtain ⟨k0, k1, k2⟩ := KK.out _ (Below.refl _ _)
  go_enter Try.func30, Try.ntmps30
  go_upto_region 1 with fail
  rw [← hA]
  clear hA
  go_wp2_with fail
  refine (c1.out _ HBA.out).mono ?_
  rintro e w1 ⟨rfl, hb⟩
  have HB1 := Lib.hid hb
  clear hb k0 k1 k2
  obtain ⟨k0, k1, k2⟩ := KK.out _ HB1.out
  go_wp2_with fail
  go_ret2
  exact ⟨rfl, HBA.out.trans (HB1.out.mono HBA.out.size)⟩
set_option maxHeartbeats 2000000 in
theorem voltages_ok (sl sh : Int) (sv : Value) (ns : List Nd) (hv : ValidC sl sh ns) (w : World) (hN : Nds w.heap.size w sv ns) :
    Calls Try.prog 30 #[.agg #[.int .i64 sl, .int .i64 sh, sv]] w fun e w' => ∃ g, e = .returned (.tuple #[.slice (some ⟨g, 0, none⟩) ns.length ns.length, .int .i64 0]) ∧ RowC w' g 23 (ns.length * 2) (spc (vol sl sh ns)) ∧ w.heap.size ≤ g ∧ Below w.heap.size w w' := by
  have c1 := Lib.hid (fun W (h : Below w.heap.size w W) => check25 sl sh sv ns W (hN.at h))
  rw [hv.err] at c1
  have c2 := Lib.hid (fun W (h : Below w.heap.size w W) => voltages_any sl sh sv ns hv W (hN.at h))
  obtain ⟨a, cap, hsv⟩ := hN.form
  subst hsv
  clear hN hv
  generalize vol sl sh ns = RES at *
  generalize ns.length = n at *
  obtain ⟨A, hA⟩ : ∃ A, A = w.alloc (.cells #[.int .i64 sl, .int .i64 sh, .slice a n cap] 26) := ⟨_, rfl⟩
  have HBA := Lib.hid (show Below w.heap.size w A by rw [hA]; exact ((Below.refl _ _).alloc (Nat.le_refl _) _))
  have hltA : w.heap.size + 1 ≤ A.heap.size := by rw [hA]; simp
  have q0 : A.cell? ⟨w.heap.size, 0, none⟩ = some (.int .i64 sl) := by rw [hA]; exact (cellHB (World.alloc_heap_new w _) 0).trans (by simp)
  have q1 : A.cell? ⟨w.heap.size, 1, none⟩ = some (.int .i64 sh) := by rw [hA]; exact (cellHB (World.alloc_heap_new w _) 1).trans (by simp)
  have q2 : A.cell? ⟨w.heap.size, 2, none⟩ = some (.slice a n cap) := by rw [hA]; exact (cellHB (World.alloc_heap_new w _) 2).trans (by simp)
  have KK := Lib.hid (show ∀ W, Below A.heap.size A W → W.cell? ⟨w.heap.size, 0, none⟩ = some (.int .i64 sl) ∧ W.cell? ⟨w.heap.size, 1, none⟩ = some (.int .i64 sh) ∧ W.cell? ⟨w.heap.size, 2, none⟩ = some (.slice a n cap) from fun W h => ⟨(h.cell (p := ⟨w.heap.size, 0, none⟩) (by show w.heap.size < A.heap.size; omega)).trans q0, (h.cell (p := ⟨w.heap.size, 1, none⟩) (by show w.heap.size < A.heap.size; omega)).trans q1, (h.cell (p := ⟨w.heap.size, 2, none⟩) (by show w.heap.size < A.heap.size; omega)).trans q2⟩)
  have HLT := Lib.hid hltA
  clear hltA q0 q1 q2
  obtain ⟨k0, k1, k2⟩ := KK.out _ (Below.refl _ _)
  go_enter Try.func30, Try.ntmps30
  go_upto_region 1 with fail
  rw [← hA]
  clear hA
  go_wp2_with fail
  refine (c1.out _ HBA.out).mono ?_
  rintro e w1 ⟨rfl, hb⟩
  have HB1 := Lib.hid hb
  clear hb k0 k1 k2
  obtain ⟨k0, k1, k2⟩ := KK.out _ HB1.out
  have HS1 := Lib.hid (show w.heap.size ≤ w1.heap.size from Nat.le_trans HBA.out.size HB1.out.size)
  go_wp2_with fail
  refine (c2.out _ (HBA.out.trans (HB1.out.mono HBA.out.size))).mono ?_
  rintro e w2 ⟨g, rfl, hr, hg, hb⟩
  have HR := Lib.hid hr
  have HG := Lib.hid (Nat.le_trans HS1.out hg)
  have HB2 := Lib.hid (HB1.out.trans (hb.mono HB1.out.size))
  clear hr hg hb
  go_wp2_with fail
  go_ret2
  exact ⟨_, rfl, HR.out, HG.out, HBA.out.trans (HB2.out.mono HBA.out.size)⟩
end Go.Proofs.Ytdohfpnnmppdkaa

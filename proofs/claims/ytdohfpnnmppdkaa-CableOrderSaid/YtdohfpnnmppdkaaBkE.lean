/-
  Cables: Opens of both sides.
-/
import Derived.Test.YtdohfpnnmppdkaaBkB
namespace Go.Proofs.Ytdohfpnnmppdkaa
open Go.RowKit Go.Shelf
set_option linter.unusedSimpArgs false
attribute [local go_sem] Oper.semAt_some
/-- the results of Opens -/
noncomputable def opnE (sl sh : Int) (ns : List Nd) (f : Int) (zs : List Int) : Int := if stuE sl sh ns zs = 0 then (if 0 < f ∧ f < ns.length then (if cutN ns zs f.toNat = 0 then 5 else 0) else 3) else stuE sl sh ns zs
noncomputable def opnK (sl sh : Int) (ns : List Nd) (f : Int) (zs : List Int) : Int := if stuE sl sh ns zs = 0 ∧ 0 < f ∧ f < ns.length then ((cutN ns zs f.toNat : Nat) : Int) else 0
theorem opn_bad {sl sh : Int} {ns : List Nd} {f : Int} {zs : List Int} (h : stuE sl sh ns zs ≠ 0) : opnE sl sh ns f zs = stuE sl sh ns zs ∧ opnK sl sh ns f zs = 0 := by
  unfold opnE opnK
  rw [if_neg h, if_neg (fun q => h q.1)]
  exact ⟨rfl, rfl⟩
theorem opn_far {sl sh : Int} {ns : List Nd} {f : Int} {zs : List Int} (h : stuE sl sh ns zs = 0) (hf : ¬ (0 < f ∧ f < ns.length)) : opnE sl sh ns f zs = 3 ∧ opnK sl sh ns f zs = 0 := by
  unfold opnE opnK
  rw [if_pos h, if_neg hf, if_neg (fun q => hf q.2)]
  exact ⟨rfl, rfl⟩
theorem opn_in {sl sh : Int} {ns : List Nd} {k : Nat} {zs : List Int} (h : stuE sl sh ns zs = 0) (h0 : 0 < k) (hk : k < ns.length) : opnE sl sh ns (k : Int) zs = (if cutN ns zs k = 0 then 5 else 0) ∧ opnK sl sh ns (k : Int) zs = ((cutN ns zs k : Nat) : Int) := by
  unfold opnE opnK
  refine ⟨?_, ?_⟩
  · rw [if_pos h, if_pos (show (0 : Int) < (k : Int) ∧ (k : Int) < (ns.length : Int) by omega), Int.toNat_natCast]
  · rw [if_pos ⟨h, by omega, by omega⟩, Int.toNat_natCast]
set_option maxRecDepth 100000 in
set_option maxHeartbeats 4000000 in
theorem opens_any (sl sh : Int) (sv zv : Value) (ns : List Nd) (f : Int) (zs : List Int) (w : World) (hzl : zs.length ≤ 1000) (hN : Nds w.heap.size w sv ns) (hZ : Il w.heap.size w zv zs) :
    Calls Try.prog 38 #[.agg #[.int .i64 sl, .int .i64 sh, sv], .int .i64 f, zv] w fun e w' => e = .returned (.tuple #[.int .i64 (opnK sl sh ns f zs), .int .i64 (opnE sl sh ns f zs)]) ∧ Below w.heap.size w w' := by
  have c98 := Lib.hid (fun W (h : Below w.heap.size w W) => checkStuck_any sl sh sv zv ns zs W (hN.at h) (hZ.at h) hzl)
  obtain ⟨a, cap, hsv⟩ := hN.form
  have c100 := Lib.hid (fun (hv : ValidC sl sh ns) (k : Nat) (hk : k < ns.length) W (h : Below w.heap.size w W) => cut_any sl sh sv zv ns zs hv.all hv.len k hk hzl W (hN.at h) (hZ.at h))
  have c99 := Lib.hid (fun (hn : ns.length ≤ 1000) W => isSegment_any sl sh a ns.length cap hn f W)
  have HV := Lib.hid (fun (h : stuE sl sh ns zs = 0) => (stuE_ok h).1)
  have R1 := Lib.hid (opn_bad (sl := sl) (sh := sh) (ns := ns) (f := f) (zs := zs))
  have R2 := Lib.hid (opn_far (sl := sl) (sh := sh) (ns := ns) (f := f) (zs := zs))
  have R3 := Lib.hid (fun (k : Nat) => opn_in (sl := sl) (sh := sh) (ns := ns) (k := k) (zs := zs))
  obtain ⟨za, zc, hzv⟩ := hZ.form
  subst hsv
  subst hzv
  clear hN hZ
  generalize zs.length = zm at *
  by_cases hE : stuE sl sh ns zs = 0
  rotate_left
  · obtain ⟨r1, r2⟩ := R1.out hE
    rw [r1, r2]
    have hE' : (stuE sl sh ns zs != 0) = true := by simpa using hE
    clear R1 R2 R3 HV c99 c100 r1 r2
    generalize stuE sl sh ns zs = E at *
    generalize ns.length = n at *
    obtain ⟨A, hA⟩ : ∃ A, A = w.alloc (.cells #[.int .i64 sl, .int .i64 sh, .slice a n cap] 26) := ⟨_, rfl⟩
    have HBA := Lib.hid (show Below w.heap.size w A by rw [hA]; exact ((Below.refl _ _).alloc (Nat.le_refl _) _))
    have hltA : w.heap.size + 1 ≤ A.heap.size := by rw [hA]; simp
    have q0 : A.cell? ⟨w.heap.size, 0, none⟩ = some (.int .i64 sl) := by rw [hA]; exact (cellHB (World.alloc_heap_new w _) 0).trans (by simp)
    have q1 : A.cell? ⟨w.heap.size, 1, none⟩ = some (.int .i64 sh) := by rw [hA]; exact (cellHB (World.alloc_heap_new w _) 1).trans (by simp)
    have q2 : A.cell? ⟨w.heap.size, 2, none⟩ = some (.slice a n cap) := by rw [hA]; exact (cellHB (World.alloc_heap_new w _) 2).trans (by simp)
    have KK := Lib.hid (show ∀ W, Below A.heap.size A W → W.cell? ⟨w.heap.size, 0, none⟩ = some (.int .i64 sl) ∧ W.cell? ⟨w.heap.size, 1, none⟩ = some (.int .i64 sh) ∧ W.cell? ⟨w.heap.size, 2, none⟩ = some (.slice a n cap) from fun W h => ⟨(h.cell (p := ⟨w.heap.size, 0, none⟩) (by show w.heap.size < A.heap.size; omega)).trans q0, (h.cell (p := ⟨w.heap.size, 1, none⟩) (by show w.heap.size < A.heap.size; omega)).trans q1, (h.cell (p := ⟨w.heap.size, 2, none⟩) (by show w.heap.size < A.heap.size; omega)).trans q2⟩)
    have HLT := Lib.hid hltA
    clear hltA q0 q1 q2
    obtain ⟨k0, k1, k2⟩ := KK.out _ (Below.refl _ _)
    go_enter Try.func38, Try.ntmps38
    go_upto_region 1 with fail
    rw [← hA]
    clear hA
    go_wp2_with fail
    refine (c98.out _ HBA.out).mono ?_
    rintro e w1 ⟨rfl, hb⟩
    have HB1 := Lib.hid hb
    clear hb k0 k1 k2
    obtain ⟨k0, k1, k2⟩ := KK.out _ HB1.out
    go_wp2_with fail
    go_ret2
    exact ⟨by first | rfl | simp [*], HBA.out.trans (HB1.out.mono HBA.out.size)⟩
  have hv := HV.out hE
  have hl := hv.len
  by_cases hf : 0 < f ∧ f < ns.length
  rotate_left
  · obtain ⟨r1, r2⟩ := R2.out hE hf
    rw [r1, r2]
    rw [hE] at c98
    have c9 := c99.out (by omega)
    rw [decide_eq_false hf] at c9
    clear R1 R2 R3 HV c99 c100 r1 r2 hv hf hE
    generalize ns.length = n at *
    obtain ⟨A, hA⟩ : ∃ A, A = w.alloc (.cells #[.int .i64 sl, .int .i64 sh, .slice a n cap] 26) := ⟨_, rfl⟩
    have HBA := Lib.hid (show Below w.heap.size w A by rw [hA]; exact ((Below.refl _ _).alloc (Nat.le_refl _) _))
    have hltA : w.heap.size + 1 ≤ A.heap.size := by rw [hA]; simp
    have q0 : A.cell? ⟨w.heap.size, 0, none⟩ = some (.int .i64 sl) := by rw [hA]; exact (cellHB (World.alloc_heap_new w _) 0).trans (by simp)
    have q1 : A.cell? ⟨w.heap.size, 1, none⟩ = some (.int .i64 sh) := by rw [hA]; exact (cellHB (World.alloc_heap_new w _) 1).trans (by simp)
    have q2 : A.cell? ⟨w.heap.size, 2, none⟩ = some (.slice a n cap) := by rw [hA]; exact (cellHB (World.alloc_heap_new w _) 2).trans (by simp)
    have KK := Lib.hid (show ∀ W, Below A.heap.size A W → W.cell? ⟨w.heap.size, 0, none⟩ = some (.int .i64 sl) ∧ W.cell? ⟨w.heap.size, 1, none⟩ = some (.int .i64 sh) ∧ W.cell? ⟨w.heap.size, 2, none⟩ = some (.slice a n cap) from fun W h => ⟨(h.cell (p := ⟨w.heap.size, 0, none⟩) (by show w.heap.size < A.heap.size; omega)).trans q0, (h.cell (p := ⟨w.heap.size, 1, none⟩) (by show w.heap.size < A.heap.size; omega)).trans q1, (h.cell (p := ⟨w.heap.size, 2, none⟩) (by show w.heap.size < A.heap.size; omega)).trans q2⟩)
    have HLT := Lib.hid hltA
    clear hltA q0 q1 q2
    obtain ⟨k0, k1, k2⟩ := KK.out _ (Below.refl _ _)
    go_enter Try.func38, Try.ntmps38
    go_upto_region 1 with fail
    rw [← hA]
    clear hA
    go_wp2_with fail
    refine (c98.out _ HBA.out).mono ?_
    rintro e w1 ⟨rfl, hb⟩
    have HB1 := Lib.hid hb
    clear hb k0 k1 k2
    obtain ⟨k0, k1, k2⟩ := KK.out _ HB1.out
    go_wp2_with fail
    refine (c9 _).mono ?_
    rintro e w2 ⟨rfl, hb⟩
    have HB2 := Lib.hid (HB1.out.trans (hb.mono HB1.out.size))
    clear hb k0 k1 k2
    obtain ⟨k0, k1, k2⟩ := KK.out _ HB2.out
    go_wp2_with fail
    go_ret2
    exact ⟨by first | rfl | simp [*], HBA.out.trans (HB2.out.mono HBA.out.size)⟩
  obtain ⟨k, rfl⟩ : ∃ k : Nat, f = (k : Int) := ⟨f.toNat, by omega⟩
  obtain ⟨r1, r2⟩ := R3.out k hE (by omega) (by omega)
  rw [r1, r2]
  rw [hE] at c98
  have c9 := c99.out (by omega)
  rw [decide_eq_true hf] at c9
  have c10 := Lib.hid (c100.out hv k (by omega))
  clear R1 R2 R3 HV c99 c100 r1 r2 hv hf hE
  generalize cutN ns zs k = C at *
  generalize ns.length = n at *
  by_cases hC : C = 0
  · subst hC
    rw [if_pos rfl]
    obtain ⟨A, hA⟩ : ∃ A, A = w.alloc (.cells #[.int .i64 sl, .int .i64 sh, .slice a n cap] 26) := ⟨_, rfl⟩
    have HBA := Lib.hid (show Below w.heap.size w A by rw [hA]; exact ((Below.refl _ _).alloc (Nat.le_refl _) _))
    have hltA : w.heap.size + 1 ≤ A.heap.size := by rw [hA]; simp
    have q0 : A.cell? ⟨w.heap.size, 0, none⟩ = some (.int .i64 sl) := by rw [hA]; exact (cellHB (World.alloc_heap_new w _) 0).trans (by simp)
    have q1 : A.cell? ⟨w.heap.size, 1, none⟩ = some (.int .i64 sh) := by rw [hA]; exact (cellHB (World.alloc_heap_new w _) 1).trans (by simp)
    have q2 : A.cell? ⟨w.heap.size, 2, none⟩ = some (.slice a n cap) := by rw [hA]; exact (cellHB (World.alloc_heap_new w _) 2).trans (by simp)
    have KK := Lib.hid (show ∀ W, Below A.heap.size A W → W.cell? ⟨w.heap.size, 0, none⟩ = some (.int .i64 sl) ∧ W.cell? ⟨w.heap.size, 1, none⟩ = some (.int .i64 sh) ∧ W.cell? ⟨w.heap.size, 2, none⟩ = some (.slice a n cap) from fun W h => ⟨(h.cell (p := ⟨w.heap.size, 0, none⟩) (by show w.heap.size < A.heap.size; omega)).trans q0, (h.cell (p := ⟨w.heap.size, 1, none⟩) (by show w.heap.size < A.heap.size; omega)).trans q1, (h.cell (p := ⟨w.heap.size, 2, none⟩) (by show w.heap.size < A.heap.size; omega)).trans q2⟩)
    have HLT := Lib.hid hltA
    clear hltA q0 q1 q2
    obtain ⟨k0, k1, k2⟩ := KK.out _ (Below.refl _ _)
    go_enter Try.func38, Try.ntmps38
    go_upto_region 1 with fail
    rw [← hA]
    clear hA
    go_wp2_with fail
    refine (c98.out _ HBA.out).mono ?_
    rintro e w1 ⟨rfl, hb⟩
    have HB1 := Lib.hid hb
    clear hb k0 k1 k2
    obtain ⟨k0, k1, k2⟩ := KK.out _ HB1.out
    go_wp2_with fail
    refine (c9 _).mono ?_
    rintro e w2 ⟨rfl, hb⟩
    have HB2 := Lib.hid (HB1.out.trans (hb.mono HB1.out.size))
    clear hb k0 k1 k2
    obtain ⟨k0, k1, k2⟩ := KK.out _ HB2.out
    go_wp2_with fail
    refine (c10.out _ (HBA.out.trans (HB2.out.mono HBA.out.size))).mono ?_
    rintro e w3 ⟨rfl, hb⟩
    have HB3 := Lib.hid (HB2.out.trans (hb.mono HB2.out.size))
    clear hb k0 k1 k2
    obtain ⟨k0, k1, k2⟩ := KK.out _ HB3.out
    go_wp2_with fail
    go_ret2
    exact ⟨by first | rfl | simp [*], HBA.out.trans (HB3.out.mono HBA.out.size)⟩
  · rw [if_neg hC]
    have hC' : ((C : Int) == 0) = false := by simpa using hC
    clear hC
    obtain ⟨A, hA⟩ : ∃ A, A = w.alloc (.cells #[.int .i64 sl, .int .i64 sh, .slice a n cap] 26) := ⟨_, rfl⟩
    have HBA := Lib.hid (show Below w.heap.size w A by rw [hA]; exact ((Below.refl _ _).alloc (Nat.le_refl _) _))
    have hltA : w.heap.size + 1 ≤ A.heap.size := by rw [hA]; simp
    have q0 : A.cell? ⟨w.heap.size, 0, none⟩ = some (.int .i64 sl) := by rw [hA]; exact (cellHB (World.alloc_heap_new w _) 0).trans (by simp)
    have q1 : A.cell? ⟨w.heap.size, 1, none⟩ = some (.int .i64 sh) := by rw [hA]; exact (cellHB (World.alloc_heap_new w _) 1).trans (by simp)
    have q2 : A.cell? ⟨w.heap.size, 2, none⟩ = some (.slice a n cap) := by rw [hA]; exact (cellHB (World.alloc_heap_new w _) 2).trans (by simp)
    have KK := Lib.hid (show ∀ W, Below A.heap.size A W → W.cell? ⟨w.heap.size, 0, none⟩ = some (.int .i64 sl) ∧ W.cell? ⟨w.heap.size, 1, none⟩ = some (.int .i64 sh) ∧ W.cell? ⟨w.heap.size, 2, none⟩ = some (.slice a n cap) from fun W h => ⟨(h.cell (p := ⟨w.heap.size, 0, none⟩) (by show w.heap.size < A.heap.size; omega)).trans q0, (h.cell (p := ⟨w.heap.size, 1, none⟩) (by show w.heap.size < A.heap.size; omega)).trans q1, (h.cell (p := ⟨w.heap.size, 2, none⟩) (by show w.heap.size < A.heap.size; omega)).trans q2⟩)
    have HLT := Lib.hid hltA
    clear hltA q0 q1 q2
    obtain ⟨k0, k1, k2⟩ := KK.out _ (Below.refl _ _)
    go_enter Try.func38, Try.ntmps38
    go_upto_region 1 with fail
    rw [← hA]
    clear hA
    go_wp2_with fail
    refine (c98.out _ HBA.out).mono ?_
    rintro e w1 ⟨rfl, hb⟩
    have HB1 := Lib.hid hb
    clear hb k0 k1 k2
    obtain ⟨k0, k1, k2⟩ := KK.out _ HB1.out
    go_wp2_with fail
    refine (c9 _).mono ?_
    rintro e w2 ⟨rfl, hb⟩
    have HB2 := Lib.hid (HB1.out.trans (hb.mono HB1.out.size))
    clear hb k0 k1 k2
    obtain ⟨k0, k1, k2⟩ := KK.out _ HB2.out
    go_wp2_with fail
    refine (c10.out _ (HBA.out.trans (HB2.out.mono HBA.out.size))).mono ?_
    rintro e w3 ⟨rfl, hb⟩
    have HB3 := Lib.hid (HB2.out.trans (hb.mono HB2.out.size))
    clear hb k0 k1 k2
    obtain ⟨k0, k1, k2⟩ := KK.out _ HB3.out
    go_wp2_with fail
    go_ret2
    exact ⟨by first | rfl | simp [*], HBA.out.trans (HB3.out.mono HBA.out.size)⟩
set_option maxRecDepth 100000 in
set_option maxHeartbeats 4000000 in
theorem ropens_any (sl sh : Int) (sv zv : Value) (ns : List Nd) (f : Int) (zs : List Int) (w : World) (hzl : zs.length ≤ 1000) (hN : Nds w.heap.size w sv ns) (hZ : Il w.heap.size w zv zs) :
    Calls Try.prog 39 #[.agg #[.int .i64 sl, .int .i64 sh, sv], .int .i64 f, zv] w fun e w' => e = .returned (.tuple #[.int .i64 (opnK sl sh ns f zs), .int .i64 (opnE sl sh ns f zs)]) ∧ Below w.heap.size w w' := by
  have c26 := Lib.hid (fun W (h : Below w.heap.size w W) => refCheck_any sl sh sv ns W (hN.at h))
  have c101 := Lib.hid (fun W (h : Below w.heap.size w W) => held_any sl sh sv zv ns zs W hzl (hN.at h) (hZ.at h))
  obtain ⟨a, cap, hsv⟩ := hN.form
  have c102 := Lib.hid (fun (hv : ValidC sl sh ns) (k : Nat) (hk : k < ns.length) W (h : Below w.heap.size w W) => refopens_any sl sh sv zv ns zs hv.all hv.len k hk hzl W (hN.at h) (hZ.at h))
  have HS := Lib.hid (stuE_held sl sh ns zs)
  have HV := Lib.hid (fun (h : stuE sl sh ns zs = 0) => (stuE_ok h).1)
  have R1 := Lib.hid (opn_bad (sl := sl) (sh := sh) (ns := ns) (f := f) (zs := zs))
  have R2 := Lib.hid (opn_far (sl := sl) (sh := sh) (ns := ns) (f := f) (zs := zs))
  have R3 := Lib.hid (fun (k : Nat) => opn_in (sl := sl) (sh := sh) (ns := ns) (k := k) (zs := zs))
  obtain ⟨za, zc, hzv⟩ := hZ.form
  subst hsv
  subst hzv
  clear hN hZ
  generalize zs.length = zm at *
  by_cases hE0 : cabE sl sh ns = 0
  rotate_left
  · have hst := HS.out
    rw [if_neg hE0] at hst
    obtain ⟨r1, r2⟩ := R1.out (by rw [hst]; exact hE0)
    rw [r1, r2, hst]
    have hE' : (cabE sl sh ns != 0) = true := by simpa using hE0
    clear R1 R2 R3 HV HS c101 c102 r1 r2 hst
    generalize cabE sl sh ns = E at *
    generalize ns.length = n at *
    obtain ⟨A, hA⟩ : ∃ A, A = w.alloc (.cells #[.int .i64 sl, .int .i64 sh, .slice a n cap] 26) := ⟨_, rfl⟩
    have HBA := Lib.hid (show Below w.heap.size w A by rw [hA]; exact ((Below.refl _ _).alloc (Nat.le_refl _) _))
    have hltA : w.heap.size + 1 ≤ A.heap.size := by rw [hA]; simp
    have q0 : A.cell? ⟨w.heap.size, 0, none⟩ = some (.int .i64 sl) := by rw [hA]; exact (cellHB (World.alloc_heap_new w _) 0).trans (by simp)
    have q1 : A.cell? ⟨w.heap.size, 1, none⟩ = some (.int .i64 sh) := by rw [hA]; exact (cellHB (World.alloc_heap_new w _) 1).trans (by simp)
    have q2 : A.cell? ⟨w.heap.size, 2, none⟩ = some (.slice a n cap) := by rw [hA]; exact (cellHB (World.alloc_heap_new w _) 2).trans (by simp)
    have KK := Lib.hid (show ∀ W, Below A.heap.size A W → W.cell? ⟨w.heap.size, 0, none⟩ = some (.int .i64 sl) ∧ W.cell? ⟨w.heap.size, 1, none⟩ = some (.int .i64 sh) ∧ W.cell? ⟨w.heap.size, 2, none⟩ = some (.slice a n cap) from fun W h => ⟨(h.cell (p := ⟨w.heap.size, 0, none⟩) (by show w.heap.size < A.heap.size; omega)).trans q0, (h.cell (p := ⟨w.heap.size, 1, none⟩) (by show w.heap.size < A.heap.size; omega)).trans q1, (h.cell (p := ⟨w.heap.size, 2, none⟩) (by show w.heap.size < A.heap.size; omega)).trans q2⟩)
    have HLT := Lib.hid hltA
    clear hltA q0 q1 q2
    obtain ⟨k0, k1, k2⟩ := KK.out _ (Below.refl _ _)
    go_enter Try.func39, Try.ntmps39
    go_upto_region 1 with fail
    rw [← hA]
    clear hA
    go_wp2_with fail
    refine (c26.out _ HBA.out).mono ?_
    rintro e w1 ⟨rfl, hb⟩
    have HB1 := Lib.hid hb
    clear hb k0 k1 k2
    obtain ⟨k0, k1, k2⟩ := KK.out _ HB1.out
    go_wp2_with fail
    go_ret2
    exact ⟨by first | rfl | simp [*], HBA.out.trans (HB1.out.mono HBA.out.size)⟩
  have hst := HS.out
  rw [if_pos hE0] at hst
  rw [hE0] at c26
  by_cases hE : helE ns zs = 0
  rotate_left
  · obtain ⟨r1, r2⟩ := R1.out (by rw [hst]; exact hE)
    rw [r1, r2, hst]
    have hE' : (helE ns zs != 0) = true := by simpa using hE
    clear R1 R2 R3 HV HS c102 r1 r2 hst hE0
    generalize helE ns zs = E at *
    generalize ns.length = n at *
    obtain ⟨A, hA⟩ : ∃ A, A = w.alloc (.cells #[.int .i64 sl, .int .i64 sh, .slice a n cap] 26) := ⟨_, rfl⟩
    have HBA := Lib.hid (show Below w.heap.size w A by rw [hA]; exact ((Below.refl _ _).alloc (Nat.le_refl _) _))
    have hltA : w.heap.size + 1 ≤ A.heap.size := by rw [hA]; simp
    have q0 : A.cell? ⟨w.heap.size, 0, none⟩ = some (.int .i64 sl) := by rw [hA]; exact (cellHB (World.alloc_heap_new w _) 0).trans (by simp)
    have q1 : A.cell? ⟨w.heap.size, 1, none⟩ = some (.int .i64 sh) := by rw [hA]; exact (cellHB (World.alloc_heap_new w _) 1).trans (by simp)
    have q2 : A.cell? ⟨w.heap.size, 2, none⟩ = some (.slice a n cap) := by rw [hA]; exact (cellHB (World.alloc_heap_new w _) 2).trans (by simp)
    have KK := Lib.hid (show ∀ W, Below A.heap.size A W → W.cell? ⟨w.heap.size, 0, none⟩ = some (.int .i64 sl) ∧ W.cell? ⟨w.heap.size, 1, none⟩ = some (.int .i64 sh) ∧ W.cell? ⟨w.heap.size, 2, none⟩ = some (.slice a n cap) from fun W h => ⟨(h.cell (p := ⟨w.heap.size, 0, none⟩) (by show w.heap.size < A.heap.size; omega)).trans q0, (h.cell (p := ⟨w.heap.size, 1, none⟩) (by show w.heap.size < A.heap.size; omega)).trans q1, (h.cell (p := ⟨w.heap.size, 2, none⟩) (by show w.heap.size < A.heap.size; omega)).trans q2⟩)
    have HLT := Lib.hid hltA
    clear hltA q0 q1 q2
    obtain ⟨k0, k1, k2⟩ := KK.out _ (Below.refl _ _)
    go_enter Try.func39, Try.ntmps39
    go_upto_region 1 with fail
    rw [← hA]
    clear hA
    go_wp2_with fail
    refine (c26.out _ HBA.out).mono ?_
    rintro e w1 ⟨rfl, hb⟩
    have HB1 := Lib.hid hb
    clear hb k0 k1 k2
    obtain ⟨k0, k1, k2⟩ := KK.out _ HB1.out
    go_wp2_with fail
    refine (c101.out _ (HBA.out.trans (HB1.out.mono HBA.out.size))).mono ?_
    rintro e w2 ⟨rfl, hb⟩
    have HB2 := Lib.hid (HB1.out.trans (hb.mono HB1.out.size))
    clear hb k0 k1 k2
    obtain ⟨k0, k1, k2⟩ := KK.out _ HB2.out
    go_wp2_with fail
    go_ret2
    exact ⟨by first | rfl | simp [*], HBA.out.trans (HB2.out.mono HBA.out.size)⟩
  rw [hE] at hst c101
  have hv := HV.out hst
  have hl := hv.len
  by_cases hf : 0 < f ∧ f < ns.length
  rotate_left
  · obtain ⟨r1, r2⟩ := R2.out hst hf
    rw [r1, r2]
    clear R1 R2 R3 HV HS c102 r1 r2 hst hE0 hE hv
    generalize ns.length = n at *
    by_cases hf1 : f < 1
    · clear hf
      obtain ⟨A, hA⟩ : ∃ A, A = w.alloc (.cells #[.int .i64 sl, .int .i64 sh, .slice a n cap] 26) := ⟨_, rfl⟩
      have HBA := Lib.hid (show Below w.heap.size w A by rw [hA]; exact ((Below.refl _ _).alloc (Nat.le_refl _) _))
      have hltA : w.heap.size + 1 ≤ A.heap.size := by rw [hA]; simp
      have q0 : A.cell? ⟨w.heap.size, 0, none⟩ = some (.int .i64 sl) := by rw [hA]; exact (cellHB (World.alloc_heap_new w _) 0).trans (by simp)
      have q1 : A.cell? ⟨w.heap.size, 1, none⟩ = some (.int .i64 sh) := by rw [hA]; exact (cellHB (World.alloc_heap_new w _) 1).trans (by simp)
      have q2 : A.cell? ⟨w.heap.size, 2, none⟩ = some (.slice a n cap) := by rw [hA]; exact (cellHB (World.alloc_heap_new w _) 2).trans (by simp)
      have KK := Lib.hid (show ∀ W, Below A.heap.size A W → W.cell? ⟨w.heap.size, 0, none⟩ = some (.int .i64 sl) ∧ W.cell? ⟨w.heap.size, 1, none⟩ = some (.int .i64 sh) ∧ W.cell? ⟨w.heap.size, 2, none⟩ = some (.slice a n cap) from fun W h => ⟨(h.cell (p := ⟨w.heap.size, 0, none⟩) (by show w.heap.size < A.heap.size; omega)).trans q0, (h.cell (p := ⟨w.heap.size, 1, none⟩) (by show w.heap.size < A.heap.size; omega)).trans q1, (h.cell (p := ⟨w.heap.size, 2, none⟩) (by show w.heap.size < A.heap.size; omega)).trans q2⟩)
      have HLT := Lib.hid hltA
      clear hltA q0 q1 q2
      obtain ⟨k0, k1, k2⟩ := KK.out _ (Below.refl _ _)
      go_enter Try.func39, Try.ntmps39
      go_upto_region 1 with fail
      rw [← hA]
      clear hA
      go_wp2_with fail
      refine (c26.out _ HBA.out).mono ?_
      rintro e w1 ⟨rfl, hb⟩
      have HB1 := Lib.hid hb
      clear hb k0 k1 k2
      obtain ⟨k0, k1, k2⟩ := KK.out _ HB1.out
      go_wp2_with fail
      refine (c101.out _ (HBA.out.trans (HB1.out.mono HBA.out.size))).mono ?_
      rintro e w2 ⟨rfl, hb⟩
      have HB2 := Lib.hid (HB1.out.trans (hb.mono HB1.out.size))
      clear hb k0 k1 k2
      obtain ⟨k0, k1, k2⟩ := KK.out _ HB2.out
      go_wp2_with fail
      go_ret2
      exact ⟨by first | rfl | simp [*], HBA.out.trans (HB2.out.mono HBA.out.size)⟩
    · have hf2 : (n : Int) ≤ f := by omega
      clear hf
      obtain ⟨A, hA⟩ : ∃ A, A = w.alloc (.cells #[.int .i64 sl, .int .i64 sh, .slice a n cap] 26) := ⟨_, rfl⟩
      have HBA := Lib.hid (show Below w.heap.size w A by rw [hA]; exact ((Below.refl _ _).alloc (Nat.le_refl _) _))
      have hltA : w.heap.size + 1 ≤ A.heap.size := by rw [hA]; simp
      have q0 : A.cell? ⟨w.heap.size, 0, none⟩ = some (.int .i64 sl) := by rw [hA]; exact (cellHB (World.alloc_heap_new w _) 0).trans (by simp)
      have q1 : A.cell? ⟨w.heap.size, 1, none⟩ = some (.int .i64 sh) := by rw [hA]; exact (cellHB (World.alloc_heap_new w _) 1).trans (by simp)
      have q2 : A.cell? ⟨w.heap.size, 2, none⟩ = some (.slice a n cap) := by rw [hA]; exact (cellHB (World.alloc_heap_new w _) 2).trans (by simp)
      have KK := Lib.hid (show ∀ W, Below A.heap.size A W → W.cell? ⟨w.heap.size, 0, none⟩ = some (.int .i64 sl) ∧ W.cell? ⟨w.heap.size, 1, none⟩ = some (.int .i64 sh) ∧ W.cell? ⟨w.heap.size, 2, none⟩ = some (.slice a n cap) from fun W h => ⟨(h.cell (p := ⟨w.heap.size, 0, none⟩) (by show w.heap.size < A.heap.size; omega)).trans q0, (h.cell (p := ⟨w.heap.size, 1, none⟩) (by show w.heap.size < A.heap.size; omega)).trans q1, (h.cell (p := ⟨w.heap.size, 2, none⟩) (by show w.heap.size < A.heap.size; omega)).trans q2⟩)
      have HLT := Lib.hid hltA
      clear hltA q0 q1 q2
      obtain ⟨k0, k1, k2⟩ := KK.out _ (Below.refl _ _)
      go_enter Try.func39, Try.ntmps39
      go_upto_region 1 with fail
      rw [← hA]
      clear hA
      go_wp2_with fail
      refine (c26.out _ HBA.out).mono ?_
      rintro e w1 ⟨rfl, hb⟩
      have HB1 := Lib.hid hb
      clear hb k0 k1 k2
      obtain ⟨k0, k1, k2⟩ := KK.out _ HB1.out
      go_wp2_with fail
      refine (c101.out _ (HBA.out.trans (HB1.out.mono HBA.out.size))).mono ?_
      rintro e w2 ⟨rfl, hb⟩
      have HB2 := Lib.hid (HB1.out.trans (hb.mono HB1.out.size))
      clear hb k0 k1 k2
      obtain ⟨k0, k1, k2⟩ := KK.out _ HB2.out
      go_wp2_with fail
      go_ret2
      exact ⟨by first | rfl | simp [*], HBA.out.trans (HB2.out.mono HBA.out.size)⟩
  obtain ⟨k, rfl⟩ : ∃ k : Nat, f = (k : Int) := ⟨f.toNat, by omega⟩
  obtain ⟨r1, r2⟩ := R3.out k hst (by omega) (by omega)
  rw [r1, r2]
  have c10 := Lib.hid (c102.out hv k (by omega))
  clear R1 R2 R3 HV HS c102 r1 r2 hst hE0 hE hv
  generalize cutN ns zs k = C at *
  generalize ns.length = n at *
  have hf1 : ¬ (k : Int) < 1 := by omega
  have hf2 : (k : Int) < (n : Int) := by omega
  clear hf
  by_cases hC : C = 0
  · subst hC
    rw [if_pos rfl]
    obtain ⟨A, hA⟩ : ∃ A, A = w.alloc (.cells #[.int .i64 sl, .int .i64 sh, .slice a n cap] 26) := ⟨_, rfl⟩
    have HBA := Lib.hid (show Below w.heap.size w A by rw [hA]; exact ((Below.refl _ _).alloc (Nat.le_refl _) _))
    have hltA : w.heap.size + 1 ≤ A.heap.size := by rw [hA]; simp
    have q0 : A.cell? ⟨w.heap.size, 0, none⟩ = some (.int .i64 sl) := by rw [hA]; exact (cellHB (World.alloc_heap_new w _) 0).trans (by simp)
    have q1 : A.cell? ⟨w.heap.size, 1, none⟩ = some (.int .i64 sh) := by rw [hA]; exact (cellHB (World.alloc_heap_new w _) 1).trans (by simp)
    have q2 : A.cell? ⟨w.heap.size, 2, none⟩ = some (.slice a n cap) := by rw [hA]; exact (cellHB (World.alloc_heap_new w _) 2).trans (by simp)
    have KK := Lib.hid (show ∀ W, Below A.heap.size A W → W.cell? ⟨w.heap.size, 0, none⟩ = some (.int .i64 sl) ∧ W.cell? ⟨w.heap.size, 1, none⟩ = some (.int .i64 sh) ∧ W.cell? ⟨w.heap.size, 2, none⟩ = some (.slice a n cap) from fun W h => ⟨(h.cell (p := ⟨w.heap.size, 0, none⟩) (by show w.heap.size < A.heap.size; omega)).trans q0, (h.cell (p := ⟨w.heap.size, 1, none⟩) (by show w.heap.size < A.heap.size; omega)).trans q1, (h.cell (p := ⟨w.heap.size, 2, none⟩) (by show w.heap.size < A.heap.size; omega)).trans q2⟩)
    have HLT := Lib.hid hltA
    clear hltA q0 q1 q2
    obtain ⟨k0, k1, k2⟩ := KK.out _ (Below.refl _ _)
    go_enter Try.func39, Try.ntmps39
    go_upto_region 1 with fail
    rw [← hA]
    clear hA
    go_wp2_with fail
    refine (c26.out _ HBA.out).mono ?_
    rintro e w1 ⟨rfl, hb⟩
    have HB1 := Lib.hid hb
    clear hb k0 k1 k2
    obtain ⟨k0, k1, k2⟩ := KK.out _ HB1.out
    go_wp2_with fail
    refine (c101.out _ (HBA.out.trans (HB1.out.mono HBA.out.size))).mono ?_
    rintro e w2 ⟨rfl, hb⟩
    have HB2 := Lib.hid (HB1.out.trans (hb.mono HB1.out.size))
    clear hb k0 k1 k2
    obtain ⟨k0, k1, k2⟩ := KK.out _ HB2.out
    go_wp2_with fail
    refine (c10.out _ (HBA.out.trans (HB2.out.mono HBA.out.size))).mono ?_
    rintro e w3 ⟨rfl, hb⟩
    have HB3 := Lib.hid (HB2.out.trans (hb.mono HB2.out.size))
    clear hb k0 k1 k2
    obtain ⟨k0, k1, k2⟩ := KK.out _ HB3.out
    go_wp2_with fail
    go_ret2
    exact ⟨by first | rfl | simp [*], HBA.out.trans (HB3.out.mono HBA.out.size)⟩
  · rw [if_neg hC]
    have hC' : ((C : Int) == 0) = false := by simpa using hC
    clear hC
    obtain ⟨A, hA⟩ : ∃ A, A = w.alloc (.cells #[.int .i64 sl, .int .i64 sh, .slice a n cap] 26) := ⟨_, rfl⟩
    have HBA := Lib.hid (show Below w.heap.size w A by rw [hA]; exact ((Below.refl _ _).alloc (Nat.le_refl _) _))
    have hltA : w.heap.size + 1 ≤ A.heap.size := by rw [hA]; simp
    have q0 : A.cell? ⟨w.heap.size, 0, none⟩ = some (.int .i64 sl) := by rw [hA]; exact (cellHB (World.alloc_heap_new w _) 0).trans (by simp)
    have q1 : A.cell? ⟨w.heap.size, 1, none⟩ = some (.int .i64 sh) := by rw [hA]; exact (cellHB (World.alloc_heap_new w _) 1).trans (by simp)
    have q2 : A.cell? ⟨w.heap.size, 2, none⟩ = some (.slice a n cap) := by rw [hA]; exact (cellHB (World.alloc_heap_new w _) 2).trans (by simp)
    have KK := Lib.hid (show ∀ W, Below A.heap.size A W → W.cell? ⟨w.heap.size, 0, none⟩ = some (.int .i64 sl) ∧ W.cell? ⟨w.heap.size, 1, none⟩ = some (.int .i64 sh) ∧ W.cell? ⟨w.heap.size, 2, none⟩ = some (.slice a n cap) from fun W h => ⟨(h.cell (p := ⟨w.heap.size, 0, none⟩) (by show w.heap.size < A.heap.size; omega)).trans q0, (h.cell (p := ⟨w.heap.size, 1, none⟩) (by show w.heap.size < A.heap.size; omega)).trans q1, (h.cell (p := ⟨w.heap.size, 2, none⟩) (by show w.heap.size < A.heap.size; omega)).trans q2⟩)
    have HLT := Lib.hid hltA
    clear hltA q0 q1 q2
    obtain ⟨k0, k1, k2⟩ := KK.out _ (Below.refl _ _)
    go_enter Try.func39, Try.ntmps39
    go_upto_region 1 with fail
    rw [← hA]
    clear hA
    go_wp2_with fail
    refine (c26.out _ HBA.out).mono ?_
    rintro e w1 ⟨rfl, hb⟩
    have HB1 := Lib.hid hb
    clear hb k0 k1 k2
    obtain ⟨k0, k1, k2⟩ := KK.out _ HB1.out
    go_wp2_with fail
    refine (c101.out _ (HBA.out.trans (HB1.out.mono HBA.out.size))).mono ?_
    rintro e w2 ⟨rfl, hb⟩
    have HB2 := Lib.hid (HB1.out.trans (hb.mono HB1.out.size))
    clear hb k0 k1 k2
    obtain ⟨k0, k1, k2⟩ := KK.out _ HB2.out
    go_wp2_with fail
    refine (c10.out _ (HBA.out.trans (HB2.out.mono HBA.out.size))).mono ?_
    rintro e w3 ⟨rfl, hb⟩
    have HB3 := Lib.hid (HB2.out.trans (hb.mono HB2.out.size))
    clear hb k0 k1 k2
    obtain ⟨k0, k1, k2⟩ := KK.out _ HB3.out
    go_wp2_with fail
    go_ret2
    exact ⟨by first | rfl | simp [*], HBA.out.trans (HB3.out.mono HBA.out.size)⟩
end Go.Proofs.Ytdohfpnnmppdkaa

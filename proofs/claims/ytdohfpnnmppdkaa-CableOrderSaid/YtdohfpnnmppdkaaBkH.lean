/-
  Cables: what is lost, of the reference.
-/
import Derived.Test.YtdohfpnnmppdkaaBkB
import Derived.Test.YtdohfpnnmppdkaaBkE
namespace Go.Proofs.Ytdohfpnnmppdkaa
open Go.RowKit Go.Shelf
set_option linter.unusedSimpArgs false
attribute [local go_sem] Oper.semAt_some
theorem lost_pick {ns : List Nd} (hv : AllN ns) (hl : ns.length ≤ 60) {zs fs : List Int} (hf : OkF ns fs) : pick ns.length (goneF ns zs fs fs.length) = lostL ns zs fs := by
  refine asc_one (pick_asc _ _) (pick_asc _ _) fun y => ?_
  unfold lostL
  rw [mem_pick, mem_pick]
  constructor
  · rintro ⟨h1, h2⟩; exact ⟨by omega, h2⟩
  · rintro ⟨_, h2⟩; exact ⟨gone_lt hv hf _ (Nat.le_refl _) h2, h2⟩
/-- the result of Lost -/
def LostR (sl sh : Int) (ns : List Nd) (fs zs : List Int) (w : World) (e : Ending) (w' : World) : Prop :=
  ∃ v, e = .returned (.tuple #[v, .int .i64 (losE sl sh ns fs zs)]) ∧ Il w'.heap.size w' v (Go.Proofs.Ytdohfpnnmppdkaa.zs (if losE sl sh ns fs zs = 0 then lostL ns zs fs else [])) ∧ Below w.heap.size w w'
theorem lost_all (sl sh : Int) (sv fv zv : Value) (ns : List Nd) (fs zs : List Int) (w : World) (hN : Nds w.heap.size w sv ns) (hF : Il w.heap.size w fv fs) (hZ : Il w.heap.size w zv zs) (hlf : fs.length ≤ 1000) (hlz : zs.length ≤ 1000) :
    Calls Try.prog 40 #[.agg #[.int .i64 sl, .int .i64 sh, sv], fv, zv] w (LostR sl sh ns fs zs w) := by
  refine (lost_any sl sh sv fv zv ns fs zs w hN hF hZ hlf hlz).mono fun e w' h => ?_
  obtain ⟨v, he, h1, h2, hb⟩ := h
  refine ⟨v, he, ?_, hb⟩
  by_cases h0 : losE sl sh ns fs zs = 0
  · rw [if_pos h0]; exact il_of_own (h2 h0)
  · rw [if_neg h0, h1 h0]; exact il_nil _ _
theorem los_bad {sl sh : Int} {ns : List Nd} {fs zs : List Int} (h : stuE sl sh ns zs ≠ 0) : losE sl sh ns fs zs = stuE sl sh ns zs := by rw [losE_def, if_neg h]
theorem los_many {sl sh : Int} {ns : List Nd} {fs zs : List Int} (h : stuE sl sh ns zs = 0) (hf : 60 < fs.length) : losE sl sh ns fs zs = 6 := by rw [losE_def, if_pos h, if_pos hf]
theorem los_far {sl sh : Int} {ns : List Nd} {fs zs : List Int} (h : stuE sl sh ns zs = 0) (hf : ¬ 60 < fs.length) {i : Nat} (hi : i < fs.length) (hx : ¬ (0 < ti fs i ∧ ti fs i < ns.length)) : losE sl sh ns fs zs = 3 := by
  rw [losE_def, if_pos h, if_neg hf, if_neg (fun q => hx (q i hi))]
theorem los_ok {sl sh : Int} {ns : List Nd} {fs zs : List Int} (h : stuE sl sh ns zs = 0) (hf : ¬ 60 < fs.length) (hx : ∀ i, i < fs.length → 0 < ti fs i ∧ ti fs i < ns.length) : losE sl sh ns fs zs = 0 := by
  rw [losE_def, if_pos h, if_neg hf, if_pos hx]
theorem make_bools (w : World) (n : Nat) (hn : n ≤ 1000) : ∃ w', (Instr.makeSlice 144 (.int .i64 (n : Int)) (.int .i64 (n : Int))).run Try.prog w = .ok (.slice (some ⟨w.heap.size, 0, none⟩) n n) w' ∧
    RowC w' w.heap.size 4 n (fun _ => .bool false) ∧ Below w.heap.size w w' ∧ w.heap.size < w'.heap.size := by
  obtain ⟨i0, hi0, hz0, hz1, hz2⟩ := info_parts (t := 4) (z := .bool false) (size := 1) (bytes := 1) (by kernel_rfl)
  obtain ⟨w2, hM, hS, hg⟩ := run_make_full (P := Try.prog) w w.heap.size 144 4 i0 _ 1 Try.underlying144 hi0 hz0 hz1 .i64 .i64 n (by rw [hz2]; omega) (by unfold maxLen; omega) (Nat.le_refl _)
  obtain ⟨-, hR⟩ := rowC_of_own hS rfl
  have hR0 : RowC w2 w.heap.size 4 n (fun _ => .bool false) := by
    rw [Nat.mul_one] at hR
    exact hR.ext fun j hj => by simp [madeCells, Value.cells, hj, Nat.mod_one]
  exact ⟨w2, hM, hR0, (Below.refl _ w).grown hg (Nat.le_refl _) (fun r e => by cases e), hR0.lt⟩
theorem goneF_zero (ns : List Nd) (zs fs : List Int) (j : Nat) : goneF ns zs fs 0 j = false := rfl
theorem goneF_skip {ns : List Nd} {zs fs : List Int} {k x : Nat} (hx : ti fs k = (x : Int)) (h : goneF ns zs fs k x = true) (j : Nat) : goneF ns zs fs (k + 1) j = goneF ns zs fs k j := by
  show goneS ns zs (goneF ns zs fs k) (ti fs k).toNat j = _
  rw [hx, Int.toNat_natCast]
  unfold goneS
  rw [if_pos h]
theorem goneF_take {ns : List Nd} (hv : AllN ns) {zs fs : List Int} {k x : Nat} (hxn : x < ns.length) (hx : ti fs k = (x : Int)) (h : goneF ns zs fs k x = false) (j : Nat) : goneF ns zs fs (k + 1) j = (goneF ns zs fs k j || decide (j ∈ sub (par ns) ns.length (cutN ns zs x))) := by
  show goneS ns zs (goneF ns zs fs k) (ti fs k).toNat j = _
  rw [hx, Int.toNat_natCast]
  unfold goneS
  rw [if_neg (by rw [h]; simp)]
  congr 1
  rw [decide_eq_decide, mem_dfs_iff hv.tree (cutN_lt hv zs hxn)]
  show _ ↔ j ∈ pick ns.length (fun i => decide (cutN ns zs x ∈ pth (par ns) i))
  rw [mem_pick, decide_eq_true_iff]
set_option maxRecDepth 100000 in
set_option maxHeartbeats 32000000 in
theorem rlost_all (sl sh : Int) (sv fv zv : Value) (ns : List Nd) (fs zs : List Int) (w : World) (hN : Nds w.heap.size w sv ns) (hF : Il w.heap.size w fv fs) (hZ : Il w.heap.size w zv zs) (hlf : fs.length ≤ 1000) (hlz : zs.length ≤ 1000) :
    Calls Try.prog 41 #[.agg #[.int .i64 sl, .int .i64 sh, sv], fv, zv] w (LostR sl sh ns fs zs w) := by
  have c26 := Lib.hid (fun W (h : Below w.heap.size w W) => refCheck_any sl sh sv ns W (hN.at h))
  have c101 := Lib.hid (fun W (h : Below w.heap.size w W) => held_any sl sh sv zv ns zs W hlz (hN.at h) (hZ.at h))
  have c102 := Lib.hid (fun (hv : ValidC sl sh ns) (k : Nat) (hk : k < ns.length) W (h : Below w.heap.size w W) => refopens_any sl sh sv zv ns zs hv.all hv.len k hk hlz W (hN.at h) (hZ.at h))
  have c86 := Lib.hid (fun (hv : ValidC sl sh ns) (k : Nat) W (h : Below w.heap.size w W) => refsub_any sl sh sv ns hv.all hv.len k W (hN.at h))
  have HS := Lib.hid (stuE_held sl sh ns zs)
  have R1 := Lib.hid (los_bad (sl := sl) (sh := sh) (ns := ns) (fs := fs) (zs := zs))
  have R2 := Lib.hid (los_many (sl := sl) (sh := sh) (ns := ns) (fs := fs) (zs := zs))
  have R3 := Lib.hid (fun h hf i => los_far (sl := sl) (sh := sh) (ns := ns) (fs := fs) (zs := zs) h hf (i := i))
  have R4 := Lib.hid (los_ok (sl := sl) (sh := sh) (ns := ns) (fs := fs) (zs := zs))
  unfold LostR
  obtain ⟨a, cap, hsv⟩ := hN.form
  obtain ⟨za, zc, hzv⟩ := hZ.form
  obtain ⟨fa, fc, hfv, -, hff⟩ := hF
  have HF := Lib.hid (show ∀ W k, Below w.heap.size w W → k < fs.length → ∃ g o, fa = some ⟨g, o, none⟩ ∧ g < w.heap.size ∧ W.cell? ⟨g, o + k, none⟩ = some (.int .i64 (ti fs k)) from fun W k hb hk => by
    obtain ⟨g, o, h1, h2, e0⟩ := hff k hk
    exact ⟨g, o, h1, h2, (hb.cell (p := ⟨g, _, none⟩) h2).trans e0⟩)
  subst hsv
  subst hzv
  subst hfv
  clear hN hZ hff
  have HVC := Lib.hid (fun (h : cabE sl sh ns = 0) => cabE_ok h)
  generalize hzm : zs.length = zm at *
  generalize hfm : fs.length = fm at *
  by_cases hE0 : cabE sl sh ns = 0
  rotate_left
  · have hst := HS.out
    rw [if_neg hE0] at hst
    have r1 := R1.out (by rw [hst]; exact hE0)
    rw [r1, hst, if_neg hE0]
    have hE' : (cabE sl sh ns != 0) = true := by simpa using hE0
    clear R1 R2 R3 R4 HVC HS c101 c102 c86 r1 hst HF hE0 hfm hzm
    generalize cabE sl sh ns = E at *
    generalize ns.length = n at *
    obtain ⟨A, hA⟩ : ∃ A, A = w.alloc (.cells #[.int .i64 sl, .int .i64 sh, .slice a n cap] 26) := ⟨_, rfl⟩
    have HBA := Lib.hid (show Below w.heap.size w A by rw [hA]; exact ((Below.refl _ _).alloc (Nat.le_refl _) _))
    have hltA : w.heap.size + 1 ≤ A.heap.size := by rw [hA]; simp
    have q0 : A.cell? ⟨w.heap.size, 0, none⟩ = some (.int .i64 sl) := by rw [hA]; exact (cellHB (World.alloc_heap_new w _) 0).trans (by simp)
    have q1 : A.cell? ⟨w.heap.size, 1, none⟩ = some (.int .i64 sh) := by rw [hA]; exact (cellHB (World.alloc_heap_new w _) 1).trans (by simp)
    have q2 : A.cell? ⟨w.heap.size, 2, none⟩ = some (.slice a n cap) := by rw [hA]; exact (cellHB (World.alloc_heap_new w _) 2).trans (by simp)
    have KK := Lib.hid (show ∀ W, Below A.heap.size A W → W.cell? ⟨w.heap.size, 0, none⟩ = some (.int .i64 sl) ∧ W.cell? ⟨w.heap.size, 1, none⟩ = some (.int .i64 sh) ∧ W.cell? ⟨w.heap.size, 2, none⟩ = some (.slice a n cap) from fun W h => ⟨(h.cell (p := ⟨w.heap.size, 0, none⟩) (by show w.heap.size < A.heap.size; omega)).trans q0, (h.cell (p := ⟨w.heap.size, 1, none⟩) (by show w.heap.size < A.heap.size; omega)).trans q1, (h.cell (p := ⟨w.heap.size, 2, none⟩) (by show w.heap.size < A.heap.size; omega)).trans q2⟩)
    have HLT := Lib.hid hltA
    clear hltA q0 q1 q2
    obtain ⟨k0, k1, k2⟩ := KK.out _ (Below.refl _ _)
    go_enter Try.func41, Try.ntmps41
    go_upto_region 1 with fail
    rw [← hA]
    clear hA
    go_wp2_with fail
    refine (c26.out _ HBA.out).mono ?_
    rintro e w1 ⟨rfl, hb⟩
    have HB1 := Lib.hid hb
    clear hb k0 k1 k2
    obtain ⟨k0, k1, k2⟩ := KK.out _ HB1.out
    go_wp2_with fail
    go_ret2
    exact ⟨_, by first | rfl | simp [*], il_nil _ _, HBA.out.trans (HB1.out.mono HBA.out.size)⟩
  have hst := HS.out
  rw [if_pos hE0] at hst
  rw [hE0] at c26
  by_cases hE : helE ns zs = 0
  rotate_left
  · have r1 := R1.out (by rw [hst]; exact hE)
    rw [r1, hst, if_neg hE]
    have hE' : (helE ns zs != 0) = true := by simpa using hE
    clear R1 R2 R3 R4 HVC HS c102 c86 r1 hst HF hE0 hE hfm hzm
    generalize helE ns zs = E at *
    generalize ns.length = n at *
    obtain ⟨A, hA⟩ : ∃ A, A = w.alloc (.cells #[.int .i64 sl, .int .i64 sh, .slice a n cap] 26) := ⟨_, rfl⟩
    have HBA := Lib.hid (show Below w.heap.size w A by rw [hA]; exact ((Below.refl _ _).alloc (Nat.le_refl _) _))
    have hltA : w.heap.size + 1 ≤ A.heap.size := by rw [hA]; simp
    have q0 : A.cell? ⟨w.heap.size, 0, none⟩ = some (.int .i64 sl) := by rw [hA]; exact (cellHB (World.alloc_heap_new w _) 0).trans (by simp)
    have q1 : A.cell? ⟨w.heap.size, 1, none⟩ = some (.int .i64 sh) := by rw [hA]; exact (cellHB (World.alloc_heap_new w _) 1).trans (by simp)
    have q2 : A.cell? ⟨w.heap.size, 2, none⟩ = some (.slice a n cap) := by rw [hA]; exact (cellHB (World.alloc_heap_new w _) 2).trans (by simp)
    have KK := Lib.hid (show ∀ W, Below A.heap.size A W → W.cell? ⟨w.heap.size, 0, none⟩ = some (.int .i64 sl) ∧ W.cell? ⟨w.heap.size, 1, none⟩ = some (.int .i64 sh) ∧ W.cell? ⟨w.heap.size, 2, none⟩ = some (.slice a n cap) from fun W h => ⟨(h.cell (p := ⟨w.heap.size, 0, none⟩) (by show w.heap.size < A.heap.size; omega)).trans q0, (h.cell (p := ⟨w.heap.size, 1, none⟩) (by show w.heap.size < A.heap.size; omega)).trans q1, (h.cell (p := ⟨w.heap.size, 2, none⟩) (by show w.heap.size < A.heap.size; omega)).trans q2⟩)
    have HLT := Lib.hid hltA
    clear hltA q0 q1 q2
    obtain ⟨k0, k1, k2⟩ := KK.out _ (Below.refl _ _)
    go_enter Try.func41, Try.ntmps41
    go_upto_region 1 with fail
    rw [← hA]
    clear hA
    go_wp2_with fail
    refine (c26.out _ HBA.out).mono ?_
    rintro e w1 ⟨rfl, hb⟩
    have HB1 := Lib.hid hb
    clear hb k0 k1 k2
    obtain ⟨k0, k1, k2⟩ := KK.out _ HB1.out
    go_wp2_with fail
    refine (c101.out _ (HBA.out.trans (HB1.out.mono HBA.out.size))).mono ?_
    rintro e w2 ⟨rfl, hb⟩
    have HB2 := Lib.hid (HB1.out.trans (hb.mono HB1.out.size))
    clear hb k0 k1 k2
    obtain ⟨k0, k1, k2⟩ := KK.out _ HB2.out
    go_wp2_with fail
    go_ret2
    exact ⟨_, by first | rfl | simp [*], il_nil _ _, HBA.out.trans (HB2.out.mono HBA.out.size)⟩
  rw [hE] at hst c101
  have hv := HVC.out hE0
  have hl := hv.len
  by_cases h60 : 60 < fm
  · rw [R2.out hst (by omega), if_neg (by decide)]
    have h60' : (60 : Int) < (fm : Int) := by omega
    clear R1 R2 R3 R4 HVC HS c102 c86 hst HF hE0 hE hfm hzm hv h60
    generalize ns.length = n at *
    obtain ⟨A, hA⟩ : ∃ A, A = w.alloc (.cells #[.int .i64 sl, .int .i64 sh, .slice a n cap] 26) := ⟨_, rfl⟩
    have HBA := Lib.hid (show Below w.heap.size w A by rw [hA]; exact ((Below.refl _ _).alloc (Nat.le_refl _) _))
    have hltA : w.heap.size + 1 ≤ A.heap.size := by rw [hA]; simp
    have q0 : A.cell? ⟨w.heap.size, 0, none⟩ = some (.int .i64 sl) := by rw [hA]; exact (cellHB (World.alloc_heap_new w _) 0).trans (by simp)
    have q1 : A.cell? ⟨w.heap.size, 1, none⟩ = some (.int .i64 sh) := by rw [hA]; exact (cellHB (World.alloc_heap_new w _) 1).trans (by simp)
    have q2 : A.cell? ⟨w.heap.size, 2, none⟩ = some (.slice a n cap) := by rw [hA]; exact (cellHB (World.alloc_heap_new w _) 2).trans (by simp)
    have KK := Lib.hid (show ∀ W, Below A.heap.size A W → W.cell? ⟨w.heap.size, 0, none⟩ = some (.int .i64 sl) ∧ W.cell? ⟨w.heap.size, 1, none⟩ = some (.int .i64 sh) ∧ W.cell? ⟨w.heap.size, 2, none⟩ = some (.slice a n cap) from fun W h => ⟨(h.cell (p := ⟨w.heap.size, 0, none⟩) (by show w.heap.size < A.heap.size; omega)).trans q0, (h.cell (p := ⟨w.heap.size, 1, none⟩) (by show w.heap.size < A.heap.size; omega)).trans q1, (h.cell (p := ⟨w.heap.size, 2, none⟩) (by show w.heap.size < A.heap.size; omega)).trans q2⟩)
    have HLT := Lib.hid hltA
    clear hltA q0 q1 q2
    obtain ⟨k0, k1, k2⟩ := KK.out _ (Below.refl _ _)
    go_enter Try.func41, Try.ntmps41
    go_upto_region 1 with fail
    rw [← hA]
    clear hA
    go_wp2_with fail
    refine (c26.out _ HBA.out).mono ?_
    rintro e w1 ⟨rfl, hb⟩
    have HB1 := Lib.hid hb
    clear hb k0 k1 k2
    obtain ⟨k0, k1, k2⟩ := KK.out _ HB1.out
    go_wp2_with fail
    refine (c101.out _ (HBA.out.trans (HB1.out.mono HBA.out.size))).mono ?_
    rintro e w2 ⟨rfl, hb⟩
    have HB2 := Lib.hid (HB1.out.trans (hb.mono HB1.out.size))
    clear hb k0 k1 k2
    obtain ⟨k0, k1, k2⟩ := KK.out _ HB2.out
    go_wp2_with fail
    go_ret2
    exact ⟨_, by first | rfl | simp [*], il_nil _ _, HBA.out.trans (HB2.out.mono HBA.out.size)⟩
  have R3' := Lib.hid (fun i => R3.out hst (by omega) i)
  have R4' := Lib.hid (R4.out hst (by omega))
  have c2 := Lib.hid (c102.out hv)
  have c6 := Lib.hid (c86.out hv)
  have HCL := Lib.hid (fun (x : Nat) (hx : x < ns.length) => cutN_lt hv.all zs hx)
  have HGS := Lib.hid (fun (k x : Nat) => goneF_skip (ns := ns) (zs := zs) (fs := fs) (k := k) (x := x))
  have HGT := Lib.hid (fun (k x : Nat) (hx : x < ns.length) => goneF_take hv.all (zs := zs) (fs := fs) (k := k) hx)
  have HSM := Lib.hid (fun (c x : Nat) (h : x ∈ sub (par ns) ns.length c) => (mem_pick.1 h).1)
  have HSL := Lib.hid (fun (c : Nat) => Nat.le_trans (sub_len (ns := ns) (k := c)) hl)
  have HLP := Lib.hid (fun (h : ∀ i, i < fm → 0 < ti fs i ∧ ti fs i < ns.length) => show pick ns.length (goneF ns zs fs fm) = lostL ns zs fs by rw [← hfm]; exact lost_pick hv.all hl (fun i hi => h i (by omega)))
  obtain ⟨i0, hi0, hz0, hz1, hz2⟩ := info_parts infoI3
  clear R1 R2 R3 R4 HVC HS c102 c86 hst hE0 hE hv
  generalize losE sl sh ns fs zs = LE at *
  generalize lostL ns zs fs = LL at *
  have HG0 := Lib.hid (fun j => goneF_zero ns zs fs j)
  generalize goneF ns zs fs = GF at *
  have HLR := Lib.hid (show (LE = 0 → (if LE = 0 then LL else []) = LL) ∧ (LE ≠ 0 → (if LE = 0 then LL else []) = []) from ⟨fun h => if_pos h, fun h => if_neg h⟩)
  generalize (if LE = 0 then LL else []) = LR at *
  generalize hnn : ns.length = n at *
  clear hnn hfm hzm
  obtain ⟨A, hA⟩ : ∃ A, A = w.alloc (.cells #[.int .i64 sl, .int .i64 sh, .slice a n cap] 26) := ⟨_, rfl⟩
  have HBA := Lib.hid (show Below w.heap.size w A by rw [hA]; exact ((Below.refl _ _).alloc (Nat.le_refl _) _))
  have hltA : w.heap.size + 1 ≤ A.heap.size := by rw [hA]; simp
  have q0 : A.cell? ⟨w.heap.size, 0, none⟩ = some (.int .i64 sl) := by rw [hA]; exact (cellHB (World.alloc_heap_new w _) 0).trans (by simp)
  have q1 : A.cell? ⟨w.heap.size, 1, none⟩ = some (.int .i64 sh) := by rw [hA]; exact (cellHB (World.alloc_heap_new w _) 1).trans (by simp)
  have q2 : A.cell? ⟨w.heap.size, 2, none⟩ = some (.slice a n cap) := by rw [hA]; exact (cellHB (World.alloc_heap_new w _) 2).trans (by simp)
  have KK := Lib.hid (show ∀ W, Below A.heap.size A W → W.cell? ⟨w.heap.size, 0, none⟩ = some (.int .i64 sl) ∧ W.cell? ⟨w.heap.size, 1, none⟩ = some (.int .i64 sh) ∧ W.cell? ⟨w.heap.size, 2, none⟩ = some (.slice a n cap) from fun W h => ⟨(h.cell (p := ⟨w.heap.size, 0, none⟩) (by show w.heap.size < A.heap.size; omega)).trans q0, (h.cell (p := ⟨w.heap.size, 1, none⟩) (by show w.heap.size < A.heap.size; omega)).trans q1, (h.cell (p := ⟨w.heap.size, 2, none⟩) (by show w.heap.size < A.heap.size; omega)).trans q2⟩)
  have HLT := Lib.hid hltA
  clear hltA q0 q1 q2
  obtain ⟨k0, k1, k2⟩ := KK.out _ (Below.refl _ _)
  go_enter Try.func41, Try.ntmps41
  go_upto_region 1 with fail
  rw [← hA]
  clear hA
  go_wp2_with fail
  refine (c26.out _ HBA.out).mono ?_
  rintro e w1 ⟨rfl, hb⟩
  have HB1 := Lib.hid hb
  clear hb k0 k1 k2
  obtain ⟨k0, k1, k2⟩ := KK.out _ HB1.out
  go_wp2_with fail
  refine (c101.out _ (HBA.out.trans (HB1.out.mono HBA.out.size))).mono ?_
  rintro e w2 ⟨rfl, hb⟩
  have HB2 := Lib.hid (HB1.out.trans (hb.mono HB1.out.size))
  clear hb k0 k1 k2
  obtain ⟨k0, k1, k2⟩ := KK.out _ HB2.out
  go_wp2_with fail
  go_loopw [9] (fun iv wr => ∃ i : Nat, i ≤ fm ∧ iv = .int .i64 i ∧ (∀ j, j < i → 0 < ti fs j ∧ ti fs j < (n : Int)) ∧ Below A.heap.size A wr) (fun iv _ => fm - (intOf iv).toNat)
  case atStart => exact ⟨0, Nat.zero_le _, rfl, fun j hj => absurd hj (Nat.not_lt_zero _), HB2.out⟩
  case round =>
    obtain ⟨i, hi, rfl, hv, hB⟩ := hrel
    have HV := Lib.hid hv
    have HB := Lib.hid hB
    clear hv hB k0 k1 k2
    obtain ⟨k0, k1, k2⟩ := KK.out _ HB.out
    by_cases hlt : i < fm
    · have hii : (i : Int) < (fm : Int) := by omega
      have HWA := Lib.hid (HBA.out.trans (HB.out.mono HBA.out.size))
      obtain ⟨g, o, rfl, hg, c0⟩ := HF.out _ i HWA.out hlt
      have HN1 := Lib.hid (show ¬ (0 < ti fs i ∧ ti fs i < (n : Int)) → LE = 3 from R3'.out i hlt)
      have HN2 := Lib.hid (show (0 < ti fs i ∧ ti fs i < (n : Int)) → ∀ j, j < i + 1 → 0 < ti fs j ∧ ti fs j < (n : Int) from fun h j hj => by
        rcases (show j < i ∨ j = i by omega) with e | e
        · exact HV.out j e
        · rw [e]; exact h)
      generalize ti fs i = z at *
      clear c26 c101 c2 c6 R3' R4' HCL HGS HGT HSM HSL HLP
      by_cases hz0' : z < 1
      · have HX := Lib.hid (HN1.out (by omega))
        have hzb : decide (z < 1) = true := decide_eq_true hz0'
        clear hz0'
        go_upto_region 12 with fail
        refine wp_region_held_drew (S := fun w' => w'.cell? ⟨w.heap.size, 2, none⟩ = some (Value.slice a n cap) ∧ w'.cell? ⟨g, o + i, none⟩ = some (Value.int .i64 z)) (by kernel_rfl) ⟨by simpa [go_sem] using k2, by simpa [go_sem] using c0⟩ (fun hHeld => ?_)
        refine wpAnyH_take (i := 0) (oi := _) (v := Value.slice (some ⟨g, o, none⟩) fm fc) rfl (by kernel_rfl) (by kernel_rfl) (by kernel_rfl) (fun _ _ _ h => h) (Or.inl ⟨by rfl, fun w' hSw => ?_⟩) hHeld ?_
        · obtain ⟨t0, t1⟩ := hSw
          go_simp
          try simp [*]
          try (intro hh; exfalso; omega)
          try omega
        try simp only [Act.put, List.setIfInBounds_toArray, List.set_cons_zero, List.set_cons_succ, List.getElem_toArray, List.getElem_cons_succ, List.getElem_cons_zero]
        refine wpAnyH_take (i := 1) (oi := _) (v := Value.int .i64 (i : Int)) rfl (by kernel_rfl) (by kernel_rfl) (by kernel_rfl) (fun _ _ _ h => h) (Or.inl ⟨by rfl, fun w' hSw => ?_⟩) hHeld ?_
        · obtain ⟨t0, t1⟩ := hSw
          go_simp
          try simp [*]
          try (intro hh; exfalso; omega)
          try omega
        try simp only [Act.put, List.setIfInBounds_toArray, List.set_cons_zero, List.set_cons_succ, List.getElem_toArray, List.getElem_cons_succ, List.getElem_cons_zero]
        refine wpAnyH_take (i := 2) (oi := _) (v := Value.pointer (some ⟨g, o + i, none⟩)) rfl (by kernel_rfl) (by kernel_rfl) (by kernel_rfl) (fun _ _ _ h => h) (Or.inl ⟨by rfl, fun w' hSw => ?_⟩) hHeld ?_
        · obtain ⟨t0, t1⟩ := hSw
          go_simp
          try simp [*]
          try (intro hh; exfalso; omega)
          try omega
        try simp only [Act.put, List.setIfInBounds_toArray, List.set_cons_zero, List.set_cons_succ, List.getElem_toArray, List.getElem_cons_succ, List.getElem_cons_zero]
        refine wpAnyH_take (i := 3) (oi := _) (v := Value.int .i64 z) rfl (by kernel_rfl) (by kernel_rfl) (by kernel_rfl) (fun _ _ _ h => h) (Or.inl ⟨by rfl, fun w' hSw => ?_⟩) hHeld ?_
        · obtain ⟨t0, t1⟩ := hSw
          go_simp
          try simp [*]
          try (intro hh; exfalso; omega)
          try omega
        try simp only [Act.put, List.setIfInBounds_toArray, List.set_cons_zero, List.set_cons_succ, List.getElem_toArray, List.getElem_cons_succ, List.getElem_cons_zero]
        refine wpAnyH_take (i := 4) (oi := _) (v := Value.bool true) rfl (by kernel_rfl) (by kernel_rfl) (by kernel_rfl) (fun _ _ _ h => h) (Or.inl ⟨by rfl, fun w' hSw => ?_⟩) hHeld ?_
        · obtain ⟨t0, t1⟩ := hSw
          go_simp
          try simp [*]
          try (intro hh; exfalso; omega)
          try omega
        try simp only [Act.put, List.setIfInBounds_toArray, List.set_cons_zero, List.set_cons_succ, List.getElem_toArray, List.getElem_cons_succ, List.getElem_cons_zero]
        refine wpAnyH_take (i := 5) (oi := _) (v := Value.bool true) rfl (by kernel_rfl) (by kernel_rfl) (by kernel_rfl) (fun _ _ _ h => h) (Or.inl ⟨by rfl, fun w' hSw => ?_⟩) hHeld ?_
        · obtain ⟨t0, t1⟩ := hSw
          go_simp
          try simp [*]
          try (intro hh; exfalso; omega)
          try omega
        try simp only [Act.put, List.setIfInBounds_toArray, List.set_cons_zero, List.set_cons_succ, List.getElem_toArray, List.getElem_cons_succ, List.getElem_cons_zero]
        refine wpAnyH_take (i := 6) (oi := _) (v := undef) rfl (by kernel_rfl) (by kernel_rfl) (by kernel_rfl) (fun _ _ _ h => h) (Or.inr ⟨by rfl, rfl⟩) hHeld ?_
        try simp only [Act.put, List.setIfInBounds_toArray, List.set_cons_zero, List.set_cons_succ, List.getElem_toArray, List.getElem_cons_succ, List.getElem_cons_zero]
        refine wpAnyH_take (i := 7) (oi := _) (v := undef) rfl (by kernel_rfl) (by kernel_rfl) (by kernel_rfl) (fun _ _ _ h => h) (Or.inr ⟨by rfl, rfl⟩) hHeld ?_
        try simp only [Act.put, List.setIfInBounds_toArray, List.set_cons_zero, List.set_cons_succ, List.getElem_toArray, List.getElem_cons_succ, List.getElem_cons_zero]
        refine wpAnyH_take (i := 8) (oi := _) (v := undef) rfl (by kernel_rfl) (by kernel_rfl) (by kernel_rfl) (fun _ _ _ h => h) (Or.inr ⟨by rfl, rfl⟩) hHeld ?_
        try simp only [Act.put, List.setIfInBounds_toArray, List.set_cons_zero, List.set_cons_succ, List.getElem_toArray, List.getElem_cons_succ, List.getElem_cons_zero]
        refine wpAnyH_take (i := 9) (oi := _) (v := undef) rfl (by kernel_rfl) (by kernel_rfl) (by kernel_rfl) (fun _ _ _ h => h) (Or.inr ⟨by rfl, rfl⟩) hHeld ?_
        try simp only [Act.put, List.setIfInBounds_toArray, List.set_cons_zero, List.set_cons_succ, List.getElem_toArray, List.getElem_cons_succ, List.getElem_cons_zero]
        refine wpAnyH_take (i := 10) (oi := _) (v := undef) rfl (by kernel_rfl) (by kernel_rfl) (by kernel_rfl) (fun _ _ _ h => h) (Or.inr ⟨by rfl, rfl⟩) hHeld ?_
        try simp only [Act.put, List.setIfInBounds_toArray, List.set_cons_zero, List.set_cons_succ, List.getElem_toArray, List.getElem_cons_succ, List.getElem_cons_zero]
        refine wpAnyH_take (i := 11) (oi := _) (v := undef) rfl (by kernel_rfl) (by kernel_rfl) (by kernel_rfl) (fun _ _ _ h => h) (Or.inr ⟨by rfl, rfl⟩) hHeld ?_
        try simp only [Act.put, List.setIfInBounds_toArray, List.set_cons_zero, List.set_cons_succ, List.getElem_toArray, List.getElem_cons_succ, List.getElem_cons_zero]
        refine wpAnyH_take (i := 12) (oi := _) (v := undef) rfl (by kernel_rfl) (by kernel_rfl) (by kernel_rfl) (fun _ _ _ h => h) (Or.inr ⟨by rfl, rfl⟩) hHeld ?_
        try simp only [Act.put, List.setIfInBounds_toArray, List.set_cons_zero, List.set_cons_succ, List.getElem_toArray, List.getElem_cons_succ, List.getElem_cons_zero]
        refine wpAnyH_take (i := 13) (oi := _) (v := undef) rfl (by kernel_rfl) (by kernel_rfl) (by kernel_rfl) (fun _ _ _ h => h) (Or.inr ⟨by rfl, rfl⟩) hHeld ?_
        try simp only [Act.put, List.setIfInBounds_toArray, List.set_cons_zero, List.set_cons_succ, List.getElem_toArray, List.getElem_cons_succ, List.getElem_cons_zero]
        refine wpAnyH_take (i := 14) (oi := _) (v := Value.bool true) rfl (by kernel_rfl) (by kernel_rfl) (by kernel_rfl) (fun _ _ _ h => h) (Or.inl ⟨by rfl, fun w' hSw => ?_⟩) hHeld ?_
        · obtain ⟨t0, t1⟩ := hSw
          go_simp
          try simp [*]
          try (intro hh; exfalso; omega)
          try omega
        try simp only [Act.put, List.setIfInBounds_toArray, List.set_cons_zero, List.set_cons_succ, List.getElem_toArray, List.getElem_cons_succ, List.getElem_cons_zero]
        refine wpAnyH_done (by kernel_rfl) ?_ _
        clear hHeld
        go_wp2_with fail
        go_ret2
        exact ⟨_, by rw [HX.out]; rfl, by rw [HLR.out.2 (by rw [HX.out]; decide)]; exact il_nil _ _, HBA.out.trans (HB.out.drew.mono HBA.out.size)⟩
      · have hzb : decide (z < 1) = false := decide_eq_false hz0'
        by_cases hz1' : (n : Int) ≤ z
        · have HX := Lib.hid (HN1.out (by omega))
          have hzc : decide ((n : Int) ≤ z) = true := decide_eq_true hz1'
          clear hz0' hz1'
          go_upto_region 12 with fail
          refine wp_region_held_drew (S := fun w' => w'.cell? ⟨w.heap.size, 2, none⟩ = some (Value.slice a n cap) ∧ w'.cell? ⟨g, o + i, none⟩ = some (Value.int .i64 z)) (by kernel_rfl) ⟨by simpa [go_sem] using k2, by simpa [go_sem] using c0⟩ (fun hHeld => ?_)
          refine wpAnyH_take (i := 0) (oi := _) (v := Value.slice (some ⟨g, o, none⟩) fm fc) rfl (by kernel_rfl) (by kernel_rfl) (by kernel_rfl) (fun _ _ _ h => h) (Or.inl ⟨by rfl, fun w' hSw => ?_⟩) hHeld ?_
          · obtain ⟨t0, t1⟩ := hSw
            go_simp
            try simp [*]
            try (intro hh; exfalso; omega)
            try omega
          try simp only [Act.put, List.setIfInBounds_toArray, List.set_cons_zero, List.set_cons_succ, List.getElem_toArray, List.getElem_cons_succ, List.getElem_cons_zero]
          refine wpAnyH_take (i := 1) (oi := _) (v := Value.int .i64 (i : Int)) rfl (by kernel_rfl) (by kernel_rfl) (by kernel_rfl) (fun _ _ _ h => h) (Or.inl ⟨by rfl, fun w' hSw => ?_⟩) hHeld ?_
          · obtain ⟨t0, t1⟩ := hSw
            go_simp
            try simp [*]
            try (intro hh; exfalso; omega)
            try omega
          try simp only [Act.put, List.setIfInBounds_toArray, List.set_cons_zero, List.set_cons_succ, List.getElem_toArray, List.getElem_cons_succ, List.getElem_cons_zero]
          refine wpAnyH_take (i := 2) (oi := _) (v := Value.pointer (some ⟨g, o + i, none⟩)) rfl (by kernel_rfl) (by kernel_rfl) (by kernel_rfl) (fun _ _ _ h => h) (Or.inl ⟨by rfl, fun w' hSw => ?_⟩) hHeld ?_
          · obtain ⟨t0, t1⟩ := hSw
            go_simp
            try simp [*]
            try (intro hh; exfalso; omega)
            try omega
          try simp only [Act.put, List.setIfInBounds_toArray, List.set_cons_zero, List.set_cons_succ, List.getElem_toArray, List.getElem_cons_succ, List.getElem_cons_zero]
          refine wpAnyH_take (i := 3) (oi := _) (v := Value.int .i64 z) rfl (by kernel_rfl) (by kernel_rfl) (by kernel_rfl) (fun _ _ _ h => h) (Or.inl ⟨by rfl, fun w' hSw => ?_⟩) hHeld ?_
          · obtain ⟨t0, t1⟩ := hSw
            go_simp
            try simp [*]
            try (intro hh; exfalso; omega)
            try omega
          try simp only [Act.put, List.setIfInBounds_toArray, List.set_cons_zero, List.set_cons_succ, List.getElem_toArray, List.getElem_cons_succ, List.getElem_cons_zero]
          refine wpAnyH_take (i := 4) (oi := _) (v := Value.bool false) rfl (by kernel_rfl) (by kernel_rfl) (by kernel_rfl) (fun _ _ _ h => h) (Or.inl ⟨by rfl, fun w' hSw => ?_⟩) hHeld ?_
          · obtain ⟨t0, t1⟩ := hSw
            go_simp
            try simp [*]
            try (intro hh; exfalso; omega)
            try omega
          try simp only [Act.put, List.setIfInBounds_toArray, List.set_cons_zero, List.set_cons_succ, List.getElem_toArray, List.getElem_cons_succ, List.getElem_cons_zero]
          refine wpAnyH_take (i := 5) (oi := _) (v := Value.bool false) rfl (by kernel_rfl) (by kernel_rfl) (by kernel_rfl) (fun _ _ _ h => h) (Or.inl ⟨by rfl, fun w' hSw => ?_⟩) hHeld ?_
          · obtain ⟨t0, t1⟩ := hSw
            go_simp
            try simp [*]
            try (intro hh; exfalso; omega)
            try omega
          try simp only [Act.put, List.setIfInBounds_toArray, List.set_cons_zero, List.set_cons_succ, List.getElem_toArray, List.getElem_cons_succ, List.getElem_cons_zero]
          refine wpAnyH_take (i := 6) (oi := _) (v := Value.slice (some ⟨g, o, none⟩) fm fc) rfl (by kernel_rfl) (by kernel_rfl) (by kernel_rfl) (fun _ _ _ h => h) (Or.inl ⟨by rfl, fun w' hSw => ?_⟩) hHeld ?_
          · obtain ⟨t0, t1⟩ := hSw
            go_simp
            try simp [*]
            try (intro hh; exfalso; omega)
            try omega
          try simp only [Act.put, List.setIfInBounds_toArray, List.set_cons_zero, List.set_cons_succ, List.getElem_toArray, List.getElem_cons_succ, List.getElem_cons_zero]
          refine wpAnyH_take (i := 7) (oi := _) (v := Value.int .i64 (i : Int)) rfl (by kernel_rfl) (by kernel_rfl) (by kernel_rfl) (fun _ _ _ h => h) (Or.inl ⟨by rfl, fun w' hSw => ?_⟩) hHeld ?_
          · obtain ⟨t0, t1⟩ := hSw
            go_simp
            try simp [*]
            try (intro hh; exfalso; omega)
            try omega
          try simp only [Act.put, List.setIfInBounds_toArray, List.set_cons_zero, List.set_cons_succ, List.getElem_toArray, List.getElem_cons_succ, List.getElem_cons_zero]
          refine wpAnyH_take (i := 8) (oi := _) (v := Value.pointer (some ⟨g, o + i, none⟩)) rfl (by kernel_rfl) (by kernel_rfl) (by kernel_rfl) (fun _ _ _ h => h) (Or.inl ⟨by rfl, fun w' hSw => ?_⟩) hHeld ?_
          · obtain ⟨t0, t1⟩ := hSw
            go_simp
            try simp [*]
            try (intro hh; exfalso; omega)
            try omega
          try simp only [Act.put, List.setIfInBounds_toArray, List.set_cons_zero, List.set_cons_succ, List.getElem_toArray, List.getElem_cons_succ, List.getElem_cons_zero]
          refine wpAnyH_take (i := 9) (oi := _) (v := Value.int .i64 z) rfl (by kernel_rfl) (by kernel_rfl) (by kernel_rfl) (fun _ _ _ h => h) (Or.inl ⟨by rfl, fun w' hSw => ?_⟩) hHeld ?_
          · obtain ⟨t0, t1⟩ := hSw
            go_simp
            try simp [*]
            try (intro hh; exfalso; omega)
            try omega
          try simp only [Act.put, List.setIfInBounds_toArray, List.set_cons_zero, List.set_cons_succ, List.getElem_toArray, List.getElem_cons_succ, List.getElem_cons_zero]
          refine wpAnyH_take (i := 10) (oi := _) (v := Value.pointer (some ⟨w.heap.size, 2, none⟩)) rfl (by kernel_rfl) (by kernel_rfl) (by kernel_rfl) (fun _ _ _ h => h) (Or.inl ⟨by rfl, fun w' hSw => ?_⟩) hHeld ?_
          · obtain ⟨t0, t1⟩ := hSw
            go_simp
            try simp [*]
            try (intro hh; exfalso; omega)
            try omega
          try simp only [Act.put, List.setIfInBounds_toArray, List.set_cons_zero, List.set_cons_succ, List.getElem_toArray, List.getElem_cons_succ, List.getElem_cons_zero]
          refine wpAnyH_take (i := 11) (oi := _) (v := Value.slice a n cap) rfl (by kernel_rfl) (by kernel_rfl) (by kernel_rfl) (fun _ _ _ h => h) (Or.inl ⟨by rfl, fun w' hSw => ?_⟩) hHeld ?_
          · obtain ⟨t0, t1⟩ := hSw
            go_simp
            try simp [*]
            try (intro hh; exfalso; omega)
            try omega
          try simp only [Act.put, List.setIfInBounds_toArray, List.set_cons_zero, List.set_cons_succ, List.getElem_toArray, List.getElem_cons_succ, List.getElem_cons_zero]
          refine wpAnyH_take (i := 12) (oi := _) (v := Value.int .i64 n) rfl (by kernel_rfl) (by kernel_rfl) (by kernel_rfl) (fun _ _ _ h => h) (Or.inl ⟨by rfl, fun w' hSw => ?_⟩) hHeld ?_
          · obtain ⟨t0, t1⟩ := hSw
            go_simp
            try simp [*]
            try (intro hh; exfalso; omega)
            try omega
          try simp only [Act.put, List.setIfInBounds_toArray, List.set_cons_zero, List.set_cons_succ, List.getElem_toArray, List.getElem_cons_succ, List.getElem_cons_zero]
          refine wpAnyH_take (i := 13) (oi := _) (v := Value.bool true) rfl (by kernel_rfl) (by kernel_rfl) (by kernel_rfl) (fun _ _ _ h => h) (Or.inl ⟨by rfl, fun w' hSw => ?_⟩) hHeld ?_
          · obtain ⟨t0, t1⟩ := hSw
            go_simp
            try simp [*]
            try (intro hh; exfalso; omega)
            try omega
          try simp only [Act.put, List.setIfInBounds_toArray, List.set_cons_zero, List.set_cons_succ, List.getElem_toArray, List.getElem_cons_succ, List.getElem_cons_zero]
          refine wpAnyH_take (i := 14) (oi := _) (v := Value.bool true) rfl (by kernel_rfl) (by kernel_rfl) (by kernel_rfl) (fun _ _ _ h => h) (Or.inl ⟨by rfl, fun w' hSw => ?_⟩) hHeld ?_
          · obtain ⟨t0, t1⟩ := hSw
            go_simp
            try simp [*]
            try (intro hh; exfalso; omega)
            try omega
          try simp only [Act.put, List.setIfInBounds_toArray, List.set_cons_zero, List.set_cons_succ, List.getElem_toArray, List.getElem_cons_succ, List.getElem_cons_zero]
          refine wpAnyH_done (by kernel_rfl) ?_ _
          clear hHeld
          go_wp2_with fail
          go_ret2
          exact ⟨_, by rw [HX.out]; rfl, by rw [HLR.out.2 (by rw [HX.out]; decide)]; exact il_nil _ _, HBA.out.trans (HB.out.drew.mono HBA.out.size)⟩
        · have HX := Lib.hid (HN2.out (by omega))
          have hzc : decide ((n : Int) ≤ z) = false := decide_eq_false hz1'
          clear hz0' hz1'
          go_upto_region 12 with fail
          refine wp_region_held_drew (S := fun w' => w'.cell? ⟨w.heap.size, 2, none⟩ = some (Value.slice a n cap) ∧ w'.cell? ⟨g, o + i, none⟩ = some (Value.int .i64 z)) (by kernel_rfl) ⟨by simpa [go_sem] using k2, by simpa [go_sem] using c0⟩ (fun hHeld => ?_)
          refine wpAnyH_take (i := 0) (oi := _) (v := Value.slice (some ⟨g, o, none⟩) fm fc) rfl (by kernel_rfl) (by kernel_rfl) (by kernel_rfl) (fun _ _ _ h => h) (Or.inl ⟨by rfl, fun w' hSw => ?_⟩) hHeld ?_
          · obtain ⟨t0, t1⟩ := hSw
            go_simp
            try simp [*]
            try (intro hh; exfalso; omega)
            try omega
          try simp only [Act.put, List.setIfInBounds_toArray, List.set_cons_zero, List.set_cons_succ, List.getElem_toArray, List.getElem_cons_succ, List.getElem_cons_zero]
          refine wpAnyH_take (i := 1) (oi := _) (v := Value.int .i64 (i : Int)) rfl (by kernel_rfl) (by kernel_rfl) (by kernel_rfl) (fun _ _ _ h => h) (Or.inl ⟨by rfl, fun w' hSw => ?_⟩) hHeld ?_
          · obtain ⟨t0, t1⟩ := hSw
            go_simp
            try simp [*]
            try (intro hh; exfalso; omega)
            try omega
          try simp only [Act.put, List.setIfInBounds_toArray, List.set_cons_zero, List.set_cons_succ, List.getElem_toArray, List.getElem_cons_succ, List.getElem_cons_zero]
          refine wpAnyH_take (i := 2) (oi := _) (v := Value.pointer (some ⟨g, o + i, none⟩)) rfl (by kernel_rfl) (by kernel_rfl) (by kernel_rfl) (fun _ _ _ h => h) (Or.inl ⟨by rfl, fun w' hSw => ?_⟩) hHeld ?_
          · obtain ⟨t0, t1⟩ := hSw
            go_simp
            try simp [*]
            try (intro hh; exfalso; omega)
            try omega
          try simp only [Act.put, List.setIfInBounds_toArray, List.set_cons_zero, List.set_cons_succ, List.getElem_toArray, List.getElem_cons_succ, List.getElem_cons_zero]
          refine wpAnyH_take (i := 3) (oi := _) (v := Value.int .i64 z) rfl (by kernel_rfl) (by kernel_rfl) (by kernel_rfl) (fun _ _ _ h => h) (Or.inl ⟨by rfl, fun w' hSw => ?_⟩) hHeld ?_
          · obtain ⟨t0, t1⟩ := hSw
            go_simp
            try simp [*]
            try (intro hh; exfalso; omega)
            try omega
          try simp only [Act.put, List.setIfInBounds_toArray, List.set_cons_zero, List.set_cons_succ, List.getElem_toArray, List.getElem_cons_succ, List.getElem_cons_zero]
          refine wpAnyH_take (i := 4) (oi := _) (v := Value.bool false) rfl (by kernel_rfl) (by kernel_rfl) (by kernel_rfl) (fun _ _ _ h => h) (Or.inl ⟨by rfl, fun w' hSw => ?_⟩) hHeld ?_
          · obtain ⟨t0, t1⟩ := hSw
            go_simp
            try simp [*]
            try (intro hh; exfalso; omega)
            try omega
          try simp only [Act.put, List.setIfInBounds_toArray, List.set_cons_zero, List.set_cons_succ, List.getElem_toArray, List.getElem_cons_succ, List.getElem_cons_zero]
          refine wpAnyH_take (i := 5) (oi := _) (v := Value.bool false) rfl (by kernel_rfl) (by kernel_rfl) (by kernel_rfl) (fun _ _ _ h => h) (Or.inl ⟨by rfl, fun w' hSw => ?_⟩) hHeld ?_
          · obtain ⟨t0, t1⟩ := hSw
            go_simp
            try simp [*]
            try (intro hh; exfalso; omega)
            try omega
          try simp only [Act.put, List.setIfInBounds_toArray, List.set_cons_zero, List.set_cons_succ, List.getElem_toArray, List.getElem_cons_succ, List.getElem_cons_zero]
          refine wpAnyH_take (i := 6) (oi := _) (v := Value.slice (some ⟨g, o, none⟩) fm fc) rfl (by kernel_rfl) (by kernel_rfl) (by kernel_rfl) (fun _ _ _ h => h) (Or.inl ⟨by rfl, fun w' hSw => ?_⟩) hHeld ?_
          · obtain ⟨t0, t1⟩ := hSw
            go_simp
            try simp [*]
            try (intro hh; exfalso; omega)
            try omega
          try simp only [Act.put, List.setIfInBounds_toArray, List.set_cons_zero, List.set_cons_succ, List.getElem_toArray, List.getElem_cons_succ, List.getElem_cons_zero]
          refine wpAnyH_take (i := 7) (oi := _) (v := Value.int .i64 (i : Int)) rfl (by kernel_rfl) (by kernel_rfl) (by kernel_rfl) (fun _ _ _ h => h) (Or.inl ⟨by rfl, fun w' hSw => ?_⟩) hHeld ?_
          · obtain ⟨t0, t1⟩ := hSw
            go_simp
            try simp [*]
            try (intro hh; exfalso; omega)
            try omega
          try simp only [Act.put, List.setIfInBounds_toArray, List.set_cons_zero, List.set_cons_succ, List.getElem_toArray, List.getElem_cons_succ, List.getElem_cons_zero]
          refine wpAnyH_take (i := 8) (oi := _) (v := Value.pointer (some ⟨g, o + i, none⟩)) rfl (by kernel_rfl) (by kernel_rfl) (by kernel_rfl) (fun _ _ _ h => h) (Or.inl ⟨by rfl, fun w' hSw => ?_⟩) hHeld ?_
          · obtain ⟨t0, t1⟩ := hSw
            go_simp
            try simp [*]
            try (intro hh; exfalso; omega)
            try omega
          try simp only [Act.put, List.setIfInBounds_toArray, List.set_cons_zero, List.set_cons_succ, List.getElem_toArray, List.getElem_cons_succ, List.getElem_cons_zero]
          refine wpAnyH_take (i := 9) (oi := _) (v := Value.int .i64 z) rfl (by kernel_rfl) (by kernel_rfl) (by kernel_rfl) (fun _ _ _ h => h) (Or.inl ⟨by rfl, fun w' hSw => ?_⟩) hHeld ?_
          · obtain ⟨t0, t1⟩ := hSw
            go_simp
            try simp [*]
            try (intro hh; exfalso; omega)
            try omega
          try simp only [Act.put, List.setIfInBounds_toArray, List.set_cons_zero, List.set_cons_succ, List.getElem_toArray, List.getElem_cons_succ, List.getElem_cons_zero]
          refine wpAnyH_take (i := 10) (oi := _) (v := Value.pointer (some ⟨w.heap.size, 2, none⟩)) rfl (by kernel_rfl) (by kernel_rfl) (by kernel_rfl) (fun _ _ _ h => h) (Or.inl ⟨by rfl, fun w' hSw => ?_⟩) hHeld ?_
          · obtain ⟨t0, t1⟩ := hSw
            go_simp
            try simp [*]
            try (intro hh; exfalso; omega)
            try omega
          try simp only [Act.put, List.setIfInBounds_toArray, List.set_cons_zero, List.set_cons_succ, List.getElem_toArray, List.getElem_cons_succ, List.getElem_cons_zero]
          refine wpAnyH_take (i := 11) (oi := _) (v := Value.slice a n cap) rfl (by kernel_rfl) (by kernel_rfl) (by kernel_rfl) (fun _ _ _ h => h) (Or.inl ⟨by rfl, fun w' hSw => ?_⟩) hHeld ?_
          · obtain ⟨t0, t1⟩ := hSw
            go_simp
            try simp [*]
            try (intro hh; exfalso; omega)
            try omega
          try simp only [Act.put, List.setIfInBounds_toArray, List.set_cons_zero, List.set_cons_succ, List.getElem_toArray, List.getElem_cons_succ, List.getElem_cons_zero]
          refine wpAnyH_take (i := 12) (oi := _) (v := Value.int .i64 n) rfl (by kernel_rfl) (by kernel_rfl) (by kernel_rfl) (fun _ _ _ h => h) (Or.inl ⟨by rfl, fun w' hSw => ?_⟩) hHeld ?_
          · obtain ⟨t0, t1⟩ := hSw
            go_simp
            try simp [*]
            try (intro hh; exfalso; omega)
            try omega
          try simp only [Act.put, List.setIfInBounds_toArray, List.set_cons_zero, List.set_cons_succ, List.getElem_toArray, List.getElem_cons_succ, List.getElem_cons_zero]
          refine wpAnyH_take (i := 13) (oi := _) (v := Value.bool false) rfl (by kernel_rfl) (by kernel_rfl) (by kernel_rfl) (fun _ _ _ h => h) (Or.inl ⟨by rfl, fun w' hSw => ?_⟩) hHeld ?_
          · obtain ⟨t0, t1⟩ := hSw
            go_simp
            try simp [*]
            try (intro hh; exfalso; omega)
            try omega
          try simp only [Act.put, List.setIfInBounds_toArray, List.set_cons_zero, List.set_cons_succ, List.getElem_toArray, List.getElem_cons_succ, List.getElem_cons_zero]
          refine wpAnyH_take (i := 14) (oi := _) (v := Value.bool false) rfl (by kernel_rfl) (by kernel_rfl) (by kernel_rfl) (fun _ _ _ h => h) (Or.inl ⟨by rfl, fun w' hSw => ?_⟩) hHeld ?_
          · obtain ⟨t0, t1⟩ := hSw
            go_simp
            try simp [*]
            try (intro hh; exfalso; omega)
            try omega
          try simp only [Act.put, List.setIfInBounds_toArray, List.set_cons_zero, List.set_cons_succ, List.getElem_toArray, List.getElem_cons_succ, List.getElem_cons_zero]
          refine wpAnyH_done (by kernel_rfl) ?_ _
          clear hHeld
          go_wp2_with fail
          go_roundw
          case rel => exact ⟨i + 1, by omega, by go_num, HX.out, HB.out.drew⟩
          case measure => simp [intOf]; omega
    · obtain rfl : i = fm := by omega
      obtain ⟨i0f, rfl⟩ : ∃ q, q = i := ⟨_, rfl⟩
      have HOK := Lib.hid (show ∀ j, j < i0f → ∃ x : Nat, ti fs j = (x : Int) ∧ 0 < x ∧ x < n from fun j hj => ⟨(ti fs j).toNat, by have := HV.out j hj; omega, by have := HV.out j hj; omega, by have := HV.out j hj; omega⟩)
      have HLE := Lib.hid (R4'.out HV.out)
      have HPK := Lib.hid (HLP.out HV.out)
      clear R3' R4' HLP HV
      obtain ⟨W3, rfl⟩ : ∃ W3, W3 = wr := ⟨_, rfl⟩
      obtain ⟨U, hM, hRow, hbU, hsU⟩ := make_bools W3 n (by omega)
      have HROW0 := Lib.hid (show RowC U W3.heap.size 4 n (fun j => .bool (GF 0 j)) from hRow.ext (fun j _ => by rw [HG0.out]))
      have HBU := Lib.hid hbU
      clear hRow hbU k0 k1 k2
      obtain ⟨k0, k1, k2⟩ := KK.out _ HB.out
      go_upto_region 15 with fail
      clear hM k0 k1 k2
      obtain ⟨k0, k1, k2⟩ := KK.out _ (HB.out.trans (HBU.out.mono HB.out.size))
      go_wp2_with fail
      go_loopw [11] (fun iv wr => ∃ i : Nat, i ≤ i0f ∧ iv = .int .i64 i ∧ RowC wr W3.heap.size 4 n (fun j => .bool (GF i j)) ∧ Below W3.heap.size W3 wr) (fun iv _ => i0f - (intOf iv).toNat)
      case atStart => exact ⟨0, Nat.zero_le _, rfl, HROW0.out, HBU.out⟩
      case round =>
        obtain ⟨i, hi, rfl, hrow, hBR⟩ := hrel
        have HROW := Lib.hid hrow
        have HBR := Lib.hid hBR
        have HBW := Lib.hid (HB.out.trans (hBR.mono HB.out.size))
        have HWA := Lib.hid (HBA.out.trans (HBW.out.mono HBA.out.size))
        clear hrow hBR k0 k1 k2
        obtain ⟨k0, k1, k2⟩ := KK.out _ HBW.out
        by_cases hlt : i < i0f
        · have hii : (i : Int) < (i0f : Int) := by omega
          obtain ⟨g, o, rfl, hg, c0⟩ := HF.out _ i HWA.out hlt
          obtain ⟨x, hx, hx0, hxn⟩ := HOK.out i hlt
          rw [hx] at c0
          have hxi : (x : Int) < (n : Int) := by omega
          have q0 := HROW.out.cell hxn
          have HGS' := Lib.hid (HGS.out i x hx)
          have HGT' := Lib.hid (HGT.out i x hxn hx)
          have HXX := Lib.hid hx
          clear hx
          cases hgx : GF i x
          rotate_left
          · rw [hgx] at q0
            have HX := Lib.hid (show RowC wr W3.heap.size 4 n (fun j => .bool (GF (i + 1) j)) from HROW.out.ext (fun j _ => by rw [HGS'.out hgx j]))
            clear hgx
            go_wp2_with fail
            go_roundw
            case rel => exact ⟨i + 1, by omega, by go_num, HX.out, HBR.out⟩
            case measure => simp [intOf]; omega
          · rw [hgx] at q0
            have HGX := Lib.hid (HGT'.out hgx)
            have cC := Lib.hid (c2.out x hxn)
            have hcl := HCL.out x hxn
            clear hgx HGT' HGS'
            generalize cutN ns zs x = C at *
            have HSMc := Lib.hid (HSM.out C)
            have hslc := HSL.out C
            have cS := Lib.hid (c6.out C)
            generalize sub (par ns) n C = L at *
            have KQ := Lib.hid (show ∀ Z, Below wr.heap.size wr Z → Z.cell? ⟨w.heap.size, 0, none⟩ = some (.int .i64 sl) ∧ Z.cell? ⟨w.heap.size, 1, none⟩ = some (.int .i64 sh) ∧ Z.cell? ⟨w.heap.size, 2, none⟩ = some (.slice a n cap) ∧ Z.cell? ⟨g, o + i, none⟩ = some (.int .i64 (x : Int)) from fun Z h => by
              have hs := HBA.out.size
              have hs2 := HBW.out.size
              have hs3 := HLT.out
              exact ⟨(h.cell (p := ⟨w.heap.size, 0, none⟩) (by show w.heap.size < wr.heap.size; omega)).trans k0, (h.cell (p := ⟨w.heap.size, 1, none⟩) (by show w.heap.size < wr.heap.size; omega)).trans k1, (h.cell (p := ⟨w.heap.size, 2, none⟩) (by show w.heap.size < wr.heap.size; omega)).trans k2, (h.cell (p := ⟨g, _, none⟩) (by show g < wr.heap.size; omega)).trans c0⟩)
            have HDR := Lib.hid (show Below wr.heap.size wr wr.drew from (Below.refl _ _).drew)
            go_upto_region 19 with fail
            clear q0
            refine wp_region_held_drew (S := fun w' => w'.cell? ⟨w.heap.size, 0, none⟩ = some (Value.int .i64 sl) ∧ w'.cell? ⟨w.heap.size, 1, none⟩ = some (Value.int .i64 sh) ∧ w'.cell? ⟨w.heap.size, 2, none⟩ = some (Value.slice a n cap) ∧ w'.cell? ⟨g, o + i, none⟩ = some (Value.int .i64 (x : Int))) (by kernel_rfl) ⟨by simpa [go_sem] using k0, by simpa [go_sem] using k1, by simpa [go_sem] using k2, by simpa [go_sem] using c0⟩ (fun hHeld => ?_)
            refine wpAnyH_take (i := 0) (oi := _) (v := Value.agg #[Value.int .i64 sl, Value.int .i64 sh, Value.slice a n cap]) rfl (by kernel_rfl) (by kernel_rfl) (by kernel_rfl) (fun _ _ _ h => h) (Or.inl ⟨by rfl, fun w' hSw => ?_⟩) hHeld ?_
            · obtain ⟨t0, t1, t2, t3⟩ := hSw
              go_simp
              try simp [*]
              try (intro hh; exfalso; omega)
              try omega
            try simp only [Act.put, List.setIfInBounds_toArray, List.set_cons_zero, List.set_cons_succ, List.getElem_toArray, List.getElem_cons_succ, List.getElem_cons_zero]
            refine wpAnyH_take (i := 1) (oi := _) (v := Value.agg #[Value.int .i64 sl, Value.int .i64 sh, Value.slice a n cap]) rfl (by kernel_rfl) (by kernel_rfl) (by kernel_rfl) (fun _ _ _ h => h) (Or.inl ⟨by rfl, fun w' hSw => ?_⟩) hHeld ?_
            · obtain ⟨t0, t1, t2, t3⟩ := hSw
              go_simp
              try simp [*]
              try (intro hh; exfalso; omega)
              try omega
            try simp only [Act.put, List.setIfInBounds_toArray, List.set_cons_zero, List.set_cons_succ, List.getElem_toArray, List.getElem_cons_succ, List.getElem_cons_zero]
            refine wpAnyH_take (i := 2) (oi := _) (v := Value.slice (some ⟨g, o, none⟩) i0f fc) rfl (by kernel_rfl) (by kernel_rfl) (by kernel_rfl) (fun _ _ _ h => h) (Or.inl ⟨by rfl, fun w' hSw => ?_⟩) hHeld ?_
            · obtain ⟨t0, t1, t2, t3⟩ := hSw
              go_simp
              try simp [*]
              try (intro hh; exfalso; omega)
              try omega
            try simp only [Act.put, List.setIfInBounds_toArray, List.set_cons_zero, List.set_cons_succ, List.getElem_toArray, List.getElem_cons_succ, List.getElem_cons_zero]
            refine wpAnyH_take (i := 3) (oi := _) (v := Value.int .i64 (i : Int)) rfl (by kernel_rfl) (by kernel_rfl) (by kernel_rfl) (fun _ _ _ h => h) (Or.inl ⟨by rfl, fun w' hSw => ?_⟩) hHeld ?_
            · obtain ⟨t0, t1, t2, t3⟩ := hSw
              go_simp
              try simp [*]
              try (intro hh; exfalso; omega)
              try omega
            try simp only [Act.put, List.setIfInBounds_toArray, List.set_cons_zero, List.set_cons_succ, List.getElem_toArray, List.getElem_cons_succ, List.getElem_cons_zero]
            refine wpAnyH_take (i := 4) (oi := _) (v := Value.pointer (some ⟨g, o + i, none⟩)) rfl (by kernel_rfl) (by kernel_rfl) (by kernel_rfl) (fun _ _ _ h => h) (Or.inl ⟨by rfl, fun w' hSw => ?_⟩) hHeld ?_
            · obtain ⟨t0, t1, t2, t3⟩ := hSw
              go_simp
              try simp [*]
              try (intro hh; exfalso; omega)
              try omega
            try simp only [Act.put, List.setIfInBounds_toArray, List.set_cons_zero, List.set_cons_succ, List.getElem_toArray, List.getElem_cons_succ, List.getElem_cons_zero]
            refine wpAnyH_take (i := 5) (oi := _) (v := Value.int .i64 (x : Int)) rfl (by kernel_rfl) (by kernel_rfl) (by kernel_rfl) (fun _ _ _ h => h) (Or.inl ⟨by rfl, fun w' hSw => ?_⟩) hHeld ?_
            · obtain ⟨t0, t1, t2, t3⟩ := hSw
              go_simp
              try simp [*]
              try (intro hh; exfalso; omega)
              try omega
            try simp only [Act.put, List.setIfInBounds_toArray, List.set_cons_zero, List.set_cons_succ, List.getElem_toArray, List.getElem_cons_succ, List.getElem_cons_zero]
            refine wpAnyH_take (i := 6) (oi := _) (v := Value.slice za zm zc) rfl (by kernel_rfl) (by kernel_rfl) (by kernel_rfl) (fun _ _ _ h => h) (Or.inl ⟨by rfl, fun w' hSw => ?_⟩) hHeld ?_
            · obtain ⟨t0, t1, t2, t3⟩ := hSw
              go_simp
              try simp [*]
              try (intro hh; exfalso; omega)
              try omega
            try simp only [Act.put, List.setIfInBounds_toArray, List.set_cons_zero, List.set_cons_succ, List.getElem_toArray, List.getElem_cons_succ, List.getElem_cons_zero]
            refine wpAnyH_ready (rs := [7]) (by kernel_rfl) (by simp) ?_
            refine AllReadyH.cons (o := _) rfl (fun K hK => ?_) AllReadyH.nil
            go_simp
            go_at_call 102
            refine Calls.mono (cC.out _ (HWA.out.trans (HDR.out.mono HWA.out.size))) ?_
            rintro e v1 ⟨rfl, hb⟩
            have HD1 := Lib.hid (HDR.out.trans (hb.mono HDR.out.size))
            clear hb
            clear hHeld
            refine hK.out _ _ (KQ.out _ HD1.out) (fun hHeld => ?_)
            clear hK K
            try simp only [Act.put, List.setIfInBounds_toArray, List.set_cons_zero, List.set_cons_succ, List.getElem_toArray, List.getElem_cons_succ, List.getElem_cons_zero]
            refine wpAnyH_ready (rs := [8]) (by kernel_rfl) (by simp) ?_
            refine AllReadyH.cons (o := _) rfl (fun K hK => ?_) AllReadyH.nil
            go_simp
            go_at_call 86
            refine Calls.mono (cS.out _ (HWA.out.trans (HD1.out.mono HWA.out.size))) ?_
            rintro e v2 ⟨lv, rfl, hr, hb⟩
            obtain ⟨la, lc, rfl⟩ := own_form hr
            have HL := Lib.hid hr
            have HD2 := Lib.hid (HD1.out.trans (hb.mono HD1.out.size))
            clear hb hr
            clear hHeld
            refine hK.out _ _ (KQ.out _ HD2.out) (fun hHeld => ?_)
            clear hK K
            try simp only [Act.put, List.setIfInBounds_toArray, List.set_cons_zero, List.set_cons_succ, List.getElem_toArray, List.getElem_cons_succ, List.getElem_cons_zero]
            refine wpAnyH_take (i := 9) (oi := _) (v := Value.slice la L.length lc) rfl (by kernel_rfl) (by kernel_rfl) (by kernel_rfl) (fun _ _ _ h => h) (Or.inl ⟨by rfl, fun w' hSw => ?_⟩) hHeld ?_
            · obtain ⟨t0, t1, t2, t3⟩ := hSw
              go_simp
              try simp [*]
              try (intro hh; exfalso; omega)
              try omega
            try simp only [Act.put, List.setIfInBounds_toArray, List.set_cons_zero, List.set_cons_succ, List.getElem_toArray, List.getElem_cons_succ, List.getElem_cons_zero]
            refine wpAnyH_done (by kernel_rfl) ?_ _
            clear hHeld
            have HROWV := Lib.hid (HROW.out.keep HD2.out)
            have HBV := Lib.hid (HBR.out.trans (HD2.out.mono HBR.out.size))
            have HGV := Lib.hid (show W3.heap.size < v1.heap.size from Nat.lt_of_lt_of_le HROW.out.lt HD1.out.size)
            have HPF := Lib.hid (show ∀ j, GF (i + 1) j = (GF i j || decide (j ∈ L)) from HGX.out)
            have HTK := Lib.hid (fun i' (h : i' < L.length) => tn_take h)
            have HTKA := Lib.hid (show ∀ m, m = L.length → L.take m = L from fun m e => by rw [e, List.take_length])
            have HTM := Lib.hid (fun i' (h : i' < L.length) => HSMc.out _ (tn_mem h))
            clear HGX HSMc cC cS KQ HDR k0 k1 k2 c0
            generalize L.length = m at *
            obtain ⟨k0, k1, k2⟩ := KK.out _ (HB.out.trans (HBV.out.mono HB.out.size))
            obtain ⟨W5, rfl⟩ : ∃ W5, W5 = wr := ⟨_, rfl⟩
            go_wp2_with fail
            go_loopw [13] (fun iv W => ∃ p : Nat, p ≤ m ∧ iv = .int .i64 p ∧ RowC W W3.heap.size 4 n (fun j => .bool (GF i j || decide (j ∈ L.take p))) ∧ W.ownsRow v1.heap.size 3 1 (.slice la m lc) m (flatN L) ∧ Below W3.heap.size W3 W) (fun iv _ => m - (intOf iv).toNat)
            case atStart => exact ⟨0, Nat.zero_le _, rfl, HROWV.out.ext (fun j _ => by simp), HL.out, HBV.out⟩
            case round =>
              obtain ⟨p, hp, rfl, hrow, hL, hBR⟩ := hrel
              have HROWW := Lib.hid hrow
              have HLW := Lib.hid hL
              have HBRW := Lib.hid hBR
              clear hrow hL hBR k0 k1 k2
              by_cases hpm : p < m
              · have hpi : (p : Int) < (m : Int) := by omega
                obtain ⟨gg, lc', he, hlc, hg1, hg2, gl⟩ := own3_cell HLW.out hpm
                simp only [Value.slice.injEq] at he
                obtain ⟨rfl, -, rfl⟩ := he
                have hyn := HTM.out p hpm
                have HTP := Lib.hid (HTK.out p hpm)
                generalize tn L p = y at *
                have hyi : (y : Int) < (n : Int) := by omega
                have q0 := HROWW.out.cell hyn
                have qf := HROWW.out.froz y
                have HX1 := Lib.hid (show RowC (wr.setCell ⟨W3.heap.size, y, none⟩ (.bool true)) W3.heap.size 4 n (fun j => .bool (GF i j || decide (j ∈ L.take (p + 1)))) from (HROWW.out.set y (.bool true)).ext (fun j _ => by
                  rw [HTP.out]
                  by_cases e : j = y
                  · subst e; simp
                  · simp [e]))
                have HX2 := Lib.hid (show (wr.setCell ⟨W3.heap.size, y, none⟩ (.bool true)).ownsRow v1.heap.size 3 1 (.slice (some ⟨gg, 0, none⟩) m lc) m (flatN L) from own_set HLW.out _ _ _ HGV.out)
                have HX3 := Lib.hid (show Below W3.heap.size W3 (wr.setCell ⟨W3.heap.size, y, none⟩ (.bool true)) from HBRW.out.setCell (p := ⟨W3.heap.size, y, none⟩) (Nat.le_refl _) _)
                go_wp2_with fail
                go_roundw
                case rel => exact ⟨p + 1, by omega, by go_num, HX1.out, HX2.out, HX3.out⟩
                case measure => simp [intOf]; omega
              · obtain rfl : p = m := by omega
                have HX := Lib.hid (show RowC wr W3.heap.size 4 n (fun j => .bool (GF (i + 1) j)) from HROWW.out.ext (fun j _ => by rw [HPF.out, HTKA.out p rfl]))
                go_wp2_with fail
                go_roundw
                case rel => exact ⟨i + 1, by omega, by go_num, HX.out, HBRW.out⟩
                case measure => simp [intOf]; omega
        · obtain rfl : i = i0f := by omega
          obtain ⟨W7, rfl⟩ : ∃ W7, W7 = wr := ⟨_, rfl⟩
          have HRR := Lib.hid HLE.out
          generalize GF i = S at *
          clear c26 c101 c2 c6 HCL HGS HGT HSM HSL HF HOK
          go_wp2_with fail
          go_loopw [14, 15] (fun ov iv wr => ∃ q : Nat, q ≤ n ∧ iv = .int .i64 q ∧ wr.ownsRow W7.heap.size 3 1 ov (pick q S).length (flatN (pick q S)) ∧ Below W7.heap.size W7 wr) (fun _ iv _ => n - (intOf iv).toNat)
          case atStart => exact ⟨0, Nat.zero_le _, rfl, by simpa [flatN, pick] using World.ownsRow_nil _ _ _ _, Below.refl _ _⟩
          case round =>
            obtain ⟨q, hq, rfl, hrow, hB7⟩ := hrel
            have HB7 := Lib.hid hB7
            have HR7 := Lib.hid hrow
            obtain ⟨oa, oc, rfl⟩ := own_form3 hrow
            clear hrow hB7 k0 k1 k2
            by_cases hqn : q < n
            · have hqi : (q : Int) < (n : Int) := by omega
              have r0 := (HROW.out.keep HB7.out).cell hqn
              have HY := Lib.hid (fun (h : S q = true) => pick_yes h)
              have HNN := Lib.hid (fun (h : S q = false) => pick_no h)
              have hpl := pick_le q S
              cases hpi : S q
              · rw [hpi] at r0
                have HN2 := Lib.hid (HNN.out hpi)
                clear hpi
                go_wp2_with fail
                go_roundw
                case rel => exact ⟨q + 1, by omega, by go_num, by rw [HN2.out]; exact HR7.out, HB7.out⟩
                case measure => simp [intOf]; omega
              · rw [hpi] at r0
                have HY2 := Lib.hid (HY.out hpi)
                clear hpi
                go_wp2_with (at_builtin; refine wpList_append_own _ rfl _ _ 29 rfl W7.heap.size 3 i0 (.int .i64 0) 1 8 Try.underlying29 hi0 hz0 hz1 hz2 rfl (by decide) _ _ _ rfl (HR7.out.alloc _) ⟨wr.heap.size, 0, none⟩ 1 1 [.int .i64 (q : Int)] rfl rfl (one_new3 _ _) (by simp [Value.oneCell']) (by unfold maxLen; omega) (by omega) (by have := HB7.out.size; simp; omega) ?_; intro v' w5 hown' hgrow _; have HG := Lib.hid hgrow; have HO := Lib.hid hown'; obtain ⟨g', cap', rfl⟩ := ownsRow_succ hown'; clear hown' hgrow; have HB5 := Lib.hid (show Below W7.heap.size W7 w5 from (HB7.out.alloc HB7.out.size _).grown HG.out (by have := HB7.out.size; simp; omega) (fun r e => (((HR7.out.alloc (.cells #[.int .i64 (q : Int)] 3)).lt r e).1))))
                have HR5 := Lib.hid (show w5.ownsRow W7.heap.size 3 1 _ (pick (q + 1) S).length (flatN (pick (q + 1) S)) by rw [HY2.out, flatN_snoc, List.length_append]; simpa using HO.out)
                go_roundw
                case rel => exact ⟨q + 1, by omega, by go_num, HR5.out, HB5.out⟩
                case measure => simp [intOf]; omega
            · obtain rfl : q = n := by omega
              have HI := Lib.hid (show Il wr.heap.size wr (.slice oa (pick q S).length oc) (Go.Proofs.Ytdohfpnnmppdkaa.zs LR) by rw [HLR.out.1 HRR.out, ← HPK.out]; exact il_of_own HR7.out)
              have HFIN := Lib.hid (show Below w.heap.size w wr from HWA.out.trans (HB7.out.mono HWA.out.size))
              go_wp2_with fail
              go_ret2
              exact ⟨_, by rw [HRR.out]; rfl, HI.out, HFIN.out⟩
end Go.Proofs.Ytdohfpnnmppdkaa

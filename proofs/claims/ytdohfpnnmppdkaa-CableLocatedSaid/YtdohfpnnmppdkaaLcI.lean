/-
  Cables: Segments.
-/
import Derived.Test.YtdohfpnnmppdkaaLcH
namespace Go.Proofs.Ytdohfpnnmppdkaa
open Go.RowKit Go.Shelf
set_option linter.unusedSimpArgs false
open Go.RowKit Go.Shelf
set_option linter.unusedSimpArgs false
attribute [local go_sem] Oper.semAt_some
/-- the error of Segments -/
noncomputable def segE (sl sh : Int) (ns : List Nd) (ls : List Int) (k a b : Int) : Int :=
  if cabE sl sh ns ≠ 0 then cabE sl sh ns else if ls.length ≠ ns.length then 17 else if ¬ (0 ≤ k ∧ k < ns.length) then 3 else if lenB ls = true ∧ vB a b = true then 0 else 2
noncomputable def segL (ns : List Nd) (ls : List Int) (k a b : Int) : List Nat := sgL ls (pth (par ns) k.toNat) a b ((pth (par ns) k.toNat).length - 1)
def SegR (sl sh : Int) (ns : List Nd) (ls : List Int) (k a b : Int) (w : World) (e : Ending) (w' : World) : Prop :=
  ∃ v, e = .returned (.tuple #[v, .int .i64 (segE sl sh ns ls k a b)]) ∧ Il w'.heap.size w' v (zs (if segE sl sh ns ls k a b = 0 then segL ns ls k a b else [])) ∧ Below w.heap.size w w'
theorem seg1 {sl sh : Int} {ns : List Nd} {ls : List Int} {k a b : Int} (h : ¬ cabE sl sh ns = 0) : segE sl sh ns ls k a b = cabE sl sh ns := if_pos h
theorem seg2 {sl sh : Int} {ns : List Nd} {ls : List Int} {k a b : Int} (h : cabE sl sh ns = 0) (h2 : ¬ ls.length = ns.length) : segE sl sh ns ls k a b = 17 := by unfold segE; rw [if_neg (fun q => q h), if_pos h2]
theorem seg3 {sl sh : Int} {ns : List Nd} {ls : List Int} {k a b : Int} (h : cabE sl sh ns = 0) (h2 : ls.length = ns.length) (h3 : ¬ (0 ≤ k ∧ k < ns.length)) : segE sl sh ns ls k a b = 3 := by unfold segE; rw [if_neg (fun q => q h), if_neg (fun q => q h2), if_pos h3]
theorem seg4 {sl sh : Int} {ns : List Nd} {ls : List Int} {k a b : Int} (h : cabE sl sh ns = 0) (h2 : ls.length = ns.length) (h3 : 0 ≤ k ∧ k < ns.length) (h4 : ¬ (lenB ls = true ∧ vB a b = true)) : segE sl sh ns ls k a b = 2 := by unfold segE; rw [if_neg (fun q => q h), if_neg (fun q => q h2), if_neg (fun q => q h3), if_neg h4]
theorem seg5 {sl sh : Int} {ns : List Nd} {ls : List Int} {k a b : Int} (h : cabE sl sh ns = 0) (h2 : ls.length = ns.length) (h3 : 0 ≤ k ∧ k < ns.length) (h4 : lenB ls = true ∧ vB a b = true) : segE sl sh ns ls k a b = 0 := by unfold segE; rw [if_neg (fun q => q h), if_neg (fun q => q h2), if_neg (fun q => q h3), if_pos h4]
theorem pth_place {ns : List Nd} (h : AllN ns) {k : Nat} (hk : k < ns.length) {i : Nat} (hi : i < (pth (par ns) k).length) : tn (pth (par ns) k) i < ns.length := h.path_lt hk (tn_mem hi)
set_option maxRecDepth 100000 in
set_option maxHeartbeats 8000000 in
theorem segments_any (sl sh : Int) (sv lv : Value) (ns : List Nd) (ls : List Int) (k a b : Int) (w : World) (hN : Nds w.heap.size w sv ns) (hL : Il w.heap.size w lv ls) :
    Calls Try.prog 48 #[.agg #[.int .i64 sl, .int .i64 sh, sv], lv, .int .i64 k, .agg #[.int .i64 a, .int .i64 b]] w (SegR sl sh ns ls k a b w) := by
  unfold SegR
  have c25 := Lib.hid (fun W (h : Below w.heap.size w W) => check25 sl sh sv ns W (hN.at h))
  have HV := Lib.hid (fun (h : cabE sl sh ns = 0) => cabE_ok h)
  obtain ⟨ca, cap, hsv⟩ := hN.form
  have c118 := Lib.hid (fun (hv : ValidC sl sh ns) (kn : Nat) (hk : kn < ns.length) W (h : Below w.heap.size w W) => route_any sl sh sv ns kn hv.all hv.len hk W (hN.at h))
  obtain ⟨la, lc, hlv⟩ := hL.form
  have c116 := Lib.hid (fun (h1 : ls.length ≤ 1000) (h0 : 0 < ls.length) W (h : Below w.heap.size w W) => lengths_any lv ls W (hL.at h) h1 h0)
  have HLB := Lib.hid (fun W (h : Below w.heap.size w W) => hL.at h)
  have c115 := Lib.hid (fun (hn : ns.length ≤ 1000) W => isNode_any sl sh ca ns.length cap hn k W)
  have c110 := Lib.hid (fun W => check_any a b W)
  subst hsv
  subst hlv
  clear hN hL
  by_cases hE : cabE sl sh ns = 0
  rotate_left
  · rw [seg1 hE, if_neg hE]
    have hE' : (cabE sl sh ns != 0) = true := by simpa using hE
    clear HV c116 c115 c110 c118 HLB hE
    generalize cabE sl sh ns = E at *
    generalize ns.length = n at *
    generalize ls.length = m at *
    obtain ⟨A, hA⟩ : ∃ A, A = (w.alloc (.cells #[.int .i64 sl, .int .i64 sh, .slice ca n cap] 26)).alloc (.cells #[.int .i64 a, .int .i64 b] 23) := ⟨_, rfl⟩
    have HBA := Lib.hid (show Below w.heap.size w A by rw [hA]; exact ((Below.refl _ _).alloc (Nat.le_refl _) _).alloc (by simp) _)
    have hzA : A.heap.size = w.heap.size + 2 := by rw [hA]; simp
    have q0 : A.cell? ⟨w.heap.size, 0, none⟩ = some (.int .i64 sl) := by rw [hA]; simp [go_sem]
    have q1 : A.cell? ⟨w.heap.size, 1, none⟩ = some (.int .i64 sh) := by rw [hA]; simp [go_sem]
    have q2 : A.cell? ⟨w.heap.size, 2, none⟩ = some (.slice ca n cap) := by rw [hA]; simp [go_sem]
    have q3 : A.cell? ⟨w.heap.size + 1, 0, none⟩ = some (.int .i64 a) := by rw [hA]; simp [go_sem]
    have q4 : A.cell? ⟨w.heap.size + 1, 1, none⟩ = some (.int .i64 b) := by rw [hA]; simp [go_sem]
    have KK := Lib.hid (show ∀ W, Below A.heap.size A W → W.cell? ⟨w.heap.size, 0, none⟩ = some (.int .i64 sl) ∧ W.cell? ⟨w.heap.size, 1, none⟩ = some (.int .i64 sh) ∧ W.cell? ⟨w.heap.size, 2, none⟩ = some (.slice ca n cap) ∧ W.cell? ⟨w.heap.size + 1, 0, none⟩ = some (.int .i64 a) ∧ W.cell? ⟨w.heap.size + 1, 1, none⟩ = some (.int .i64 b) from fun W h => ⟨(h.cell (p := ⟨w.heap.size, 0, none⟩) (by show w.heap.size < A.heap.size; omega)).trans q0, (h.cell (p := ⟨w.heap.size, 1, none⟩) (by show w.heap.size < A.heap.size; omega)).trans q1, (h.cell (p := ⟨w.heap.size, 2, none⟩) (by show w.heap.size < A.heap.size; omega)).trans q2, (h.cell (p := ⟨w.heap.size + 1, 0, none⟩) (by show w.heap.size + 1 < A.heap.size; omega)).trans q3, (h.cell (p := ⟨w.heap.size + 1, 1, none⟩) (by show w.heap.size + 1 < A.heap.size; omega)).trans q4⟩)
    clear q0 q1 q2 q3 q4 hzA
    obtain ⟨k0, k1, k2, k3, k4⟩ := KK.out _ (Below.refl _ _)
    go_enter Try.func48, Try.ntmps48
    go_upto_region 1 with fail
    rw [← hA]
    clear hA
    go_wp2_with fail
    refine (c25.out _ HBA.out).mono ?_
    rintro e w1 ⟨rfl, hb⟩
    have HB1 := Lib.hid hb
    clear hb
    clear k0 k1 k2 k3 k4
    obtain ⟨k0, k1, k2, k3, k4⟩ := KK.out _ HB1.out
    go_wp2_with fail
    go_ret2
    exact ⟨_, rfl, by simp only [zs, List.map_nil]; exact il_nil _ _, HBA.out.trans (HB1.out.mono HBA.out.size)⟩
  have hv := HV.out hE
  have hn := hv.len
  have hn0 := hv.pos
  rw [hE] at c25
  by_cases h2 : ls.length = ns.length
  rotate_left
  · rw [seg2 hE h2, if_neg (by decide)]
    have h2' : ((ls.length : Int) != (ns.length : Int)) = true := by simp; omega
    clear HV c116 c115 c110 c118 HLB hE hv h2 hn hn0
    generalize ns.length = n at *
    generalize ls.length = m at *
    obtain ⟨A, hA⟩ : ∃ A, A = (w.alloc (.cells #[.int .i64 sl, .int .i64 sh, .slice ca n cap] 26)).alloc (.cells #[.int .i64 a, .int .i64 b] 23) := ⟨_, rfl⟩
    have HBA := Lib.hid (show Below w.heap.size w A by rw [hA]; exact ((Below.refl _ _).alloc (Nat.le_refl _) _).alloc (by simp) _)
    have hzA : A.heap.size = w.heap.size + 2 := by rw [hA]; simp
    have q0 : A.cell? ⟨w.heap.size, 0, none⟩ = some (.int .i64 sl) := by rw [hA]; simp [go_sem]
    have q1 : A.cell? ⟨w.heap.size, 1, none⟩ = some (.int .i64 sh) := by rw [hA]; simp [go_sem]
    have q2 : A.cell? ⟨w.heap.size, 2, none⟩ = some (.slice ca n cap) := by rw [hA]; simp [go_sem]
    have q3 : A.cell? ⟨w.heap.size + 1, 0, none⟩ = some (.int .i64 a) := by rw [hA]; simp [go_sem]
    have q4 : A.cell? ⟨w.heap.size + 1, 1, none⟩ = some (.int .i64 b) := by rw [hA]; simp [go_sem]
    have KK := Lib.hid (show ∀ W, Below A.heap.size A W → W.cell? ⟨w.heap.size, 0, none⟩ = some (.int .i64 sl) ∧ W.cell? ⟨w.heap.size, 1, none⟩ = some (.int .i64 sh) ∧ W.cell? ⟨w.heap.size, 2, none⟩ = some (.slice ca n cap) ∧ W.cell? ⟨w.heap.size + 1, 0, none⟩ = some (.int .i64 a) ∧ W.cell? ⟨w.heap.size + 1, 1, none⟩ = some (.int .i64 b) from fun W h => ⟨(h.cell (p := ⟨w.heap.size, 0, none⟩) (by show w.heap.size < A.heap.size; omega)).trans q0, (h.cell (p := ⟨w.heap.size, 1, none⟩) (by show w.heap.size < A.heap.size; omega)).trans q1, (h.cell (p := ⟨w.heap.size, 2, none⟩) (by show w.heap.size < A.heap.size; omega)).trans q2, (h.cell (p := ⟨w.heap.size + 1, 0, none⟩) (by show w.heap.size + 1 < A.heap.size; omega)).trans q3, (h.cell (p := ⟨w.heap.size + 1, 1, none⟩) (by show w.heap.size + 1 < A.heap.size; omega)).trans q4⟩)
    clear q0 q1 q2 q3 q4 hzA
    obtain ⟨k0, k1, k2, k3, k4⟩ := KK.out _ (Below.refl _ _)
    go_enter Try.func48, Try.ntmps48
    go_upto_region 1 with fail
    rw [← hA]
    clear hA
    go_wp2_with fail
    refine (c25.out _ HBA.out).mono ?_
    rintro e w1 ⟨rfl, hb⟩
    have HB1 := Lib.hid hb
    clear hb
    clear k0 k1 k2 k3 k4
    obtain ⟨k0, k1, k2, k3, k4⟩ := KK.out _ HB1.out
    go_wp2_with fail
    go_ret2
    exact ⟨_, rfl, by simp only [zs, List.map_nil]; exact il_nil _ _, HBA.out.trans (HB1.out.mono HBA.out.size)⟩
  have c16 := Lib.hid (c116.out (by omega) (by omega))
  have c15 := Lib.hid (c115.out (by omega))
  clear c116 c115 HV
  by_cases h3 : 0 ≤ k ∧ k < (ns.length : Int)
  rotate_left
  · rw [seg3 hE h2 h3, if_neg (by decide)]
    rw [decide_eq_false h3] at c15
    rw [h2] at *
    clear c16 c110 c118 HLB hE hv h2 hn hn0 h3
    generalize ns.length = n at *
    obtain ⟨A, hA⟩ : ∃ A, A = (w.alloc (.cells #[.int .i64 sl, .int .i64 sh, .slice ca n cap] 26)).alloc (.cells #[.int .i64 a, .int .i64 b] 23) := ⟨_, rfl⟩
    have HBA := Lib.hid (show Below w.heap.size w A by rw [hA]; exact ((Below.refl _ _).alloc (Nat.le_refl _) _).alloc (by simp) _)
    have hzA : A.heap.size = w.heap.size + 2 := by rw [hA]; simp
    have q0 : A.cell? ⟨w.heap.size, 0, none⟩ = some (.int .i64 sl) := by rw [hA]; simp [go_sem]
    have q1 : A.cell? ⟨w.heap.size, 1, none⟩ = some (.int .i64 sh) := by rw [hA]; simp [go_sem]
    have q2 : A.cell? ⟨w.heap.size, 2, none⟩ = some (.slice ca n cap) := by rw [hA]; simp [go_sem]
    have q3 : A.cell? ⟨w.heap.size + 1, 0, none⟩ = some (.int .i64 a) := by rw [hA]; simp [go_sem]
    have q4 : A.cell? ⟨w.heap.size + 1, 1, none⟩ = some (.int .i64 b) := by rw [hA]; simp [go_sem]
    have KK := Lib.hid (show ∀ W, Below A.heap.size A W → W.cell? ⟨w.heap.size, 0, none⟩ = some (.int .i64 sl) ∧ W.cell? ⟨w.heap.size, 1, none⟩ = some (.int .i64 sh) ∧ W.cell? ⟨w.heap.size, 2, none⟩ = some (.slice ca n cap) ∧ W.cell? ⟨w.heap.size + 1, 0, none⟩ = some (.int .i64 a) ∧ W.cell? ⟨w.heap.size + 1, 1, none⟩ = some (.int .i64 b) from fun W h => ⟨(h.cell (p := ⟨w.heap.size, 0, none⟩) (by show w.heap.size < A.heap.size; omega)).trans q0, (h.cell (p := ⟨w.heap.size, 1, none⟩) (by show w.heap.size < A.heap.size; omega)).trans q1, (h.cell (p := ⟨w.heap.size, 2, none⟩) (by show w.heap.size < A.heap.size; omega)).trans q2, (h.cell (p := ⟨w.heap.size + 1, 0, none⟩) (by show w.heap.size + 1 < A.heap.size; omega)).trans q3, (h.cell (p := ⟨w.heap.size + 1, 1, none⟩) (by show w.heap.size + 1 < A.heap.size; omega)).trans q4⟩)
    clear q0 q1 q2 q3 q4 hzA
    obtain ⟨k0, k1, k2, k3, k4⟩ := KK.out _ (Below.refl _ _)
    go_enter Try.func48, Try.ntmps48
    go_upto_region 1 with fail
    rw [← hA]
    clear hA
    go_wp2_with fail
    refine (c25.out _ HBA.out).mono ?_
    rintro e w1 ⟨rfl, hb⟩
    have HB1 := Lib.hid hb
    clear hb
    clear k0 k1 k2 k3 k4
    obtain ⟨k0, k1, k2, k3, k4⟩ := KK.out _ HB1.out
    go_wp2_with fail
    refine (c15.out _).mono ?_
    rintro e w2 ⟨rfl, hb⟩
    have HB2 := Lib.hid (HB1.out.trans (hb.mono HB1.out.size))
    clear hb
    clear k0 k1 k2 k3 k4
    obtain ⟨k0, k1, k2, k3, k4⟩ := KK.out _ HB2.out
    go_wp2_with fail
    go_ret2
    exact ⟨_, rfl, by simp only [zs, List.map_nil]; exact il_nil _ _, HBA.out.trans (HB2.out.mono HBA.out.size)⟩
  rw [decide_eq_true h3] at c15
  by_cases h4 : lenB ls = true ∧ vB a b = true
  rotate_left
  · rw [seg4 hE h2 h3 h4, if_neg (by decide)]
    clear c118 HLB hE hv hn hn0 h3
    by_cases h5 : lenB ls = true
    · have h6 : ¬ vB a b = true := fun h => h4 ⟨h5, h⟩
      rw [h5] at c16
      have c11 := Lib.hid (fun W => c110.out W)
      rw [if_neg h6] at c11
      clear h4 h5 h6 c110
      rw [h2] at *
      clear h2
      generalize ns.length = n at *
      obtain ⟨A, hA⟩ : ∃ A, A = (w.alloc (.cells #[.int .i64 sl, .int .i64 sh, .slice ca n cap] 26)).alloc (.cells #[.int .i64 a, .int .i64 b] 23) := ⟨_, rfl⟩
      have HBA := Lib.hid (show Below w.heap.size w A by rw [hA]; exact ((Below.refl _ _).alloc (Nat.le_refl _) _).alloc (by simp) _)
      have hzA : A.heap.size = w.heap.size + 2 := by rw [hA]; simp
      have q0 : A.cell? ⟨w.heap.size, 0, none⟩ = some (.int .i64 sl) := by rw [hA]; simp [go_sem]
      have q1 : A.cell? ⟨w.heap.size, 1, none⟩ = some (.int .i64 sh) := by rw [hA]; simp [go_sem]
      have q2 : A.cell? ⟨w.heap.size, 2, none⟩ = some (.slice ca n cap) := by rw [hA]; simp [go_sem]
      have q3 : A.cell? ⟨w.heap.size + 1, 0, none⟩ = some (.int .i64 a) := by rw [hA]; simp [go_sem]
      have q4 : A.cell? ⟨w.heap.size + 1, 1, none⟩ = some (.int .i64 b) := by rw [hA]; simp [go_sem]
      have KK := Lib.hid (show ∀ W, Below A.heap.size A W → W.cell? ⟨w.heap.size, 0, none⟩ = some (.int .i64 sl) ∧ W.cell? ⟨w.heap.size, 1, none⟩ = some (.int .i64 sh) ∧ W.cell? ⟨w.heap.size, 2, none⟩ = some (.slice ca n cap) ∧ W.cell? ⟨w.heap.size + 1, 0, none⟩ = some (.int .i64 a) ∧ W.cell? ⟨w.heap.size + 1, 1, none⟩ = some (.int .i64 b) from fun W h => ⟨(h.cell (p := ⟨w.heap.size, 0, none⟩) (by show w.heap.size < A.heap.size; omega)).trans q0, (h.cell (p := ⟨w.heap.size, 1, none⟩) (by show w.heap.size < A.heap.size; omega)).trans q1, (h.cell (p := ⟨w.heap.size, 2, none⟩) (by show w.heap.size < A.heap.size; omega)).trans q2, (h.cell (p := ⟨w.heap.size + 1, 0, none⟩) (by show w.heap.size + 1 < A.heap.size; omega)).trans q3, (h.cell (p := ⟨w.heap.size + 1, 1, none⟩) (by show w.heap.size + 1 < A.heap.size; omega)).trans q4⟩)
      clear q0 q1 q2 q3 q4 hzA
      obtain ⟨k0, k1, k2, k3, k4⟩ := KK.out _ (Below.refl _ _)
      go_enter Try.func48, Try.ntmps48
      go_upto_region 1 with fail
      rw [← hA]
      clear hA
      go_wp2_with fail
      refine (c25.out _ HBA.out).mono ?_
      rintro e w1 ⟨rfl, hb⟩
      have HB1 := Lib.hid hb
      clear hb
      clear k0 k1 k2 k3 k4
      obtain ⟨k0, k1, k2, k3, k4⟩ := KK.out _ HB1.out
      go_wp2_with fail
      refine (c15.out _).mono ?_
      rintro e w2 ⟨rfl, hb⟩
      have HB2 := Lib.hid (HB1.out.trans (hb.mono HB1.out.size))
      clear hb
      clear k0 k1 k2 k3 k4
      obtain ⟨k0, k1, k2, k3, k4⟩ := KK.out _ HB2.out
      go_wp2_with fail
      refine (c16.out _ (HBA.out.trans (HB2.out.mono HBA.out.size))).mono ?_
      rintro e w3 ⟨rfl, rfl⟩
      go_wp2_with fail
      refine (c11.out _).mono ?_
      rintro e w3 ⟨rfl, hb⟩
      have HB3 := Lib.hid (HB2.out.trans (hb.mono HB2.out.size))
      clear hb
      clear k0 k1 k2 k3 k4
      obtain ⟨k0, k1, k2, k3, k4⟩ := KK.out _ HB3.out
      go_wp2_with fail
      go_ret2
      exact ⟨_, rfl, by simp only [zs, List.map_nil]; exact il_nil _ _, HBA.out.trans (HB3.out.mono HBA.out.size)⟩
    · have h5' : lenB ls = false := by simpa using h5
      rw [h5'] at c16
      clear h4 h5 h5' c110
      rw [h2] at *
      clear h2
      generalize ns.length = n at *
      obtain ⟨A, hA⟩ : ∃ A, A = (w.alloc (.cells #[.int .i64 sl, .int .i64 sh, .slice ca n cap] 26)).alloc (.cells #[.int .i64 a, .int .i64 b] 23) := ⟨_, rfl⟩
      have HBA := Lib.hid (show Below w.heap.size w A by rw [hA]; exact ((Below.refl _ _).alloc (Nat.le_refl _) _).alloc (by simp) _)
      have hzA : A.heap.size = w.heap.size + 2 := by rw [hA]; simp
      have q0 : A.cell? ⟨w.heap.size, 0, none⟩ = some (.int .i64 sl) := by rw [hA]; simp [go_sem]
      have q1 : A.cell? ⟨w.heap.size, 1, none⟩ = some (.int .i64 sh) := by rw [hA]; simp [go_sem]
      have q2 : A.cell? ⟨w.heap.size, 2, none⟩ = some (.slice ca n cap) := by rw [hA]; simp [go_sem]
      have q3 : A.cell? ⟨w.heap.size + 1, 0, none⟩ = some (.int .i64 a) := by rw [hA]; simp [go_sem]
      have q4 : A.cell? ⟨w.heap.size + 1, 1, none⟩ = some (.int .i64 b) := by rw [hA]; simp [go_sem]
      have KK := Lib.hid (show ∀ W, Below A.heap.size A W → W.cell? ⟨w.heap.size, 0, none⟩ = some (.int .i64 sl) ∧ W.cell? ⟨w.heap.size, 1, none⟩ = some (.int .i64 sh) ∧ W.cell? ⟨w.heap.size, 2, none⟩ = some (.slice ca n cap) ∧ W.cell? ⟨w.heap.size + 1, 0, none⟩ = some (.int .i64 a) ∧ W.cell? ⟨w.heap.size + 1, 1, none⟩ = some (.int .i64 b) from fun W h => ⟨(h.cell (p := ⟨w.heap.size, 0, none⟩) (by show w.heap.size < A.heap.size; omega)).trans q0, (h.cell (p := ⟨w.heap.size, 1, none⟩) (by show w.heap.size < A.heap.size; omega)).trans q1, (h.cell (p := ⟨w.heap.size, 2, none⟩) (by show w.heap.size < A.heap.size; omega)).trans q2, (h.cell (p := ⟨w.heap.size + 1, 0, none⟩) (by show w.heap.size + 1 < A.heap.size; omega)).trans q3, (h.cell (p := ⟨w.heap.size + 1, 1, none⟩) (by show w.heap.size + 1 < A.heap.size; omega)).trans q4⟩)
      clear q0 q1 q2 q3 q4 hzA
      obtain ⟨k0, k1, k2, k3, k4⟩ := KK.out _ (Below.refl _ _)
      go_enter Try.func48, Try.ntmps48
      go_upto_region 1 with fail
      rw [← hA]
      clear hA
      go_wp2_with fail
      refine (c25.out _ HBA.out).mono ?_
      rintro e w1 ⟨rfl, hb⟩
      have HB1 := Lib.hid hb
      clear hb
      clear k0 k1 k2 k3 k4
      obtain ⟨k0, k1, k2, k3, k4⟩ := KK.out _ HB1.out
      go_wp2_with fail
      refine (c15.out _).mono ?_
      rintro e w2 ⟨rfl, hb⟩
      have HB2 := Lib.hid (HB1.out.trans (hb.mono HB1.out.size))
      clear hb
      clear k0 k1 k2 k3 k4
      obtain ⟨k0, k1, k2, k3, k4⟩ := KK.out _ HB2.out
      go_wp2_with fail
      refine (c16.out _ (HBA.out.trans (HB2.out.mono HBA.out.size))).mono ?_
      rintro e w3 ⟨rfl, rfl⟩
      go_wp2_with fail
      go_ret2
      exact ⟨_, rfl, by simp only [zs, List.map_nil]; exact il_nil _ _, HBA.out.trans (HB2.out.mono HBA.out.size)⟩
  · rw [seg5 hE h2 h3 h4, if_pos rfl]
    have c11 := Lib.hid (fun W => c110.out W)
    rw [if_pos h4.2] at c11
    rw [h4.1] at c16
    obtain ⟨kn, rfl⟩ : ∃ kn : Nat, k = (kn : Int) := ⟨k.toNat, by omega⟩
    have hkn : kn < ns.length := by omega
    have hpl := pth_len hv.all.tree kn
    have hp0 : 0 < (pth (par ns) kn).length := by
      obtain ⟨L, hL⟩ := pth_head hv.all.tree kn
      rw [hL]; simp
    have cR := Lib.hid (c118.out hv kn hkn)
    have cT := Lib.hid (fun rv W hL hR => touched_any (.slice la ls.length lc) rv ls (pth (par ns) kn) a b h4.2 h4.1 (fun i hi => by rw [h2]; exact pth_place hv.all hkn hi) (by omega) hp0 W hL hR)
    unfold segL
    rw [Int.toNat_natCast]
    clear c118 c110 hE hv h3 h4 hpl hp0
    rw [h2] at HLB cT c16 ⊢
    clear h2
    generalize sgL ls (pth (par ns) kn) a b ((pth (par ns) kn).length - 1) = R at *
    generalize (pth (par ns) kn).reverse.tail = Q at *
    generalize ns.length = n at *
    obtain ⟨A, hA⟩ : ∃ A, A = (w.alloc (.cells #[.int .i64 sl, .int .i64 sh, .slice ca n cap] 26)).alloc (.cells #[.int .i64 a, .int .i64 b] 23) := ⟨_, rfl⟩
    have HBA := Lib.hid (show Below w.heap.size w A by rw [hA]; exact ((Below.refl _ _).alloc (Nat.le_refl _) _).alloc (by simp) _)
    have hzA : A.heap.size = w.heap.size + 2 := by rw [hA]; simp
    have q0 : A.cell? ⟨w.heap.size, 0, none⟩ = some (.int .i64 sl) := by rw [hA]; simp [go_sem]
    have q1 : A.cell? ⟨w.heap.size, 1, none⟩ = some (.int .i64 sh) := by rw [hA]; simp [go_sem]
    have q2 : A.cell? ⟨w.heap.size, 2, none⟩ = some (.slice ca n cap) := by rw [hA]; simp [go_sem]
    have q3 : A.cell? ⟨w.heap.size + 1, 0, none⟩ = some (.int .i64 a) := by rw [hA]; simp [go_sem]
    have q4 : A.cell? ⟨w.heap.size + 1, 1, none⟩ = some (.int .i64 b) := by rw [hA]; simp [go_sem]
    have KK := Lib.hid (show ∀ W, Below A.heap.size A W → W.cell? ⟨w.heap.size, 0, none⟩ = some (.int .i64 sl) ∧ W.cell? ⟨w.heap.size, 1, none⟩ = some (.int .i64 sh) ∧ W.cell? ⟨w.heap.size, 2, none⟩ = some (.slice ca n cap) ∧ W.cell? ⟨w.heap.size + 1, 0, none⟩ = some (.int .i64 a) ∧ W.cell? ⟨w.heap.size + 1, 1, none⟩ = some (.int .i64 b) from fun W h => ⟨(h.cell (p := ⟨w.heap.size, 0, none⟩) (by show w.heap.size < A.heap.size; omega)).trans q0, (h.cell (p := ⟨w.heap.size, 1, none⟩) (by show w.heap.size < A.heap.size; omega)).trans q1, (h.cell (p := ⟨w.heap.size, 2, none⟩) (by show w.heap.size < A.heap.size; omega)).trans q2, (h.cell (p := ⟨w.heap.size + 1, 0, none⟩) (by show w.heap.size + 1 < A.heap.size; omega)).trans q3, (h.cell (p := ⟨w.heap.size + 1, 1, none⟩) (by show w.heap.size + 1 < A.heap.size; omega)).trans q4⟩)
    clear q0 q1 q2 q3 q4 hzA
    obtain ⟨k0, k1, k2, k3, k4⟩ := KK.out _ (Below.refl _ _)
    go_enter Try.func48, Try.ntmps48
    go_upto_region 1 with fail
    rw [← hA]
    clear hA
    go_wp2_with fail
    refine (c25.out _ HBA.out).mono ?_
    rintro e w1 ⟨rfl, hb⟩
    have HB1 := Lib.hid hb
    clear hb
    clear k0 k1 k2 k3 k4
    obtain ⟨k0, k1, k2, k3, k4⟩ := KK.out _ HB1.out
    go_wp2_with fail
    refine (c15.out _).mono ?_
    rintro e w2 ⟨rfl, hb⟩
    have HB2 := Lib.hid (HB1.out.trans (hb.mono HB1.out.size))
    clear hb
    clear k0 k1 k2 k3 k4
    obtain ⟨k0, k1, k2, k3, k4⟩ := KK.out _ HB2.out
    go_wp2_with fail
    refine (c16.out _ (HBA.out.trans (HB2.out.mono HBA.out.size))).mono ?_
    rintro e w3 ⟨rfl, rfl⟩
    go_wp2_with fail
    refine (c11.out _).mono ?_
    rintro e w3 ⟨rfl, hb⟩
    have HB3 := Lib.hid (HB2.out.trans (hb.mono HB2.out.size))
    clear hb
    clear k0 k1 k2 k3 k4
    obtain ⟨k0, k1, k2, k3, k4⟩ := KK.out _ HB3.out
    go_upto_region 10 with fail
    have HBD := Lib.hid HB3.out.drew
    have HBW := Lib.hid (HBA.out.trans (HBD.out.mono HBA.out.size))
    refine wp_region_held_drew (S := fun w' => w'.cell? ⟨w.heap.size, 0, none⟩ = some (Value.int .i64 sl) ∧ w'.cell? ⟨w.heap.size, 1, none⟩ = some (Value.int .i64 sh) ∧ w'.cell? ⟨w.heap.size, 2, none⟩ = some (Value.slice ca n cap) ∧ w'.cell? ⟨w.heap.size + 1, 0, none⟩ = some (Value.int .i64 a) ∧ w'.cell? ⟨w.heap.size + 1, 1, none⟩ = some (Value.int .i64 b)) (by kernel_rfl) ⟨by simpa [go_sem] using k0, by simpa [go_sem] using k1, by simpa [go_sem] using k2, by simpa [go_sem] using k3, by simpa [go_sem] using k4⟩ (fun hHeld => ?_)
    refine wpAnyH_take (i := 0) (oi := _) (v := Value.slice la n lc) rfl (by kernel_rfl) (by kernel_rfl) (by kernel_rfl) (fun _ _ _ h => h) (Or.inl ⟨by rfl, fun w' hSw => ?_⟩) hHeld ?_
    · obtain ⟨t0, t1, t2, t3, t4⟩ := hSw
      go_simp
      try simp [*]
      try (intro hh; exfalso; omega)
      try omega
    try simp only [Act.put, List.setIfInBounds_toArray, List.set_cons_zero, List.set_cons_succ, List.getElem_toArray, List.getElem_cons_succ, List.getElem_cons_zero]
    refine wpAnyH_take (i := 1) (oi := _) (v := Value.agg #[Value.int .i64 sl, Value.int .i64 sh, Value.slice ca n cap]) rfl (by kernel_rfl) (by kernel_rfl) (by kernel_rfl) (fun _ _ _ h => h) (Or.inl ⟨by rfl, fun w' hSw => ?_⟩) hHeld ?_
    · obtain ⟨t0, t1, t2, t3, t4⟩ := hSw
      go_simp
      try simp [*]
      try (intro hh; exfalso; omega)
      try omega
    try simp only [Act.put, List.setIfInBounds_toArray, List.set_cons_zero, List.set_cons_succ, List.getElem_toArray, List.getElem_cons_succ, List.getElem_cons_zero]
    refine wpAnyH_take (i := 2) (oi := _) (v := Value.int .i64 (kn : Int)) rfl (by kernel_rfl) (by kernel_rfl) (by kernel_rfl) (fun _ _ _ h => h) (Or.inl ⟨by rfl, fun w' hSw => ?_⟩) hHeld ?_
    · obtain ⟨t0, t1, t2, t3, t4⟩ := hSw
      go_simp
      try simp [*]
      try (intro hh; exfalso; omega)
      try omega
    try simp only [Act.put, List.setIfInBounds_toArray, List.set_cons_zero, List.set_cons_succ, List.getElem_toArray, List.getElem_cons_succ, List.getElem_cons_zero]
    refine wpAnyH_take (i := 4) (oi := _) (v := Value.agg #[Value.int .i64 a, Value.int .i64 b]) rfl (by kernel_rfl) (by kernel_rfl) (by kernel_rfl) (fun _ _ _ h => h) (Or.inl ⟨by rfl, fun w' hSw => ?_⟩) hHeld ?_
    · obtain ⟨t0, t1, t2, t3, t4⟩ := hSw
      go_simp
      try simp [*]
      try (intro hh; exfalso; omega)
      try omega
    try simp only [Act.put, List.setIfInBounds_toArray, List.set_cons_zero, List.set_cons_succ, List.getElem_toArray, List.getElem_cons_succ, List.getElem_cons_zero]
    refine wpAnyH_ready (rs := [3]) (by kernel_rfl) (by simp) ?_
    refine AllReadyH.cons (o := _) rfl (fun K hK => ?_) AllReadyH.nil
    go_simp
    go_at_call 118
    refine Calls.mono (cR.out _ HBW.out) ?_
    rintro e w4 ⟨rv, rfl, hi4, hb4⟩
    have HIR := Lib.hid hi4
    have HB4a := Lib.hid (HBD.out.trans (hb4.mono HBD.out.size))
    clear hi4 hb4
    clear hHeld
    refine hK.out _ _ (KK.out _ HB4a.out) (fun hHeld => ?_)
    clear hK K
    try simp only [Act.put, List.setIfInBounds_toArray, List.set_cons_zero, List.set_cons_succ, List.getElem_toArray, List.getElem_cons_succ, List.getElem_cons_zero]
    refine wpAnyH_ready (rs := [5]) (by kernel_rfl) (by simp) ?_
    refine AllReadyH.cons (o := _) rfl (fun K hK => ?_) AllReadyH.nil
    go_simp
    go_at_call 117
    refine Calls.mono (cT.out _ _ (HLB.out _ (HBA.out.trans (HB4a.out.mono HBA.out.size))) HIR.out) ?_
    rintro e w5 ⟨ov, rfl, hi5, hb5⟩
    have HI4 := Lib.hid hi5
    have HB5a := Lib.hid (HB4a.out.trans (hb5.mono HB4a.out.size))
    have HB4 := Lib.hid (HBA.out.trans (HB5a.out.mono HBA.out.size))
    clear hi5 hb5
    clear hHeld
    refine hK.out _ _ (KK.out _ HB5a.out) (fun hHeld => ?_)
    clear hK K
    try simp only [Act.put, List.setIfInBounds_toArray, List.set_cons_zero, List.set_cons_succ, List.getElem_toArray, List.getElem_cons_succ, List.getElem_cons_zero]
    refine wpAnyH_take (i := 6) (oi := _) (v := ov) rfl (by kernel_rfl) (by kernel_rfl) (by kernel_rfl) (fun _ _ _ h => h) (Or.inl ⟨by rfl, fun w' hSw => ?_⟩) hHeld ?_
    · obtain ⟨t0, t1, t2, t3, t4⟩ := hSw
      go_simp
      try simp [*]
      try (intro hh; exfalso; omega)
      try omega
    try simp only [Act.put, List.setIfInBounds_toArray, List.set_cons_zero, List.set_cons_succ, List.getElem_toArray, List.getElem_cons_succ, List.getElem_cons_zero]
    refine wpAnyH_take (i := 7) (oi := _) (v := Value.int .i64 0) rfl (by kernel_rfl) (by kernel_rfl) (by kernel_rfl) (fun _ _ _ h => h) (Or.inl ⟨by rfl, fun w' hSw => ?_⟩) hHeld ?_
    · obtain ⟨t0, t1, t2, t3, t4⟩ := hSw
      go_simp
      try simp [*]
      try (intro hh; exfalso; omega)
      try omega
    try simp only [Act.put, List.setIfInBounds_toArray, List.set_cons_zero, List.set_cons_succ, List.getElem_toArray, List.getElem_cons_succ, List.getElem_cons_zero]
    refine wpAnyH_done (by kernel_rfl) ?_ _
    clear hHeld
    go_wp2_with fail
    go_ret2
    exact ⟨_, rfl, HI4.out, HB4.out⟩
end Go.Proofs.Ytdohfpnnmppdkaa

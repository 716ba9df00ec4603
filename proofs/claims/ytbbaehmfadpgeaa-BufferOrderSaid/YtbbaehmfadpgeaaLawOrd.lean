/-
  The walk of BufferOrder.
-/
import Derived.Test.YtbbaehmfadpgeaaBfV
import Derived.Test.YtbbaehmfadpgeaaBfJ
import Derived.Deep.CutRange
namespace Go.Proofs.Ytbbaehmfadpgeaa
open Go.RowKit Go.Shelf
set_option linter.unusedSimpArgs false
theorem lessV_ok {a b : Rc} (ha : chkR a = 0) (hb : chkR b = 0) : lessV a b = lsR a b := by
  unfold lessV lesE lesV
  rw [if_pos ⟨ha, hb⟩, if_pos ⟨ha, hb⟩]
  simp
set_option maxRecDepth 100000 in
set_option maxHeartbeats 8000000 in
theorem order_bad (a b c : Rc) (hbad : ¬(chkR a = 0 ∧ chkR b = 0 ∧ chkR c = 0)) (w : World) : Calls Try.prog 8 #[.agg #[.int .i64 a.id, .int .i64 a.cls, .int .i64 a.made, .int .i64 a.size, .int .i64 a.packed], .agg #[.int .i64 b.id, .int .i64 b.cls, .int .i64 b.made, .int .i64 b.size, .int .i64 b.packed], .agg #[.int .i64 c.id, .int .i64 c.cls, .int .i64 c.made, .int .i64 c.size, .int .i64 c.packed]] w fun e w' => e = .returned (.bool true) ∧ Below w.heap.size w w' := by
  obtain ⟨A, hA⟩ : ∃ A, A = ((w.alloc (.cells #[.int .i64 a.id, .int .i64 a.cls, .int .i64 a.made, .int .i64 a.size, .int .i64 a.packed] 23)).alloc (.cells #[.int .i64 b.id, .int .i64 b.cls, .int .i64 b.made, .int .i64 b.size, .int .i64 b.packed] 23)).alloc (.cells #[.int .i64 c.id, .int .i64 c.cls, .int .i64 c.made, .int .i64 c.size, .int .i64 c.packed] 23) := ⟨_, rfl⟩
  have HBA := Lib.hid (show Below w.heap.size w A by rw [hA]; exact ((((Below.refl _ _).alloc (Nat.le_refl _) _).alloc (by simp) _).alloc (by simp; omega) _))
  have HX : BxR A w.heap.size a := by rw [hA]; exact ((BxR.new w a).keep ((Below.refl _ _).alloc (Nat.le_refl _) _)).keep ((Below.refl _ _).alloc (Nat.le_refl _) _)
  have HY : BxR A (w.heap.size + 1) b := by rw [hA]; exact ((show (w.alloc (.cells #[.int .i64 a.id, .int .i64 a.cls, .int .i64 a.made, .int .i64 a.size, .int .i64 a.packed] 23)).heap.size = w.heap.size + 1 by simp) ▸ BxR.new (w.alloc (.cells #[.int .i64 a.id, .int .i64 a.cls, .int .i64 a.made, .int .i64 a.size, .int .i64 a.packed] 23)) b).keep ((Below.refl _ _).alloc (Nat.le_refl _) _)
  have HZ : BxR A (w.heap.size + 2) c := by rw [hA]; exact (show ((w.alloc (.cells #[.int .i64 a.id, .int .i64 a.cls, .int .i64 a.made, .int .i64 a.size, .int .i64 a.packed] 23)).alloc (.cells #[.int .i64 b.id, .int .i64 b.cls, .int .i64 b.made, .int .i64 b.size, .int .i64 b.packed] 23)).heap.size = w.heap.size + 2 by simp) ▸ BxR.new ((w.alloc (.cells #[.int .i64 a.id, .int .i64 a.cls, .int .i64 a.made, .int .i64 a.size, .int .i64 a.packed] 23)).alloc (.cells #[.int .i64 b.id, .int .i64 b.cls, .int .i64 b.made, .int .i64 b.size, .int .i64 b.packed] 23)) c
  have KS := Lib.hid (show ∀ W1, Below A.heap.size A W1 → W1.cell? ⟨w.heap.size, 0, none⟩ = some (Value.int .i64 a.id) ∧ W1.cell? ⟨w.heap.size, 1, none⟩ = some (Value.int .i64 a.cls) ∧ W1.cell? ⟨w.heap.size, 2, none⟩ = some (Value.int .i64 a.made) ∧ W1.cell? ⟨w.heap.size, 3, none⟩ = some (Value.int .i64 a.size) ∧ W1.cell? ⟨w.heap.size, 4, none⟩ = some (Value.int .i64 a.packed) ∧ W1.cell? ⟨w.heap.size + 1, 0, none⟩ = some (Value.int .i64 b.id) ∧ W1.cell? ⟨w.heap.size + 1, 1, none⟩ = some (Value.int .i64 b.cls) ∧ W1.cell? ⟨w.heap.size + 1, 2, none⟩ = some (Value.int .i64 b.made) ∧ W1.cell? ⟨w.heap.size + 1, 3, none⟩ = some (Value.int .i64 b.size) ∧ W1.cell? ⟨w.heap.size + 1, 4, none⟩ = some (Value.int .i64 b.packed) ∧ W1.cell? ⟨w.heap.size + 2, 0, none⟩ = some (Value.int .i64 c.id) ∧ W1.cell? ⟨w.heap.size + 2, 1, none⟩ = some (Value.int .i64 c.cls) ∧ W1.cell? ⟨w.heap.size + 2, 2, none⟩ = some (Value.int .i64 c.made) ∧ W1.cell? ⟨w.heap.size + 2, 3, none⟩ = some (Value.int .i64 c.size) ∧ W1.cell? ⟨w.heap.size + 2, 4, none⟩ = some (Value.int .i64 c.packed) from fun W1 h => by
    obtain ⟨a0, a1, a2, a3, a4⟩ := (HX.keep h).all
    obtain ⟨b0, b1, b2, b3, b4⟩ := (HY.keep h).all
    obtain ⟨c0, c1, c2, c3, c4⟩ := (HZ.keep h).all
    exact ⟨a0, a1, a2, a3, a4, b0, b1, b2, b3, b4, c0, c1, c2, c3, c4⟩)
  clear HX HY HZ
  obtain ⟨k0, k1, k2, k3, k4, k5, k6, k7, k8, k9, k10, k11, k12, k13, k14⟩ := KS.out _ (Below.refl _ _)
  have ca := fun W => rcheck_any a W
  have cb := fun W => rcheck_any b W
  have cc := fun W => rcheck_any c W
  have c14 := fun W => Less_any a b W
  rcases chkR_or a with ha | ha
  · rcases chkR_or b with hb | hb
    · have hc : chkR c = 2 := (chkR_or c).resolve_left (fun h => hbad ⟨ha, hb, h⟩)
      rw [hb] at cb
      rw [hc] at cc
      have hl : lesE a b = 0 := by unfold lesE; simp [*]
      rw [hl] at c14
      generalize lesV a b = x at *
      rw [ha] at ca
      go_enter Try.func8, Try.ntmps8
      go_upto_region 1 with fail
      rw [← hA]
      clear hA
      go_wp2_with fail
      refine (ca _).mono ?_
      rintro e w1 ⟨rfl, hb⟩
      have HW1 := Lib.hid ((Below.refl A.heap.size A).trans (hb.mono (Below.refl A.heap.size A).size))
      clear hb k0 k1 k2 k3 k4 k5 k6 k7 k8 k9 k10 k11 k12 k13 k14
      obtain ⟨k0, k1, k2, k3, k4, k5, k6, k7, k8, k9, k10, k11, k12, k13, k14⟩ := KS.out _ HW1.out
      go_wp2_with fail
      refine (cb _).mono ?_
      rintro e w2 ⟨rfl, hb⟩
      have HW2 := Lib.hid (HW1.out.trans (hb.mono HW1.out.size))
      clear hb k0 k1 k2 k3 k4 k5 k6 k7 k8 k9 k10 k11 k12 k13 k14
      obtain ⟨k0, k1, k2, k3, k4, k5, k6, k7, k8, k9, k10, k11, k12, k13, k14⟩ := KS.out _ HW2.out
      go_wp2_with fail
      refine (cc _).mono ?_
      rintro e w3 ⟨rfl, hb⟩
      have HW3 := Lib.hid (HW2.out.trans (hb.mono HW2.out.size))
      clear hb k0 k1 k2 k3 k4 k5 k6 k7 k8 k9 k10 k11 k12 k13 k14
      obtain ⟨k0, k1, k2, k3, k4, k5, k6, k7, k8, k9, k10, k11, k12, k13, k14⟩ := KS.out _ HW3.out
      go_wp2_with fail
      refine (c14 _).mono ?_
      rintro e w4 ⟨rfl, hb⟩
      have HW4 := Lib.hid (HW3.out.trans (hb.mono HW3.out.size))
      clear hb k0 k1 k2 k3 k4 k5 k6 k7 k8 k9 k10 k11 k12 k13 k14
      obtain ⟨k0, k1, k2, k3, k4, k5, k6, k7, k8, k9, k10, k11, k12, k13, k14⟩ := KS.out _ HW4.out
      go_wp2_with fail
      refine (ca _).mono ?_
      rintro e w5 ⟨rfl, hb⟩
      have HW5 := Lib.hid (HW4.out.trans (hb.mono HW4.out.size))
      clear hb k0 k1 k2 k3 k4 k5 k6 k7 k8 k9 k10 k11 k12 k13 k14
      obtain ⟨k0, k1, k2, k3, k4, k5, k6, k7, k8, k9, k10, k11, k12, k13, k14⟩ := KS.out _ HW5.out
      go_wp2_with fail
      refine (cb _).mono ?_
      rintro e w6 ⟨rfl, hb⟩
      have HW6 := Lib.hid (HW5.out.trans (hb.mono HW5.out.size))
      clear hb k0 k1 k2 k3 k4 k5 k6 k7 k8 k9 k10 k11 k12 k13 k14
      obtain ⟨k0, k1, k2, k3, k4, k5, k6, k7, k8, k9, k10, k11, k12, k13, k14⟩ := KS.out _ HW6.out
      go_wp2_with fail
      refine (fine_any _).mono ?_
      rintro e w7 ⟨rfl, hb⟩
      have HW7 := Lib.hid (HW6.out.trans (hb.mono HW6.out.size))
      clear hb k0 k1 k2 k3 k4 k5 k6 k7 k8 k9 k10 k11 k12 k13 k14
      obtain ⟨k0, k1, k2, k3, k4, k5, k6, k7, k8, k9, k10, k11, k12, k13, k14⟩ := KS.out _ HW7.out
      go_wp2_with fail
      go_ret
      exact ⟨by first | rfl | simp, HBA.out.trans (HW7.out.mono HBA.out.size)⟩
    · rw [hb] at cb
      have hl : lesE a b = 2 := by unfold lesE; simp [*]
      rw [hl] at c14
      generalize lesV a b = x at *
      rw [ha] at ca
      go_enter Try.func8, Try.ntmps8
      go_upto_region 1 with fail
      rw [← hA]
      clear hA
      go_wp2_with fail
      refine (ca _).mono ?_
      rintro e w8 ⟨rfl, hb⟩
      have HW8 := Lib.hid ((Below.refl A.heap.size A).trans (hb.mono (Below.refl A.heap.size A).size))
      clear hb k0 k1 k2 k3 k4 k5 k6 k7 k8 k9 k10 k11 k12 k13 k14
      obtain ⟨k0, k1, k2, k3, k4, k5, k6, k7, k8, k9, k10, k11, k12, k13, k14⟩ := KS.out _ HW8.out
      go_wp2_with fail
      refine (cb _).mono ?_
      rintro e w9 ⟨rfl, hb⟩
      have HW9 := Lib.hid (HW8.out.trans (hb.mono HW8.out.size))
      clear hb k0 k1 k2 k3 k4 k5 k6 k7 k8 k9 k10 k11 k12 k13 k14
      obtain ⟨k0, k1, k2, k3, k4, k5, k6, k7, k8, k9, k10, k11, k12, k13, k14⟩ := KS.out _ HW9.out
      go_wp2_with fail
      refine (c14 _).mono ?_
      rintro e w10 ⟨rfl, hb⟩
      have HW10 := Lib.hid (HW9.out.trans (hb.mono HW9.out.size))
      clear hb k0 k1 k2 k3 k4 k5 k6 k7 k8 k9 k10 k11 k12 k13 k14
      obtain ⟨k0, k1, k2, k3, k4, k5, k6, k7, k8, k9, k10, k11, k12, k13, k14⟩ := KS.out _ HW10.out
      go_wp2_with fail
      refine (ca _).mono ?_
      rintro e w11 ⟨rfl, hb⟩
      have HW11 := Lib.hid (HW10.out.trans (hb.mono HW10.out.size))
      clear hb k0 k1 k2 k3 k4 k5 k6 k7 k8 k9 k10 k11 k12 k13 k14
      obtain ⟨k0, k1, k2, k3, k4, k5, k6, k7, k8, k9, k10, k11, k12, k13, k14⟩ := KS.out _ HW11.out
      go_wp2_with fail
      refine (cb _).mono ?_
      rintro e w12 ⟨rfl, hb⟩
      have HW12 := Lib.hid (HW11.out.trans (hb.mono HW11.out.size))
      clear hb k0 k1 k2 k3 k4 k5 k6 k7 k8 k9 k10 k11 k12 k13 k14
      obtain ⟨k0, k1, k2, k3, k4, k5, k6, k7, k8, k9, k10, k11, k12, k13, k14⟩ := KS.out _ HW12.out
      go_wp2_with fail
      refine (fine_any _).mono ?_
      rintro e w13 ⟨rfl, hb⟩
      have HW13 := Lib.hid (HW12.out.trans (hb.mono HW12.out.size))
      clear hb k0 k1 k2 k3 k4 k5 k6 k7 k8 k9 k10 k11 k12 k13 k14
      obtain ⟨k0, k1, k2, k3, k4, k5, k6, k7, k8, k9, k10, k11, k12, k13, k14⟩ := KS.out _ HW13.out
      go_wp2_with fail
      go_ret
      exact ⟨by first | rfl | simp, HBA.out.trans (HW13.out.mono HBA.out.size)⟩
  · skip
    have hl : lesE a b = 2 := by unfold lesE; simp [*]
    rw [hl] at c14
    generalize lesV a b = x at *
    rw [ha] at ca
    go_enter Try.func8, Try.ntmps8
    go_upto_region 1 with fail
    rw [← hA]
    clear hA
    go_wp2_with fail
    refine (ca _).mono ?_
    rintro e w14 ⟨rfl, hb⟩
    have HW14 := Lib.hid ((Below.refl A.heap.size A).trans (hb.mono (Below.refl A.heap.size A).size))
    clear hb k0 k1 k2 k3 k4 k5 k6 k7 k8 k9 k10 k11 k12 k13 k14
    obtain ⟨k0, k1, k2, k3, k4, k5, k6, k7, k8, k9, k10, k11, k12, k13, k14⟩ := KS.out _ HW14.out
    go_wp2_with fail
    refine (c14 _).mono ?_
    rintro e w15 ⟨rfl, hb⟩
    have HW15 := Lib.hid (HW14.out.trans (hb.mono HW14.out.size))
    clear hb k0 k1 k2 k3 k4 k5 k6 k7 k8 k9 k10 k11 k12 k13 k14
    obtain ⟨k0, k1, k2, k3, k4, k5, k6, k7, k8, k9, k10, k11, k12, k13, k14⟩ := KS.out _ HW15.out
    go_wp2_with fail
    refine (ca _).mono ?_
    rintro e w16 ⟨rfl, hb⟩
    have HW16 := Lib.hid (HW15.out.trans (hb.mono HW15.out.size))
    clear hb k0 k1 k2 k3 k4 k5 k6 k7 k8 k9 k10 k11 k12 k13 k14
    obtain ⟨k0, k1, k2, k3, k4, k5, k6, k7, k8, k9, k10, k11, k12, k13, k14⟩ := KS.out _ HW16.out
    go_wp2_with fail
    refine (fine_any _).mono ?_
    rintro e w17 ⟨rfl, hb⟩
    have HW17 := Lib.hid (HW16.out.trans (hb.mono HW16.out.size))
    clear hb k0 k1 k2 k3 k4 k5 k6 k7 k8 k9 k10 k11 k12 k13 k14
    obtain ⟨k0, k1, k2, k3, k4, k5, k6, k7, k8, k9, k10, k11, k12, k13, k14⟩ := KS.out _ HW17.out
    go_wp2_with fail
    go_ret
    exact ⟨by first | rfl | simp, HBA.out.trans (HW17.out.mono HBA.out.size)⟩
set_option maxRecDepth 100000 in
set_option maxHeartbeats 8000000 in
theorem order_good (a b c : Rc) (ha : chkR a = 0) (hb : chkR b = 0) (hc : chkR c = 0) (w : World) : Calls Try.prog 8 #[.agg #[.int .i64 a.id, .int .i64 a.cls, .int .i64 a.made, .int .i64 a.size, .int .i64 a.packed], .agg #[.int .i64 b.id, .int .i64 b.cls, .int .i64 b.made, .int .i64 b.size, .int .i64 b.packed], .agg #[.int .i64 c.id, .int .i64 c.cls, .int .i64 c.made, .int .i64 c.size, .int .i64 c.packed]] w fun e w' => e = .returned (.bool true) ∧ Below w.heap.size w w' := by
  obtain ⟨A, hA⟩ : ∃ A, A = ((w.alloc (.cells #[.int .i64 a.id, .int .i64 a.cls, .int .i64 a.made, .int .i64 a.size, .int .i64 a.packed] 23)).alloc (.cells #[.int .i64 b.id, .int .i64 b.cls, .int .i64 b.made, .int .i64 b.size, .int .i64 b.packed] 23)).alloc (.cells #[.int .i64 c.id, .int .i64 c.cls, .int .i64 c.made, .int .i64 c.size, .int .i64 c.packed] 23) := ⟨_, rfl⟩
  have HBA := Lib.hid (show Below w.heap.size w A by rw [hA]; exact ((((Below.refl _ _).alloc (Nat.le_refl _) _).alloc (by simp) _).alloc (by simp; omega) _))
  have HX : BxR A w.heap.size a := by rw [hA]; exact ((BxR.new w a).keep ((Below.refl _ _).alloc (Nat.le_refl _) _)).keep ((Below.refl _ _).alloc (Nat.le_refl _) _)
  have HY : BxR A (w.heap.size + 1) b := by rw [hA]; exact ((show (w.alloc (.cells #[.int .i64 a.id, .int .i64 a.cls, .int .i64 a.made, .int .i64 a.size, .int .i64 a.packed] 23)).heap.size = w.heap.size + 1 by simp) ▸ BxR.new (w.alloc (.cells #[.int .i64 a.id, .int .i64 a.cls, .int .i64 a.made, .int .i64 a.size, .int .i64 a.packed] 23)) b).keep ((Below.refl _ _).alloc (Nat.le_refl _) _)
  have HZ : BxR A (w.heap.size + 2) c := by rw [hA]; exact (show ((w.alloc (.cells #[.int .i64 a.id, .int .i64 a.cls, .int .i64 a.made, .int .i64 a.size, .int .i64 a.packed] 23)).alloc (.cells #[.int .i64 b.id, .int .i64 b.cls, .int .i64 b.made, .int .i64 b.size, .int .i64 b.packed] 23)).heap.size = w.heap.size + 2 by simp) ▸ BxR.new ((w.alloc (.cells #[.int .i64 a.id, .int .i64 a.cls, .int .i64 a.made, .int .i64 a.size, .int .i64 a.packed] 23)).alloc (.cells #[.int .i64 b.id, .int .i64 b.cls, .int .i64 b.made, .int .i64 b.size, .int .i64 b.packed] 23)) c
  have KS := Lib.hid (show ∀ W1, Below A.heap.size A W1 → W1.cell? ⟨w.heap.size, 0, none⟩ = some (Value.int .i64 a.id) ∧ W1.cell? ⟨w.heap.size, 1, none⟩ = some (Value.int .i64 a.cls) ∧ W1.cell? ⟨w.heap.size, 2, none⟩ = some (Value.int .i64 a.made) ∧ W1.cell? ⟨w.heap.size, 3, none⟩ = some (Value.int .i64 a.size) ∧ W1.cell? ⟨w.heap.size, 4, none⟩ = some (Value.int .i64 a.packed) ∧ W1.cell? ⟨w.heap.size + 1, 0, none⟩ = some (Value.int .i64 b.id) ∧ W1.cell? ⟨w.heap.size + 1, 1, none⟩ = some (Value.int .i64 b.cls) ∧ W1.cell? ⟨w.heap.size + 1, 2, none⟩ = some (Value.int .i64 b.made) ∧ W1.cell? ⟨w.heap.size + 1, 3, none⟩ = some (Value.int .i64 b.size) ∧ W1.cell? ⟨w.heap.size + 1, 4, none⟩ = some (Value.int .i64 b.packed) ∧ W1.cell? ⟨w.heap.size + 2, 0, none⟩ = some (Value.int .i64 c.id) ∧ W1.cell? ⟨w.heap.size + 2, 1, none⟩ = some (Value.int .i64 c.cls) ∧ W1.cell? ⟨w.heap.size + 2, 2, none⟩ = some (Value.int .i64 c.made) ∧ W1.cell? ⟨w.heap.size + 2, 3, none⟩ = some (Value.int .i64 c.size) ∧ W1.cell? ⟨w.heap.size + 2, 4, none⟩ = some (Value.int .i64 c.packed) from fun W1 h => by
    obtain ⟨a0, a1, a2, a3, a4⟩ := (HX.keep h).all
    obtain ⟨b0, b1, b2, b3, b4⟩ := (HY.keep h).all
    obtain ⟨c0, c1, c2, c3, c4⟩ := (HZ.keep h).all
    exact ⟨a0, a1, a2, a3, a4, b0, b1, b2, b3, b4, c0, c1, c2, c3, c4⟩)
  clear HX HY HZ
  obtain ⟨k0, k1, k2, k3, k4, k5, k6, k7, k8, k9, k10, k11, k12, k13, k14⟩ := KS.out _ (Below.refl _ _)
  have ca := fun W => rcheck_any a W
  have cb := fun W => rcheck_any b W
  have cc := fun W => rcheck_any c W
  rw [ha] at ca
  rw [hb] at cb
  rw [hc] at cc
  have cab := fun W => lesser_any a b W
  have cba := fun W => lesser_any b a W
  have caa := fun W => lesser_any a a W
  have cbc := fun W => lesser_any b c W
  have cac := fun W => lesser_any a c W
  rw [lessV_ok ha hb] at cab
  rw [lessV_ok hb ha] at cba
  rw [lessV_ok ha ha, lsR_irr] at caa
  rw [lessV_ok hb hc] at cbc
  rw [lessV_ok ha hc] at cac
  have HT := Lib.hid (show ¬(a.id = b.id) → lsR a b = !lsR b a from fun h => lsR_total h)
  have HTR := Lib.hid (show lsR a b = true → lsR b c = true → lsR a c = true from lsR_trans)
  have HI := Lib.hid (@lsR_iff a b)
  generalize hp : lsR a b = p at *
  generalize hq : lsR b a = q at *
  generalize hr : lsR b c = r at *
  generalize hs : lsR a c = s at *
  clear hp hq hr hs ha hb hc
  go_enter Try.func8, Try.ntmps8
  go_upto_region 1 with fail
  rw [← hA]
  clear hA
  go_wp2_with fail
  refine (ca _).mono ?_
  rintro e w18 ⟨rfl, hb⟩
  have HW18 := Lib.hid ((Below.refl A.heap.size A).trans (hb.mono (Below.refl A.heap.size A).size))
  clear hb k0 k1 k2 k3 k4 k5 k6 k7 k8 k9 k10 k11 k12 k13 k14
  obtain ⟨k0, k1, k2, k3, k4, k5, k6, k7, k8, k9, k10, k11, k12, k13, k14⟩ := KS.out _ HW18.out
  go_wp2_with fail
  refine (cb _).mono ?_
  rintro e w19 ⟨rfl, hb⟩
  have HW19 := Lib.hid (HW18.out.trans (hb.mono HW18.out.size))
  clear hb k0 k1 k2 k3 k4 k5 k6 k7 k8 k9 k10 k11 k12 k13 k14
  obtain ⟨k0, k1, k2, k3, k4, k5, k6, k7, k8, k9, k10, k11, k12, k13, k14⟩ := KS.out _ HW19.out
  go_wp2_with fail
  refine (cc _).mono ?_
  rintro e w20 ⟨rfl, hb⟩
  have HW20 := Lib.hid (HW19.out.trans (hb.mono HW19.out.size))
  clear hb k0 k1 k2 k3 k4 k5 k6 k7 k8 k9 k10 k11 k12 k13 k14
  obtain ⟨k0, k1, k2, k3, k4, k5, k6, k7, k8, k9, k10, k11, k12, k13, k14⟩ := KS.out _ HW20.out
  go_upto_region 4 with fail
  go_cut [76] from 42 to 75 (fun s76 wc => s76 = Value.bool false ∧ Below A.heap.size A wc)
  case first => as_aux_lemma =>
    by_cases hd : a.id = b.id
    · have HIDE := Lib.hid hd
      clear hd
      cases p
      · skip
        have HD := Lib.hid (show Below A.heap.size A w20.drew from HW20.out.drew)
        refine wp_region_held_drew (S := fun w' => w'.cell? ⟨w.heap.size, 0, none⟩ = some (Value.int .i64 a.id) ∧ w'.cell? ⟨w.heap.size, 1, none⟩ = some (Value.int .i64 a.cls) ∧ w'.cell? ⟨w.heap.size, 2, none⟩ = some (Value.int .i64 a.made) ∧ w'.cell? ⟨w.heap.size, 3, none⟩ = some (Value.int .i64 a.size) ∧ w'.cell? ⟨w.heap.size, 4, none⟩ = some (Value.int .i64 a.packed) ∧ w'.cell? ⟨w.heap.size + 1, 0, none⟩ = some (Value.int .i64 b.id) ∧ w'.cell? ⟨w.heap.size + 1, 1, none⟩ = some (Value.int .i64 b.cls) ∧ w'.cell? ⟨w.heap.size + 1, 2, none⟩ = some (Value.int .i64 b.made) ∧ w'.cell? ⟨w.heap.size + 1, 3, none⟩ = some (Value.int .i64 b.size) ∧ w'.cell? ⟨w.heap.size + 1, 4, none⟩ = some (Value.int .i64 b.packed) ∧ w'.cell? ⟨w.heap.size + 2, 0, none⟩ = some (Value.int .i64 c.id) ∧ w'.cell? ⟨w.heap.size + 2, 1, none⟩ = some (Value.int .i64 c.cls) ∧ w'.cell? ⟨w.heap.size + 2, 2, none⟩ = some (Value.int .i64 c.made) ∧ w'.cell? ⟨w.heap.size + 2, 3, none⟩ = some (Value.int .i64 c.size) ∧ w'.cell? ⟨w.heap.size + 2, 4, none⟩ = some (Value.int .i64 c.packed)) (by kernel_rfl) (KS.out _ HD.out) (fun hHeld => ?_)
        refine wpAnyH_take (i := 0) (oi := _) (v := Value.pointer (some ⟨w.heap.size, 0, none⟩)) rfl (by kernel_rfl) (by kernel_rfl) (by kernel_rfl) (fun _ _ _ h => h) (Or.inl ⟨by rfl, fun w' hSw => ?_⟩) hHeld ?_
        · obtain ⟨t0, t1, t2, t3, t4, t5, t6, t7, t8, t9, t10, t11, t12, t13, t14⟩ := hSw
          go_simp
          try simp [*]
          try (intro hh; exfalso; omega)
          try omega
          try exact HIDE.out
        try simp only [Act.put, List.setIfInBounds_toArray, List.set_cons_zero, List.set_cons_succ, List.getElem_toArray, List.getElem_cons_succ, List.getElem_cons_zero]
        refine wpAnyH_take (i := 1) (oi := _) (v := Value.int .i64 a.id) rfl (by kernel_rfl) (by kernel_rfl) (by kernel_rfl) (fun _ _ _ h => h) (Or.inl ⟨by rfl, fun w' hSw => ?_⟩) hHeld ?_
        · obtain ⟨t0, t1, t2, t3, t4, t5, t6, t7, t8, t9, t10, t11, t12, t13, t14⟩ := hSw
          go_simp
          try simp [*]
          try (intro hh; exfalso; omega)
          try omega
          try exact HIDE.out
        try simp only [Act.put, List.setIfInBounds_toArray, List.set_cons_zero, List.set_cons_succ, List.getElem_toArray, List.getElem_cons_succ, List.getElem_cons_zero]
        refine wpAnyH_take (i := 2) (oi := _) (v := Value.pointer (some ⟨w.heap.size + 1, 0, none⟩)) rfl (by kernel_rfl) (by kernel_rfl) (by kernel_rfl) (fun _ _ _ h => h) (Or.inl ⟨by rfl, fun w' hSw => ?_⟩) hHeld ?_
        · obtain ⟨t0, t1, t2, t3, t4, t5, t6, t7, t8, t9, t10, t11, t12, t13, t14⟩ := hSw
          go_simp
          try simp [*]
          try (intro hh; exfalso; omega)
          try omega
          try exact HIDE.out
        try simp only [Act.put, List.setIfInBounds_toArray, List.set_cons_zero, List.set_cons_succ, List.getElem_toArray, List.getElem_cons_succ, List.getElem_cons_zero]
        refine wpAnyH_take (i := 3) (oi := _) (v := Value.int .i64 b.id) rfl (by kernel_rfl) (by kernel_rfl) (by kernel_rfl) (fun _ _ _ h => h) (Or.inl ⟨by rfl, fun w' hSw => ?_⟩) hHeld ?_
        · obtain ⟨t0, t1, t2, t3, t4, t5, t6, t7, t8, t9, t10, t11, t12, t13, t14⟩ := hSw
          go_simp
          try simp [*]
          try (intro hh; exfalso; omega)
          try omega
          try exact HIDE.out
        try simp only [Act.put, List.setIfInBounds_toArray, List.set_cons_zero, List.set_cons_succ, List.getElem_toArray, List.getElem_cons_succ, List.getElem_cons_zero]
        refine wpAnyH_take (i := 4) (oi := _) (v := Value.bool false) rfl (by kernel_rfl) (by kernel_rfl) (by kernel_rfl) (fun _ _ _ h => h) (Or.inl ⟨by rfl, fun w' hSw => ?_⟩) hHeld ?_
        · obtain ⟨t0, t1, t2, t3, t4, t5, t6, t7, t8, t9, t10, t11, t12, t13, t14⟩ := hSw
          go_simp
          try simp [*]
          try (intro hh; exfalso; omega)
          try omega
          try exact HIDE.out
        try simp only [Act.put, List.setIfInBounds_toArray, List.set_cons_zero, List.set_cons_succ, List.getElem_toArray, List.getElem_cons_succ, List.getElem_cons_zero]
        refine wpAnyH_take (i := 5) (oi := _) (v := Value.bool false) rfl (by kernel_rfl) (by kernel_rfl) (by kernel_rfl) (fun _ _ _ h => h) (Or.inl ⟨by rfl, fun w' hSw => ?_⟩) hHeld ?_
        · obtain ⟨t0, t1, t2, t3, t4, t5, t6, t7, t8, t9, t10, t11, t12, t13, t14⟩ := hSw
          go_simp
          try simp [*]
          try (intro hh; exfalso; omega)
          try omega
          try exact HIDE.out
        try simp only [Act.put, List.setIfInBounds_toArray, List.set_cons_zero, List.set_cons_succ, List.getElem_toArray, List.getElem_cons_succ, List.getElem_cons_zero]
        refine wpAnyH_take (i := 6) (oi := _) (v := undef) rfl (by kernel_rfl) (by kernel_rfl) (by kernel_rfl) (fun _ _ _ h => h) (Or.inr ⟨by rfl, rfl⟩) hHeld ?_
        try simp only [Act.put, List.setIfInBounds_toArray, List.set_cons_zero, List.set_cons_succ, List.getElem_toArray, List.getElem_cons_succ, List.getElem_cons_zero]
        refine wpAnyH_take (i := 7) (oi := _) (v := undef) rfl (by kernel_rfl) (by kernel_rfl) (by kernel_rfl) (fun _ _ _ h => h) (Or.inr ⟨by rfl, rfl⟩) hHeld ?_
        try simp only [Act.put, List.setIfInBounds_toArray, List.set_cons_zero, List.set_cons_succ, List.getElem_toArray, List.getElem_cons_succ, List.getElem_cons_zero]
        refine wpAnyH_take (i := 8) (oi := _) (v := undef) rfl (by kernel_rfl) (by kernel_rfl) (by kernel_rfl) (fun _ _ _ h => h) (Or.inr ⟨by rfl, rfl⟩) hHeld ?_
        try simp only [Act.put, List.setIfInBounds_toArray, List.set_cons_zero, List.set_cons_succ, List.getElem_toArray, List.getElem_cons_succ, List.getElem_cons_zero]
        refine wpAnyH_take (i := 9) (oi := _) (v := undef) rfl (by kernel_rfl) (by kernel_rfl) (by kernel_rfl) (fun _ _ _ h => h) (Or.inr ⟨by rfl, rfl⟩) hHeld ?_
        try simp only [Act.put, List.setIfInBounds_toArray, List.set_cons_zero, List.set_cons_succ, List.getElem_toArray, List.getElem_cons_succ, List.getElem_cons_zero]
        refine wpAnyH_take (i := 10) (oi := _) (v := undef) rfl (by kernel_rfl) (by kernel_rfl) (by kernel_rfl) (fun _ _ _ h => h) (Or.inr ⟨by rfl, rfl⟩) hHeld ?_
        try simp only [Act.put, List.setIfInBounds_toArray, List.set_cons_zero, List.set_cons_succ, List.getElem_toArray, List.getElem_cons_succ, List.getElem_cons_zero]
        refine wpAnyH_take (i := 11) (oi := _) (v := undef) rfl (by kernel_rfl) (by kernel_rfl) (by kernel_rfl) (fun _ _ _ h => h) (Or.inr ⟨by rfl, rfl⟩) hHeld ?_
        try simp only [Act.put, List.setIfInBounds_toArray, List.set_cons_zero, List.set_cons_succ, List.getElem_toArray, List.getElem_cons_succ, List.getElem_cons_zero]
        refine wpAnyH_take (i := 12) (oi := _) (v := undef) rfl (by kernel_rfl) (by kernel_rfl) (by kernel_rfl) (fun _ _ _ h => h) (Or.inr ⟨by rfl, rfl⟩) hHeld ?_
        try simp only [Act.put, List.setIfInBounds_toArray, List.set_cons_zero, List.set_cons_succ, List.getElem_toArray, List.getElem_cons_succ, List.getElem_cons_zero]
        refine wpAnyH_take (i := 13) (oi := _) (v := Value.bool false) rfl (by kernel_rfl) (by kernel_rfl) (by kernel_rfl) (fun _ _ _ h => h) (Or.inl ⟨by rfl, fun w' hSw => ?_⟩) hHeld ?_
        · obtain ⟨t0, t1, t2, t3, t4, t5, t6, t7, t8, t9, t10, t11, t12, t13, t14⟩ := hSw
          go_simp
          try simp [*]
          try (intro hh; exfalso; omega)
          try omega
          try exact HIDE.out
        try simp only [Act.put, List.setIfInBounds_toArray, List.set_cons_zero, List.set_cons_succ, List.getElem_toArray, List.getElem_cons_succ, List.getElem_cons_zero]
        refine wpAnyH_take (i := 14) (oi := _) (v := Value.bool false) rfl (by kernel_rfl) (by kernel_rfl) (by kernel_rfl) (fun _ _ _ h => h) (Or.inl ⟨by rfl, fun w' hSw => ?_⟩) hHeld ?_
        · obtain ⟨t0, t1, t2, t3, t4, t5, t6, t7, t8, t9, t10, t11, t12, t13, t14⟩ := hSw
          go_simp
          try simp [*]
          try (intro hh; exfalso; omega)
          try omega
          try exact HIDE.out
        try simp only [Act.put, List.setIfInBounds_toArray, List.set_cons_zero, List.set_cons_succ, List.getElem_toArray, List.getElem_cons_succ, List.getElem_cons_zero]
        refine wpAnyH_take (i := 15) (oi := _) (v := Value.agg #[Value.int .i64 a.id, Value.int .i64 a.cls, Value.int .i64 a.made, Value.int .i64 a.size, Value.int .i64 a.packed]) rfl (by kernel_rfl) (by kernel_rfl) (by kernel_rfl) (fun _ _ _ h => h) (Or.inl ⟨by rfl, fun w' hSw => ?_⟩) hHeld ?_
        · obtain ⟨t0, t1, t2, t3, t4, t5, t6, t7, t8, t9, t10, t11, t12, t13, t14⟩ := hSw
          go_simp
          try simp [*]
          try (intro hh; exfalso; omega)
          try omega
          try exact HIDE.out
        try simp only [Act.put, List.setIfInBounds_toArray, List.set_cons_zero, List.set_cons_succ, List.getElem_toArray, List.getElem_cons_succ, List.getElem_cons_zero]
        refine wpAnyH_take (i := 16) (oi := _) (v := Value.agg #[Value.int .i64 a.id, Value.int .i64 a.cls, Value.int .i64 a.made, Value.int .i64 a.size, Value.int .i64 a.packed]) rfl (by kernel_rfl) (by kernel_rfl) (by kernel_rfl) (fun _ _ _ h => h) (Or.inl ⟨by rfl, fun w' hSw => ?_⟩) hHeld ?_
        · obtain ⟨t0, t1, t2, t3, t4, t5, t6, t7, t8, t9, t10, t11, t12, t13, t14⟩ := hSw
          go_simp
          try simp [*]
          try (intro hh; exfalso; omega)
          try omega
          try exact HIDE.out
        try simp only [Act.put, List.setIfInBounds_toArray, List.set_cons_zero, List.set_cons_succ, List.getElem_toArray, List.getElem_cons_succ, List.getElem_cons_zero]
        refine wpAnyH_ready (rs := [17]) (by kernel_rfl) (by simp) ?_
        refine AllReadyH.cons (o := _) rfl (fun K hK => ?_) (AllReadyH.nil)
        go_simp
        go_at_call 46
        refine Calls.mono (caa _) ?_
        rintro e v0 ⟨rfl, hb⟩
        have HV0 := Lib.hid (HD.out.trans (hb.mono HD.out.size))
        clear hb
        clear hHeld
        refine hK.out _ _ (KS.out _ HV0.out) (fun hHeld => ?_)
        clear hK K
        try simp only [Act.put, List.setIfInBounds_toArray, List.set_cons_zero, List.set_cons_succ, List.getElem_toArray, List.getElem_cons_succ, List.getElem_cons_zero]
        refine wpAnyH_take (i := 18) (oi := _) (v := Value.bool false) rfl (by kernel_rfl) (by kernel_rfl) (by kernel_rfl) (fun _ _ _ h => h) (Or.inl ⟨by rfl, fun w' hSw => ?_⟩) hHeld ?_
        · obtain ⟨t0, t1, t2, t3, t4, t5, t6, t7, t8, t9, t10, t11, t12, t13, t14⟩ := hSw
          go_simp
          try simp [*]
          try (intro hh; exfalso; omega)
          try omega
          try exact HIDE.out
        try simp only [Act.put, List.setIfInBounds_toArray, List.set_cons_zero, List.set_cons_succ, List.getElem_toArray, List.getElem_cons_succ, List.getElem_cons_zero]
        refine wpAnyH_take (i := 19) (oi := _) (v := Value.bool false) rfl (by kernel_rfl) (by kernel_rfl) (by kernel_rfl) (fun _ _ _ h => h) (Or.inl ⟨by rfl, fun w' hSw => ?_⟩) hHeld ?_
        · obtain ⟨t0, t1, t2, t3, t4, t5, t6, t7, t8, t9, t10, t11, t12, t13, t14⟩ := hSw
          go_simp
          try simp [*]
          try (intro hh; exfalso; omega)
          try omega
          try exact HIDE.out
        try simp only [Act.put, List.setIfInBounds_toArray, List.set_cons_zero, List.set_cons_succ, List.getElem_toArray, List.getElem_cons_succ, List.getElem_cons_zero]
        refine wpAnyH_take (i := 20) (oi := _) (v := Value.agg #[Value.int .i64 a.id, Value.int .i64 a.cls, Value.int .i64 a.made, Value.int .i64 a.size, Value.int .i64 a.packed]) rfl (by kernel_rfl) (by kernel_rfl) (by kernel_rfl) (fun _ _ _ h => h) (Or.inl ⟨by rfl, fun w' hSw => ?_⟩) hHeld ?_
        · obtain ⟨t0, t1, t2, t3, t4, t5, t6, t7, t8, t9, t10, t11, t12, t13, t14⟩ := hSw
          go_simp
          try simp [*]
          try (intro hh; exfalso; omega)
          try omega
          try exact HIDE.out
        try simp only [Act.put, List.setIfInBounds_toArray, List.set_cons_zero, List.set_cons_succ, List.getElem_toArray, List.getElem_cons_succ, List.getElem_cons_zero]
        refine wpAnyH_take (i := 21) (oi := _) (v := Value.agg #[Value.int .i64 b.id, Value.int .i64 b.cls, Value.int .i64 b.made, Value.int .i64 b.size, Value.int .i64 b.packed]) rfl (by kernel_rfl) (by kernel_rfl) (by kernel_rfl) (fun _ _ _ h => h) (Or.inl ⟨by rfl, fun w' hSw => ?_⟩) hHeld ?_
        · obtain ⟨t0, t1, t2, t3, t4, t5, t6, t7, t8, t9, t10, t11, t12, t13, t14⟩ := hSw
          go_simp
          try simp [*]
          try (intro hh; exfalso; omega)
          try omega
          try exact HIDE.out
        try simp only [Act.put, List.setIfInBounds_toArray, List.set_cons_zero, List.set_cons_succ, List.getElem_toArray, List.getElem_cons_succ, List.getElem_cons_zero]
        refine wpAnyH_ready (rs := [22]) (by kernel_rfl) (by simp) ?_
        refine AllReadyH.cons (o := _) rfl (fun K hK => ?_) (AllReadyH.nil)
        go_simp
        go_at_call 46
        refine Calls.mono (cab _) ?_
        rintro e v1 ⟨rfl, hb⟩
        have HV1 := Lib.hid (HV0.out.trans (hb.mono HV0.out.size))
        clear hb
        clear hHeld
        refine hK.out _ _ (KS.out _ HV1.out) (fun hHeld => ?_)
        clear hK K
        try simp only [Act.put, List.setIfInBounds_toArray, List.set_cons_zero, List.set_cons_succ, List.getElem_toArray, List.getElem_cons_succ, List.getElem_cons_zero]
        refine wpAnyH_take (i := 23) (oi := _) (v := Value.bool false) rfl (by kernel_rfl) (by kernel_rfl) (by kernel_rfl) (fun _ _ _ h => h) (Or.inl ⟨by rfl, fun w' hSw => ?_⟩) hHeld ?_
        · obtain ⟨t0, t1, t2, t3, t4, t5, t6, t7, t8, t9, t10, t11, t12, t13, t14⟩ := hSw
          go_simp
          try simp [*]
          try (intro hh; exfalso; omega)
          try omega
          try exact HIDE.out
        try simp only [Act.put, List.setIfInBounds_toArray, List.set_cons_zero, List.set_cons_succ, List.getElem_toArray, List.getElem_cons_succ, List.getElem_cons_zero]
        refine wpAnyH_take (i := 24) (oi := _) (v := undef) rfl (by kernel_rfl) (by kernel_rfl) (by kernel_rfl) (fun _ _ _ h => h) (Or.inr ⟨by rfl, rfl⟩) hHeld ?_
        try simp only [Act.put, List.setIfInBounds_toArray, List.set_cons_zero, List.set_cons_succ, List.getElem_toArray, List.getElem_cons_succ, List.getElem_cons_zero]
        refine wpAnyH_take (i := 25) (oi := _) (v := undef) rfl (by kernel_rfl) (by kernel_rfl) (by kernel_rfl) (fun _ _ _ h => h) (Or.inr ⟨by rfl, rfl⟩) hHeld ?_
        try simp only [Act.put, List.setIfInBounds_toArray, List.set_cons_zero, List.set_cons_succ, List.getElem_toArray, List.getElem_cons_succ, List.getElem_cons_zero]
        refine wpAnyH_take (i := 26) (oi := _) (v := undef) rfl (by kernel_rfl) (by kernel_rfl) (by kernel_rfl) (fun _ _ _ h => h) (Or.inr ⟨by rfl, rfl⟩) hHeld ?_
        try simp only [Act.put, List.setIfInBounds_toArray, List.set_cons_zero, List.set_cons_succ, List.getElem_toArray, List.getElem_cons_succ, List.getElem_cons_zero]
        refine wpAnyH_take (i := 27) (oi := _) (v := Value.bool false) rfl (by kernel_rfl) (by kernel_rfl) (by kernel_rfl) (fun _ _ _ h => h) (Or.inl ⟨by rfl, fun w' hSw => ?_⟩) hHeld ?_
        · obtain ⟨t0, t1, t2, t3, t4, t5, t6, t7, t8, t9, t10, t11, t12, t13, t14⟩ := hSw
          go_simp
          try simp [*]
          try (intro hh; exfalso; omega)
          try omega
          try exact HIDE.out
        try simp only [Act.put, List.setIfInBounds_toArray, List.set_cons_zero, List.set_cons_succ, List.getElem_toArray, List.getElem_cons_succ, List.getElem_cons_zero]
        refine wpAnyH_take (i := 28) (oi := _) (v := Value.bool false) rfl (by kernel_rfl) (by kernel_rfl) (by kernel_rfl) (fun _ _ _ h => h) (Or.inl ⟨by rfl, fun w' hSw => ?_⟩) hHeld ?_
        · obtain ⟨t0, t1, t2, t3, t4, t5, t6, t7, t8, t9, t10, t11, t12, t13, t14⟩ := hSw
          go_simp
          try simp [*]
          try (intro hh; exfalso; omega)
          try omega
          try exact HIDE.out
        try simp only [Act.put, List.setIfInBounds_toArray, List.set_cons_zero, List.set_cons_succ, List.getElem_toArray, List.getElem_cons_succ, List.getElem_cons_zero]
        refine wpAnyH_take (i := 29) (oi := _) (v := undef) rfl (by kernel_rfl) (by kernel_rfl) (by kernel_rfl) (fun _ _ _ h => h) (Or.inr ⟨by rfl, rfl⟩) hHeld ?_
        try simp only [Act.put, List.setIfInBounds_toArray, List.set_cons_zero, List.set_cons_succ, List.getElem_toArray, List.getElem_cons_succ, List.getElem_cons_zero]
        refine wpAnyH_take (i := 30) (oi := _) (v := undef) rfl (by kernel_rfl) (by kernel_rfl) (by kernel_rfl) (fun _ _ _ h => h) (Or.inr ⟨by rfl, rfl⟩) hHeld ?_
        try simp only [Act.put, List.setIfInBounds_toArray, List.set_cons_zero, List.set_cons_succ, List.getElem_toArray, List.getElem_cons_succ, List.getElem_cons_zero]
        refine wpAnyH_take (i := 31) (oi := _) (v := undef) rfl (by kernel_rfl) (by kernel_rfl) (by kernel_rfl) (fun _ _ _ h => h) (Or.inr ⟨by rfl, rfl⟩) hHeld ?_
        try simp only [Act.put, List.setIfInBounds_toArray, List.set_cons_zero, List.set_cons_succ, List.getElem_toArray, List.getElem_cons_succ, List.getElem_cons_zero]
        refine wpAnyH_take (i := 32) (oi := _) (v := undef) rfl (by kernel_rfl) (by kernel_rfl) (by kernel_rfl) (fun _ _ _ h => h) (Or.inr ⟨by rfl, rfl⟩) hHeld ?_
        try simp only [Act.put, List.setIfInBounds_toArray, List.set_cons_zero, List.set_cons_succ, List.getElem_toArray, List.getElem_cons_succ, List.getElem_cons_zero]
        refine wpAnyH_take (i := 33) (oi := _) (v := Value.bool false) rfl (by kernel_rfl) (by kernel_rfl) (by kernel_rfl) (fun _ _ _ h => h) (Or.inl ⟨by rfl, fun w' hSw => ?_⟩) hHeld ?_
        · obtain ⟨t0, t1, t2, t3, t4, t5, t6, t7, t8, t9, t10, t11, t12, t13, t14⟩ := hSw
          go_simp
          try simp [*]
          try (intro hh; exfalso; omega)
          try omega
          try exact HIDE.out
        try simp only [Act.put, List.setIfInBounds_toArray, List.set_cons_zero, List.set_cons_succ, List.getElem_toArray, List.getElem_cons_succ, List.getElem_cons_zero]
        refine wpAnyH_take (i := 34) (oi := _) (v := Value.bool false) rfl (by kernel_rfl) (by kernel_rfl) (by kernel_rfl) (fun _ _ _ h => h) (Or.inl ⟨by rfl, fun w' hSw => ?_⟩) hHeld ?_
        · obtain ⟨t0, t1, t2, t3, t4, t5, t6, t7, t8, t9, t10, t11, t12, t13, t14⟩ := hSw
          go_simp
          try simp [*]
          try (intro hh; exfalso; omega)
          try omega
          try exact HIDE.out
        try simp only [Act.put, List.setIfInBounds_toArray, List.set_cons_zero, List.set_cons_succ, List.getElem_toArray, List.getElem_cons_succ, List.getElem_cons_zero]
        refine wpAnyH_done (by kernel_rfl) ?_ _
        clear hHeld
        go_wp2_with fail
        go_meet
        case rel => exact ⟨rfl, HV1.out⟩
      · cases r
        · skip
          have HD := Lib.hid (show Below A.heap.size A w20.drew from HW20.out.drew)
          refine wp_region_held_drew (S := fun w' => w'.cell? ⟨w.heap.size, 0, none⟩ = some (Value.int .i64 a.id) ∧ w'.cell? ⟨w.heap.size, 1, none⟩ = some (Value.int .i64 a.cls) ∧ w'.cell? ⟨w.heap.size, 2, none⟩ = some (Value.int .i64 a.made) ∧ w'.cell? ⟨w.heap.size, 3, none⟩ = some (Value.int .i64 a.size) ∧ w'.cell? ⟨w.heap.size, 4, none⟩ = some (Value.int .i64 a.packed) ∧ w'.cell? ⟨w.heap.size + 1, 0, none⟩ = some (Value.int .i64 b.id) ∧ w'.cell? ⟨w.heap.size + 1, 1, none⟩ = some (Value.int .i64 b.cls) ∧ w'.cell? ⟨w.heap.size + 1, 2, none⟩ = some (Value.int .i64 b.made) ∧ w'.cell? ⟨w.heap.size + 1, 3, none⟩ = some (Value.int .i64 b.size) ∧ w'.cell? ⟨w.heap.size + 1, 4, none⟩ = some (Value.int .i64 b.packed) ∧ w'.cell? ⟨w.heap.size + 2, 0, none⟩ = some (Value.int .i64 c.id) ∧ w'.cell? ⟨w.heap.size + 2, 1, none⟩ = some (Value.int .i64 c.cls) ∧ w'.cell? ⟨w.heap.size + 2, 2, none⟩ = some (Value.int .i64 c.made) ∧ w'.cell? ⟨w.heap.size + 2, 3, none⟩ = some (Value.int .i64 c.size) ∧ w'.cell? ⟨w.heap.size + 2, 4, none⟩ = some (Value.int .i64 c.packed)) (by kernel_rfl) (KS.out _ HD.out) (fun hHeld => ?_)
          refine wpAnyH_take (i := 0) (oi := _) (v := Value.pointer (some ⟨w.heap.size, 0, none⟩)) rfl (by kernel_rfl) (by kernel_rfl) (by kernel_rfl) (fun _ _ _ h => h) (Or.inl ⟨by rfl, fun w' hSw => ?_⟩) hHeld ?_
          · obtain ⟨t0, t1, t2, t3, t4, t5, t6, t7, t8, t9, t10, t11, t12, t13, t14⟩ := hSw
            go_simp
            try simp [*]
            try (intro hh; exfalso; omega)
            try omega
            try exact HIDE.out
          try simp only [Act.put, List.setIfInBounds_toArray, List.set_cons_zero, List.set_cons_succ, List.getElem_toArray, List.getElem_cons_succ, List.getElem_cons_zero]
          refine wpAnyH_take (i := 1) (oi := _) (v := Value.int .i64 a.id) rfl (by kernel_rfl) (by kernel_rfl) (by kernel_rfl) (fun _ _ _ h => h) (Or.inl ⟨by rfl, fun w' hSw => ?_⟩) hHeld ?_
          · obtain ⟨t0, t1, t2, t3, t4, t5, t6, t7, t8, t9, t10, t11, t12, t13, t14⟩ := hSw
            go_simp
            try simp [*]
            try (intro hh; exfalso; omega)
            try omega
            try exact HIDE.out
          try simp only [Act.put, List.setIfInBounds_toArray, List.set_cons_zero, List.set_cons_succ, List.getElem_toArray, List.getElem_cons_succ, List.getElem_cons_zero]
          refine wpAnyH_take (i := 2) (oi := _) (v := Value.pointer (some ⟨w.heap.size + 1, 0, none⟩)) rfl (by kernel_rfl) (by kernel_rfl) (by kernel_rfl) (fun _ _ _ h => h) (Or.inl ⟨by rfl, fun w' hSw => ?_⟩) hHeld ?_
          · obtain ⟨t0, t1, t2, t3, t4, t5, t6, t7, t8, t9, t10, t11, t12, t13, t14⟩ := hSw
            go_simp
            try simp [*]
            try (intro hh; exfalso; omega)
            try omega
            try exact HIDE.out
          try simp only [Act.put, List.setIfInBounds_toArray, List.set_cons_zero, List.set_cons_succ, List.getElem_toArray, List.getElem_cons_succ, List.getElem_cons_zero]
          refine wpAnyH_take (i := 3) (oi := _) (v := Value.int .i64 b.id) rfl (by kernel_rfl) (by kernel_rfl) (by kernel_rfl) (fun _ _ _ h => h) (Or.inl ⟨by rfl, fun w' hSw => ?_⟩) hHeld ?_
          · obtain ⟨t0, t1, t2, t3, t4, t5, t6, t7, t8, t9, t10, t11, t12, t13, t14⟩ := hSw
            go_simp
            try simp [*]
            try (intro hh; exfalso; omega)
            try omega
            try exact HIDE.out
          try simp only [Act.put, List.setIfInBounds_toArray, List.set_cons_zero, List.set_cons_succ, List.getElem_toArray, List.getElem_cons_succ, List.getElem_cons_zero]
          refine wpAnyH_take (i := 4) (oi := _) (v := Value.bool false) rfl (by kernel_rfl) (by kernel_rfl) (by kernel_rfl) (fun _ _ _ h => h) (Or.inl ⟨by rfl, fun w' hSw => ?_⟩) hHeld ?_
          · obtain ⟨t0, t1, t2, t3, t4, t5, t6, t7, t8, t9, t10, t11, t12, t13, t14⟩ := hSw
            go_simp
            try simp [*]
            try (intro hh; exfalso; omega)
            try omega
            try exact HIDE.out
          try simp only [Act.put, List.setIfInBounds_toArray, List.set_cons_zero, List.set_cons_succ, List.getElem_toArray, List.getElem_cons_succ, List.getElem_cons_zero]
          refine wpAnyH_take (i := 5) (oi := _) (v := Value.bool false) rfl (by kernel_rfl) (by kernel_rfl) (by kernel_rfl) (fun _ _ _ h => h) (Or.inl ⟨by rfl, fun w' hSw => ?_⟩) hHeld ?_
          · obtain ⟨t0, t1, t2, t3, t4, t5, t6, t7, t8, t9, t10, t11, t12, t13, t14⟩ := hSw
            go_simp
            try simp [*]
            try (intro hh; exfalso; omega)
            try omega
            try exact HIDE.out
          try simp only [Act.put, List.setIfInBounds_toArray, List.set_cons_zero, List.set_cons_succ, List.getElem_toArray, List.getElem_cons_succ, List.getElem_cons_zero]
          refine wpAnyH_take (i := 6) (oi := _) (v := undef) rfl (by kernel_rfl) (by kernel_rfl) (by kernel_rfl) (fun _ _ _ h => h) (Or.inr ⟨by rfl, rfl⟩) hHeld ?_
          try simp only [Act.put, List.setIfInBounds_toArray, List.set_cons_zero, List.set_cons_succ, List.getElem_toArray, List.getElem_cons_succ, List.getElem_cons_zero]
          refine wpAnyH_take (i := 7) (oi := _) (v := undef) rfl (by kernel_rfl) (by kernel_rfl) (by kernel_rfl) (fun _ _ _ h => h) (Or.inr ⟨by rfl, rfl⟩) hHeld ?_
          try simp only [Act.put, List.setIfInBounds_toArray, List.set_cons_zero, List.set_cons_succ, List.getElem_toArray, List.getElem_cons_succ, List.getElem_cons_zero]
          refine wpAnyH_take (i := 8) (oi := _) (v := undef) rfl (by kernel_rfl) (by kernel_rfl) (by kernel_rfl) (fun _ _ _ h => h) (Or.inr ⟨by rfl, rfl⟩) hHeld ?_
          try simp only [Act.put, List.setIfInBounds_toArray, List.set_cons_zero, List.set_cons_succ, List.getElem_toArray, List.getElem_cons_succ, List.getElem_cons_zero]
          refine wpAnyH_take (i := 9) (oi := _) (v := undef) rfl (by kernel_rfl) (by kernel_rfl) (by kernel_rfl) (fun _ _ _ h => h) (Or.inr ⟨by rfl, rfl⟩) hHeld ?_
          try simp only [Act.put, List.setIfInBounds_toArray, List.set_cons_zero, List.set_cons_succ, List.getElem_toArray, List.getElem_cons_succ, List.getElem_cons_zero]
          refine wpAnyH_take (i := 10) (oi := _) (v := undef) rfl (by kernel_rfl) (by kernel_rfl) (by kernel_rfl) (fun _ _ _ h => h) (Or.inr ⟨by rfl, rfl⟩) hHeld ?_
          try simp only [Act.put, List.setIfInBounds_toArray, List.set_cons_zero, List.set_cons_succ, List.getElem_toArray, List.getElem_cons_succ, List.getElem_cons_zero]
          refine wpAnyH_take (i := 11) (oi := _) (v := undef) rfl (by kernel_rfl) (by kernel_rfl) (by kernel_rfl) (fun _ _ _ h => h) (Or.inr ⟨by rfl, rfl⟩) hHeld ?_
          try simp only [Act.put, List.setIfInBounds_toArray, List.set_cons_zero, List.set_cons_succ, List.getElem_toArray, List.getElem_cons_succ, List.getElem_cons_zero]
          refine wpAnyH_take (i := 12) (oi := _) (v := undef) rfl (by kernel_rfl) (by kernel_rfl) (by kernel_rfl) (fun _ _ _ h => h) (Or.inr ⟨by rfl, rfl⟩) hHeld ?_
          try simp only [Act.put, List.setIfInBounds_toArray, List.set_cons_zero, List.set_cons_succ, List.getElem_toArray, List.getElem_cons_succ, List.getElem_cons_zero]
          refine wpAnyH_take (i := 13) (oi := _) (v := Value.bool false) rfl (by kernel_rfl) (by kernel_rfl) (by kernel_rfl) (fun _ _ _ h => h) (Or.inl ⟨by rfl, fun w' hSw => ?_⟩) hHeld ?_
          · obtain ⟨t0, t1, t2, t3, t4, t5, t6, t7, t8, t9, t10, t11, t12, t13, t14⟩ := hSw
            go_simp
            try simp [*]
            try (intro hh; exfalso; omega)
            try omega
            try exact HIDE.out
          try simp only [Act.put, List.setIfInBounds_toArray, List.set_cons_zero, List.set_cons_succ, List.getElem_toArray, List.getElem_cons_succ, List.getElem_cons_zero]
          refine wpAnyH_take (i := 14) (oi := _) (v := Value.bool false) rfl (by kernel_rfl) (by kernel_rfl) (by kernel_rfl) (fun _ _ _ h => h) (Or.inl ⟨by rfl, fun w' hSw => ?_⟩) hHeld ?_
          · obtain ⟨t0, t1, t2, t3, t4, t5, t6, t7, t8, t9, t10, t11, t12, t13, t14⟩ := hSw
            go_simp
            try simp [*]
            try (intro hh; exfalso; omega)
            try omega
            try exact HIDE.out
          try simp only [Act.put, List.setIfInBounds_toArray, List.set_cons_zero, List.set_cons_succ, List.getElem_toArray, List.getElem_cons_succ, List.getElem_cons_zero]
          refine wpAnyH_take (i := 15) (oi := _) (v := Value.agg #[Value.int .i64 a.id, Value.int .i64 a.cls, Value.int .i64 a.made, Value.int .i64 a.size, Value.int .i64 a.packed]) rfl (by kernel_rfl) (by kernel_rfl) (by kernel_rfl) (fun _ _ _ h => h) (Or.inl ⟨by rfl, fun w' hSw => ?_⟩) hHeld ?_
          · obtain ⟨t0, t1, t2, t3, t4, t5, t6, t7, t8, t9, t10, t11, t12, t13, t14⟩ := hSw
            go_simp
            try simp [*]
            try (intro hh; exfalso; omega)
            try omega
            try exact HIDE.out
          try simp only [Act.put, List.setIfInBounds_toArray, List.set_cons_zero, List.set_cons_succ, List.getElem_toArray, List.getElem_cons_succ, List.getElem_cons_zero]
          refine wpAnyH_take (i := 16) (oi := _) (v := Value.agg #[Value.int .i64 a.id, Value.int .i64 a.cls, Value.int .i64 a.made, Value.int .i64 a.size, Value.int .i64 a.packed]) rfl (by kernel_rfl) (by kernel_rfl) (by kernel_rfl) (fun _ _ _ h => h) (Or.inl ⟨by rfl, fun w' hSw => ?_⟩) hHeld ?_
          · obtain ⟨t0, t1, t2, t3, t4, t5, t6, t7, t8, t9, t10, t11, t12, t13, t14⟩ := hSw
            go_simp
            try simp [*]
            try (intro hh; exfalso; omega)
            try omega
            try exact HIDE.out
          try simp only [Act.put, List.setIfInBounds_toArray, List.set_cons_zero, List.set_cons_succ, List.getElem_toArray, List.getElem_cons_succ, List.getElem_cons_zero]
          refine wpAnyH_ready (rs := [17]) (by kernel_rfl) (by simp) ?_
          refine AllReadyH.cons (o := _) rfl (fun K hK => ?_) (AllReadyH.nil)
          go_simp
          go_at_call 46
          refine Calls.mono (caa _) ?_
          rintro e v0 ⟨rfl, hb⟩
          have HV0 := Lib.hid (HD.out.trans (hb.mono HD.out.size))
          clear hb
          clear hHeld
          refine hK.out _ _ (KS.out _ HV0.out) (fun hHeld => ?_)
          clear hK K
          try simp only [Act.put, List.setIfInBounds_toArray, List.set_cons_zero, List.set_cons_succ, List.getElem_toArray, List.getElem_cons_succ, List.getElem_cons_zero]
          refine wpAnyH_take (i := 18) (oi := _) (v := Value.bool false) rfl (by kernel_rfl) (by kernel_rfl) (by kernel_rfl) (fun _ _ _ h => h) (Or.inl ⟨by rfl, fun w' hSw => ?_⟩) hHeld ?_
          · obtain ⟨t0, t1, t2, t3, t4, t5, t6, t7, t8, t9, t10, t11, t12, t13, t14⟩ := hSw
            go_simp
            try simp [*]
            try (intro hh; exfalso; omega)
            try omega
            try exact HIDE.out
          try simp only [Act.put, List.setIfInBounds_toArray, List.set_cons_zero, List.set_cons_succ, List.getElem_toArray, List.getElem_cons_succ, List.getElem_cons_zero]
          refine wpAnyH_take (i := 19) (oi := _) (v := Value.bool false) rfl (by kernel_rfl) (by kernel_rfl) (by kernel_rfl) (fun _ _ _ h => h) (Or.inl ⟨by rfl, fun w' hSw => ?_⟩) hHeld ?_
          · obtain ⟨t0, t1, t2, t3, t4, t5, t6, t7, t8, t9, t10, t11, t12, t13, t14⟩ := hSw
            go_simp
            try simp [*]
            try (intro hh; exfalso; omega)
            try omega
            try exact HIDE.out
          try simp only [Act.put, List.setIfInBounds_toArray, List.set_cons_zero, List.set_cons_succ, List.getElem_toArray, List.getElem_cons_succ, List.getElem_cons_zero]
          refine wpAnyH_take (i := 20) (oi := _) (v := Value.agg #[Value.int .i64 a.id, Value.int .i64 a.cls, Value.int .i64 a.made, Value.int .i64 a.size, Value.int .i64 a.packed]) rfl (by kernel_rfl) (by kernel_rfl) (by kernel_rfl) (fun _ _ _ h => h) (Or.inl ⟨by rfl, fun w' hSw => ?_⟩) hHeld ?_
          · obtain ⟨t0, t1, t2, t3, t4, t5, t6, t7, t8, t9, t10, t11, t12, t13, t14⟩ := hSw
            go_simp
            try simp [*]
            try (intro hh; exfalso; omega)
            try omega
            try exact HIDE.out
          try simp only [Act.put, List.setIfInBounds_toArray, List.set_cons_zero, List.set_cons_succ, List.getElem_toArray, List.getElem_cons_succ, List.getElem_cons_zero]
          refine wpAnyH_take (i := 21) (oi := _) (v := Value.agg #[Value.int .i64 b.id, Value.int .i64 b.cls, Value.int .i64 b.made, Value.int .i64 b.size, Value.int .i64 b.packed]) rfl (by kernel_rfl) (by kernel_rfl) (by kernel_rfl) (fun _ _ _ h => h) (Or.inl ⟨by rfl, fun w' hSw => ?_⟩) hHeld ?_
          · obtain ⟨t0, t1, t2, t3, t4, t5, t6, t7, t8, t9, t10, t11, t12, t13, t14⟩ := hSw
            go_simp
            try simp [*]
            try (intro hh; exfalso; omega)
            try omega
            try exact HIDE.out
          try simp only [Act.put, List.setIfInBounds_toArray, List.set_cons_zero, List.set_cons_succ, List.getElem_toArray, List.getElem_cons_succ, List.getElem_cons_zero]
          refine wpAnyH_ready (rs := [22]) (by kernel_rfl) (by simp) ?_
          refine AllReadyH.cons (o := _) rfl (fun K hK => ?_) (AllReadyH.nil)
          go_simp
          go_at_call 46
          refine Calls.mono (cab _) ?_
          rintro e v1 ⟨rfl, hb⟩
          have HV1 := Lib.hid (HV0.out.trans (hb.mono HV0.out.size))
          clear hb
          clear hHeld
          refine hK.out _ _ (KS.out _ HV1.out) (fun hHeld => ?_)
          clear hK K
          try simp only [Act.put, List.setIfInBounds_toArray, List.set_cons_zero, List.set_cons_succ, List.getElem_toArray, List.getElem_cons_succ, List.getElem_cons_zero]
          refine wpAnyH_take (i := 23) (oi := _) (v := Value.bool true) rfl (by kernel_rfl) (by kernel_rfl) (by kernel_rfl) (fun _ _ _ h => h) (Or.inl ⟨by rfl, fun w' hSw => ?_⟩) hHeld ?_
          · obtain ⟨t0, t1, t2, t3, t4, t5, t6, t7, t8, t9, t10, t11, t12, t13, t14⟩ := hSw
            go_simp
            try simp [*]
            try (intro hh; exfalso; omega)
            try omega
            try exact HIDE.out
          try simp only [Act.put, List.setIfInBounds_toArray, List.set_cons_zero, List.set_cons_succ, List.getElem_toArray, List.getElem_cons_succ, List.getElem_cons_zero]
          refine wpAnyH_take (i := 24) (oi := _) (v := Value.agg #[Value.int .i64 b.id, Value.int .i64 b.cls, Value.int .i64 b.made, Value.int .i64 b.size, Value.int .i64 b.packed]) rfl (by kernel_rfl) (by kernel_rfl) (by kernel_rfl) (fun _ _ _ h => h) (Or.inl ⟨by rfl, fun w' hSw => ?_⟩) hHeld ?_
          · obtain ⟨t0, t1, t2, t3, t4, t5, t6, t7, t8, t9, t10, t11, t12, t13, t14⟩ := hSw
            go_simp
            try simp [*]
            try (intro hh; exfalso; omega)
            try omega
            try exact HIDE.out
          try simp only [Act.put, List.setIfInBounds_toArray, List.set_cons_zero, List.set_cons_succ, List.getElem_toArray, List.getElem_cons_succ, List.getElem_cons_zero]
          refine wpAnyH_take (i := 25) (oi := _) (v := Value.agg #[Value.int .i64 c.id, Value.int .i64 c.cls, Value.int .i64 c.made, Value.int .i64 c.size, Value.int .i64 c.packed]) rfl (by kernel_rfl) (by kernel_rfl) (by kernel_rfl) (fun _ _ _ h => h) (Or.inl ⟨by rfl, fun w' hSw => ?_⟩) hHeld ?_
          · obtain ⟨t0, t1, t2, t3, t4, t5, t6, t7, t8, t9, t10, t11, t12, t13, t14⟩ := hSw
            go_simp
            try simp [*]
            try (intro hh; exfalso; omega)
            try omega
            try exact HIDE.out
          try simp only [Act.put, List.setIfInBounds_toArray, List.set_cons_zero, List.set_cons_succ, List.getElem_toArray, List.getElem_cons_succ, List.getElem_cons_zero]
          refine wpAnyH_ready (rs := [26]) (by kernel_rfl) (by simp) ?_
          refine AllReadyH.cons (o := _) rfl (fun K hK => ?_) (AllReadyH.nil)
          go_simp
          go_at_call 46
          refine Calls.mono (cbc _) ?_
          rintro e v2 ⟨rfl, hb⟩
          have HV2 := Lib.hid (HV1.out.trans (hb.mono HV1.out.size))
          clear hb
          clear hHeld
          refine hK.out _ _ (KS.out _ HV2.out) (fun hHeld => ?_)
          clear hK K
          try simp only [Act.put, List.setIfInBounds_toArray, List.set_cons_zero, List.set_cons_succ, List.getElem_toArray, List.getElem_cons_succ, List.getElem_cons_zero]
          refine wpAnyH_take (i := 27) (oi := _) (v := Value.bool false) rfl (by kernel_rfl) (by kernel_rfl) (by kernel_rfl) (fun _ _ _ h => h) (Or.inl ⟨by rfl, fun w' hSw => ?_⟩) hHeld ?_
          · obtain ⟨t0, t1, t2, t3, t4, t5, t6, t7, t8, t9, t10, t11, t12, t13, t14⟩ := hSw
            go_simp
            try simp [*]
            try (intro hh; exfalso; omega)
            try omega
            try exact HIDE.out
          try simp only [Act.put, List.setIfInBounds_toArray, List.set_cons_zero, List.set_cons_succ, List.getElem_toArray, List.getElem_cons_succ, List.getElem_cons_zero]
          refine wpAnyH_take (i := 28) (oi := _) (v := Value.bool false) rfl (by kernel_rfl) (by kernel_rfl) (by kernel_rfl) (fun _ _ _ h => h) (Or.inl ⟨by rfl, fun w' hSw => ?_⟩) hHeld ?_
          · obtain ⟨t0, t1, t2, t3, t4, t5, t6, t7, t8, t9, t10, t11, t12, t13, t14⟩ := hSw
            go_simp
            try simp [*]
            try (intro hh; exfalso; omega)
            try omega
            try exact HIDE.out
          try simp only [Act.put, List.setIfInBounds_toArray, List.set_cons_zero, List.set_cons_succ, List.getElem_toArray, List.getElem_cons_succ, List.getElem_cons_zero]
          refine wpAnyH_take (i := 29) (oi := _) (v := undef) rfl (by kernel_rfl) (by kernel_rfl) (by kernel_rfl) (fun _ _ _ h => h) (Or.inr ⟨by rfl, rfl⟩) hHeld ?_
          try simp only [Act.put, List.setIfInBounds_toArray, List.set_cons_zero, List.set_cons_succ, List.getElem_toArray, List.getElem_cons_succ, List.getElem_cons_zero]
          refine wpAnyH_take (i := 30) (oi := _) (v := undef) rfl (by kernel_rfl) (by kernel_rfl) (by kernel_rfl) (fun _ _ _ h => h) (Or.inr ⟨by rfl, rfl⟩) hHeld ?_
          try simp only [Act.put, List.setIfInBounds_toArray, List.set_cons_zero, List.set_cons_succ, List.getElem_toArray, List.getElem_cons_succ, List.getElem_cons_zero]
          refine wpAnyH_take (i := 31) (oi := _) (v := undef) rfl (by kernel_rfl) (by kernel_rfl) (by kernel_rfl) (fun _ _ _ h => h) (Or.inr ⟨by rfl, rfl⟩) hHeld ?_
          try simp only [Act.put, List.setIfInBounds_toArray, List.set_cons_zero, List.set_cons_succ, List.getElem_toArray, List.getElem_cons_succ, List.getElem_cons_zero]
          refine wpAnyH_take (i := 32) (oi := _) (v := undef) rfl (by kernel_rfl) (by kernel_rfl) (by kernel_rfl) (fun _ _ _ h => h) (Or.inr ⟨by rfl, rfl⟩) hHeld ?_
          try simp only [Act.put, List.setIfInBounds_toArray, List.set_cons_zero, List.set_cons_succ, List.getElem_toArray, List.getElem_cons_succ, List.getElem_cons_zero]
          refine wpAnyH_take (i := 33) (oi := _) (v := Value.bool false) rfl (by kernel_rfl) (by kernel_rfl) (by kernel_rfl) (fun _ _ _ h => h) (Or.inl ⟨by rfl, fun w' hSw => ?_⟩) hHeld ?_
          · obtain ⟨t0, t1, t2, t3, t4, t5, t6, t7, t8, t9, t10, t11, t12, t13, t14⟩ := hSw
            go_simp
            try simp [*]
            try (intro hh; exfalso; omega)
            try omega
            try exact HIDE.out
          try simp only [Act.put, List.setIfInBounds_toArray, List.set_cons_zero, List.set_cons_succ, List.getElem_toArray, List.getElem_cons_succ, List.getElem_cons_zero]
          refine wpAnyH_take (i := 34) (oi := _) (v := Value.bool false) rfl (by kernel_rfl) (by kernel_rfl) (by kernel_rfl) (fun _ _ _ h => h) (Or.inl ⟨by rfl, fun w' hSw => ?_⟩) hHeld ?_
          · obtain ⟨t0, t1, t2, t3, t4, t5, t6, t7, t8, t9, t10, t11, t12, t13, t14⟩ := hSw
            go_simp
            try simp [*]
            try (intro hh; exfalso; omega)
            try omega
            try exact HIDE.out
          try simp only [Act.put, List.setIfInBounds_toArray, List.set_cons_zero, List.set_cons_succ, List.getElem_toArray, List.getElem_cons_succ, List.getElem_cons_zero]
          refine wpAnyH_done (by kernel_rfl) ?_ _
          clear hHeld
          go_wp2_with fail
          go_meet
          case rel => exact ⟨rfl, HV2.out⟩
        · skip
          obtain rfl : s = true := HTR.out rfl rfl
          have HD := Lib.hid (show Below A.heap.size A w20.drew from HW20.out.drew)
          refine wp_region_held_drew (S := fun w' => w'.cell? ⟨w.heap.size, 0, none⟩ = some (Value.int .i64 a.id) ∧ w'.cell? ⟨w.heap.size, 1, none⟩ = some (Value.int .i64 a.cls) ∧ w'.cell? ⟨w.heap.size, 2, none⟩ = some (Value.int .i64 a.made) ∧ w'.cell? ⟨w.heap.size, 3, none⟩ = some (Value.int .i64 a.size) ∧ w'.cell? ⟨w.heap.size, 4, none⟩ = some (Value.int .i64 a.packed) ∧ w'.cell? ⟨w.heap.size + 1, 0, none⟩ = some (Value.int .i64 b.id) ∧ w'.cell? ⟨w.heap.size + 1, 1, none⟩ = some (Value.int .i64 b.cls) ∧ w'.cell? ⟨w.heap.size + 1, 2, none⟩ = some (Value.int .i64 b.made) ∧ w'.cell? ⟨w.heap.size + 1, 3, none⟩ = some (Value.int .i64 b.size) ∧ w'.cell? ⟨w.heap.size + 1, 4, none⟩ = some (Value.int .i64 b.packed) ∧ w'.cell? ⟨w.heap.size + 2, 0, none⟩ = some (Value.int .i64 c.id) ∧ w'.cell? ⟨w.heap.size + 2, 1, none⟩ = some (Value.int .i64 c.cls) ∧ w'.cell? ⟨w.heap.size + 2, 2, none⟩ = some (Value.int .i64 c.made) ∧ w'.cell? ⟨w.heap.size + 2, 3, none⟩ = some (Value.int .i64 c.size) ∧ w'.cell? ⟨w.heap.size + 2, 4, none⟩ = some (Value.int .i64 c.packed)) (by kernel_rfl) (KS.out _ HD.out) (fun hHeld => ?_)
          refine wpAnyH_take (i := 0) (oi := _) (v := Value.pointer (some ⟨w.heap.size, 0, none⟩)) rfl (by kernel_rfl) (by kernel_rfl) (by kernel_rfl) (fun _ _ _ h => h) (Or.inl ⟨by rfl, fun w' hSw => ?_⟩) hHeld ?_
          · obtain ⟨t0, t1, t2, t3, t4, t5, t6, t7, t8, t9, t10, t11, t12, t13, t14⟩ := hSw
            go_simp
            try simp [*]
            try (intro hh; exfalso; omega)
            try omega
            try exact HIDE.out
          try simp only [Act.put, List.setIfInBounds_toArray, List.set_cons_zero, List.set_cons_succ, List.getElem_toArray, List.getElem_cons_succ, List.getElem_cons_zero]
          refine wpAnyH_take (i := 1) (oi := _) (v := Value.int .i64 a.id) rfl (by kernel_rfl) (by kernel_rfl) (by kernel_rfl) (fun _ _ _ h => h) (Or.inl ⟨by rfl, fun w' hSw => ?_⟩) hHeld ?_
          · obtain ⟨t0, t1, t2, t3, t4, t5, t6, t7, t8, t9, t10, t11, t12, t13, t14⟩ := hSw
            go_simp
            try simp [*]
            try (intro hh; exfalso; omega)
            try omega
            try exact HIDE.out
          try simp only [Act.put, List.setIfInBounds_toArray, List.set_cons_zero, List.set_cons_succ, List.getElem_toArray, List.getElem_cons_succ, List.getElem_cons_zero]
          refine wpAnyH_take (i := 2) (oi := _) (v := Value.pointer (some ⟨w.heap.size + 1, 0, none⟩)) rfl (by kernel_rfl) (by kernel_rfl) (by kernel_rfl) (fun _ _ _ h => h) (Or.inl ⟨by rfl, fun w' hSw => ?_⟩) hHeld ?_
          · obtain ⟨t0, t1, t2, t3, t4, t5, t6, t7, t8, t9, t10, t11, t12, t13, t14⟩ := hSw
            go_simp
            try simp [*]
            try (intro hh; exfalso; omega)
            try omega
            try exact HIDE.out
          try simp only [Act.put, List.setIfInBounds_toArray, List.set_cons_zero, List.set_cons_succ, List.getElem_toArray, List.getElem_cons_succ, List.getElem_cons_zero]
          refine wpAnyH_take (i := 3) (oi := _) (v := Value.int .i64 b.id) rfl (by kernel_rfl) (by kernel_rfl) (by kernel_rfl) (fun _ _ _ h => h) (Or.inl ⟨by rfl, fun w' hSw => ?_⟩) hHeld ?_
          · obtain ⟨t0, t1, t2, t3, t4, t5, t6, t7, t8, t9, t10, t11, t12, t13, t14⟩ := hSw
            go_simp
            try simp [*]
            try (intro hh; exfalso; omega)
            try omega
            try exact HIDE.out
          try simp only [Act.put, List.setIfInBounds_toArray, List.set_cons_zero, List.set_cons_succ, List.getElem_toArray, List.getElem_cons_succ, List.getElem_cons_zero]
          refine wpAnyH_take (i := 4) (oi := _) (v := Value.bool false) rfl (by kernel_rfl) (by kernel_rfl) (by kernel_rfl) (fun _ _ _ h => h) (Or.inl ⟨by rfl, fun w' hSw => ?_⟩) hHeld ?_
          · obtain ⟨t0, t1, t2, t3, t4, t5, t6, t7, t8, t9, t10, t11, t12, t13, t14⟩ := hSw
            go_simp
            try simp [*]
            try (intro hh; exfalso; omega)
            try omega
            try exact HIDE.out
          try simp only [Act.put, List.setIfInBounds_toArray, List.set_cons_zero, List.set_cons_succ, List.getElem_toArray, List.getElem_cons_succ, List.getElem_cons_zero]
          refine wpAnyH_take (i := 5) (oi := _) (v := Value.bool false) rfl (by kernel_rfl) (by kernel_rfl) (by kernel_rfl) (fun _ _ _ h => h) (Or.inl ⟨by rfl, fun w' hSw => ?_⟩) hHeld ?_
          · obtain ⟨t0, t1, t2, t3, t4, t5, t6, t7, t8, t9, t10, t11, t12, t13, t14⟩ := hSw
            go_simp
            try simp [*]
            try (intro hh; exfalso; omega)
            try omega
            try exact HIDE.out
          try simp only [Act.put, List.setIfInBounds_toArray, List.set_cons_zero, List.set_cons_succ, List.getElem_toArray, List.getElem_cons_succ, List.getElem_cons_zero]
          refine wpAnyH_take (i := 6) (oi := _) (v := undef) rfl (by kernel_rfl) (by kernel_rfl) (by kernel_rfl) (fun _ _ _ h => h) (Or.inr ⟨by rfl, rfl⟩) hHeld ?_
          try simp only [Act.put, List.setIfInBounds_toArray, List.set_cons_zero, List.set_cons_succ, List.getElem_toArray, List.getElem_cons_succ, List.getElem_cons_zero]
          refine wpAnyH_take (i := 7) (oi := _) (v := undef) rfl (by kernel_rfl) (by kernel_rfl) (by kernel_rfl) (fun _ _ _ h => h) (Or.inr ⟨by rfl, rfl⟩) hHeld ?_
          try simp only [Act.put, List.setIfInBounds_toArray, List.set_cons_zero, List.set_cons_succ, List.getElem_toArray, List.getElem_cons_succ, List.getElem_cons_zero]
          refine wpAnyH_take (i := 8) (oi := _) (v := undef) rfl (by kernel_rfl) (by kernel_rfl) (by kernel_rfl) (fun _ _ _ h => h) (Or.inr ⟨by rfl, rfl⟩) hHeld ?_
          try simp only [Act.put, List.setIfInBounds_toArray, List.set_cons_zero, List.set_cons_succ, List.getElem_toArray, List.getElem_cons_succ, List.getElem_cons_zero]
          refine wpAnyH_take (i := 9) (oi := _) (v := undef) rfl (by kernel_rfl) (by kernel_rfl) (by kernel_rfl) (fun _ _ _ h => h) (Or.inr ⟨by rfl, rfl⟩) hHeld ?_
          try simp only [Act.put, List.setIfInBounds_toArray, List.set_cons_zero, List.set_cons_succ, List.getElem_toArray, List.getElem_cons_succ, List.getElem_cons_zero]
          refine wpAnyH_take (i := 10) (oi := _) (v := undef) rfl (by kernel_rfl) (by kernel_rfl) (by kernel_rfl) (fun _ _ _ h => h) (Or.inr ⟨by rfl, rfl⟩) hHeld ?_
          try simp only [Act.put, List.setIfInBounds_toArray, List.set_cons_zero, List.set_cons_succ, List.getElem_toArray, List.getElem_cons_succ, List.getElem_cons_zero]
          refine wpAnyH_take (i := 11) (oi := _) (v := undef) rfl (by kernel_rfl) (by kernel_rfl) (by kernel_rfl) (fun _ _ _ h => h) (Or.inr ⟨by rfl, rfl⟩) hHeld ?_
          try simp only [Act.put, List.setIfInBounds_toArray, List.set_cons_zero, List.set_cons_succ, List.getElem_toArray, List.getElem_cons_succ, List.getElem_cons_zero]
          refine wpAnyH_take (i := 12) (oi := _) (v := undef) rfl (by kernel_rfl) (by kernel_rfl) (by kernel_rfl) (fun _ _ _ h => h) (Or.inr ⟨by rfl, rfl⟩) hHeld ?_
          try simp only [Act.put, List.setIfInBounds_toArray, List.set_cons_zero, List.set_cons_succ, List.getElem_toArray, List.getElem_cons_succ, List.getElem_cons_zero]
          refine wpAnyH_take (i := 13) (oi := _) (v := Value.bool false) rfl (by kernel_rfl) (by kernel_rfl) (by kernel_rfl) (fun _ _ _ h => h) (Or.inl ⟨by rfl, fun w' hSw => ?_⟩) hHeld ?_
          · obtain ⟨t0, t1, t2, t3, t4, t5, t6, t7, t8, t9, t10, t11, t12, t13, t14⟩ := hSw
            go_simp
            try simp [*]
            try (intro hh; exfalso; omega)
            try omega
            try exact HIDE.out
          try simp only [Act.put, List.setIfInBounds_toArray, List.set_cons_zero, List.set_cons_succ, List.getElem_toArray, List.getElem_cons_succ, List.getElem_cons_zero]
          refine wpAnyH_take (i := 14) (oi := _) (v := Value.bool false) rfl (by kernel_rfl) (by kernel_rfl) (by kernel_rfl) (fun _ _ _ h => h) (Or.inl ⟨by rfl, fun w' hSw => ?_⟩) hHeld ?_
          · obtain ⟨t0, t1, t2, t3, t4, t5, t6, t7, t8, t9, t10, t11, t12, t13, t14⟩ := hSw
            go_simp
            try simp [*]
            try (intro hh; exfalso; omega)
            try omega
            try exact HIDE.out
          try simp only [Act.put, List.setIfInBounds_toArray, List.set_cons_zero, List.set_cons_succ, List.getElem_toArray, List.getElem_cons_succ, List.getElem_cons_zero]
          refine wpAnyH_take (i := 15) (oi := _) (v := Value.agg #[Value.int .i64 a.id, Value.int .i64 a.cls, Value.int .i64 a.made, Value.int .i64 a.size, Value.int .i64 a.packed]) rfl (by kernel_rfl) (by kernel_rfl) (by kernel_rfl) (fun _ _ _ h => h) (Or.inl ⟨by rfl, fun w' hSw => ?_⟩) hHeld ?_
          · obtain ⟨t0, t1, t2, t3, t4, t5, t6, t7, t8, t9, t10, t11, t12, t13, t14⟩ := hSw
            go_simp
            try simp [*]
            try (intro hh; exfalso; omega)
            try omega
            try exact HIDE.out
          try simp only [Act.put, List.setIfInBounds_toArray, List.set_cons_zero, List.set_cons_succ, List.getElem_toArray, List.getElem_cons_succ, List.getElem_cons_zero]
          refine wpAnyH_take (i := 16) (oi := _) (v := Value.agg #[Value.int .i64 a.id, Value.int .i64 a.cls, Value.int .i64 a.made, Value.int .i64 a.size, Value.int .i64 a.packed]) rfl (by kernel_rfl) (by kernel_rfl) (by kernel_rfl) (fun _ _ _ h => h) (Or.inl ⟨by rfl, fun w' hSw => ?_⟩) hHeld ?_
          · obtain ⟨t0, t1, t2, t3, t4, t5, t6, t7, t8, t9, t10, t11, t12, t13, t14⟩ := hSw
            go_simp
            try simp [*]
            try (intro hh; exfalso; omega)
            try omega
            try exact HIDE.out
          try simp only [Act.put, List.setIfInBounds_toArray, List.set_cons_zero, List.set_cons_succ, List.getElem_toArray, List.getElem_cons_succ, List.getElem_cons_zero]
          refine wpAnyH_ready (rs := [17]) (by kernel_rfl) (by simp) ?_
          refine AllReadyH.cons (o := _) rfl (fun K hK => ?_) (AllReadyH.nil)
          go_simp
          go_at_call 46
          refine Calls.mono (caa _) ?_
          rintro e v0 ⟨rfl, hb⟩
          have HV0 := Lib.hid (HD.out.trans (hb.mono HD.out.size))
          clear hb
          clear hHeld
          refine hK.out _ _ (KS.out _ HV0.out) (fun hHeld => ?_)
          clear hK K
          try simp only [Act.put, List.setIfInBounds_toArray, List.set_cons_zero, List.set_cons_succ, List.getElem_toArray, List.getElem_cons_succ, List.getElem_cons_zero]
          refine wpAnyH_take (i := 18) (oi := _) (v := Value.bool false) rfl (by kernel_rfl) (by kernel_rfl) (by kernel_rfl) (fun _ _ _ h => h) (Or.inl ⟨by rfl, fun w' hSw => ?_⟩) hHeld ?_
          · obtain ⟨t0, t1, t2, t3, t4, t5, t6, t7, t8, t9, t10, t11, t12, t13, t14⟩ := hSw
            go_simp
            try simp [*]
            try (intro hh; exfalso; omega)
            try omega
            try exact HIDE.out
          try simp only [Act.put, List.setIfInBounds_toArray, List.set_cons_zero, List.set_cons_succ, List.getElem_toArray, List.getElem_cons_succ, List.getElem_cons_zero]
          refine wpAnyH_take (i := 19) (oi := _) (v := Value.bool false) rfl (by kernel_rfl) (by kernel_rfl) (by kernel_rfl) (fun _ _ _ h => h) (Or.inl ⟨by rfl, fun w' hSw => ?_⟩) hHeld ?_
          · obtain ⟨t0, t1, t2, t3, t4, t5, t6, t7, t8, t9, t10, t11, t12, t13, t14⟩ := hSw
            go_simp
            try simp [*]
            try (intro hh; exfalso; omega)
            try omega
            try exact HIDE.out
          try simp only [Act.put, List.setIfInBounds_toArray, List.set_cons_zero, List.set_cons_succ, List.getElem_toArray, List.getElem_cons_succ, List.getElem_cons_zero]
          refine wpAnyH_take (i := 20) (oi := _) (v := Value.agg #[Value.int .i64 a.id, Value.int .i64 a.cls, Value.int .i64 a.made, Value.int .i64 a.size, Value.int .i64 a.packed]) rfl (by kernel_rfl) (by kernel_rfl) (by kernel_rfl) (fun _ _ _ h => h) (Or.inl ⟨by rfl, fun w' hSw => ?_⟩) hHeld ?_
          · obtain ⟨t0, t1, t2, t3, t4, t5, t6, t7, t8, t9, t10, t11, t12, t13, t14⟩ := hSw
            go_simp
            try simp [*]
            try (intro hh; exfalso; omega)
            try omega
            try exact HIDE.out
          try simp only [Act.put, List.setIfInBounds_toArray, List.set_cons_zero, List.set_cons_succ, List.getElem_toArray, List.getElem_cons_succ, List.getElem_cons_zero]
          refine wpAnyH_take (i := 21) (oi := _) (v := Value.agg #[Value.int .i64 b.id, Value.int .i64 b.cls, Value.int .i64 b.made, Value.int .i64 b.size, Value.int .i64 b.packed]) rfl (by kernel_rfl) (by kernel_rfl) (by kernel_rfl) (fun _ _ _ h => h) (Or.inl ⟨by rfl, fun w' hSw => ?_⟩) hHeld ?_
          · obtain ⟨t0, t1, t2, t3, t4, t5, t6, t7, t8, t9, t10, t11, t12, t13, t14⟩ := hSw
            go_simp
            try simp [*]
            try (intro hh; exfalso; omega)
            try omega
            try exact HIDE.out
          try simp only [Act.put, List.setIfInBounds_toArray, List.set_cons_zero, List.set_cons_succ, List.getElem_toArray, List.getElem_cons_succ, List.getElem_cons_zero]
          refine wpAnyH_ready (rs := [22]) (by kernel_rfl) (by simp) ?_
          refine AllReadyH.cons (o := _) rfl (fun K hK => ?_) (AllReadyH.nil)
          go_simp
          go_at_call 46
          refine Calls.mono (cab _) ?_
          rintro e v1 ⟨rfl, hb⟩
          have HV1 := Lib.hid (HV0.out.trans (hb.mono HV0.out.size))
          clear hb
          clear hHeld
          refine hK.out _ _ (KS.out _ HV1.out) (fun hHeld => ?_)
          clear hK K
          try simp only [Act.put, List.setIfInBounds_toArray, List.set_cons_zero, List.set_cons_succ, List.getElem_toArray, List.getElem_cons_succ, List.getElem_cons_zero]
          refine wpAnyH_take (i := 23) (oi := _) (v := Value.bool true) rfl (by kernel_rfl) (by kernel_rfl) (by kernel_rfl) (fun _ _ _ h => h) (Or.inl ⟨by rfl, fun w' hSw => ?_⟩) hHeld ?_
          · obtain ⟨t0, t1, t2, t3, t4, t5, t6, t7, t8, t9, t10, t11, t12, t13, t14⟩ := hSw
            go_simp
            try simp [*]
            try (intro hh; exfalso; omega)
            try omega
            try exact HIDE.out
          try simp only [Act.put, List.setIfInBounds_toArray, List.set_cons_zero, List.set_cons_succ, List.getElem_toArray, List.getElem_cons_succ, List.getElem_cons_zero]
          refine wpAnyH_take (i := 24) (oi := _) (v := Value.agg #[Value.int .i64 b.id, Value.int .i64 b.cls, Value.int .i64 b.made, Value.int .i64 b.size, Value.int .i64 b.packed]) rfl (by kernel_rfl) (by kernel_rfl) (by kernel_rfl) (fun _ _ _ h => h) (Or.inl ⟨by rfl, fun w' hSw => ?_⟩) hHeld ?_
          · obtain ⟨t0, t1, t2, t3, t4, t5, t6, t7, t8, t9, t10, t11, t12, t13, t14⟩ := hSw
            go_simp
            try simp [*]
            try (intro hh; exfalso; omega)
            try omega
            try exact HIDE.out
          try simp only [Act.put, List.setIfInBounds_toArray, List.set_cons_zero, List.set_cons_succ, List.getElem_toArray, List.getElem_cons_succ, List.getElem_cons_zero]
          refine wpAnyH_take (i := 25) (oi := _) (v := Value.agg #[Value.int .i64 c.id, Value.int .i64 c.cls, Value.int .i64 c.made, Value.int .i64 c.size, Value.int .i64 c.packed]) rfl (by kernel_rfl) (by kernel_rfl) (by kernel_rfl) (fun _ _ _ h => h) (Or.inl ⟨by rfl, fun w' hSw => ?_⟩) hHeld ?_
          · obtain ⟨t0, t1, t2, t3, t4, t5, t6, t7, t8, t9, t10, t11, t12, t13, t14⟩ := hSw
            go_simp
            try simp [*]
            try (intro hh; exfalso; omega)
            try omega
            try exact HIDE.out
          try simp only [Act.put, List.setIfInBounds_toArray, List.set_cons_zero, List.set_cons_succ, List.getElem_toArray, List.getElem_cons_succ, List.getElem_cons_zero]
          refine wpAnyH_ready (rs := [26]) (by kernel_rfl) (by simp) ?_
          refine AllReadyH.cons (o := _) rfl (fun K hK => ?_) (AllReadyH.nil)
          go_simp
          go_at_call 46
          refine Calls.mono (cbc _) ?_
          rintro e v2 ⟨rfl, hb⟩
          have HV2 := Lib.hid (HV1.out.trans (hb.mono HV1.out.size))
          clear hb
          clear hHeld
          refine hK.out _ _ (KS.out _ HV2.out) (fun hHeld => ?_)
          clear hK K
          try simp only [Act.put, List.setIfInBounds_toArray, List.set_cons_zero, List.set_cons_succ, List.getElem_toArray, List.getElem_cons_succ, List.getElem_cons_zero]
          refine wpAnyH_take (i := 27) (oi := _) (v := Value.bool true) rfl (by kernel_rfl) (by kernel_rfl) (by kernel_rfl) (fun _ _ _ h => h) (Or.inl ⟨by rfl, fun w' hSw => ?_⟩) hHeld ?_
          · obtain ⟨t0, t1, t2, t3, t4, t5, t6, t7, t8, t9, t10, t11, t12, t13, t14⟩ := hSw
            go_simp
            try simp [*]
            try (intro hh; exfalso; omega)
            try omega
            try exact HIDE.out
          try simp only [Act.put, List.setIfInBounds_toArray, List.set_cons_zero, List.set_cons_succ, List.getElem_toArray, List.getElem_cons_succ, List.getElem_cons_zero]
          refine wpAnyH_take (i := 28) (oi := _) (v := Value.bool true) rfl (by kernel_rfl) (by kernel_rfl) (by kernel_rfl) (fun _ _ _ h => h) (Or.inl ⟨by rfl, fun w' hSw => ?_⟩) hHeld ?_
          · obtain ⟨t0, t1, t2, t3, t4, t5, t6, t7, t8, t9, t10, t11, t12, t13, t14⟩ := hSw
            go_simp
            try simp [*]
            try (intro hh; exfalso; omega)
            try omega
            try exact HIDE.out
          try simp only [Act.put, List.setIfInBounds_toArray, List.set_cons_zero, List.set_cons_succ, List.getElem_toArray, List.getElem_cons_succ, List.getElem_cons_zero]
          refine wpAnyH_take (i := 29) (oi := _) (v := Value.agg #[Value.int .i64 a.id, Value.int .i64 a.cls, Value.int .i64 a.made, Value.int .i64 a.size, Value.int .i64 a.packed]) rfl (by kernel_rfl) (by kernel_rfl) (by kernel_rfl) (fun _ _ _ h => h) (Or.inl ⟨by rfl, fun w' hSw => ?_⟩) hHeld ?_
          · obtain ⟨t0, t1, t2, t3, t4, t5, t6, t7, t8, t9, t10, t11, t12, t13, t14⟩ := hSw
            go_simp
            try simp [*]
            try (intro hh; exfalso; omega)
            try omega
            try exact HIDE.out
          try simp only [Act.put, List.setIfInBounds_toArray, List.set_cons_zero, List.set_cons_succ, List.getElem_toArray, List.getElem_cons_succ, List.getElem_cons_zero]
          refine wpAnyH_take (i := 30) (oi := _) (v := Value.agg #[Value.int .i64 c.id, Value.int .i64 c.cls, Value.int .i64 c.made, Value.int .i64 c.size, Value.int .i64 c.packed]) rfl (by kernel_rfl) (by kernel_rfl) (by kernel_rfl) (fun _ _ _ h => h) (Or.inl ⟨by rfl, fun w' hSw => ?_⟩) hHeld ?_
          · obtain ⟨t0, t1, t2, t3, t4, t5, t6, t7, t8, t9, t10, t11, t12, t13, t14⟩ := hSw
            go_simp
            try simp [*]
            try (intro hh; exfalso; omega)
            try omega
            try exact HIDE.out
          try simp only [Act.put, List.setIfInBounds_toArray, List.set_cons_zero, List.set_cons_succ, List.getElem_toArray, List.getElem_cons_succ, List.getElem_cons_zero]
          refine wpAnyH_ready (rs := [31]) (by kernel_rfl) (by simp) ?_
          refine AllReadyH.cons (o := _) rfl (fun K hK => ?_) (AllReadyH.nil)
          go_simp
          go_at_call 46
          refine Calls.mono (cac _) ?_
          rintro e v3 ⟨rfl, hb⟩
          have HV3 := Lib.hid (HV2.out.trans (hb.mono HV2.out.size))
          clear hb
          clear hHeld
          refine hK.out _ _ (KS.out _ HV3.out) (fun hHeld => ?_)
          clear hK K
          try simp only [Act.put, List.setIfInBounds_toArray, List.set_cons_zero, List.set_cons_succ, List.getElem_toArray, List.getElem_cons_succ, List.getElem_cons_zero]
          refine wpAnyH_take (i := 32) (oi := _) (v := Value.bool false) rfl (by kernel_rfl) (by kernel_rfl) (by kernel_rfl) (fun _ _ _ h => h) (Or.inl ⟨by rfl, fun w' hSw => ?_⟩) hHeld ?_
          · obtain ⟨t0, t1, t2, t3, t4, t5, t6, t7, t8, t9, t10, t11, t12, t13, t14⟩ := hSw
            go_simp
            try simp [*]
            try (intro hh; exfalso; omega)
            try omega
            try exact HIDE.out
          try simp only [Act.put, List.setIfInBounds_toArray, List.set_cons_zero, List.set_cons_succ, List.getElem_toArray, List.getElem_cons_succ, List.getElem_cons_zero]
          refine wpAnyH_take (i := 33) (oi := _) (v := Value.bool false) rfl (by kernel_rfl) (by kernel_rfl) (by kernel_rfl) (fun _ _ _ h => h) (Or.inl ⟨by rfl, fun w' hSw => ?_⟩) hHeld ?_
          · obtain ⟨t0, t1, t2, t3, t4, t5, t6, t7, t8, t9, t10, t11, t12, t13, t14⟩ := hSw
            go_simp
            try simp [*]
            try (intro hh; exfalso; omega)
            try omega
            try exact HIDE.out
          try simp only [Act.put, List.setIfInBounds_toArray, List.set_cons_zero, List.set_cons_succ, List.getElem_toArray, List.getElem_cons_succ, List.getElem_cons_zero]
          refine wpAnyH_take (i := 34) (oi := _) (v := Value.bool false) rfl (by kernel_rfl) (by kernel_rfl) (by kernel_rfl) (fun _ _ _ h => h) (Or.inl ⟨by rfl, fun w' hSw => ?_⟩) hHeld ?_
          · obtain ⟨t0, t1, t2, t3, t4, t5, t6, t7, t8, t9, t10, t11, t12, t13, t14⟩ := hSw
            go_simp
            try simp [*]
            try (intro hh; exfalso; omega)
            try omega
            try exact HIDE.out
          try simp only [Act.put, List.setIfInBounds_toArray, List.set_cons_zero, List.set_cons_succ, List.getElem_toArray, List.getElem_cons_succ, List.getElem_cons_zero]
          refine wpAnyH_done (by kernel_rfl) ?_ _
          clear hHeld
          go_wp2_with fail
          go_meet
          case rel => exact ⟨rfl, HV3.out⟩
    · cases p
      · obtain rfl : q = true := by have h := HT.out hd; cases q; exact absurd h (by decide); rfl
        have HD := Lib.hid (show Below A.heap.size A w20.drew from HW20.out.drew)
        refine wp_region_held_drew (S := fun w' => w'.cell? ⟨w.heap.size, 0, none⟩ = some (Value.int .i64 a.id) ∧ w'.cell? ⟨w.heap.size, 1, none⟩ = some (Value.int .i64 a.cls) ∧ w'.cell? ⟨w.heap.size, 2, none⟩ = some (Value.int .i64 a.made) ∧ w'.cell? ⟨w.heap.size, 3, none⟩ = some (Value.int .i64 a.size) ∧ w'.cell? ⟨w.heap.size, 4, none⟩ = some (Value.int .i64 a.packed) ∧ w'.cell? ⟨w.heap.size + 1, 0, none⟩ = some (Value.int .i64 b.id) ∧ w'.cell? ⟨w.heap.size + 1, 1, none⟩ = some (Value.int .i64 b.cls) ∧ w'.cell? ⟨w.heap.size + 1, 2, none⟩ = some (Value.int .i64 b.made) ∧ w'.cell? ⟨w.heap.size + 1, 3, none⟩ = some (Value.int .i64 b.size) ∧ w'.cell? ⟨w.heap.size + 1, 4, none⟩ = some (Value.int .i64 b.packed) ∧ w'.cell? ⟨w.heap.size + 2, 0, none⟩ = some (Value.int .i64 c.id) ∧ w'.cell? ⟨w.heap.size + 2, 1, none⟩ = some (Value.int .i64 c.cls) ∧ w'.cell? ⟨w.heap.size + 2, 2, none⟩ = some (Value.int .i64 c.made) ∧ w'.cell? ⟨w.heap.size + 2, 3, none⟩ = some (Value.int .i64 c.size) ∧ w'.cell? ⟨w.heap.size + 2, 4, none⟩ = some (Value.int .i64 c.packed)) (by kernel_rfl) (KS.out _ HD.out) (fun hHeld => ?_)
        refine wpAnyH_take (i := 0) (oi := _) (v := Value.pointer (some ⟨w.heap.size, 0, none⟩)) rfl (by kernel_rfl) (by kernel_rfl) (by kernel_rfl) (fun _ _ _ h => h) (Or.inl ⟨by rfl, fun w' hSw => ?_⟩) hHeld ?_
        · obtain ⟨t0, t1, t2, t3, t4, t5, t6, t7, t8, t9, t10, t11, t12, t13, t14⟩ := hSw
          go_simp
          try simp [*]
          try (intro hh; exfalso; omega)
          try omega
        try simp only [Act.put, List.setIfInBounds_toArray, List.set_cons_zero, List.set_cons_succ, List.getElem_toArray, List.getElem_cons_succ, List.getElem_cons_zero]
        refine wpAnyH_take (i := 1) (oi := _) (v := Value.int .i64 a.id) rfl (by kernel_rfl) (by kernel_rfl) (by kernel_rfl) (fun _ _ _ h => h) (Or.inl ⟨by rfl, fun w' hSw => ?_⟩) hHeld ?_
        · obtain ⟨t0, t1, t2, t3, t4, t5, t6, t7, t8, t9, t10, t11, t12, t13, t14⟩ := hSw
          go_simp
          try simp [*]
          try (intro hh; exfalso; omega)
          try omega
        try simp only [Act.put, List.setIfInBounds_toArray, List.set_cons_zero, List.set_cons_succ, List.getElem_toArray, List.getElem_cons_succ, List.getElem_cons_zero]
        refine wpAnyH_take (i := 2) (oi := _) (v := Value.pointer (some ⟨w.heap.size + 1, 0, none⟩)) rfl (by kernel_rfl) (by kernel_rfl) (by kernel_rfl) (fun _ _ _ h => h) (Or.inl ⟨by rfl, fun w' hSw => ?_⟩) hHeld ?_
        · obtain ⟨t0, t1, t2, t3, t4, t5, t6, t7, t8, t9, t10, t11, t12, t13, t14⟩ := hSw
          go_simp
          try simp [*]
          try (intro hh; exfalso; omega)
          try omega
        try simp only [Act.put, List.setIfInBounds_toArray, List.set_cons_zero, List.set_cons_succ, List.getElem_toArray, List.getElem_cons_succ, List.getElem_cons_zero]
        refine wpAnyH_take (i := 3) (oi := _) (v := Value.int .i64 b.id) rfl (by kernel_rfl) (by kernel_rfl) (by kernel_rfl) (fun _ _ _ h => h) (Or.inl ⟨by rfl, fun w' hSw => ?_⟩) hHeld ?_
        · obtain ⟨t0, t1, t2, t3, t4, t5, t6, t7, t8, t9, t10, t11, t12, t13, t14⟩ := hSw
          go_simp
          try simp [*]
          try (intro hh; exfalso; omega)
          try omega
        try simp only [Act.put, List.setIfInBounds_toArray, List.set_cons_zero, List.set_cons_succ, List.getElem_toArray, List.getElem_cons_succ, List.getElem_cons_zero]
        refine wpAnyH_take (i := 4) (oi := _) (v := Value.bool true) rfl (by kernel_rfl) (by kernel_rfl) (by kernel_rfl) (fun _ _ _ h => h) (Or.inl ⟨by rfl, fun w' hSw => ?_⟩) hHeld ?_
        · obtain ⟨t0, t1, t2, t3, t4, t5, t6, t7, t8, t9, t10, t11, t12, t13, t14⟩ := hSw
          go_simp
          try simp [*]
          try (intro hh; exfalso; omega)
          try omega
        try simp only [Act.put, List.setIfInBounds_toArray, List.set_cons_zero, List.set_cons_succ, List.getElem_toArray, List.getElem_cons_succ, List.getElem_cons_zero]
        refine wpAnyH_take (i := 5) (oi := _) (v := Value.bool true) rfl (by kernel_rfl) (by kernel_rfl) (by kernel_rfl) (fun _ _ _ h => h) (Or.inl ⟨by rfl, fun w' hSw => ?_⟩) hHeld ?_
        · obtain ⟨t0, t1, t2, t3, t4, t5, t6, t7, t8, t9, t10, t11, t12, t13, t14⟩ := hSw
          go_simp
          try simp [*]
          try (intro hh; exfalso; omega)
          try omega
        try simp only [Act.put, List.setIfInBounds_toArray, List.set_cons_zero, List.set_cons_succ, List.getElem_toArray, List.getElem_cons_succ, List.getElem_cons_zero]
        refine wpAnyH_take (i := 6) (oi := _) (v := Value.agg #[Value.int .i64 a.id, Value.int .i64 a.cls, Value.int .i64 a.made, Value.int .i64 a.size, Value.int .i64 a.packed]) rfl (by kernel_rfl) (by kernel_rfl) (by kernel_rfl) (fun _ _ _ h => h) (Or.inl ⟨by rfl, fun w' hSw => ?_⟩) hHeld ?_
        · obtain ⟨t0, t1, t2, t3, t4, t5, t6, t7, t8, t9, t10, t11, t12, t13, t14⟩ := hSw
          go_simp
          try simp [*]
          try (intro hh; exfalso; omega)
          try omega
        try simp only [Act.put, List.setIfInBounds_toArray, List.set_cons_zero, List.set_cons_succ, List.getElem_toArray, List.getElem_cons_succ, List.getElem_cons_zero]
        refine wpAnyH_take (i := 7) (oi := _) (v := Value.agg #[Value.int .i64 b.id, Value.int .i64 b.cls, Value.int .i64 b.made, Value.int .i64 b.size, Value.int .i64 b.packed]) rfl (by kernel_rfl) (by kernel_rfl) (by kernel_rfl) (fun _ _ _ h => h) (Or.inl ⟨by rfl, fun w' hSw => ?_⟩) hHeld ?_
        · obtain ⟨t0, t1, t2, t3, t4, t5, t6, t7, t8, t9, t10, t11, t12, t13, t14⟩ := hSw
          go_simp
          try simp [*]
          try (intro hh; exfalso; omega)
          try omega
        try simp only [Act.put, List.setIfInBounds_toArray, List.set_cons_zero, List.set_cons_succ, List.getElem_toArray, List.getElem_cons_succ, List.getElem_cons_zero]
        refine wpAnyH_take (i := 9) (oi := _) (v := Value.agg #[Value.int .i64 b.id, Value.int .i64 b.cls, Value.int .i64 b.made, Value.int .i64 b.size, Value.int .i64 b.packed]) rfl (by kernel_rfl) (by kernel_rfl) (by kernel_rfl) (fun _ _ _ h => h) (Or.inl ⟨by rfl, fun w' hSw => ?_⟩) hHeld ?_
        · obtain ⟨t0, t1, t2, t3, t4, t5, t6, t7, t8, t9, t10, t11, t12, t13, t14⟩ := hSw
          go_simp
          try simp [*]
          try (intro hh; exfalso; omega)
          try omega
        try simp only [Act.put, List.setIfInBounds_toArray, List.set_cons_zero, List.set_cons_succ, List.getElem_toArray, List.getElem_cons_succ, List.getElem_cons_zero]
        refine wpAnyH_take (i := 10) (oi := _) (v := Value.agg #[Value.int .i64 a.id, Value.int .i64 a.cls, Value.int .i64 a.made, Value.int .i64 a.size, Value.int .i64 a.packed]) rfl (by kernel_rfl) (by kernel_rfl) (by kernel_rfl) (fun _ _ _ h => h) (Or.inl ⟨by rfl, fun w' hSw => ?_⟩) hHeld ?_
        · obtain ⟨t0, t1, t2, t3, t4, t5, t6, t7, t8, t9, t10, t11, t12, t13, t14⟩ := hSw
          go_simp
          try simp [*]
          try (intro hh; exfalso; omega)
          try omega
        try simp only [Act.put, List.setIfInBounds_toArray, List.set_cons_zero, List.set_cons_succ, List.getElem_toArray, List.getElem_cons_succ, List.getElem_cons_zero]
        refine wpAnyH_ready (rs := [8]) (by kernel_rfl) (by simp) ?_
        refine AllReadyH.cons (o := _) rfl (fun K hK => ?_) (AllReadyH.nil)
        go_simp
        go_at_call 46
        refine Calls.mono (cab _) ?_
        rintro e v0 ⟨rfl, hb⟩
        have HV0 := Lib.hid (HD.out.trans (hb.mono HD.out.size))
        clear hb
        clear hHeld
        refine hK.out _ _ (KS.out _ HV0.out) (fun hHeld => ?_)
        clear hK K
        try simp only [Act.put, List.setIfInBounds_toArray, List.set_cons_zero, List.set_cons_succ, List.getElem_toArray, List.getElem_cons_succ, List.getElem_cons_zero]
        refine wpAnyH_ready (rs := [11]) (by kernel_rfl) (by simp) ?_
        refine AllReadyH.cons (o := _) rfl (fun K hK => ?_) (AllReadyH.nil)
        go_simp
        go_at_call 46
        refine Calls.mono (cba _) ?_
        rintro e v1 ⟨rfl, hb⟩
        have HV1 := Lib.hid (HV0.out.trans (hb.mono HV0.out.size))
        clear hb
        clear hHeld
        refine hK.out _ _ (KS.out _ HV1.out) (fun hHeld => ?_)
        clear hK K
        try simp only [Act.put, List.setIfInBounds_toArray, List.set_cons_zero, List.set_cons_succ, List.getElem_toArray, List.getElem_cons_succ, List.getElem_cons_zero]
        refine wpAnyH_take (i := 12) (oi := _) (v := Value.bool false) rfl (by kernel_rfl) (by kernel_rfl) (by kernel_rfl) (fun _ _ _ h => h) (Or.inl ⟨by rfl, fun w' hSw => ?_⟩) hHeld ?_
        · obtain ⟨t0, t1, t2, t3, t4, t5, t6, t7, t8, t9, t10, t11, t12, t13, t14⟩ := hSw
          go_simp
          try simp [*]
          try (intro hh; exfalso; omega)
          try omega
        try simp only [Act.put, List.setIfInBounds_toArray, List.set_cons_zero, List.set_cons_succ, List.getElem_toArray, List.getElem_cons_succ, List.getElem_cons_zero]
        refine wpAnyH_take (i := 13) (oi := _) (v := Value.bool false) rfl (by kernel_rfl) (by kernel_rfl) (by kernel_rfl) (fun _ _ _ h => h) (Or.inl ⟨by rfl, fun w' hSw => ?_⟩) hHeld ?_
        · obtain ⟨t0, t1, t2, t3, t4, t5, t6, t7, t8, t9, t10, t11, t12, t13, t14⟩ := hSw
          go_simp
          try simp [*]
          try (intro hh; exfalso; omega)
          try omega
        try simp only [Act.put, List.setIfInBounds_toArray, List.set_cons_zero, List.set_cons_succ, List.getElem_toArray, List.getElem_cons_succ, List.getElem_cons_zero]
        refine wpAnyH_take (i := 14) (oi := _) (v := Value.bool false) rfl (by kernel_rfl) (by kernel_rfl) (by kernel_rfl) (fun _ _ _ h => h) (Or.inl ⟨by rfl, fun w' hSw => ?_⟩) hHeld ?_
        · obtain ⟨t0, t1, t2, t3, t4, t5, t6, t7, t8, t9, t10, t11, t12, t13, t14⟩ := hSw
          go_simp
          try simp [*]
          try (intro hh; exfalso; omega)
          try omega
        try simp only [Act.put, List.setIfInBounds_toArray, List.set_cons_zero, List.set_cons_succ, List.getElem_toArray, List.getElem_cons_succ, List.getElem_cons_zero]
        refine wpAnyH_take (i := 15) (oi := _) (v := Value.agg #[Value.int .i64 a.id, Value.int .i64 a.cls, Value.int .i64 a.made, Value.int .i64 a.size, Value.int .i64 a.packed]) rfl (by kernel_rfl) (by kernel_rfl) (by kernel_rfl) (fun _ _ _ h => h) (Or.inl ⟨by rfl, fun w' hSw => ?_⟩) hHeld ?_
        · obtain ⟨t0, t1, t2, t3, t4, t5, t6, t7, t8, t9, t10, t11, t12, t13, t14⟩ := hSw
          go_simp
          try simp [*]
          try (intro hh; exfalso; omega)
          try omega
        try simp only [Act.put, List.setIfInBounds_toArray, List.set_cons_zero, List.set_cons_succ, List.getElem_toArray, List.getElem_cons_succ, List.getElem_cons_zero]
        refine wpAnyH_take (i := 16) (oi := _) (v := Value.agg #[Value.int .i64 a.id, Value.int .i64 a.cls, Value.int .i64 a.made, Value.int .i64 a.size, Value.int .i64 a.packed]) rfl (by kernel_rfl) (by kernel_rfl) (by kernel_rfl) (fun _ _ _ h => h) (Or.inl ⟨by rfl, fun w' hSw => ?_⟩) hHeld ?_
        · obtain ⟨t0, t1, t2, t3, t4, t5, t6, t7, t8, t9, t10, t11, t12, t13, t14⟩ := hSw
          go_simp
          try simp [*]
          try (intro hh; exfalso; omega)
          try omega
        try simp only [Act.put, List.setIfInBounds_toArray, List.set_cons_zero, List.set_cons_succ, List.getElem_toArray, List.getElem_cons_succ, List.getElem_cons_zero]
        refine wpAnyH_ready (rs := [17]) (by kernel_rfl) (by simp) ?_
        refine AllReadyH.cons (o := _) rfl (fun K hK => ?_) (AllReadyH.nil)
        go_simp
        go_at_call 46
        refine Calls.mono (caa _) ?_
        rintro e v2 ⟨rfl, hb⟩
        have HV2 := Lib.hid (HV1.out.trans (hb.mono HV1.out.size))
        clear hb
        clear hHeld
        refine hK.out _ _ (KS.out _ HV2.out) (fun hHeld => ?_)
        clear hK K
        try simp only [Act.put, List.setIfInBounds_toArray, List.set_cons_zero, List.set_cons_succ, List.getElem_toArray, List.getElem_cons_succ, List.getElem_cons_zero]
        refine wpAnyH_take (i := 18) (oi := _) (v := Value.bool false) rfl (by kernel_rfl) (by kernel_rfl) (by kernel_rfl) (fun _ _ _ h => h) (Or.inl ⟨by rfl, fun w' hSw => ?_⟩) hHeld ?_
        · obtain ⟨t0, t1, t2, t3, t4, t5, t6, t7, t8, t9, t10, t11, t12, t13, t14⟩ := hSw
          go_simp
          try simp [*]
          try (intro hh; exfalso; omega)
          try omega
        try simp only [Act.put, List.setIfInBounds_toArray, List.set_cons_zero, List.set_cons_succ, List.getElem_toArray, List.getElem_cons_succ, List.getElem_cons_zero]
        refine wpAnyH_take (i := 19) (oi := _) (v := Value.bool false) rfl (by kernel_rfl) (by kernel_rfl) (by kernel_rfl) (fun _ _ _ h => h) (Or.inl ⟨by rfl, fun w' hSw => ?_⟩) hHeld ?_
        · obtain ⟨t0, t1, t2, t3, t4, t5, t6, t7, t8, t9, t10, t11, t12, t13, t14⟩ := hSw
          go_simp
          try simp [*]
          try (intro hh; exfalso; omega)
          try omega
        try simp only [Act.put, List.setIfInBounds_toArray, List.set_cons_zero, List.set_cons_succ, List.getElem_toArray, List.getElem_cons_succ, List.getElem_cons_zero]
        refine wpAnyH_take (i := 20) (oi := _) (v := Value.agg #[Value.int .i64 a.id, Value.int .i64 a.cls, Value.int .i64 a.made, Value.int .i64 a.size, Value.int .i64 a.packed]) rfl (by kernel_rfl) (by kernel_rfl) (by kernel_rfl) (fun _ _ _ h => h) (Or.inl ⟨by rfl, fun w' hSw => ?_⟩) hHeld ?_
        · obtain ⟨t0, t1, t2, t3, t4, t5, t6, t7, t8, t9, t10, t11, t12, t13, t14⟩ := hSw
          go_simp
          try simp [*]
          try (intro hh; exfalso; omega)
          try omega
        try simp only [Act.put, List.setIfInBounds_toArray, List.set_cons_zero, List.set_cons_succ, List.getElem_toArray, List.getElem_cons_succ, List.getElem_cons_zero]
        refine wpAnyH_take (i := 21) (oi := _) (v := Value.agg #[Value.int .i64 b.id, Value.int .i64 b.cls, Value.int .i64 b.made, Value.int .i64 b.size, Value.int .i64 b.packed]) rfl (by kernel_rfl) (by kernel_rfl) (by kernel_rfl) (fun _ _ _ h => h) (Or.inl ⟨by rfl, fun w' hSw => ?_⟩) hHeld ?_
        · obtain ⟨t0, t1, t2, t3, t4, t5, t6, t7, t8, t9, t10, t11, t12, t13, t14⟩ := hSw
          go_simp
          try simp [*]
          try (intro hh; exfalso; omega)
          try omega
        try simp only [Act.put, List.setIfInBounds_toArray, List.set_cons_zero, List.set_cons_succ, List.getElem_toArray, List.getElem_cons_succ, List.getElem_cons_zero]
        refine wpAnyH_ready (rs := [22]) (by kernel_rfl) (by simp) ?_
        refine AllReadyH.cons (o := _) rfl (fun K hK => ?_) (AllReadyH.nil)
        go_simp
        go_at_call 46
        refine Calls.mono (cab _) ?_
        rintro e v3 ⟨rfl, hb⟩
        have HV3 := Lib.hid (HV2.out.trans (hb.mono HV2.out.size))
        clear hb
        clear hHeld
        refine hK.out _ _ (KS.out _ HV3.out) (fun hHeld => ?_)
        clear hK K
        try simp only [Act.put, List.setIfInBounds_toArray, List.set_cons_zero, List.set_cons_succ, List.getElem_toArray, List.getElem_cons_succ, List.getElem_cons_zero]
        refine wpAnyH_take (i := 23) (oi := _) (v := Value.bool false) rfl (by kernel_rfl) (by kernel_rfl) (by kernel_rfl) (fun _ _ _ h => h) (Or.inl ⟨by rfl, fun w' hSw => ?_⟩) hHeld ?_
        · obtain ⟨t0, t1, t2, t3, t4, t5, t6, t7, t8, t9, t10, t11, t12, t13, t14⟩ := hSw
          go_simp
          try simp [*]
          try (intro hh; exfalso; omega)
          try omega
        try simp only [Act.put, List.setIfInBounds_toArray, List.set_cons_zero, List.set_cons_succ, List.getElem_toArray, List.getElem_cons_succ, List.getElem_cons_zero]
        refine wpAnyH_take (i := 24) (oi := _) (v := undef) rfl (by kernel_rfl) (by kernel_rfl) (by kernel_rfl) (fun _ _ _ h => h) (Or.inr ⟨by rfl, rfl⟩) hHeld ?_
        try simp only [Act.put, List.setIfInBounds_toArray, List.set_cons_zero, List.set_cons_succ, List.getElem_toArray, List.getElem_cons_succ, List.getElem_cons_zero]
        refine wpAnyH_take (i := 25) (oi := _) (v := undef) rfl (by kernel_rfl) (by kernel_rfl) (by kernel_rfl) (fun _ _ _ h => h) (Or.inr ⟨by rfl, rfl⟩) hHeld ?_
        try simp only [Act.put, List.setIfInBounds_toArray, List.set_cons_zero, List.set_cons_succ, List.getElem_toArray, List.getElem_cons_succ, List.getElem_cons_zero]
        refine wpAnyH_take (i := 26) (oi := _) (v := undef) rfl (by kernel_rfl) (by kernel_rfl) (by kernel_rfl) (fun _ _ _ h => h) (Or.inr ⟨by rfl, rfl⟩) hHeld ?_
        try simp only [Act.put, List.setIfInBounds_toArray, List.set_cons_zero, List.set_cons_succ, List.getElem_toArray, List.getElem_cons_succ, List.getElem_cons_zero]
        refine wpAnyH_take (i := 27) (oi := _) (v := Value.bool false) rfl (by kernel_rfl) (by kernel_rfl) (by kernel_rfl) (fun _ _ _ h => h) (Or.inl ⟨by rfl, fun w' hSw => ?_⟩) hHeld ?_
        · obtain ⟨t0, t1, t2, t3, t4, t5, t6, t7, t8, t9, t10, t11, t12, t13, t14⟩ := hSw
          go_simp
          try simp [*]
          try (intro hh; exfalso; omega)
          try omega
        try simp only [Act.put, List.setIfInBounds_toArray, List.set_cons_zero, List.set_cons_succ, List.getElem_toArray, List.getElem_cons_succ, List.getElem_cons_zero]
        refine wpAnyH_take (i := 28) (oi := _) (v := Value.bool false) rfl (by kernel_rfl) (by kernel_rfl) (by kernel_rfl) (fun _ _ _ h => h) (Or.inl ⟨by rfl, fun w' hSw => ?_⟩) hHeld ?_
        · obtain ⟨t0, t1, t2, t3, t4, t5, t6, t7, t8, t9, t10, t11, t12, t13, t14⟩ := hSw
          go_simp
          try simp [*]
          try (intro hh; exfalso; omega)
          try omega
        try simp only [Act.put, List.setIfInBounds_toArray, List.set_cons_zero, List.set_cons_succ, List.getElem_toArray, List.getElem_cons_succ, List.getElem_cons_zero]
        refine wpAnyH_take (i := 29) (oi := _) (v := undef) rfl (by kernel_rfl) (by kernel_rfl) (by kernel_rfl) (fun _ _ _ h => h) (Or.inr ⟨by rfl, rfl⟩) hHeld ?_
        try simp only [Act.put, List.setIfInBounds_toArray, List.set_cons_zero, List.set_cons_succ, List.getElem_toArray, List.getElem_cons_succ, List.getElem_cons_zero]
        refine wpAnyH_take (i := 30) (oi := _) (v := undef) rfl (by kernel_rfl) (by kernel_rfl) (by kernel_rfl) (fun _ _ _ h => h) (Or.inr ⟨by rfl, rfl⟩) hHeld ?_
        try simp only [Act.put, List.setIfInBounds_toArray, List.set_cons_zero, List.set_cons_succ, List.getElem_toArray, List.getElem_cons_succ, List.getElem_cons_zero]
        refine wpAnyH_take (i := 31) (oi := _) (v := undef) rfl (by kernel_rfl) (by kernel_rfl) (by kernel_rfl) (fun _ _ _ h => h) (Or.inr ⟨by rfl, rfl⟩) hHeld ?_
        try simp only [Act.put, List.setIfInBounds_toArray, List.set_cons_zero, List.set_cons_succ, List.getElem_toArray, List.getElem_cons_succ, List.getElem_cons_zero]
        refine wpAnyH_take (i := 32) (oi := _) (v := undef) rfl (by kernel_rfl) (by kernel_rfl) (by kernel_rfl) (fun _ _ _ h => h) (Or.inr ⟨by rfl, rfl⟩) hHeld ?_
        try simp only [Act.put, List.setIfInBounds_toArray, List.set_cons_zero, List.set_cons_succ, List.getElem_toArray, List.getElem_cons_succ, List.getElem_cons_zero]
        refine wpAnyH_take (i := 33) (oi := _) (v := Value.bool false) rfl (by kernel_rfl) (by kernel_rfl) (by kernel_rfl) (fun _ _ _ h => h) (Or.inl ⟨by rfl, fun w' hSw => ?_⟩) hHeld ?_
        · obtain ⟨t0, t1, t2, t3, t4, t5, t6, t7, t8, t9, t10, t11, t12, t13, t14⟩ := hSw
          go_simp
          try simp [*]
          try (intro hh; exfalso; omega)
          try omega
        try simp only [Act.put, List.setIfInBounds_toArray, List.set_cons_zero, List.set_cons_succ, List.getElem_toArray, List.getElem_cons_succ, List.getElem_cons_zero]
        refine wpAnyH_take (i := 34) (oi := _) (v := Value.bool false) rfl (by kernel_rfl) (by kernel_rfl) (by kernel_rfl) (fun _ _ _ h => h) (Or.inl ⟨by rfl, fun w' hSw => ?_⟩) hHeld ?_
        · obtain ⟨t0, t1, t2, t3, t4, t5, t6, t7, t8, t9, t10, t11, t12, t13, t14⟩ := hSw
          go_simp
          try simp [*]
          try (intro hh; exfalso; omega)
          try omega
        try simp only [Act.put, List.setIfInBounds_toArray, List.set_cons_zero, List.set_cons_succ, List.getElem_toArray, List.getElem_cons_succ, List.getElem_cons_zero]
        refine wpAnyH_done (by kernel_rfl) ?_ _
        clear hHeld
        go_wp2_with fail
        go_meet
        case rel => exact ⟨rfl, HV3.out⟩
      · cases r
        · obtain rfl : q = false := by have h := HT.out hd; cases q; rfl; exact absurd h (by decide)
          have HD := Lib.hid (show Below A.heap.size A w20.drew from HW20.out.drew)
          refine wp_region_held_drew (S := fun w' => w'.cell? ⟨w.heap.size, 0, none⟩ = some (Value.int .i64 a.id) ∧ w'.cell? ⟨w.heap.size, 1, none⟩ = some (Value.int .i64 a.cls) ∧ w'.cell? ⟨w.heap.size, 2, none⟩ = some (Value.int .i64 a.made) ∧ w'.cell? ⟨w.heap.size, 3, none⟩ = some (Value.int .i64 a.size) ∧ w'.cell? ⟨w.heap.size, 4, none⟩ = some (Value.int .i64 a.packed) ∧ w'.cell? ⟨w.heap.size + 1, 0, none⟩ = some (Value.int .i64 b.id) ∧ w'.cell? ⟨w.heap.size + 1, 1, none⟩ = some (Value.int .i64 b.cls) ∧ w'.cell? ⟨w.heap.size + 1, 2, none⟩ = some (Value.int .i64 b.made) ∧ w'.cell? ⟨w.heap.size + 1, 3, none⟩ = some (Value.int .i64 b.size) ∧ w'.cell? ⟨w.heap.size + 1, 4, none⟩ = some (Value.int .i64 b.packed) ∧ w'.cell? ⟨w.heap.size + 2, 0, none⟩ = some (Value.int .i64 c.id) ∧ w'.cell? ⟨w.heap.size + 2, 1, none⟩ = some (Value.int .i64 c.cls) ∧ w'.cell? ⟨w.heap.size + 2, 2, none⟩ = some (Value.int .i64 c.made) ∧ w'.cell? ⟨w.heap.size + 2, 3, none⟩ = some (Value.int .i64 c.size) ∧ w'.cell? ⟨w.heap.size + 2, 4, none⟩ = some (Value.int .i64 c.packed)) (by kernel_rfl) (KS.out _ HD.out) (fun hHeld => ?_)
          refine wpAnyH_take (i := 0) (oi := _) (v := Value.pointer (some ⟨w.heap.size, 0, none⟩)) rfl (by kernel_rfl) (by kernel_rfl) (by kernel_rfl) (fun _ _ _ h => h) (Or.inl ⟨by rfl, fun w' hSw => ?_⟩) hHeld ?_
          · obtain ⟨t0, t1, t2, t3, t4, t5, t6, t7, t8, t9, t10, t11, t12, t13, t14⟩ := hSw
            go_simp
            try simp [*]
            try (intro hh; exfalso; omega)
            try omega
          try simp only [Act.put, List.setIfInBounds_toArray, List.set_cons_zero, List.set_cons_succ, List.getElem_toArray, List.getElem_cons_succ, List.getElem_cons_zero]
          refine wpAnyH_take (i := 1) (oi := _) (v := Value.int .i64 a.id) rfl (by kernel_rfl) (by kernel_rfl) (by kernel_rfl) (fun _ _ _ h => h) (Or.inl ⟨by rfl, fun w' hSw => ?_⟩) hHeld ?_
          · obtain ⟨t0, t1, t2, t3, t4, t5, t6, t7, t8, t9, t10, t11, t12, t13, t14⟩ := hSw
            go_simp
            try simp [*]
            try (intro hh; exfalso; omega)
            try omega
          try simp only [Act.put, List.setIfInBounds_toArray, List.set_cons_zero, List.set_cons_succ, List.getElem_toArray, List.getElem_cons_succ, List.getElem_cons_zero]
          refine wpAnyH_take (i := 2) (oi := _) (v := Value.pointer (some ⟨w.heap.size + 1, 0, none⟩)) rfl (by kernel_rfl) (by kernel_rfl) (by kernel_rfl) (fun _ _ _ h => h) (Or.inl ⟨by rfl, fun w' hSw => ?_⟩) hHeld ?_
          · obtain ⟨t0, t1, t2, t3, t4, t5, t6, t7, t8, t9, t10, t11, t12, t13, t14⟩ := hSw
            go_simp
            try simp [*]
            try (intro hh; exfalso; omega)
            try omega
          try simp only [Act.put, List.setIfInBounds_toArray, List.set_cons_zero, List.set_cons_succ, List.getElem_toArray, List.getElem_cons_succ, List.getElem_cons_zero]
          refine wpAnyH_take (i := 3) (oi := _) (v := Value.int .i64 b.id) rfl (by kernel_rfl) (by kernel_rfl) (by kernel_rfl) (fun _ _ _ h => h) (Or.inl ⟨by rfl, fun w' hSw => ?_⟩) hHeld ?_
          · obtain ⟨t0, t1, t2, t3, t4, t5, t6, t7, t8, t9, t10, t11, t12, t13, t14⟩ := hSw
            go_simp
            try simp [*]
            try (intro hh; exfalso; omega)
            try omega
          try simp only [Act.put, List.setIfInBounds_toArray, List.set_cons_zero, List.set_cons_succ, List.getElem_toArray, List.getElem_cons_succ, List.getElem_cons_zero]
          refine wpAnyH_take (i := 4) (oi := _) (v := Value.bool true) rfl (by kernel_rfl) (by kernel_rfl) (by kernel_rfl) (fun _ _ _ h => h) (Or.inl ⟨by rfl, fun w' hSw => ?_⟩) hHeld ?_
          · obtain ⟨t0, t1, t2, t3, t4, t5, t6, t7, t8, t9, t10, t11, t12, t13, t14⟩ := hSw
            go_simp
            try simp [*]
            try (intro hh; exfalso; omega)
            try omega
          try simp only [Act.put, List.setIfInBounds_toArray, List.set_cons_zero, List.set_cons_succ, List.getElem_toArray, List.getElem_cons_succ, List.getElem_cons_zero]
          refine wpAnyH_take (i := 5) (oi := _) (v := Value.bool true) rfl (by kernel_rfl) (by kernel_rfl) (by kernel_rfl) (fun _ _ _ h => h) (Or.inl ⟨by rfl, fun w' hSw => ?_⟩) hHeld ?_
          · obtain ⟨t0, t1, t2, t3, t4, t5, t6, t7, t8, t9, t10, t11, t12, t13, t14⟩ := hSw
            go_simp
            try simp [*]
            try (intro hh; exfalso; omega)
            try omega
          try simp only [Act.put, List.setIfInBounds_toArray, List.set_cons_zero, List.set_cons_succ, List.getElem_toArray, List.getElem_cons_succ, List.getElem_cons_zero]
          refine wpAnyH_take (i := 6) (oi := _) (v := Value.agg #[Value.int .i64 a.id, Value.int .i64 a.cls, Value.int .i64 a.made, Value.int .i64 a.size, Value.int .i64 a.packed]) rfl (by kernel_rfl) (by kernel_rfl) (by kernel_rfl) (fun _ _ _ h => h) (Or.inl ⟨by rfl, fun w' hSw => ?_⟩) hHeld ?_
          · obtain ⟨t0, t1, t2, t3, t4, t5, t6, t7, t8, t9, t10, t11, t12, t13, t14⟩ := hSw
            go_simp
            try simp [*]
            try (intro hh; exfalso; omega)
            try omega
          try simp only [Act.put, List.setIfInBounds_toArray, List.set_cons_zero, List.set_cons_succ, List.getElem_toArray, List.getElem_cons_succ, List.getElem_cons_zero]
          refine wpAnyH_take (i := 7) (oi := _) (v := Value.agg #[Value.int .i64 b.id, Value.int .i64 b.cls, Value.int .i64 b.made, Value.int .i64 b.size, Value.int .i64 b.packed]) rfl (by kernel_rfl) (by kernel_rfl) (by kernel_rfl) (fun _ _ _ h => h) (Or.inl ⟨by rfl, fun w' hSw => ?_⟩) hHeld ?_
          · obtain ⟨t0, t1, t2, t3, t4, t5, t6, t7, t8, t9, t10, t11, t12, t13, t14⟩ := hSw
            go_simp
            try simp [*]
            try (intro hh; exfalso; omega)
            try omega
          try simp only [Act.put, List.setIfInBounds_toArray, List.set_cons_zero, List.set_cons_succ, List.getElem_toArray, List.getElem_cons_succ, List.getElem_cons_zero]
          refine wpAnyH_take (i := 9) (oi := _) (v := Value.agg #[Value.int .i64 b.id, Value.int .i64 b.cls, Value.int .i64 b.made, Value.int .i64 b.size, Value.int .i64 b.packed]) rfl (by kernel_rfl) (by kernel_rfl) (by kernel_rfl) (fun _ _ _ h => h) (Or.inl ⟨by rfl, fun w' hSw => ?_⟩) hHeld ?_
          · obtain ⟨t0, t1, t2, t3, t4, t5, t6, t7, t8, t9, t10, t11, t12, t13, t14⟩ := hSw
            go_simp
            try simp [*]
            try (intro hh; exfalso; omega)
            try omega
          try simp only [Act.put, List.setIfInBounds_toArray, List.set_cons_zero, List.set_cons_succ, List.getElem_toArray, List.getElem_cons_succ, List.getElem_cons_zero]
          refine wpAnyH_take (i := 10) (oi := _) (v := Value.agg #[Value.int .i64 a.id, Value.int .i64 a.cls, Value.int .i64 a.made, Value.int .i64 a.size, Value.int .i64 a.packed]) rfl (by kernel_rfl) (by kernel_rfl) (by kernel_rfl) (fun _ _ _ h => h) (Or.inl ⟨by rfl, fun w' hSw => ?_⟩) hHeld ?_
          · obtain ⟨t0, t1, t2, t3, t4, t5, t6, t7, t8, t9, t10, t11, t12, t13, t14⟩ := hSw
            go_simp
            try simp [*]
            try (intro hh; exfalso; omega)
            try omega
          try simp only [Act.put, List.setIfInBounds_toArray, List.set_cons_zero, List.set_cons_succ, List.getElem_toArray, List.getElem_cons_succ, List.getElem_cons_zero]
          refine wpAnyH_ready (rs := [8]) (by kernel_rfl) (by simp) ?_
          refine AllReadyH.cons (o := _) rfl (fun K hK => ?_) (AllReadyH.nil)
          go_simp
          go_at_call 46
          refine Calls.mono (cab _) ?_
          rintro e v0 ⟨rfl, hb⟩
          have HV0 := Lib.hid (HD.out.trans (hb.mono HD.out.size))
          clear hb
          clear hHeld
          refine hK.out _ _ (KS.out _ HV0.out) (fun hHeld => ?_)
          clear hK K
          try simp only [Act.put, List.setIfInBounds_toArray, List.set_cons_zero, List.set_cons_succ, List.getElem_toArray, List.getElem_cons_succ, List.getElem_cons_zero]
          refine wpAnyH_ready (rs := [11]) (by kernel_rfl) (by simp) ?_
          refine AllReadyH.cons (o := _) rfl (fun K hK => ?_) (AllReadyH.nil)
          go_simp
          go_at_call 46
          refine Calls.mono (cba _) ?_
          rintro e v1 ⟨rfl, hb⟩
          have HV1 := Lib.hid (HV0.out.trans (hb.mono HV0.out.size))
          clear hb
          clear hHeld
          refine hK.out _ _ (KS.out _ HV1.out) (fun hHeld => ?_)
          clear hK K
          try simp only [Act.put, List.setIfInBounds_toArray, List.set_cons_zero, List.set_cons_succ, List.getElem_toArray, List.getElem_cons_succ, List.getElem_cons_zero]
          refine wpAnyH_take (i := 12) (oi := _) (v := Value.bool false) rfl (by kernel_rfl) (by kernel_rfl) (by kernel_rfl) (fun _ _ _ h => h) (Or.inl ⟨by rfl, fun w' hSw => ?_⟩) hHeld ?_
          · obtain ⟨t0, t1, t2, t3, t4, t5, t6, t7, t8, t9, t10, t11, t12, t13, t14⟩ := hSw
            go_simp
            try simp [*]
            try (intro hh; exfalso; omega)
            try omega
          try simp only [Act.put, List.setIfInBounds_toArray, List.set_cons_zero, List.set_cons_succ, List.getElem_toArray, List.getElem_cons_succ, List.getElem_cons_zero]
          refine wpAnyH_take (i := 13) (oi := _) (v := Value.bool false) rfl (by kernel_rfl) (by kernel_rfl) (by kernel_rfl) (fun _ _ _ h => h) (Or.inl ⟨by rfl, fun w' hSw => ?_⟩) hHeld ?_
          · obtain ⟨t0, t1, t2, t3, t4, t5, t6, t7, t8, t9, t10, t11, t12, t13, t14⟩ := hSw
            go_simp
            try simp [*]
            try (intro hh; exfalso; omega)
            try omega
          try simp only [Act.put, List.setIfInBounds_toArray, List.set_cons_zero, List.set_cons_succ, List.getElem_toArray, List.getElem_cons_succ, List.getElem_cons_zero]
          refine wpAnyH_take (i := 14) (oi := _) (v := Value.bool false) rfl (by kernel_rfl) (by kernel_rfl) (by kernel_rfl) (fun _ _ _ h => h) (Or.inl ⟨by rfl, fun w' hSw => ?_⟩) hHeld ?_
          · obtain ⟨t0, t1, t2, t3, t4, t5, t6, t7, t8, t9, t10, t11, t12, t13, t14⟩ := hSw
            go_simp
            try simp [*]
            try (intro hh; exfalso; omega)
            try omega
          try simp only [Act.put, List.setIfInBounds_toArray, List.set_cons_zero, List.set_cons_succ, List.getElem_toArray, List.getElem_cons_succ, List.getElem_cons_zero]
          refine wpAnyH_take (i := 15) (oi := _) (v := Value.agg #[Value.int .i64 a.id, Value.int .i64 a.cls, Value.int .i64 a.made, Value.int .i64 a.size, Value.int .i64 a.packed]) rfl (by kernel_rfl) (by kernel_rfl) (by kernel_rfl) (fun _ _ _ h => h) (Or.inl ⟨by rfl, fun w' hSw => ?_⟩) hHeld ?_
          · obtain ⟨t0, t1, t2, t3, t4, t5, t6, t7, t8, t9, t10, t11, t12, t13, t14⟩ := hSw
            go_simp
            try simp [*]
            try (intro hh; exfalso; omega)
            try omega
          try simp only [Act.put, List.setIfInBounds_toArray, List.set_cons_zero, List.set_cons_succ, List.getElem_toArray, List.getElem_cons_succ, List.getElem_cons_zero]
          refine wpAnyH_take (i := 16) (oi := _) (v := Value.agg #[Value.int .i64 a.id, Value.int .i64 a.cls, Value.int .i64 a.made, Value.int .i64 a.size, Value.int .i64 a.packed]) rfl (by kernel_rfl) (by kernel_rfl) (by kernel_rfl) (fun _ _ _ h => h) (Or.inl ⟨by rfl, fun w' hSw => ?_⟩) hHeld ?_
          · obtain ⟨t0, t1, t2, t3, t4, t5, t6, t7, t8, t9, t10, t11, t12, t13, t14⟩ := hSw
            go_simp
            try simp [*]
            try (intro hh; exfalso; omega)
            try omega
          try simp only [Act.put, List.setIfInBounds_toArray, List.set_cons_zero, List.set_cons_succ, List.getElem_toArray, List.getElem_cons_succ, List.getElem_cons_zero]
          refine wpAnyH_ready (rs := [17]) (by kernel_rfl) (by simp) ?_
          refine AllReadyH.cons (o := _) rfl (fun K hK => ?_) (AllReadyH.nil)
          go_simp
          go_at_call 46
          refine Calls.mono (caa _) ?_
          rintro e v2 ⟨rfl, hb⟩
          have HV2 := Lib.hid (HV1.out.trans (hb.mono HV1.out.size))
          clear hb
          clear hHeld
          refine hK.out _ _ (KS.out _ HV2.out) (fun hHeld => ?_)
          clear hK K
          try simp only [Act.put, List.setIfInBounds_toArray, List.set_cons_zero, List.set_cons_succ, List.getElem_toArray, List.getElem_cons_succ, List.getElem_cons_zero]
          refine wpAnyH_take (i := 18) (oi := _) (v := Value.bool false) rfl (by kernel_rfl) (by kernel_rfl) (by kernel_rfl) (fun _ _ _ h => h) (Or.inl ⟨by rfl, fun w' hSw => ?_⟩) hHeld ?_
          · obtain ⟨t0, t1, t2, t3, t4, t5, t6, t7, t8, t9, t10, t11, t12, t13, t14⟩ := hSw
            go_simp
            try simp [*]
            try (intro hh; exfalso; omega)
            try omega
          try simp only [Act.put, List.setIfInBounds_toArray, List.set_cons_zero, List.set_cons_succ, List.getElem_toArray, List.getElem_cons_succ, List.getElem_cons_zero]
          refine wpAnyH_take (i := 19) (oi := _) (v := Value.bool false) rfl (by kernel_rfl) (by kernel_rfl) (by kernel_rfl) (fun _ _ _ h => h) (Or.inl ⟨by rfl, fun w' hSw => ?_⟩) hHeld ?_
          · obtain ⟨t0, t1, t2, t3, t4, t5, t6, t7, t8, t9, t10, t11, t12, t13, t14⟩ := hSw
            go_simp
            try simp [*]
            try (intro hh; exfalso; omega)
            try omega
          try simp only [Act.put, List.setIfInBounds_toArray, List.set_cons_zero, List.set_cons_succ, List.getElem_toArray, List.getElem_cons_succ, List.getElem_cons_zero]
          refine wpAnyH_take (i := 20) (oi := _) (v := Value.agg #[Value.int .i64 a.id, Value.int .i64 a.cls, Value.int .i64 a.made, Value.int .i64 a.size, Value.int .i64 a.packed]) rfl (by kernel_rfl) (by kernel_rfl) (by kernel_rfl) (fun _ _ _ h => h) (Or.inl ⟨by rfl, fun w' hSw => ?_⟩) hHeld ?_
          · obtain ⟨t0, t1, t2, t3, t4, t5, t6, t7, t8, t9, t10, t11, t12, t13, t14⟩ := hSw
            go_simp
            try simp [*]
            try (intro hh; exfalso; omega)
            try omega
          try simp only [Act.put, List.setIfInBounds_toArray, List.set_cons_zero, List.set_cons_succ, List.getElem_toArray, List.getElem_cons_succ, List.getElem_cons_zero]
          refine wpAnyH_take (i := 21) (oi := _) (v := Value.agg #[Value.int .i64 b.id, Value.int .i64 b.cls, Value.int .i64 b.made, Value.int .i64 b.size, Value.int .i64 b.packed]) rfl (by kernel_rfl) (by kernel_rfl) (by kernel_rfl) (fun _ _ _ h => h) (Or.inl ⟨by rfl, fun w' hSw => ?_⟩) hHeld ?_
          · obtain ⟨t0, t1, t2, t3, t4, t5, t6, t7, t8, t9, t10, t11, t12, t13, t14⟩ := hSw
            go_simp
            try simp [*]
            try (intro hh; exfalso; omega)
            try omega
          try simp only [Act.put, List.setIfInBounds_toArray, List.set_cons_zero, List.set_cons_succ, List.getElem_toArray, List.getElem_cons_succ, List.getElem_cons_zero]
          refine wpAnyH_ready (rs := [22]) (by kernel_rfl) (by simp) ?_
          refine AllReadyH.cons (o := _) rfl (fun K hK => ?_) (AllReadyH.nil)
          go_simp
          go_at_call 46
          refine Calls.mono (cab _) ?_
          rintro e v3 ⟨rfl, hb⟩
          have HV3 := Lib.hid (HV2.out.trans (hb.mono HV2.out.size))
          clear hb
          clear hHeld
          refine hK.out _ _ (KS.out _ HV3.out) (fun hHeld => ?_)
          clear hK K
          try simp only [Act.put, List.setIfInBounds_toArray, List.set_cons_zero, List.set_cons_succ, List.getElem_toArray, List.getElem_cons_succ, List.getElem_cons_zero]
          refine wpAnyH_take (i := 23) (oi := _) (v := Value.bool true) rfl (by kernel_rfl) (by kernel_rfl) (by kernel_rfl) (fun _ _ _ h => h) (Or.inl ⟨by rfl, fun w' hSw => ?_⟩) hHeld ?_
          · obtain ⟨t0, t1, t2, t3, t4, t5, t6, t7, t8, t9, t10, t11, t12, t13, t14⟩ := hSw
            go_simp
            try simp [*]
            try (intro hh; exfalso; omega)
            try omega
          try simp only [Act.put, List.setIfInBounds_toArray, List.set_cons_zero, List.set_cons_succ, List.getElem_toArray, List.getElem_cons_succ, List.getElem_cons_zero]
          refine wpAnyH_take (i := 24) (oi := _) (v := Value.agg #[Value.int .i64 b.id, Value.int .i64 b.cls, Value.int .i64 b.made, Value.int .i64 b.size, Value.int .i64 b.packed]) rfl (by kernel_rfl) (by kernel_rfl) (by kernel_rfl) (fun _ _ _ h => h) (Or.inl ⟨by rfl, fun w' hSw => ?_⟩) hHeld ?_
          · obtain ⟨t0, t1, t2, t3, t4, t5, t6, t7, t8, t9, t10, t11, t12, t13, t14⟩ := hSw
            go_simp
            try simp [*]
            try (intro hh; exfalso; omega)
            try omega
          try simp only [Act.put, List.setIfInBounds_toArray, List.set_cons_zero, List.set_cons_succ, List.getElem_toArray, List.getElem_cons_succ, List.getElem_cons_zero]
          refine wpAnyH_take (i := 25) (oi := _) (v := Value.agg #[Value.int .i64 c.id, Value.int .i64 c.cls, Value.int .i64 c.made, Value.int .i64 c.size, Value.int .i64 c.packed]) rfl (by kernel_rfl) (by kernel_rfl) (by kernel_rfl) (fun _ _ _ h => h) (Or.inl ⟨by rfl, fun w' hSw => ?_⟩) hHeld ?_
          · obtain ⟨t0, t1, t2, t3, t4, t5, t6, t7, t8, t9, t10, t11, t12, t13, t14⟩ := hSw
            go_simp
            try simp [*]
            try (intro hh; exfalso; omega)
            try omega
          try simp only [Act.put, List.setIfInBounds_toArray, List.set_cons_zero, List.set_cons_succ, List.getElem_toArray, List.getElem_cons_succ, List.getElem_cons_zero]
          refine wpAnyH_ready (rs := [26]) (by kernel_rfl) (by simp) ?_
          refine AllReadyH.cons (o := _) rfl (fun K hK => ?_) (AllReadyH.nil)
          go_simp
          go_at_call 46
          refine Calls.mono (cbc _) ?_
          rintro e v4 ⟨rfl, hb⟩
          have HV4 := Lib.hid (HV3.out.trans (hb.mono HV3.out.size))
          clear hb
          clear hHeld
          refine hK.out _ _ (KS.out _ HV4.out) (fun hHeld => ?_)
          clear hK K
          try simp only [Act.put, List.setIfInBounds_toArray, List.set_cons_zero, List.set_cons_succ, List.getElem_toArray, List.getElem_cons_succ, List.getElem_cons_zero]
          refine wpAnyH_take (i := 27) (oi := _) (v := Value.bool false) rfl (by kernel_rfl) (by kernel_rfl) (by kernel_rfl) (fun _ _ _ h => h) (Or.inl ⟨by rfl, fun w' hSw => ?_⟩) hHeld ?_
          · obtain ⟨t0, t1, t2, t3, t4, t5, t6, t7, t8, t9, t10, t11, t12, t13, t14⟩ := hSw
            go_simp
            try simp [*]
            try (intro hh; exfalso; omega)
            try omega
          try simp only [Act.put, List.setIfInBounds_toArray, List.set_cons_zero, List.set_cons_succ, List.getElem_toArray, List.getElem_cons_succ, List.getElem_cons_zero]
          refine wpAnyH_take (i := 28) (oi := _) (v := Value.bool false) rfl (by kernel_rfl) (by kernel_rfl) (by kernel_rfl) (fun _ _ _ h => h) (Or.inl ⟨by rfl, fun w' hSw => ?_⟩) hHeld ?_
          · obtain ⟨t0, t1, t2, t3, t4, t5, t6, t7, t8, t9, t10, t11, t12, t13, t14⟩ := hSw
            go_simp
            try simp [*]
            try (intro hh; exfalso; omega)
            try omega
          try simp only [Act.put, List.setIfInBounds_toArray, List.set_cons_zero, List.set_cons_succ, List.getElem_toArray, List.getElem_cons_succ, List.getElem_cons_zero]
          refine wpAnyH_take (i := 29) (oi := _) (v := undef) rfl (by kernel_rfl) (by kernel_rfl) (by kernel_rfl) (fun _ _ _ h => h) (Or.inr ⟨by rfl, rfl⟩) hHeld ?_
          try simp only [Act.put, List.setIfInBounds_toArray, List.set_cons_zero, List.set_cons_succ, List.getElem_toArray, List.getElem_cons_succ, List.getElem_cons_zero]
          refine wpAnyH_take (i := 30) (oi := _) (v := undef) rfl (by kernel_rfl) (by kernel_rfl) (by kernel_rfl) (fun _ _ _ h => h) (Or.inr ⟨by rfl, rfl⟩) hHeld ?_
          try simp only [Act.put, List.setIfInBounds_toArray, List.set_cons_zero, List.set_cons_succ, List.getElem_toArray, List.getElem_cons_succ, List.getElem_cons_zero]
          refine wpAnyH_take (i := 31) (oi := _) (v := undef) rfl (by kernel_rfl) (by kernel_rfl) (by kernel_rfl) (fun _ _ _ h => h) (Or.inr ⟨by rfl, rfl⟩) hHeld ?_
          try simp only [Act.put, List.setIfInBounds_toArray, List.set_cons_zero, List.set_cons_succ, List.getElem_toArray, List.getElem_cons_succ, List.getElem_cons_zero]
          refine wpAnyH_take (i := 32) (oi := _) (v := undef) rfl (by kernel_rfl) (by kernel_rfl) (by kernel_rfl) (fun _ _ _ h => h) (Or.inr ⟨by rfl, rfl⟩) hHeld ?_
          try simp only [Act.put, List.setIfInBounds_toArray, List.set_cons_zero, List.set_cons_succ, List.getElem_toArray, List.getElem_cons_succ, List.getElem_cons_zero]
          refine wpAnyH_take (i := 33) (oi := _) (v := Value.bool false) rfl (by kernel_rfl) (by kernel_rfl) (by kernel_rfl) (fun _ _ _ h => h) (Or.inl ⟨by rfl, fun w' hSw => ?_⟩) hHeld ?_
          · obtain ⟨t0, t1, t2, t3, t4, t5, t6, t7, t8, t9, t10, t11, t12, t13, t14⟩ := hSw
            go_simp
            try simp [*]
            try (intro hh; exfalso; omega)
            try omega
          try simp only [Act.put, List.setIfInBounds_toArray, List.set_cons_zero, List.set_cons_succ, List.getElem_toArray, List.getElem_cons_succ, List.getElem_cons_zero]
          refine wpAnyH_take (i := 34) (oi := _) (v := Value.bool false) rfl (by kernel_rfl) (by kernel_rfl) (by kernel_rfl) (fun _ _ _ h => h) (Or.inl ⟨by rfl, fun w' hSw => ?_⟩) hHeld ?_
          · obtain ⟨t0, t1, t2, t3, t4, t5, t6, t7, t8, t9, t10, t11, t12, t13, t14⟩ := hSw
            go_simp
            try simp [*]
            try (intro hh; exfalso; omega)
            try omega
          try simp only [Act.put, List.setIfInBounds_toArray, List.set_cons_zero, List.set_cons_succ, List.getElem_toArray, List.getElem_cons_succ, List.getElem_cons_zero]
          refine wpAnyH_done (by kernel_rfl) ?_ _
          clear hHeld
          go_wp2_with fail
          go_meet
          case rel => exact ⟨rfl, HV4.out⟩
        · obtain rfl : q = false := by have h := HT.out hd; cases q; rfl; exact absurd h (by decide)
          obtain rfl : s = true := HTR.out rfl rfl
          have HD := Lib.hid (show Below A.heap.size A w20.drew from HW20.out.drew)
          refine wp_region_held_drew (S := fun w' => w'.cell? ⟨w.heap.size, 0, none⟩ = some (Value.int .i64 a.id) ∧ w'.cell? ⟨w.heap.size, 1, none⟩ = some (Value.int .i64 a.cls) ∧ w'.cell? ⟨w.heap.size, 2, none⟩ = some (Value.int .i64 a.made) ∧ w'.cell? ⟨w.heap.size, 3, none⟩ = some (Value.int .i64 a.size) ∧ w'.cell? ⟨w.heap.size, 4, none⟩ = some (Value.int .i64 a.packed) ∧ w'.cell? ⟨w.heap.size + 1, 0, none⟩ = some (Value.int .i64 b.id) ∧ w'.cell? ⟨w.heap.size + 1, 1, none⟩ = some (Value.int .i64 b.cls) ∧ w'.cell? ⟨w.heap.size + 1, 2, none⟩ = some (Value.int .i64 b.made) ∧ w'.cell? ⟨w.heap.size + 1, 3, none⟩ = some (Value.int .i64 b.size) ∧ w'.cell? ⟨w.heap.size + 1, 4, none⟩ = some (Value.int .i64 b.packed) ∧ w'.cell? ⟨w.heap.size + 2, 0, none⟩ = some (Value.int .i64 c.id) ∧ w'.cell? ⟨w.heap.size + 2, 1, none⟩ = some (Value.int .i64 c.cls) ∧ w'.cell? ⟨w.heap.size + 2, 2, none⟩ = some (Value.int .i64 c.made) ∧ w'.cell? ⟨w.heap.size + 2, 3, none⟩ = some (Value.int .i64 c.size) ∧ w'.cell? ⟨w.heap.size + 2, 4, none⟩ = some (Value.int .i64 c.packed)) (by kernel_rfl) (KS.out _ HD.out) (fun hHeld => ?_)
          refine wpAnyH_take (i := 0) (oi := _) (v := Value.pointer (some ⟨w.heap.size, 0, none⟩)) rfl (by kernel_rfl) (by kernel_rfl) (by kernel_rfl) (fun _ _ _ h => h) (Or.inl ⟨by rfl, fun w' hSw => ?_⟩) hHeld ?_
          · obtain ⟨t0, t1, t2, t3, t4, t5, t6, t7, t8, t9, t10, t11, t12, t13, t14⟩ := hSw
            go_simp
            try simp [*]
            try (intro hh; exfalso; omega)
            try omega
          try simp only [Act.put, List.setIfInBounds_toArray, List.set_cons_zero, List.set_cons_succ, List.getElem_toArray, List.getElem_cons_succ, List.getElem_cons_zero]
          refine wpAnyH_take (i := 1) (oi := _) (v := Value.int .i64 a.id) rfl (by kernel_rfl) (by kernel_rfl) (by kernel_rfl) (fun _ _ _ h => h) (Or.inl ⟨by rfl, fun w' hSw => ?_⟩) hHeld ?_
          · obtain ⟨t0, t1, t2, t3, t4, t5, t6, t7, t8, t9, t10, t11, t12, t13, t14⟩ := hSw
            go_simp
            try simp [*]
            try (intro hh; exfalso; omega)
            try omega
          try simp only [Act.put, List.setIfInBounds_toArray, List.set_cons_zero, List.set_cons_succ, List.getElem_toArray, List.getElem_cons_succ, List.getElem_cons_zero]
          refine wpAnyH_take (i := 2) (oi := _) (v := Value.pointer (some ⟨w.heap.size + 1, 0, none⟩)) rfl (by kernel_rfl) (by kernel_rfl) (by kernel_rfl) (fun _ _ _ h => h) (Or.inl ⟨by rfl, fun w' hSw => ?_⟩) hHeld ?_
          · obtain ⟨t0, t1, t2, t3, t4, t5, t6, t7, t8, t9, t10, t11, t12, t13, t14⟩ := hSw
            go_simp
            try simp [*]
            try (intro hh; exfalso; omega)
            try omega
          try simp only [Act.put, List.setIfInBounds_toArray, List.set_cons_zero, List.set_cons_succ, List.getElem_toArray, List.getElem_cons_succ, List.getElem_cons_zero]
          refine wpAnyH_take (i := 3) (oi := _) (v := Value.int .i64 b.id) rfl (by kernel_rfl) (by kernel_rfl) (by kernel_rfl) (fun _ _ _ h => h) (Or.inl ⟨by rfl, fun w' hSw => ?_⟩) hHeld ?_
          · obtain ⟨t0, t1, t2, t3, t4, t5, t6, t7, t8, t9, t10, t11, t12, t13, t14⟩ := hSw
            go_simp
            try simp [*]
            try (intro hh; exfalso; omega)
            try omega
          try simp only [Act.put, List.setIfInBounds_toArray, List.set_cons_zero, List.set_cons_succ, List.getElem_toArray, List.getElem_cons_succ, List.getElem_cons_zero]
          refine wpAnyH_take (i := 4) (oi := _) (v := Value.bool true) rfl (by kernel_rfl) (by kernel_rfl) (by kernel_rfl) (fun _ _ _ h => h) (Or.inl ⟨by rfl, fun w' hSw => ?_⟩) hHeld ?_
          · obtain ⟨t0, t1, t2, t3, t4, t5, t6, t7, t8, t9, t10, t11, t12, t13, t14⟩ := hSw
            go_simp
            try simp [*]
            try (intro hh; exfalso; omega)
            try omega
          try simp only [Act.put, List.setIfInBounds_toArray, List.set_cons_zero, List.set_cons_succ, List.getElem_toArray, List.getElem_cons_succ, List.getElem_cons_zero]
          refine wpAnyH_take (i := 5) (oi := _) (v := Value.bool true) rfl (by kernel_rfl) (by kernel_rfl) (by kernel_rfl) (fun _ _ _ h => h) (Or.inl ⟨by rfl, fun w' hSw => ?_⟩) hHeld ?_
          · obtain ⟨t0, t1, t2, t3, t4, t5, t6, t7, t8, t9, t10, t11, t12, t13, t14⟩ := hSw
            go_simp
            try simp [*]
            try (intro hh; exfalso; omega)
            try omega
          try simp only [Act.put, List.setIfInBounds_toArray, List.set_cons_zero, List.set_cons_succ, List.getElem_toArray, List.getElem_cons_succ, List.getElem_cons_zero]
          refine wpAnyH_take (i := 6) (oi := _) (v := Value.agg #[Value.int .i64 a.id, Value.int .i64 a.cls, Value.int .i64 a.made, Value.int .i64 a.size, Value.int .i64 a.packed]) rfl (by kernel_rfl) (by kernel_rfl) (by kernel_rfl) (fun _ _ _ h => h) (Or.inl ⟨by rfl, fun w' hSw => ?_⟩) hHeld ?_
          · obtain ⟨t0, t1, t2, t3, t4, t5, t6, t7, t8, t9, t10, t11, t12, t13, t14⟩ := hSw
            go_simp
            try simp [*]
            try (intro hh; exfalso; omega)
            try omega
          try simp only [Act.put, List.setIfInBounds_toArray, List.set_cons_zero, List.set_cons_succ, List.getElem_toArray, List.getElem_cons_succ, List.getElem_cons_zero]
          refine wpAnyH_take (i := 7) (oi := _) (v := Value.agg #[Value.int .i64 b.id, Value.int .i64 b.cls, Value.int .i64 b.made, Value.int .i64 b.size, Value.int .i64 b.packed]) rfl (by kernel_rfl) (by kernel_rfl) (by kernel_rfl) (fun _ _ _ h => h) (Or.inl ⟨by rfl, fun w' hSw => ?_⟩) hHeld ?_
          · obtain ⟨t0, t1, t2, t3, t4, t5, t6, t7, t8, t9, t10, t11, t12, t13, t14⟩ := hSw
            go_simp
            try simp [*]
            try (intro hh; exfalso; omega)
            try omega
          try simp only [Act.put, List.setIfInBounds_toArray, List.set_cons_zero, List.set_cons_succ, List.getElem_toArray, List.getElem_cons_succ, List.getElem_cons_zero]
          refine wpAnyH_take (i := 9) (oi := _) (v := Value.agg #[Value.int .i64 b.id, Value.int .i64 b.cls, Value.int .i64 b.made, Value.int .i64 b.size, Value.int .i64 b.packed]) rfl (by kernel_rfl) (by kernel_rfl) (by kernel_rfl) (fun _ _ _ h => h) (Or.inl ⟨by rfl, fun w' hSw => ?_⟩) hHeld ?_
          · obtain ⟨t0, t1, t2, t3, t4, t5, t6, t7, t8, t9, t10, t11, t12, t13, t14⟩ := hSw
            go_simp
            try simp [*]
            try (intro hh; exfalso; omega)
            try omega
          try simp only [Act.put, List.setIfInBounds_toArray, List.set_cons_zero, List.set_cons_succ, List.getElem_toArray, List.getElem_cons_succ, List.getElem_cons_zero]
          refine wpAnyH_take (i := 10) (oi := _) (v := Value.agg #[Value.int .i64 a.id, Value.int .i64 a.cls, Value.int .i64 a.made, Value.int .i64 a.size, Value.int .i64 a.packed]) rfl (by kernel_rfl) (by kernel_rfl) (by kernel_rfl) (fun _ _ _ h => h) (Or.inl ⟨by rfl, fun w' hSw => ?_⟩) hHeld ?_
          · obtain ⟨t0, t1, t2, t3, t4, t5, t6, t7, t8, t9, t10, t11, t12, t13, t14⟩ := hSw
            go_simp
            try simp [*]
            try (intro hh; exfalso; omega)
            try omega
          try simp only [Act.put, List.setIfInBounds_toArray, List.set_cons_zero, List.set_cons_succ, List.getElem_toArray, List.getElem_cons_succ, List.getElem_cons_zero]
          refine wpAnyH_ready (rs := [8]) (by kernel_rfl) (by simp) ?_
          refine AllReadyH.cons (o := _) rfl (fun K hK => ?_) (AllReadyH.nil)
          go_simp
          go_at_call 46
          refine Calls.mono (cab _) ?_
          rintro e v0 ⟨rfl, hb⟩
          have HV0 := Lib.hid (HD.out.trans (hb.mono HD.out.size))
          clear hb
          clear hHeld
          refine hK.out _ _ (KS.out _ HV0.out) (fun hHeld => ?_)
          clear hK K
          try simp only [Act.put, List.setIfInBounds_toArray, List.set_cons_zero, List.set_cons_succ, List.getElem_toArray, List.getElem_cons_succ, List.getElem_cons_zero]
          refine wpAnyH_ready (rs := [11]) (by kernel_rfl) (by simp) ?_
          refine AllReadyH.cons (o := _) rfl (fun K hK => ?_) (AllReadyH.nil)
          go_simp
          go_at_call 46
          refine Calls.mono (cba _) ?_
          rintro e v1 ⟨rfl, hb⟩
          have HV1 := Lib.hid (HV0.out.trans (hb.mono HV0.out.size))
          clear hb
          clear hHeld
          refine hK.out _ _ (KS.out _ HV1.out) (fun hHeld => ?_)
          clear hK K
          try simp only [Act.put, List.setIfInBounds_toArray, List.set_cons_zero, List.set_cons_succ, List.getElem_toArray, List.getElem_cons_succ, List.getElem_cons_zero]
          refine wpAnyH_take (i := 12) (oi := _) (v := Value.bool false) rfl (by kernel_rfl) (by kernel_rfl) (by kernel_rfl) (fun _ _ _ h => h) (Or.inl ⟨by rfl, fun w' hSw => ?_⟩) hHeld ?_
          · obtain ⟨t0, t1, t2, t3, t4, t5, t6, t7, t8, t9, t10, t11, t12, t13, t14⟩ := hSw
            go_simp
            try simp [*]
            try (intro hh; exfalso; omega)
            try omega
          try simp only [Act.put, List.setIfInBounds_toArray, List.set_cons_zero, List.set_cons_succ, List.getElem_toArray, List.getElem_cons_succ, List.getElem_cons_zero]
          refine wpAnyH_take (i := 13) (oi := _) (v := Value.bool false) rfl (by kernel_rfl) (by kernel_rfl) (by kernel_rfl) (fun _ _ _ h => h) (Or.inl ⟨by rfl, fun w' hSw => ?_⟩) hHeld ?_
          · obtain ⟨t0, t1, t2, t3, t4, t5, t6, t7, t8, t9, t10, t11, t12, t13, t14⟩ := hSw
            go_simp
            try simp [*]
            try (intro hh; exfalso; omega)
            try omega
          try simp only [Act.put, List.setIfInBounds_toArray, List.set_cons_zero, List.set_cons_succ, List.getElem_toArray, List.getElem_cons_succ, List.getElem_cons_zero]
          refine wpAnyH_take (i := 14) (oi := _) (v := Value.bool false) rfl (by kernel_rfl) (by kernel_rfl) (by kernel_rfl) (fun _ _ _ h => h) (Or.inl ⟨by rfl, fun w' hSw => ?_⟩) hHeld ?_
          · obtain ⟨t0, t1, t2, t3, t4, t5, t6, t7, t8, t9, t10, t11, t12, t13, t14⟩ := hSw
            go_simp
            try simp [*]
            try (intro hh; exfalso; omega)
            try omega
          try simp only [Act.put, List.setIfInBounds_toArray, List.set_cons_zero, List.set_cons_succ, List.getElem_toArray, List.getElem_cons_succ, List.getElem_cons_zero]
          refine wpAnyH_take (i := 15) (oi := _) (v := Value.agg #[Value.int .i64 a.id, Value.int .i64 a.cls, Value.int .i64 a.made, Value.int .i64 a.size, Value.int .i64 a.packed]) rfl (by kernel_rfl) (by kernel_rfl) (by kernel_rfl) (fun _ _ _ h => h) (Or.inl ⟨by rfl, fun w' hSw => ?_⟩) hHeld ?_
          · obtain ⟨t0, t1, t2, t3, t4, t5, t6, t7, t8, t9, t10, t11, t12, t13, t14⟩ := hSw
            go_simp
            try simp [*]
            try (intro hh; exfalso; omega)
            try omega
          try simp only [Act.put, List.setIfInBounds_toArray, List.set_cons_zero, List.set_cons_succ, List.getElem_toArray, List.getElem_cons_succ, List.getElem_cons_zero]
          refine wpAnyH_take (i := 16) (oi := _) (v := Value.agg #[Value.int .i64 a.id, Value.int .i64 a.cls, Value.int .i64 a.made, Value.int .i64 a.size, Value.int .i64 a.packed]) rfl (by kernel_rfl) (by kernel_rfl) (by kernel_rfl) (fun _ _ _ h => h) (Or.inl ⟨by rfl, fun w' hSw => ?_⟩) hHeld ?_
          · obtain ⟨t0, t1, t2, t3, t4, t5, t6, t7, t8, t9, t10, t11, t12, t13, t14⟩ := hSw
            go_simp
            try simp [*]
            try (intro hh; exfalso; omega)
            try omega
          try simp only [Act.put, List.setIfInBounds_toArray, List.set_cons_zero, List.set_cons_succ, List.getElem_toArray, List.getElem_cons_succ, List.getElem_cons_zero]
          refine wpAnyH_ready (rs := [17]) (by kernel_rfl) (by simp) ?_
          refine AllReadyH.cons (o := _) rfl (fun K hK => ?_) (AllReadyH.nil)
          go_simp
          go_at_call 46
          refine Calls.mono (caa _) ?_
          rintro e v2 ⟨rfl, hb⟩
          have HV2 := Lib.hid (HV1.out.trans (hb.mono HV1.out.size))
          clear hb
          clear hHeld
          refine hK.out _ _ (KS.out _ HV2.out) (fun hHeld => ?_)
          clear hK K
          try simp only [Act.put, List.setIfInBounds_toArray, List.set_cons_zero, List.set_cons_succ, List.getElem_toArray, List.getElem_cons_succ, List.getElem_cons_zero]
          refine wpAnyH_take (i := 18) (oi := _) (v := Value.bool false) rfl (by kernel_rfl) (by kernel_rfl) (by kernel_rfl) (fun _ _ _ h => h) (Or.inl ⟨by rfl, fun w' hSw => ?_⟩) hHeld ?_
          · obtain ⟨t0, t1, t2, t3, t4, t5, t6, t7, t8, t9, t10, t11, t12, t13, t14⟩ := hSw
            go_simp
            try simp [*]
            try (intro hh; exfalso; omega)
            try omega
          try simp only [Act.put, List.setIfInBounds_toArray, List.set_cons_zero, List.set_cons_succ, List.getElem_toArray, List.getElem_cons_succ, List.getElem_cons_zero]
          refine wpAnyH_take (i := 19) (oi := _) (v := Value.bool false) rfl (by kernel_rfl) (by kernel_rfl) (by kernel_rfl) (fun _ _ _ h => h) (Or.inl ⟨by rfl, fun w' hSw => ?_⟩) hHeld ?_
          · obtain ⟨t0, t1, t2, t3, t4, t5, t6, t7, t8, t9, t10, t11, t12, t13, t14⟩ := hSw
            go_simp
            try simp [*]
            try (intro hh; exfalso; omega)
            try omega
          try simp only [Act.put, List.setIfInBounds_toArray, List.set_cons_zero, List.set_cons_succ, List.getElem_toArray, List.getElem_cons_succ, List.getElem_cons_zero]
          refine wpAnyH_take (i := 20) (oi := _) (v := Value.agg #[Value.int .i64 a.id, Value.int .i64 a.cls, Value.int .i64 a.made, Value.int .i64 a.size, Value.int .i64 a.packed]) rfl (by kernel_rfl) (by kernel_rfl) (by kernel_rfl) (fun _ _ _ h => h) (Or.inl ⟨by rfl, fun w' hSw => ?_⟩) hHeld ?_
          · obtain ⟨t0, t1, t2, t3, t4, t5, t6, t7, t8, t9, t10, t11, t12, t13, t14⟩ := hSw
            go_simp
            try simp [*]
            try (intro hh; exfalso; omega)
            try omega
          try simp only [Act.put, List.setIfInBounds_toArray, List.set_cons_zero, List.set_cons_succ, List.getElem_toArray, List.getElem_cons_succ, List.getElem_cons_zero]
          refine wpAnyH_take (i := 21) (oi := _) (v := Value.agg #[Value.int .i64 b.id, Value.int .i64 b.cls, Value.int .i64 b.made, Value.int .i64 b.size, Value.int .i64 b.packed]) rfl (by kernel_rfl) (by kernel_rfl) (by kernel_rfl) (fun _ _ _ h => h) (Or.inl ⟨by rfl, fun w' hSw => ?_⟩) hHeld ?_
          · obtain ⟨t0, t1, t2, t3, t4, t5, t6, t7, t8, t9, t10, t11, t12, t13, t14⟩ := hSw
            go_simp
            try simp [*]
            try (intro hh; exfalso; omega)
            try omega
          try simp only [Act.put, List.setIfInBounds_toArray, List.set_cons_zero, List.set_cons_succ, List.getElem_toArray, List.getElem_cons_succ, List.getElem_cons_zero]
          refine wpAnyH_ready (rs := [22]) (by kernel_rfl) (by simp) ?_
          refine AllReadyH.cons (o := _) rfl (fun K hK => ?_) (AllReadyH.nil)
          go_simp
          go_at_call 46
          refine Calls.mono (cab _) ?_
          rintro e v3 ⟨rfl, hb⟩
          have HV3 := Lib.hid (HV2.out.trans (hb.mono HV2.out.size))
          clear hb
          clear hHeld
          refine hK.out _ _ (KS.out _ HV3.out) (fun hHeld => ?_)
          clear hK K
          try simp only [Act.put, List.setIfInBounds_toArray, List.set_cons_zero, List.set_cons_succ, List.getElem_toArray, List.getElem_cons_succ, List.getElem_cons_zero]
          refine wpAnyH_take (i := 23) (oi := _) (v := Value.bool true) rfl (by kernel_rfl) (by kernel_rfl) (by kernel_rfl) (fun _ _ _ h => h) (Or.inl ⟨by rfl, fun w' hSw => ?_⟩) hHeld ?_
          · obtain ⟨t0, t1, t2, t3, t4, t5, t6, t7, t8, t9, t10, t11, t12, t13, t14⟩ := hSw
            go_simp
            try simp [*]
            try (intro hh; exfalso; omega)
            try omega
          try simp only [Act.put, List.setIfInBounds_toArray, List.set_cons_zero, List.set_cons_succ, List.getElem_toArray, List.getElem_cons_succ, List.getElem_cons_zero]
          refine wpAnyH_take (i := 24) (oi := _) (v := Value.agg #[Value.int .i64 b.id, Value.int .i64 b.cls, Value.int .i64 b.made, Value.int .i64 b.size, Value.int .i64 b.packed]) rfl (by kernel_rfl) (by kernel_rfl) (by kernel_rfl) (fun _ _ _ h => h) (Or.inl ⟨by rfl, fun w' hSw => ?_⟩) hHeld ?_
          · obtain ⟨t0, t1, t2, t3, t4, t5, t6, t7, t8, t9, t10, t11, t12, t13, t14⟩ := hSw
            go_simp
            try simp [*]
            try (intro hh; exfalso; omega)
            try omega
          try simp only [Act.put, List.setIfInBounds_toArray, List.set_cons_zero, List.set_cons_succ, List.getElem_toArray, List.getElem_cons_succ, List.getElem_cons_zero]
          refine wpAnyH_take (i := 25) (oi := _) (v := Value.agg #[Value.int .i64 c.id, Value.int .i64 c.cls, Value.int .i64 c.made, Value.int .i64 c.size, Value.int .i64 c.packed]) rfl (by kernel_rfl) (by kernel_rfl) (by kernel_rfl) (fun _ _ _ h => h) (Or.inl ⟨by rfl, fun w' hSw => ?_⟩) hHeld ?_
          · obtain ⟨t0, t1, t2, t3, t4, t5, t6, t7, t8, t9, t10, t11, t12, t13, t14⟩ := hSw
            go_simp
            try simp [*]
            try (intro hh; exfalso; omega)
            try omega
          try simp only [Act.put, List.setIfInBounds_toArray, List.set_cons_zero, List.set_cons_succ, List.getElem_toArray, List.getElem_cons_succ, List.getElem_cons_zero]
          refine wpAnyH_ready (rs := [26]) (by kernel_rfl) (by simp) ?_
          refine AllReadyH.cons (o := _) rfl (fun K hK => ?_) (AllReadyH.nil)
          go_simp
          go_at_call 46
          refine Calls.mono (cbc _) ?_
          rintro e v4 ⟨rfl, hb⟩
          have HV4 := Lib.hid (HV3.out.trans (hb.mono HV3.out.size))
          clear hb
          clear hHeld
          refine hK.out _ _ (KS.out _ HV4.out) (fun hHeld => ?_)
          clear hK K
          try simp only [Act.put, List.setIfInBounds_toArray, List.set_cons_zero, List.set_cons_succ, List.getElem_toArray, List.getElem_cons_succ, List.getElem_cons_zero]
          refine wpAnyH_take (i := 27) (oi := _) (v := Value.bool true) rfl (by kernel_rfl) (by kernel_rfl) (by kernel_rfl) (fun _ _ _ h => h) (Or.inl ⟨by rfl, fun w' hSw => ?_⟩) hHeld ?_
          · obtain ⟨t0, t1, t2, t3, t4, t5, t6, t7, t8, t9, t10, t11, t12, t13, t14⟩ := hSw
            go_simp
            try simp [*]
            try (intro hh; exfalso; omega)
            try omega
          try simp only [Act.put, List.setIfInBounds_toArray, List.set_cons_zero, List.set_cons_succ, List.getElem_toArray, List.getElem_cons_succ, List.getElem_cons_zero]
          refine wpAnyH_take (i := 28) (oi := _) (v := Value.bool true) rfl (by kernel_rfl) (by kernel_rfl) (by kernel_rfl) (fun _ _ _ h => h) (Or.inl ⟨by rfl, fun w' hSw => ?_⟩) hHeld ?_
          · obtain ⟨t0, t1, t2, t3, t4, t5, t6, t7, t8, t9, t10, t11, t12, t13, t14⟩ := hSw
            go_simp
            try simp [*]
            try (intro hh; exfalso; omega)
            try omega
          try simp only [Act.put, List.setIfInBounds_toArray, List.set_cons_zero, List.set_cons_succ, List.getElem_toArray, List.getElem_cons_succ, List.getElem_cons_zero]
          refine wpAnyH_take (i := 29) (oi := _) (v := Value.agg #[Value.int .i64 a.id, Value.int .i64 a.cls, Value.int .i64 a.made, Value.int .i64 a.size, Value.int .i64 a.packed]) rfl (by kernel_rfl) (by kernel_rfl) (by kernel_rfl) (fun _ _ _ h => h) (Or.inl ⟨by rfl, fun w' hSw => ?_⟩) hHeld ?_
          · obtain ⟨t0, t1, t2, t3, t4, t5, t6, t7, t8, t9, t10, t11, t12, t13, t14⟩ := hSw
            go_simp
            try simp [*]
            try (intro hh; exfalso; omega)
            try omega
          try simp only [Act.put, List.setIfInBounds_toArray, List.set_cons_zero, List.set_cons_succ, List.getElem_toArray, List.getElem_cons_succ, List.getElem_cons_zero]
          refine wpAnyH_take (i := 30) (oi := _) (v := Value.agg #[Value.int .i64 c.id, Value.int .i64 c.cls, Value.int .i64 c.made, Value.int .i64 c.size, Value.int .i64 c.packed]) rfl (by kernel_rfl) (by kernel_rfl) (by kernel_rfl) (fun _ _ _ h => h) (Or.inl ⟨by rfl, fun w' hSw => ?_⟩) hHeld ?_
          · obtain ⟨t0, t1, t2, t3, t4, t5, t6, t7, t8, t9, t10, t11, t12, t13, t14⟩ := hSw
            go_simp
            try simp [*]
            try (intro hh; exfalso; omega)
            try omega
          try simp only [Act.put, List.setIfInBounds_toArray, List.set_cons_zero, List.set_cons_succ, List.getElem_toArray, List.getElem_cons_succ, List.getElem_cons_zero]
          refine wpAnyH_ready (rs := [31]) (by kernel_rfl) (by simp) ?_
          refine AllReadyH.cons (o := _) rfl (fun K hK => ?_) (AllReadyH.nil)
          go_simp
          go_at_call 46
          refine Calls.mono (cac _) ?_
          rintro e v5 ⟨rfl, hb⟩
          have HV5 := Lib.hid (HV4.out.trans (hb.mono HV4.out.size))
          clear hb
          clear hHeld
          refine hK.out _ _ (KS.out _ HV5.out) (fun hHeld => ?_)
          clear hK K
          try simp only [Act.put, List.setIfInBounds_toArray, List.set_cons_zero, List.set_cons_succ, List.getElem_toArray, List.getElem_cons_succ, List.getElem_cons_zero]
          refine wpAnyH_take (i := 32) (oi := _) (v := Value.bool false) rfl (by kernel_rfl) (by kernel_rfl) (by kernel_rfl) (fun _ _ _ h => h) (Or.inl ⟨by rfl, fun w' hSw => ?_⟩) hHeld ?_
          · obtain ⟨t0, t1, t2, t3, t4, t5, t6, t7, t8, t9, t10, t11, t12, t13, t14⟩ := hSw
            go_simp
            try simp [*]
            try (intro hh; exfalso; omega)
            try omega
          try simp only [Act.put, List.setIfInBounds_toArray, List.set_cons_zero, List.set_cons_succ, List.getElem_toArray, List.getElem_cons_succ, List.getElem_cons_zero]
          refine wpAnyH_take (i := 33) (oi := _) (v := Value.bool false) rfl (by kernel_rfl) (by kernel_rfl) (by kernel_rfl) (fun _ _ _ h => h) (Or.inl ⟨by rfl, fun w' hSw => ?_⟩) hHeld ?_
          · obtain ⟨t0, t1, t2, t3, t4, t5, t6, t7, t8, t9, t10, t11, t12, t13, t14⟩ := hSw
            go_simp
            try simp [*]
            try (intro hh; exfalso; omega)
            try omega
          try simp only [Act.put, List.setIfInBounds_toArray, List.set_cons_zero, List.set_cons_succ, List.getElem_toArray, List.getElem_cons_succ, List.getElem_cons_zero]
          refine wpAnyH_take (i := 34) (oi := _) (v := Value.bool false) rfl (by kernel_rfl) (by kernel_rfl) (by kernel_rfl) (fun _ _ _ h => h) (Or.inl ⟨by rfl, fun w' hSw => ?_⟩) hHeld ?_
          · obtain ⟨t0, t1, t2, t3, t4, t5, t6, t7, t8, t9, t10, t11, t12, t13, t14⟩ := hSw
            go_simp
            try simp [*]
            try (intro hh; exfalso; omega)
            try omega
          try simp only [Act.put, List.setIfInBounds_toArray, List.set_cons_zero, List.set_cons_succ, List.getElem_toArray, List.getElem_cons_succ, List.getElem_cons_zero]
          refine wpAnyH_done (by kernel_rfl) ?_ _
          clear hHeld
          go_wp2_with fail
          go_meet
          case rel => exact ⟨rfl, HV5.out⟩
  case rest =>
    obtain ⟨rfl, hW⟩ := hcut
    have HWC := Lib.hid hW
    clear hW k0 k1 k2 k3 k4 k5 k6 k7 k8 k9 k10 k11 k12 k13 k14
    obtain ⟨wx, rfl⟩ : ∃ W0, W0 = wc := ⟨_, rfl⟩
    obtain ⟨k0, k1, k2, k3, k4, k5, k6, k7, k8, k9, k10, k11, k12, k13, k14⟩ := KS.out _ HWC.out
    by_cases h1 : a.cls < b.cls
    · obtain rfl : p = true := HI.out.2 (.inl h1)
      have h1b : ¬(a.cls = b.cls) := by omega
      go_wp2_with fail
      refine (cab _).mono ?_
      rintro e w21 ⟨rfl, hb⟩
      have HW21 := Lib.hid (HWC.out.trans (hb.mono HWC.out.size))
      clear hb k0 k1 k2 k3 k4 k5 k6 k7 k8 k9 k10 k11 k12 k13 k14
      obtain ⟨k0, k1, k2, k3, k4, k5, k6, k7, k8, k9, k10, k11, k12, k13, k14⟩ := KS.out _ HW21.out
      go_wp2_with fail
      refine (fine_any _).mono ?_
      rintro e w22 ⟨rfl, hb⟩
      have HW22 := Lib.hid (HW21.out.trans (hb.mono HW21.out.size))
      clear hb k0 k1 k2 k3 k4 k5 k6 k7 k8 k9 k10 k11 k12 k13 k14
      obtain ⟨k0, k1, k2, k3, k4, k5, k6, k7, k8, k9, k10, k11, k12, k13, k14⟩ := KS.out _ HW22.out
      go_wp2_with fail
      go_ret
      exact ⟨by first | rfl | simp, HBA.out.trans (HW22.out.mono HBA.out.size)⟩
    · by_cases h2 : a.cls = b.cls
      · by_cases h3 : a.made < b.made
        · obtain rfl : p = true := HI.out.2 (.inr ⟨h2, .inl h3⟩)
          have h2b : (a.cls == b.cls) = true := by rw [h2]; simp
          have h1b : ¬(a.cls < b.cls) := by omega
          clear h2 h1
          go_wp2_with fail
          refine (cab _).mono ?_
          rintro e w23 ⟨rfl, hb⟩
          have HW23 := Lib.hid (HWC.out.trans (hb.mono HWC.out.size))
          clear hb k0 k1 k2 k3 k4 k5 k6 k7 k8 k9 k10 k11 k12 k13 k14
          obtain ⟨k0, k1, k2, k3, k4, k5, k6, k7, k8, k9, k10, k11, k12, k13, k14⟩ := KS.out _ HW23.out
          go_wp2_with fail
          refine (fine_any _).mono ?_
          rintro e w24 ⟨rfl, hb⟩
          have HW24 := Lib.hid (HW23.out.trans (hb.mono HW23.out.size))
          clear hb k0 k1 k2 k3 k4 k5 k6 k7 k8 k9 k10 k11 k12 k13 k14
          obtain ⟨k0, k1, k2, k3, k4, k5, k6, k7, k8, k9, k10, k11, k12, k13, k14⟩ := KS.out _ HW24.out
          go_wp2_with fail
          go_ret
          exact ⟨by first | rfl | simp, HBA.out.trans (HW24.out.mono HBA.out.size)⟩
        · have h2b : (a.cls == b.cls) = true := by rw [h2]; simp
          clear h2
          go_wp2_with fail
          refine (fine_any _).mono ?_
          rintro e w25 ⟨rfl, hb⟩
          have HW25 := Lib.hid (HWC.out.trans (hb.mono HWC.out.size))
          clear hb k0 k1 k2 k3 k4 k5 k6 k7 k8 k9 k10 k11 k12 k13 k14
          obtain ⟨k0, k1, k2, k3, k4, k5, k6, k7, k8, k9, k10, k11, k12, k13, k14⟩ := KS.out _ HW25.out
          go_wp2_with fail
          go_ret
          exact ⟨by first | rfl | simp, HBA.out.trans (HW25.out.mono HBA.out.size)⟩
      · skip
        go_wp2_with fail
        refine (fine_any _).mono ?_
        rintro e w26 ⟨rfl, hb⟩
        have HW26 := Lib.hid (HWC.out.trans (hb.mono HWC.out.size))
        clear hb k0 k1 k2 k3 k4 k5 k6 k7 k8 k9 k10 k11 k12 k13 k14
        obtain ⟨k0, k1, k2, k3, k4, k5, k6, k7, k8, k9, k10, k11, k12, k13, k14⟩ := KS.out _ HW26.out
        go_wp2_with fail
        go_ret
        exact ⟨by first | rfl | simp, HBA.out.trans (HW26.out.mono HBA.out.size)⟩
theorem law_order (a b c : Rc) (w : World) : Calls Try.prog 8 #[.agg #[.int .i64 a.id, .int .i64 a.cls, .int .i64 a.made, .int .i64 a.size, .int .i64 a.packed], .agg #[.int .i64 b.id, .int .i64 b.cls, .int .i64 b.made, .int .i64 b.size, .int .i64 b.packed], .agg #[.int .i64 c.id, .int .i64 c.cls, .int .i64 c.made, .int .i64 c.size, .int .i64 c.packed]] w fun e w' => e = .returned (.bool true) ∧ Below w.heap.size w w' := by
  by_cases h : chkR a = 0 ∧ chkR b = 0 ∧ chkR c = 0
  · exact order_good a b c h.1 h.2.1 h.2.2 w
  · exact order_bad a b c h w

end Go.Proofs.Ytbbaehmfadpgeaa

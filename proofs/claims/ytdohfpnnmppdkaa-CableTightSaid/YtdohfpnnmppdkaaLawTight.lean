/-
  Cables: distances are tight.
-/
import Derived.Test.YtdohfpnnmppdkaaTiMath
import Derived.Test.YtdohfpnnmppdkaaCbQ
namespace Go.Proofs.Ytdohfpnnmppdkaa
open Go.RowKit Go.Shelf
set_option linter.unusedSimpArgs false
attribute [local go_sem] Oper.semAt_some
section
set_option maxRecDepth 100000
set_option maxHeartbeats 16000000
theorem tight_any (kd v0 v1 b0 b1 : Int) (w : World) :
    Calls Try.prog 14 #[.agg #[.int .i64 kd, .int .i64 v0, .int .i64 v1, .int .i64 b0, .int .i64 b1]] w fun e w' => e = .returned (.bool true) ∧ Below w.heap.size w w' := by
  have c1 := fun W => distance_any kd v0 v1 b0 b1 W
  by_cases hE : (dsS kd v0 v1 b0 b1).e = 0
  rotate_left
  · obtain ⟨h0, h1⟩ := dsS_bad hE
    rw [h0, h1] at c1
    generalize (dsS kd v0 v1 b0 b1).e = E at *
    have hE' : (E != 0) = true := by simpa using hE
    clear hE h0 h1
    obtain ⟨A, hA⟩ : ∃ A, A = w.alloc (.cells #[.int .i64 kd, .int .i64 v0, .int .i64 v1, .int .i64 b0, .int .i64 b1] 52) := ⟨_, rfl⟩
    have HBA := Lib.hid (show Below w.heap.size w A by rw [hA]; exact ((Below.refl _ _).alloc (Nat.le_refl _) _))
    have hltA : w.heap.size + 1 ≤ A.heap.size := by rw [hA]; simp
    have q0 : A.cell? ⟨w.heap.size, 0, none⟩ = some (.int .i64 kd) := by rw [hA]; exact (cellHB (World.alloc_heap_new w _) 0).trans (by simp)
    have q1 : A.cell? ⟨w.heap.size, 1, none⟩ = some (.int .i64 v0) := by rw [hA]; exact (cellHB (World.alloc_heap_new w _) 1).trans (by simp)
    have q2 : A.cell? ⟨w.heap.size, 2, none⟩ = some (.int .i64 v1) := by rw [hA]; exact (cellHB (World.alloc_heap_new w _) 2).trans (by simp)
    have q3 : A.cell? ⟨w.heap.size, 3, none⟩ = some (.int .i64 b0) := by rw [hA]; exact (cellHB (World.alloc_heap_new w _) 3).trans (by simp)
    have q4 : A.cell? ⟨w.heap.size, 4, none⟩ = some (.int .i64 b1) := by rw [hA]; exact (cellHB (World.alloc_heap_new w _) 4).trans (by simp)
    have KK := Lib.hid (show ∀ W, Below A.heap.size A W → W.cell? ⟨w.heap.size, 0, none⟩ = some (.int .i64 kd) ∧ W.cell? ⟨w.heap.size, 1, none⟩ = some (.int .i64 v0) ∧ W.cell? ⟨w.heap.size, 2, none⟩ = some (.int .i64 v1) ∧ W.cell? ⟨w.heap.size, 3, none⟩ = some (.int .i64 b0) ∧ W.cell? ⟨w.heap.size, 4, none⟩ = some (.int .i64 b1) from fun W h => ⟨(h.cell (p := ⟨w.heap.size, 0, none⟩) (by show w.heap.size < A.heap.size; omega)).trans q0, (h.cell (p := ⟨w.heap.size, 1, none⟩) (by show w.heap.size < A.heap.size; omega)).trans q1, (h.cell (p := ⟨w.heap.size, 2, none⟩) (by show w.heap.size < A.heap.size; omega)).trans q2, (h.cell (p := ⟨w.heap.size, 3, none⟩) (by show w.heap.size < A.heap.size; omega)).trans q3, (h.cell (p := ⟨w.heap.size, 4, none⟩) (by show w.heap.size < A.heap.size; omega)).trans q4⟩)
    have HLT := Lib.hid hltA
    clear hltA q0 q1 q2 q3 q4
    obtain ⟨k0, k1, k2, k3, k4⟩ := KK.out _ (Below.refl _ _)
    go_enter Try.func14, Try.ntmps14
    go_upto_region 1 with fail
    rw [← hA]
    clear hA
    go_wp2_with fail
    refine (c1 _).mono ?_
    rintro e w1 ⟨rfl, hb⟩
    have HB1 := Lib.hid hb
    clear hb k0 k1 k2 k3 k4
    obtain ⟨k0, k1, k2, k3, k4⟩ := KK.out _ HB1.out
    obtain ⟨V, hV⟩ : ∃ V, V = w1.alloc (.cells #[.int .i64 0, .int .i64 0] 23) := ⟨_, rfl⟩
    have hbV : Below w1.heap.size w1 V := by rw [hV]; exact (Below.refl _ _).alloc (Nat.le_refl _) _
    have hXV : V.heap[w1.heap.size]? = some (.cells #[.int .i64 0, .int .i64 0] 23 (0, 0)) := by rw [hV]; exact World.alloc_heap_new _ _
    have HX := Lib.hid hXV
    have HBV := Lib.hid (HB1.out.trans (hbV.mono HB1.out.size))
    have y0 := cellHB hXV 0
    have y1 := cellHB hXV 1
    have KX := Lib.hid (show ∀ W, Below V.heap.size V W → W.cell? ⟨w1.heap.size, 0, none⟩ = some (.int .i64 0) ∧ W.cell? ⟨w1.heap.size, 1, none⟩ = some (.int .i64 0) from fun W h => by have q := (h.block _ (Array.getElem?_eq_some_iff.1 HX.out).1).trans HX.out; exact ⟨cellHB q 0, cellHB q 1⟩)
    have KA := Lib.hid (show ∀ W, Below V.heap.size V W → W.cell? ⟨w.heap.size, 0, none⟩ = some (.int .i64 kd) ∧ W.cell? ⟨w.heap.size, 1, none⟩ = some (.int .i64 v0) ∧ W.cell? ⟨w.heap.size, 2, none⟩ = some (.int .i64 v1) ∧ W.cell? ⟨w.heap.size, 3, none⟩ = some (.int .i64 b0) ∧ W.cell? ⟨w.heap.size, 4, none⟩ = some (.int .i64 b1) from fun W h => KK.out W (HBV.out.trans (h.mono HBV.out.size)))
    clear hXV hbV k0 k1 k2 k3 k4
    obtain ⟨k0, k1, k2, k3, k4⟩ := KA.out _ (Below.refl _ _)
    go_upto_region 2 with fail
    rw [← hV]
    clear hV
    have HC1 := Lib.hid (Below.refl V.heap.size V)
    go_wp2_with fail
    refine (fine_any _).mono ?_
    rintro e w2 ⟨rfl, hb⟩
    have HC2 := Lib.hid (HC1.out.trans (hb.mono HC1.out.size))
    clear hb
    go_wp2_with fail
    go_ret
    exact ⟨by first | rfl | simp [*], HBA.out.trans ((HBV.out.trans (HC2.out.mono HBV.out.size)).mono HBA.out.size)⟩
  obtain ⟨hf, hvq, hS⟩ := dsS_ok hE
  rw [hS] at c1
  dsimp only at c1
  clear hE hS
  rcases fitB_cases hf with ⟨rfl, h1, h2, h3, h4, h5, h6⟩ | ⟨rfl, h1, h2, h3, h4, h5, h6⟩ | ⟨rfl, h1, h2, h3, h4, h5, h6⟩
  · clear hf
    have c2 := fun W => scale_any v0 v1 1000 1 W
    rw [scale_thou h1 h2 h3] at c2
    have e0 : dsQ 1 v0 v1 b0 b1 = (1000 * v0 / b1, (1000 * v1 + b0 - 1) / b0) := rfl
    rw [e0] at c1
    dsimp only at c1
    clear hvq e0
    by_cases hx : 1000 * v1 ≤ 1073741824
    rotate_left
    · rw [show fit (1000 * v0) (1000 * v1) = ⟨0, 0, 4⟩ by unfold fit; rw [if_neg (fun h => by have := (vB_iff _ _).1 h; omega)]] at c2
      dsimp only at c2
      generalize 1000 * v0 / b1 = q1 at *
      generalize (1000 * v1 + b0 - 1) / b0 = q2 at *
      clear h1 h2 h3 h4 h5 h6 hx
      obtain ⟨A, hA⟩ : ∃ A, A = w.alloc (.cells #[.int .i64 1, .int .i64 v0, .int .i64 v1, .int .i64 b0, .int .i64 b1] 52) := ⟨_, rfl⟩
      have HBA := Lib.hid (show Below w.heap.size w A by rw [hA]; exact ((Below.refl _ _).alloc (Nat.le_refl _) _))
      have hltA : w.heap.size + 1 ≤ A.heap.size := by rw [hA]; simp
      have q0 : A.cell? ⟨w.heap.size, 0, none⟩ = some (.int .i64 1) := by rw [hA]; exact (cellHB (World.alloc_heap_new w _) 0).trans (by simp)
      have q1 : A.cell? ⟨w.heap.size, 1, none⟩ = some (.int .i64 v0) := by rw [hA]; exact (cellHB (World.alloc_heap_new w _) 1).trans (by simp)
      have q2 : A.cell? ⟨w.heap.size, 2, none⟩ = some (.int .i64 v1) := by rw [hA]; exact (cellHB (World.alloc_heap_new w _) 2).trans (by simp)
      have q3 : A.cell? ⟨w.heap.size, 3, none⟩ = some (.int .i64 b0) := by rw [hA]; exact (cellHB (World.alloc_heap_new w _) 3).trans (by simp)
      have q4 : A.cell? ⟨w.heap.size, 4, none⟩ = some (.int .i64 b1) := by rw [hA]; exact (cellHB (World.alloc_heap_new w _) 4).trans (by simp)
      have KK := Lib.hid (show ∀ W, Below A.heap.size A W → W.cell? ⟨w.heap.size, 0, none⟩ = some (.int .i64 1) ∧ W.cell? ⟨w.heap.size, 1, none⟩ = some (.int .i64 v0) ∧ W.cell? ⟨w.heap.size, 2, none⟩ = some (.int .i64 v1) ∧ W.cell? ⟨w.heap.size, 3, none⟩ = some (.int .i64 b0) ∧ W.cell? ⟨w.heap.size, 4, none⟩ = some (.int .i64 b1) from fun W h => ⟨(h.cell (p := ⟨w.heap.size, 0, none⟩) (by show w.heap.size < A.heap.size; omega)).trans q0, (h.cell (p := ⟨w.heap.size, 1, none⟩) (by show w.heap.size < A.heap.size; omega)).trans q1, (h.cell (p := ⟨w.heap.size, 2, none⟩) (by show w.heap.size < A.heap.size; omega)).trans q2, (h.cell (p := ⟨w.heap.size, 3, none⟩) (by show w.heap.size < A.heap.size; omega)).trans q3, (h.cell (p := ⟨w.heap.size, 4, none⟩) (by show w.heap.size < A.heap.size; omega)).trans q4⟩)
      have HLT := Lib.hid hltA
      clear hltA q0 q1 q2 q3 q4
      obtain ⟨k0, k1, k2, k3, k4⟩ := KK.out _ (Below.refl _ _)
      go_enter Try.func14, Try.ntmps14
      go_upto_region 1 with fail
      rw [← hA]
      clear hA
      go_wp2_with fail
      refine (c1 _).mono ?_
      rintro e w1 ⟨rfl, hb⟩
      have HB1 := Lib.hid hb
      clear hb k0 k1 k2 k3 k4
      obtain ⟨k0, k1, k2, k3, k4⟩ := KK.out _ HB1.out
      obtain ⟨V, hV⟩ : ∃ V, V = w1.alloc (.cells #[.int .i64 q1, .int .i64 q2] 23) := ⟨_, rfl⟩
      have hbV : Below w1.heap.size w1 V := by rw [hV]; exact (Below.refl _ _).alloc (Nat.le_refl _) _
      have hXV : V.heap[w1.heap.size]? = some (.cells #[.int .i64 q1, .int .i64 q2] 23 (0, 0)) := by rw [hV]; exact World.alloc_heap_new _ _
      have HX := Lib.hid hXV
      have HBV := Lib.hid (HB1.out.trans (hbV.mono HB1.out.size))
      have y0 := cellHB hXV 0
      have y1 := cellHB hXV 1
      have KX := Lib.hid (show ∀ W, Below V.heap.size V W → W.cell? ⟨w1.heap.size, 0, none⟩ = some (.int .i64 q1) ∧ W.cell? ⟨w1.heap.size, 1, none⟩ = some (.int .i64 q2) from fun W h => by have q := (h.block _ (Array.getElem?_eq_some_iff.1 HX.out).1).trans HX.out; exact ⟨cellHB q 0, cellHB q 1⟩)
      have KA := Lib.hid (show ∀ W, Below V.heap.size V W → W.cell? ⟨w.heap.size, 0, none⟩ = some (.int .i64 1) ∧ W.cell? ⟨w.heap.size, 1, none⟩ = some (.int .i64 v0) ∧ W.cell? ⟨w.heap.size, 2, none⟩ = some (.int .i64 v1) ∧ W.cell? ⟨w.heap.size, 3, none⟩ = some (.int .i64 b0) ∧ W.cell? ⟨w.heap.size, 4, none⟩ = some (.int .i64 b1) from fun W h => KK.out W (HBV.out.trans (h.mono HBV.out.size)))
      clear hXV hbV k0 k1 k2 k3 k4
      obtain ⟨k0, k1, k2, k3, k4⟩ := KA.out _ (Below.refl _ _)
      go_upto_region 2 with fail
      rw [← hV]
      clear hV
      have HC1 := Lib.hid (Below.refl V.heap.size V)
      go_wp2_with fail
      refine (c2 _).mono ?_
      rintro e w2 ⟨rfl, hb⟩
      have HC2 := Lib.hid (HC1.out.trans (hb.mono HC1.out.size))
      clear hb
      obtain ⟨X, hX⟩ : ∃ V, V = w2.alloc (.cells #[.int .i64 0, .int .i64 0] 23) := ⟨_, rfl⟩
      have hbX : Below w2.heap.size w2 X := by rw [hX]; exact (Below.refl _ _).alloc (Nat.le_refl _) _
      have hXX : X.heap[w2.heap.size]? = some (.cells #[.int .i64 0, .int .i64 0] 23 (0, 0)) := by rw [hX]; exact World.alloc_heap_new _ _
      have HCX := Lib.hid (HC2.out.trans (hbX.mono HC2.out.size))
      have uX0 := cellHB hXX 0
      have uX1 := cellHB hXX 1
      clear hXX hbX y0 y1 k0 k1 k2 k3 k4
      obtain ⟨k0, k1, k2, k3, k4⟩ := KA.out _ HCX.out
      obtain ⟨y0, y1⟩ := KX.out _ HCX.out
      go_upto_region 7 with fail
      rw [← hX]
      clear hX
      go_wp2_with fail
      refine (fine_any _).mono ?_
      rintro e w3 ⟨rfl, hb⟩
      have HC3 := Lib.hid (HCX.out.trans (hb.mono HCX.out.size))
      clear hb
      go_wp2_with fail
      go_ret
      exact ⟨by first | rfl | simp [*], HBA.out.trans ((HBV.out.trans (HC3.out.mono HBV.out.size)).mono HBA.out.size)⟩
    rw [show fit (1000 * v0) (1000 * v1) = ⟨1000 * v0, 1000 * v1, 0⟩ by unfold fit; rw [if_pos ((vB_iff _ _).2 (by omega))]] at c2
    dsimp only at c2
    have c3 := fun W => div_any (1000 * v0) (1000 * v1) b0 b1 W
    rw [div_thou (by omega) (by omega) hx h4 h5 h6] at c3
    dsimp only at c3
    generalize 1000 * v0 / b1 = q1 at *
    generalize (1000 * v1 + b0 - 1) / b0 = q2 at *
    generalize 1000 * v0 = x0 at *
    generalize 1000 * v1 = x1 at *
    clear h1 h2 h3 h4 h5 h6 hx
    obtain ⟨A, hA⟩ : ∃ A, A = w.alloc (.cells #[.int .i64 1, .int .i64 v0, .int .i64 v1, .int .i64 b0, .int .i64 b1] 52) := ⟨_, rfl⟩
    have HBA := Lib.hid (show Below w.heap.size w A by rw [hA]; exact ((Below.refl _ _).alloc (Nat.le_refl _) _))
    have hltA : w.heap.size + 1 ≤ A.heap.size := by rw [hA]; simp
    have q0 : A.cell? ⟨w.heap.size, 0, none⟩ = some (.int .i64 1) := by rw [hA]; exact (cellHB (World.alloc_heap_new w _) 0).trans (by simp)
    have q1 : A.cell? ⟨w.heap.size, 1, none⟩ = some (.int .i64 v0) := by rw [hA]; exact (cellHB (World.alloc_heap_new w _) 1).trans (by simp)
    have q2 : A.cell? ⟨w.heap.size, 2, none⟩ = some (.int .i64 v1) := by rw [hA]; exact (cellHB (World.alloc_heap_new w _) 2).trans (by simp)
    have q3 : A.cell? ⟨w.heap.size, 3, none⟩ = some (.int .i64 b0) := by rw [hA]; exact (cellHB (World.alloc_heap_new w _) 3).trans (by simp)
    have q4 : A.cell? ⟨w.heap.size, 4, none⟩ = some (.int .i64 b1) := by rw [hA]; exact (cellHB (World.alloc_heap_new w _) 4).trans (by simp)
    have KK := Lib.hid (show ∀ W, Below A.heap.size A W → W.cell? ⟨w.heap.size, 0, none⟩ = some (.int .i64 1) ∧ W.cell? ⟨w.heap.size, 1, none⟩ = some (.int .i64 v0) ∧ W.cell? ⟨w.heap.size, 2, none⟩ = some (.int .i64 v1) ∧ W.cell? ⟨w.heap.size, 3, none⟩ = some (.int .i64 b0) ∧ W.cell? ⟨w.heap.size, 4, none⟩ = some (.int .i64 b1) from fun W h => ⟨(h.cell (p := ⟨w.heap.size, 0, none⟩) (by show w.heap.size < A.heap.size; omega)).trans q0, (h.cell (p := ⟨w.heap.size, 1, none⟩) (by show w.heap.size < A.heap.size; omega)).trans q1, (h.cell (p := ⟨w.heap.size, 2, none⟩) (by show w.heap.size < A.heap.size; omega)).trans q2, (h.cell (p := ⟨w.heap.size, 3, none⟩) (by show w.heap.size < A.heap.size; omega)).trans q3, (h.cell (p := ⟨w.heap.size, 4, none⟩) (by show w.heap.size < A.heap.size; omega)).trans q4⟩)
    have HLT := Lib.hid hltA
    clear hltA q0 q1 q2 q3 q4
    obtain ⟨k0, k1, k2, k3, k4⟩ := KK.out _ (Below.refl _ _)
    go_enter Try.func14, Try.ntmps14
    go_upto_region 1 with fail
    rw [← hA]
    clear hA
    go_wp2_with fail
    refine (c1 _).mono ?_
    rintro e w1 ⟨rfl, hb⟩
    have HB1 := Lib.hid hb
    clear hb k0 k1 k2 k3 k4
    obtain ⟨k0, k1, k2, k3, k4⟩ := KK.out _ HB1.out
    obtain ⟨V, hV⟩ : ∃ V, V = w1.alloc (.cells #[.int .i64 q1, .int .i64 q2] 23) := ⟨_, rfl⟩
    have hbV : Below w1.heap.size w1 V := by rw [hV]; exact (Below.refl _ _).alloc (Nat.le_refl _) _
    have hXV : V.heap[w1.heap.size]? = some (.cells #[.int .i64 q1, .int .i64 q2] 23 (0, 0)) := by rw [hV]; exact World.alloc_heap_new _ _
    have HX := Lib.hid hXV
    have HBV := Lib.hid (HB1.out.trans (hbV.mono HB1.out.size))
    have y0 := cellHB hXV 0
    have y1 := cellHB hXV 1
    have KX := Lib.hid (show ∀ W, Below V.heap.size V W → W.cell? ⟨w1.heap.size, 0, none⟩ = some (.int .i64 q1) ∧ W.cell? ⟨w1.heap.size, 1, none⟩ = some (.int .i64 q2) from fun W h => by have q := (h.block _ (Array.getElem?_eq_some_iff.1 HX.out).1).trans HX.out; exact ⟨cellHB q 0, cellHB q 1⟩)
    have KA := Lib.hid (show ∀ W, Below V.heap.size V W → W.cell? ⟨w.heap.size, 0, none⟩ = some (.int .i64 1) ∧ W.cell? ⟨w.heap.size, 1, none⟩ = some (.int .i64 v0) ∧ W.cell? ⟨w.heap.size, 2, none⟩ = some (.int .i64 v1) ∧ W.cell? ⟨w.heap.size, 3, none⟩ = some (.int .i64 b0) ∧ W.cell? ⟨w.heap.size, 4, none⟩ = some (.int .i64 b1) from fun W h => KK.out W (HBV.out.trans (h.mono HBV.out.size)))
    clear hXV hbV k0 k1 k2 k3 k4
    obtain ⟨k0, k1, k2, k3, k4⟩ := KA.out _ (Below.refl _ _)
    go_upto_region 2 with fail
    rw [← hV]
    clear hV
    have HC1 := Lib.hid (Below.refl V.heap.size V)
    go_wp2_with fail
    refine (c2 _).mono ?_
    rintro e w2 ⟨rfl, hb⟩
    have HC2 := Lib.hid (HC1.out.trans (hb.mono HC1.out.size))
    clear hb
    obtain ⟨X, hX⟩ : ∃ V, V = w2.alloc (.cells #[.int .i64 x0, .int .i64 x1] 23) := ⟨_, rfl⟩
    have hbX : Below w2.heap.size w2 X := by rw [hX]; exact (Below.refl _ _).alloc (Nat.le_refl _) _
    have hXX : X.heap[w2.heap.size]? = some (.cells #[.int .i64 x0, .int .i64 x1] 23 (0, 0)) := by rw [hX]; exact World.alloc_heap_new _ _
    have HCX := Lib.hid (HC2.out.trans (hbX.mono HC2.out.size))
    have uX0 := cellHB hXX 0
    have uX1 := cellHB hXX 1
    clear hXX hbX y0 y1 k0 k1 k2 k3 k4
    obtain ⟨k0, k1, k2, k3, k4⟩ := KA.out _ HCX.out
    obtain ⟨y0, y1⟩ := KX.out _ HCX.out
    go_upto_region 7 with fail
    rw [← hX]
    clear hX
    go_wp2_with fail
    refine (c3 _).mono ?_
    rintro e w3 ⟨rfl, hb⟩
    have HC3 := Lib.hid (HCX.out.trans (hb.mono HCX.out.size))
    clear hb
    obtain ⟨Q, hQ⟩ : ∃ V, V = w3.alloc (.cells #[.int .i64 q1, .int .i64 q2] 23) := ⟨_, rfl⟩
    have hbQ : Below w3.heap.size w3 Q := by rw [hQ]; exact (Below.refl _ _).alloc (Nat.le_refl _) _
    have hXQ : Q.heap[w3.heap.size]? = some (.cells #[.int .i64 q1, .int .i64 q2] 23 (0, 0)) := by rw [hQ]; exact World.alloc_heap_new _ _
    have HCQ := Lib.hid (HC3.out.trans (hbQ.mono HC3.out.size))
    have uQ0 := cellHB hXQ 0
    have uQ1 := cellHB hXQ 1
    clear hXQ hbQ y0 y1 k0 k1 k2 k3 k4
    obtain ⟨k0, k1, k2, k3, k4⟩ := KA.out _ HCQ.out
    obtain ⟨y0, y1⟩ := KX.out _ HCQ.out
    go_upto_region 10 with fail
    rw [← hQ]
    clear hQ
    go_wp2_with fail
    refine (fine_any _).mono ?_
    rintro e w4 ⟨rfl, hb⟩
    have HC4 := Lib.hid (HCQ.out.trans (hb.mono HCQ.out.size))
    clear hb
    go_wp2_with fail
    go_ret
    exact ⟨by first | rfl | simp [*], HBA.out.trans ((HBV.out.trans (HC4.out.mono HBV.out.size)).mono HBA.out.size)⟩
  · clear hf
    have e0 : dsQ 2 v0 v1 b0 b1 = (v0 * b0 / 2000000, (v1 * b1 + 2000000 - 1) / 2000000) := rfl
    rw [e0] at c1
    dsimp only at c1
    clear hvq e0
    have n1 : 0 ≤ v0 * b0 := Int.mul_nonneg h1 (by omega)
    have n2 : v0 * b0 ≤ 67108864 * 300000 := Int.mul_le_mul (by omega) (by omega) (by omega) (by omega)
    have n3 : 0 ≤ v1 * b1 := Int.mul_nonneg (by omega) (by omega)
    have n4 : v1 * b1 ≤ 67108864 * 300000 := Int.mul_le_mul (by omega) (by omega) (by omega) (by omega)
    have m1 : IntKind.wrap .i64 (v0 * b0) = v0 * b0 := by rw [IntKind.wrap_i64]; omega
    have m2 : IntKind.wrap .i64 (v1 * b1) = v1 * b1 := by rw [IntKind.wrap_i64]; omega
    have m1' : wrap64 (v0 * b0) = v0 * b0 := by unfold wrap64; omega
    have m2' : wrap64 (v1 * b1) = v1 * b1 := by unfold wrap64; omega
    obtain ⟨q1, hq1⟩ : ∃ q, q = v0 * b0 / 2000000 := ⟨_, rfl⟩
    obtain ⟨q2, hq2⟩ : ∃ q, q = (v1 * b1 + 2000000 - 1) / 2000000 := ⟨_, rfl⟩
    rw [← hq1, ← hq2] at c1
    have t1 : 2000000 * q1 ≤ v0 * b0 := by omega
    have t2 : v0 * b0 < 2000000 * (q1 + 1) := by omega
    have t3 : v1 * b1 ≤ 2000000 * q2 := by omega
    have t4 : 2000000 * (q2 - 1) < v1 * b1 := by omega
    have r1 : 0 ≤ q1 ∧ q1 ≤ 20000000 ∧ 0 ≤ q2 ∧ q2 ≤ 20000000 := by omega
    have x1 : IntKind.wrap .i64 (2000000 * q1) = 2000000 * q1 := by rw [IntKind.wrap_i64]; omega
    have x2 : IntKind.wrap .i64 (q1 + 1) = q1 + 1 := by rw [IntKind.wrap_i64]; omega
    have x3 : IntKind.wrap .i64 (2000000 * (q1 + 1)) = 2000000 * (q1 + 1) := by rw [IntKind.wrap_i64]; omega
    have x4 : IntKind.wrap .i64 (2000000 * q2) = 2000000 * q2 := by rw [IntKind.wrap_i64]; omega
    have x5 : IntKind.wrap .i64 (q2 - 1) = q2 - 1 := by rw [IntKind.wrap_i64]; omega
    have x6 : IntKind.wrap .i64 (2000000 * (q2 - 1)) = 2000000 * (q2 - 1) := by rw [IntKind.wrap_i64]; omega
    clear hq1 hq2 n1 n2 n3 n4 h1 h2 h3 h4 h5 h6
    generalize hp1 : v0 * b0 = p1 at *
    generalize hp2 : v1 * b1 = p2 at *
    obtain ⟨A, hA⟩ : ∃ A, A = w.alloc (.cells #[.int .i64 2, .int .i64 v0, .int .i64 v1, .int .i64 b0, .int .i64 b1] 52) := ⟨_, rfl⟩
    have HBA := Lib.hid (show Below w.heap.size w A by rw [hA]; exact ((Below.refl _ _).alloc (Nat.le_refl _) _))
    have hltA : w.heap.size + 1 ≤ A.heap.size := by rw [hA]; simp
    have q0 : A.cell? ⟨w.heap.size, 0, none⟩ = some (.int .i64 2) := by rw [hA]; exact (cellHB (World.alloc_heap_new w _) 0).trans (by simp)
    have q1 : A.cell? ⟨w.heap.size, 1, none⟩ = some (.int .i64 v0) := by rw [hA]; exact (cellHB (World.alloc_heap_new w _) 1).trans (by simp)
    have q2 : A.cell? ⟨w.heap.size, 2, none⟩ = some (.int .i64 v1) := by rw [hA]; exact (cellHB (World.alloc_heap_new w _) 2).trans (by simp)
    have q3 : A.cell? ⟨w.heap.size, 3, none⟩ = some (.int .i64 b0) := by rw [hA]; exact (cellHB (World.alloc_heap_new w _) 3).trans (by simp)
    have q4 : A.cell? ⟨w.heap.size, 4, none⟩ = some (.int .i64 b1) := by rw [hA]; exact (cellHB (World.alloc_heap_new w _) 4).trans (by simp)
    have KK := Lib.hid (show ∀ W, Below A.heap.size A W → W.cell? ⟨w.heap.size, 0, none⟩ = some (.int .i64 2) ∧ W.cell? ⟨w.heap.size, 1, none⟩ = some (.int .i64 v0) ∧ W.cell? ⟨w.heap.size, 2, none⟩ = some (.int .i64 v1) ∧ W.cell? ⟨w.heap.size, 3, none⟩ = some (.int .i64 b0) ∧ W.cell? ⟨w.heap.size, 4, none⟩ = some (.int .i64 b1) from fun W h => ⟨(h.cell (p := ⟨w.heap.size, 0, none⟩) (by show w.heap.size < A.heap.size; omega)).trans q0, (h.cell (p := ⟨w.heap.size, 1, none⟩) (by show w.heap.size < A.heap.size; omega)).trans q1, (h.cell (p := ⟨w.heap.size, 2, none⟩) (by show w.heap.size < A.heap.size; omega)).trans q2, (h.cell (p := ⟨w.heap.size, 3, none⟩) (by show w.heap.size < A.heap.size; omega)).trans q3, (h.cell (p := ⟨w.heap.size, 4, none⟩) (by show w.heap.size < A.heap.size; omega)).trans q4⟩)
    have HLT := Lib.hid hltA
    clear hltA q0 q1 q2 q3 q4
    obtain ⟨k0, k1, k2, k3, k4⟩ := KK.out _ (Below.refl _ _)
    go_enter Try.func14, Try.ntmps14
    go_upto_region 1 with fail
    rw [← hA]
    clear hA
    go_wp2_with fail
    refine (c1 _).mono ?_
    rintro e w1 ⟨rfl, hb⟩
    have HB1 := Lib.hid hb
    clear hb k0 k1 k2 k3 k4
    obtain ⟨k0, k1, k2, k3, k4⟩ := KK.out _ HB1.out
    obtain ⟨V, hV⟩ : ∃ V, V = w1.alloc (.cells #[.int .i64 q1, .int .i64 q2] 23) := ⟨_, rfl⟩
    have hbV : Below w1.heap.size w1 V := by rw [hV]; exact (Below.refl _ _).alloc (Nat.le_refl _) _
    have hXV : V.heap[w1.heap.size]? = some (.cells #[.int .i64 q1, .int .i64 q2] 23 (0, 0)) := by rw [hV]; exact World.alloc_heap_new _ _
    have HX := Lib.hid hXV
    have HBV := Lib.hid (HB1.out.trans (hbV.mono HB1.out.size))
    have y0 := cellHB hXV 0
    have y1 := cellHB hXV 1
    have KX := Lib.hid (show ∀ W, Below V.heap.size V W → W.cell? ⟨w1.heap.size, 0, none⟩ = some (.int .i64 q1) ∧ W.cell? ⟨w1.heap.size, 1, none⟩ = some (.int .i64 q2) from fun W h => by have q := (h.block _ (Array.getElem?_eq_some_iff.1 HX.out).1).trans HX.out; exact ⟨cellHB q 0, cellHB q 1⟩)
    have KA := Lib.hid (show ∀ W, Below V.heap.size V W → W.cell? ⟨w.heap.size, 0, none⟩ = some (.int .i64 2) ∧ W.cell? ⟨w.heap.size, 1, none⟩ = some (.int .i64 v0) ∧ W.cell? ⟨w.heap.size, 2, none⟩ = some (.int .i64 v1) ∧ W.cell? ⟨w.heap.size, 3, none⟩ = some (.int .i64 b0) ∧ W.cell? ⟨w.heap.size, 4, none⟩ = some (.int .i64 b1) from fun W h => KK.out W (HBV.out.trans (h.mono HBV.out.size)))
    clear hXV hbV k0 k1 k2 k3 k4
    obtain ⟨k0, k1, k2, k3, k4⟩ := KA.out _ (Below.refl _ _)
    go_upto_region 2 with fail
    rw [← hV]
    clear hV
    have HC1 := Lib.hid (Below.refl V.heap.size V)
    go_upto_region 15 with fail
    refine wp_region_held_drew (S := fun w' => w'.cell? ⟨w.heap.size, 1, none⟩ = some (Value.int .i64 v0) ∧ w'.cell? ⟨w.heap.size, 2, none⟩ = some (Value.int .i64 v1) ∧ w'.cell? ⟨w.heap.size, 3, none⟩ = some (Value.int .i64 b0) ∧ w'.cell? ⟨w.heap.size, 4, none⟩ = some (Value.int .i64 b1)) (by kernel_rfl) ⟨by simpa [go_sem] using k1, by simpa [go_sem] using k2, by simpa [go_sem] using k3, by simpa [go_sem] using k4⟩ (fun hHeld => ?_)
    have HC2 := Lib.hid (show Below V.heap.size V _ from (Below.refl V.heap.size V).drew)
    refine wpAnyH_take (i := 0) (oi := _) (v := Value.pointer (some ⟨w.heap.size, 1, none⟩)) rfl (by kernel_rfl) (by kernel_rfl) (by kernel_rfl) (fun _ _ _ h => h) (Or.inl ⟨by rfl, fun w' hSw => ?_⟩) hHeld ?_
    · obtain ⟨t0, t1, t2, t3⟩ := hSw
      go_simp
      try simp [*]
      try (intro hh; exfalso; omega)
      try omega
    try simp only [Act.put, List.setIfInBounds_toArray, List.set_cons_zero, List.set_cons_succ, List.getElem_toArray, List.getElem_cons_succ, List.getElem_cons_zero]
    refine wpAnyH_take (i := 1) (oi := _) (v := Value.pointer (some ⟨w.heap.size, 1, none⟩)) rfl (by kernel_rfl) (by kernel_rfl) (by kernel_rfl) (fun _ _ _ h => h) (Or.inl ⟨by rfl, fun w' hSw => ?_⟩) hHeld ?_
    · obtain ⟨t0, t1, t2, t3⟩ := hSw
      go_simp
      try simp [*]
      try (intro hh; exfalso; omega)
      try omega
    try simp only [Act.put, List.setIfInBounds_toArray, List.set_cons_zero, List.set_cons_succ, List.getElem_toArray, List.getElem_cons_succ, List.getElem_cons_zero]
    refine wpAnyH_take (i := 2) (oi := _) (v := Value.int .i64 v0) rfl (by kernel_rfl) (by kernel_rfl) (by kernel_rfl) (fun _ _ _ h => h) (Or.inl ⟨by rfl, fun w' hSw => ?_⟩) hHeld ?_
    · obtain ⟨t0, t1, t2, t3⟩ := hSw
      go_simp
      try simp [*]
      try (intro hh; exfalso; omega)
      try omega
    try simp only [Act.put, List.setIfInBounds_toArray, List.set_cons_zero, List.set_cons_succ, List.getElem_toArray, List.getElem_cons_succ, List.getElem_cons_zero]
    refine wpAnyH_take (i := 3) (oi := _) (v := Value.pointer (some ⟨w.heap.size, 3, none⟩)) rfl (by kernel_rfl) (by kernel_rfl) (by kernel_rfl) (fun _ _ _ h => h) (Or.inl ⟨by rfl, fun w' hSw => ?_⟩) hHeld ?_
    · obtain ⟨t0, t1, t2, t3⟩ := hSw
      go_simp
      try simp [*]
      try (intro hh; exfalso; omega)
      try omega
    try simp only [Act.put, List.setIfInBounds_toArray, List.set_cons_zero, List.set_cons_succ, List.getElem_toArray, List.getElem_cons_succ, List.getElem_cons_zero]
    refine wpAnyH_take (i := 4) (oi := _) (v := Value.pointer (some ⟨w.heap.size, 3, none⟩)) rfl (by kernel_rfl) (by kernel_rfl) (by kernel_rfl) (fun _ _ _ h => h) (Or.inl ⟨by rfl, fun w' hSw => ?_⟩) hHeld ?_
    · obtain ⟨t0, t1, t2, t3⟩ := hSw
      go_simp
      try simp [*]
      try (intro hh; exfalso; omega)
      try omega
    try simp only [Act.put, List.setIfInBounds_toArray, List.set_cons_zero, List.set_cons_succ, List.getElem_toArray, List.getElem_cons_succ, List.getElem_cons_zero]
    refine wpAnyH_take (i := 5) (oi := _) (v := Value.int .i64 b0) rfl (by kernel_rfl) (by kernel_rfl) (by kernel_rfl) (fun _ _ _ h => h) (Or.inl ⟨by rfl, fun w' hSw => ?_⟩) hHeld ?_
    · obtain ⟨t0, t1, t2, t3⟩ := hSw
      go_simp
      try simp [*]
      try (intro hh; exfalso; omega)
      try omega
    try simp only [Act.put, List.setIfInBounds_toArray, List.set_cons_zero, List.set_cons_succ, List.getElem_toArray, List.getElem_cons_succ, List.getElem_cons_zero]
    refine wpAnyH_take (i := 6) (oi := _) (v := Value.int .i64 p1) rfl (by kernel_rfl) (by kernel_rfl) (by kernel_rfl) (fun _ _ _ h => h) (Or.inl ⟨by rfl, fun w' hSw => ?_⟩) hHeld ?_
    · obtain ⟨t0, t1, t2, t3⟩ := hSw
      go_simp
      try simp [*]
      try (intro hh; exfalso; omega)
      try omega
    try simp only [Act.put, List.setIfInBounds_toArray, List.set_cons_zero, List.set_cons_succ, List.getElem_toArray, List.getElem_cons_succ, List.getElem_cons_zero]
    refine wpAnyH_take (i := 7) (oi := _) (v := Value.pointer (some ⟨w.heap.size, 1, none⟩)) rfl (by kernel_rfl) (by kernel_rfl) (by kernel_rfl) (fun _ _ _ h => h) (Or.inl ⟨by rfl, fun w' hSw => ?_⟩) hHeld ?_
    · obtain ⟨t0, t1, t2, t3⟩ := hSw
      go_simp
      try simp [*]
      try (intro hh; exfalso; omega)
      try omega
    try simp only [Act.put, List.setIfInBounds_toArray, List.set_cons_zero, List.set_cons_succ, List.getElem_toArray, List.getElem_cons_succ, List.getElem_cons_zero]
    refine wpAnyH_take (i := 8) (oi := _) (v := Value.pointer (some ⟨w.heap.size, 2, none⟩)) rfl (by kernel_rfl) (by kernel_rfl) (by kernel_rfl) (fun _ _ _ h => h) (Or.inl ⟨by rfl, fun w' hSw => ?_⟩) hHeld ?_
    · obtain ⟨t0, t1, t2, t3⟩ := hSw
      go_simp
      try simp [*]
      try (intro hh; exfalso; omega)
      try omega
    try simp only [Act.put, List.setIfInBounds_toArray, List.set_cons_zero, List.set_cons_succ, List.getElem_toArray, List.getElem_cons_succ, List.getElem_cons_zero]
    refine wpAnyH_take (i := 9) (oi := _) (v := Value.int .i64 v1) rfl (by kernel_rfl) (by kernel_rfl) (by kernel_rfl) (fun _ _ _ h => h) (Or.inl ⟨by rfl, fun w' hSw => ?_⟩) hHeld ?_
    · obtain ⟨t0, t1, t2, t3⟩ := hSw
      go_simp
      try simp [*]
      try (intro hh; exfalso; omega)
      try omega
    try simp only [Act.put, List.setIfInBounds_toArray, List.set_cons_zero, List.set_cons_succ, List.getElem_toArray, List.getElem_cons_succ, List.getElem_cons_zero]
    refine wpAnyH_take (i := 10) (oi := _) (v := Value.pointer (some ⟨w.heap.size, 3, none⟩)) rfl (by kernel_rfl) (by kernel_rfl) (by kernel_rfl) (fun _ _ _ h => h) (Or.inl ⟨by rfl, fun w' hSw => ?_⟩) hHeld ?_
    · obtain ⟨t0, t1, t2, t3⟩ := hSw
      go_simp
      try simp [*]
      try (intro hh; exfalso; omega)
      try omega
    try simp only [Act.put, List.setIfInBounds_toArray, List.set_cons_zero, List.set_cons_succ, List.getElem_toArray, List.getElem_cons_succ, List.getElem_cons_zero]
    refine wpAnyH_take (i := 11) (oi := _) (v := Value.pointer (some ⟨w.heap.size, 4, none⟩)) rfl (by kernel_rfl) (by kernel_rfl) (by kernel_rfl) (fun _ _ _ h => h) (Or.inl ⟨by rfl, fun w' hSw => ?_⟩) hHeld ?_
    · obtain ⟨t0, t1, t2, t3⟩ := hSw
      go_simp
      try simp [*]
      try (intro hh; exfalso; omega)
      try omega
    try simp only [Act.put, List.setIfInBounds_toArray, List.set_cons_zero, List.set_cons_succ, List.getElem_toArray, List.getElem_cons_succ, List.getElem_cons_zero]
    refine wpAnyH_take (i := 12) (oi := _) (v := Value.int .i64 b1) rfl (by kernel_rfl) (by kernel_rfl) (by kernel_rfl) (fun _ _ _ h => h) (Or.inl ⟨by rfl, fun w' hSw => ?_⟩) hHeld ?_
    · obtain ⟨t0, t1, t2, t3⟩ := hSw
      go_simp
      try simp [*]
      try (intro hh; exfalso; omega)
      try omega
    try simp only [Act.put, List.setIfInBounds_toArray, List.set_cons_zero, List.set_cons_succ, List.getElem_toArray, List.getElem_cons_succ, List.getElem_cons_zero]
    refine wpAnyH_take (i := 13) (oi := _) (v := Value.int .i64 p2) rfl (by kernel_rfl) (by kernel_rfl) (by kernel_rfl) (fun _ _ _ h => h) (Or.inl ⟨by rfl, fun w' hSw => ?_⟩) hHeld ?_
    · obtain ⟨t0, t1, t2, t3⟩ := hSw
      go_simp
      try simp [*]
      try (intro hh; exfalso; omega)
      try omega
    try simp only [Act.put, List.setIfInBounds_toArray, List.set_cons_zero, List.set_cons_succ, List.getElem_toArray, List.getElem_cons_succ, List.getElem_cons_zero]
    refine wpAnyH_take (i := 14) (oi := _) (v := Value.int .i64 p1) rfl (by kernel_rfl) (by kernel_rfl) (by kernel_rfl) (fun _ _ _ h => h) (Or.inl ⟨by rfl, fun w' hSw => ?_⟩) hHeld ?_
    · obtain ⟨t0, t1, t2, t3⟩ := hSw
      go_simp
      try simp [*]
      try (intro hh; exfalso; omega)
      try omega
    try simp only [Act.put, List.setIfInBounds_toArray, List.set_cons_zero, List.set_cons_succ, List.getElem_toArray, List.getElem_cons_succ, List.getElem_cons_zero]
    refine wpAnyH_take (i := 15) (oi := _) (v := Value.int .i64 p2) rfl (by kernel_rfl) (by kernel_rfl) (by kernel_rfl) (fun _ _ _ h => h) (Or.inl ⟨by rfl, fun w' hSw => ?_⟩) hHeld ?_
    · obtain ⟨t0, t1, t2, t3⟩ := hSw
      go_simp
      try simp [*]
      try (intro hh; exfalso; omega)
      try omega
    try simp only [Act.put, List.setIfInBounds_toArray, List.set_cons_zero, List.set_cons_succ, List.getElem_toArray, List.getElem_cons_succ, List.getElem_cons_zero]
    refine wpAnyH_done (by kernel_rfl) ?_ _
    clear hHeld
    clear y0 y1 k0 k1 k2 k3 k4
    obtain ⟨y0, y1⟩ := KX.out _ (Below.refl _ _)
    clear hp1 hp2
    go_wp2_with fail
    refine (fine_any _).mono ?_
    rintro e w3 ⟨rfl, hb⟩
    have HC3 := Lib.hid (HC2.out.trans (hb.mono HC2.out.size))
    clear hb
    go_wp2_with fail
    go_ret
    exact ⟨by first | rfl | simp [*], HBA.out.trans ((HBV.out.trans (HC3.out.mono HBV.out.size)).mono HBA.out.size)⟩
  · clear hf
    have e0 : dsQ 3 v0 v1 b0 b1 = (b0 - v1, b1 - v0) := rfl
    rw [e0] at c1
    dsimp only at c1
    clear hvq e0
    have c2 := fun W => bsub_any b0 b1 v0 v1 W
    rw [show subS b0 b1 v0 v1 = ⟨b0 - v1, b1 - v0, 0⟩ by
      unfold subS fit
      rw [if_pos ⟨(vB_iff _ _).2 (by omega), (vB_iff _ _).2 (by omega)⟩, if_pos ((vB_iff _ _).2 (by omega))]] at c2
    dsimp only at c2
    generalize b0 - v1 = q1 at *
    generalize b1 - v0 = q2 at *
    clear h1 h2 h3 h4 h5 h6
    obtain ⟨A, hA⟩ : ∃ A, A = w.alloc (.cells #[.int .i64 3, .int .i64 v0, .int .i64 v1, .int .i64 b0, .int .i64 b1] 52) := ⟨_, rfl⟩
    have HBA := Lib.hid (show Below w.heap.size w A by rw [hA]; exact ((Below.refl _ _).alloc (Nat.le_refl _) _))
    have hltA : w.heap.size + 1 ≤ A.heap.size := by rw [hA]; simp
    have q0 : A.cell? ⟨w.heap.size, 0, none⟩ = some (.int .i64 3) := by rw [hA]; exact (cellHB (World.alloc_heap_new w _) 0).trans (by simp)
    have q1 : A.cell? ⟨w.heap.size, 1, none⟩ = some (.int .i64 v0) := by rw [hA]; exact (cellHB (World.alloc_heap_new w _) 1).trans (by simp)
    have q2 : A.cell? ⟨w.heap.size, 2, none⟩ = some (.int .i64 v1) := by rw [hA]; exact (cellHB (World.alloc_heap_new w _) 2).trans (by simp)
    have q3 : A.cell? ⟨w.heap.size, 3, none⟩ = some (.int .i64 b0) := by rw [hA]; exact (cellHB (World.alloc_heap_new w _) 3).trans (by simp)
    have q4 : A.cell? ⟨w.heap.size, 4, none⟩ = some (.int .i64 b1) := by rw [hA]; exact (cellHB (World.alloc_heap_new w _) 4).trans (by simp)
    have KK := Lib.hid (show ∀ W, Below A.heap.size A W → W.cell? ⟨w.heap.size, 0, none⟩ = some (.int .i64 3) ∧ W.cell? ⟨w.heap.size, 1, none⟩ = some (.int .i64 v0) ∧ W.cell? ⟨w.heap.size, 2, none⟩ = some (.int .i64 v1) ∧ W.cell? ⟨w.heap.size, 3, none⟩ = some (.int .i64 b0) ∧ W.cell? ⟨w.heap.size, 4, none⟩ = some (.int .i64 b1) from fun W h => ⟨(h.cell (p := ⟨w.heap.size, 0, none⟩) (by show w.heap.size < A.heap.size; omega)).trans q0, (h.cell (p := ⟨w.heap.size, 1, none⟩) (by show w.heap.size < A.heap.size; omega)).trans q1, (h.cell (p := ⟨w.heap.size, 2, none⟩) (by show w.heap.size < A.heap.size; omega)).trans q2, (h.cell (p := ⟨w.heap.size, 3, none⟩) (by show w.heap.size < A.heap.size; omega)).trans q3, (h.cell (p := ⟨w.heap.size, 4, none⟩) (by show w.heap.size < A.heap.size; omega)).trans q4⟩)
    have HLT := Lib.hid hltA
    clear hltA q0 q1 q2 q3 q4
    obtain ⟨k0, k1, k2, k3, k4⟩ := KK.out _ (Below.refl _ _)
    go_enter Try.func14, Try.ntmps14
    go_upto_region 1 with fail
    rw [← hA]
    clear hA
    go_wp2_with fail
    refine (c1 _).mono ?_
    rintro e w1 ⟨rfl, hb⟩
    have HB1 := Lib.hid hb
    clear hb k0 k1 k2 k3 k4
    obtain ⟨k0, k1, k2, k3, k4⟩ := KK.out _ HB1.out
    obtain ⟨V, hV⟩ : ∃ V, V = w1.alloc (.cells #[.int .i64 q1, .int .i64 q2] 23) := ⟨_, rfl⟩
    have hbV : Below w1.heap.size w1 V := by rw [hV]; exact (Below.refl _ _).alloc (Nat.le_refl _) _
    have hXV : V.heap[w1.heap.size]? = some (.cells #[.int .i64 q1, .int .i64 q2] 23 (0, 0)) := by rw [hV]; exact World.alloc_heap_new _ _
    have HX := Lib.hid hXV
    have HBV := Lib.hid (HB1.out.trans (hbV.mono HB1.out.size))
    have y0 := cellHB hXV 0
    have y1 := cellHB hXV 1
    have KX := Lib.hid (show ∀ W, Below V.heap.size V W → W.cell? ⟨w1.heap.size, 0, none⟩ = some (.int .i64 q1) ∧ W.cell? ⟨w1.heap.size, 1, none⟩ = some (.int .i64 q2) from fun W h => by have q := (h.block _ (Array.getElem?_eq_some_iff.1 HX.out).1).trans HX.out; exact ⟨cellHB q 0, cellHB q 1⟩)
    have KA := Lib.hid (show ∀ W, Below V.heap.size V W → W.cell? ⟨w.heap.size, 0, none⟩ = some (.int .i64 3) ∧ W.cell? ⟨w.heap.size, 1, none⟩ = some (.int .i64 v0) ∧ W.cell? ⟨w.heap.size, 2, none⟩ = some (.int .i64 v1) ∧ W.cell? ⟨w.heap.size, 3, none⟩ = some (.int .i64 b0) ∧ W.cell? ⟨w.heap.size, 4, none⟩ = some (.int .i64 b1) from fun W h => KK.out W (HBV.out.trans (h.mono HBV.out.size)))
    clear hXV hbV k0 k1 k2 k3 k4
    obtain ⟨k0, k1, k2, k3, k4⟩ := KA.out _ (Below.refl _ _)
    go_upto_region 2 with fail
    rw [← hV]
    clear hV
    have HC1 := Lib.hid (Below.refl V.heap.size V)
    go_wp2_with fail
    refine (c2 _).mono ?_
    rintro e w2 ⟨rfl, hb⟩
    have HC2 := Lib.hid (HC1.out.trans (hb.mono HC1.out.size))
    clear hb
    obtain ⟨Q, hQ⟩ : ∃ V, V = w2.alloc (.cells #[.int .i64 q1, .int .i64 q2] 23) := ⟨_, rfl⟩
    have hbQ : Below w2.heap.size w2 Q := by rw [hQ]; exact (Below.refl _ _).alloc (Nat.le_refl _) _
    have hXQ : Q.heap[w2.heap.size]? = some (.cells #[.int .i64 q1, .int .i64 q2] 23 (0, 0)) := by rw [hQ]; exact World.alloc_heap_new _ _
    have HCQ := Lib.hid (HC2.out.trans (hbQ.mono HC2.out.size))
    have uQ0 := cellHB hXQ 0
    have uQ1 := cellHB hXQ 1
    clear hXQ hbQ y0 y1 k0 k1 k2 k3 k4
    obtain ⟨k0, k1, k2, k3, k4⟩ := KA.out _ HCQ.out
    obtain ⟨y0, y1⟩ := KX.out _ HCQ.out
    go_upto_region 13 with fail
    rw [← hQ]
    clear hQ
    go_wp2_with fail
    refine (fine_any _).mono ?_
    rintro e w3 ⟨rfl, hb⟩
    have HC3 := Lib.hid (HCQ.out.trans (hb.mono HCQ.out.size))
    clear hb
    go_wp2_with fail
    go_ret
    exact ⟨by first | rfl | simp [*], HBA.out.trans ((HBV.out.trans (HC3.out.mono HBV.out.size)).mono HBA.out.size)⟩
end
end Go.Proofs.Ytdohfpnnmppdkaa

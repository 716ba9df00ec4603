/-
  Cables: the distance of the reference.
-/
import Derived.Test.YtdohfpnnmppdkaaCbDi
import Derived.Test.YtdohfpnnmppdkaaCbR
namespace Go.Proofs.Ytdohfpnnmppdkaa
open Go.RowKit Go.Shelf
set_option linter.unusedSimpArgs false
attribute [local go_sem] Oper.semAt_some
set_option maxHeartbeats 4000000 in
theorem refmeasure_any (kd v0 v1 b0 b1 : Int) (w : World) :
    Calls Try.prog 111 #[.agg #[.int .i64 kd, .int .i64 v0, .int .i64 v1, .int .i64 b0, .int .i64 b1]] w fun e w' => e = .returned (.bool (fitB kd v0 v1 b0 b1)) ∧ Below w.heap.size w w' := by
  unfold fitB
  by_cases h1 : kd = 1
  · subst h1
    rw [if_pos rfl]
    have c1 := fun W => refSpan_any v0 v1 0 16777216 W
    have c2 := fun W => refSpan_any b0 b1 1 16777216 W
    rw [show (vB v0 v1 && (decide (0 ≤ v0) && decide (v1 ≤ 16777216))) = partB v0 v1 0 16777216 from rfl] at c1
    rw [show (vB b0 b1 && (decide (1 ≤ b0) && decide (b1 ≤ 16777216))) = partB b0 b1 1 16777216 from rfl] at c2
    generalize partB v0 v1 0 16777216 = x at *
    generalize partB b0 b1 1 16777216 = y at *
    obtain ⟨A, hA⟩ : ∃ A, A = w.alloc (.cells #[.int .i64 1, .int .i64 v0, .int .i64 v1, .int .i64 b0, .int .i64 b1] 52) := ⟨_, rfl⟩
    have HBA := Lib.hid (show Below w.heap.size w A by rw [hA]; exact ((Below.refl _ _).alloc (Nat.le_refl _) _))
    have hltA : w.heap.size + 1 ≤ A.heap.size := by rw [hA]; simp
    have q0 : A.cell? ⟨w.heap.size, 0, none⟩ = some (.int .i64 1) := by rw [hA]; exact (cellHB (World.alloc_heap_new w _) 0).trans (by simp)
    have q1 : A.cell? ⟨w.heap.size, 1, none⟩ = some (.int .i64 v0) := by rw [hA]; exact (cellHB (World.alloc_heap_new w _) 1).trans (by simp)
    have q2 : A.cell? ⟨w.heap.size, 2, none⟩ = some (.int .i64 v1) := by rw [hA]; exact (cellHB (World.alloc_heap_new w _) 2).trans (by simp)
    have q3 : A.cell? ⟨w.heap.size, 3, none⟩ = some (.int .i64 b0) := by rw [hA]; exact (cellHB (World.alloc_heap_new w _) 3).trans (by simp)
    have q4 : A.cell? ⟨w.heap.size, 4, none⟩ = some (.int .i64 b1) := by rw [hA]; exact (cellHB (World.alloc_heap_new w _) 4).trans (by simp)
    have KK := Lib.hid (show ∀ W, Below A.heap.size A W → W.cell? ⟨w.heap.size, 0, none⟩ = some (.int .i64 1) ∧ W.cell? ⟨w.heap.size, 1, none⟩ = some (.int .i64 v0) ∧ W.cell? ⟨w.heap.size, 2, none⟩ = some (.int .i64 v1) ∧ W.cell? ⟨w.heap.size, 3, none⟩ = some (.int .i64 b0) ∧ W.cell? ⟨w.heap.size, 4, none⟩ = some (.int .i64 b1) from fun W h => ⟨(h.cell (p := ⟨w.heap.size, 0, none⟩) (by show w.heap.size < A.heap.size; omega)).trans q0, (h.cell (p := ⟨w.heap.size, 1, none⟩) (by show w.heap.size < A.heap.size; omega)).trans q1, (h.cell (p := ⟨w.heap.size, 2, none⟩) (by show w.heap.size < A.heap.size; omega)).trans q2, (h.cell (p := ⟨w.heap.size, 3, none⟩) (by show w.heap.size < A.heap.size; omega)).trans q3, (h.cell (p := ⟨w.heap.size, 4, none⟩) (by show w.heap.size < A.heap.size; omega)).trans q4⟩)
    have HLT := Lib.hid hltA
    clear hltA q0 q1 q2 q3 q4
    obtain ⟨k0, k1, k2, k3, k4⟩ := KK.out _ (Below.refl _ _)
    cases x
    · rw [Bool.false_and]
      go_enter Try.func111, Try.ntmps111
      go_upto_region 1 with fail
      rw [← hA]
      clear hA
      go_wp2_with fail
      refine (c1 _).mono ?_
      rintro e w1 ⟨rfl, hb⟩
      have HB1 := Lib.hid hb
      clear hb k0 k1 k2 k3 k4
      obtain ⟨k0, k1, k2, k3, k4⟩ := KK.out _ HB1.out
      go_wp2_with fail
      go_ret
      exact ⟨by first | rfl | simp [*], HBA.out.trans (HB1.out.mono HBA.out.size)⟩
    · rw [Bool.true_and]
      go_enter Try.func111, Try.ntmps111
      go_upto_region 1 with fail
      rw [← hA]
      clear hA
      go_wp2_with fail
      refine (c1 _).mono ?_
      rintro e w1 ⟨rfl, hb⟩
      have HB1 := Lib.hid hb
      clear hb k0 k1 k2 k3 k4
      obtain ⟨k0, k1, k2, k3, k4⟩ := KK.out _ HB1.out
      go_wp2_with fail
      refine (c2 _).mono ?_
      rintro e w2 ⟨rfl, hb⟩
      have HB2 := Lib.hid (HB1.out.trans (hb.mono HB1.out.size))
      clear hb k0 k1 k2 k3 k4
      obtain ⟨k0, k1, k2, k3, k4⟩ := KK.out _ HB2.out
      go_wp2_with fail
      go_ret
      exact ⟨by first | rfl | simp [*], HBA.out.trans (HB2.out.mono HBA.out.size)⟩
  by_cases h2 : kd = 2
  · subst h2
    rw [if_neg (by decide), if_pos rfl]
    have c1 := fun W => refSpan_any v0 v1 0 67108864 W
    have c2 := fun W => refSpan_any b0 b1 1 300000 W
    rw [show (vB v0 v1 && (decide (0 ≤ v0) && decide (v1 ≤ 67108864))) = partB v0 v1 0 67108864 from rfl] at c1
    rw [show (vB b0 b1 && (decide (1 ≤ b0) && decide (b1 ≤ 300000))) = partB b0 b1 1 300000 from rfl] at c2
    generalize partB v0 v1 0 67108864 = x at *
    generalize partB b0 b1 1 300000 = y at *
    obtain ⟨A, hA⟩ : ∃ A, A = w.alloc (.cells #[.int .i64 2, .int .i64 v0, .int .i64 v1, .int .i64 b0, .int .i64 b1] 52) := ⟨_, rfl⟩
    have HBA := Lib.hid (show Below w.heap.size w A by rw [hA]; exact ((Below.refl _ _).alloc (Nat.le_refl _) _))
    have hltA : w.heap.size + 1 ≤ A.heap.size := by rw [hA]; simp
    have q0 : A.cell? ⟨w.heap.size, 0, none⟩ = some (.int .i64 2) := by rw [hA]; exact (cellHB (World.alloc_heap_new w _) 0).trans (by simp)
    have q1 : A.cell? ⟨w.heap.size, 1, none⟩ = some (.int .i64 v0) := by rw [hA]; exact (cellHB (World.alloc_heap_new w _) 1).trans (by simp)
    have q2 : A.cell? ⟨w.heap.size, 2, none⟩ = some (.int .i64 v1) := by rw [hA]; exact (cellHB (World.alloc_heap_new w _) 2).trans (by simp)
    have q3 : A.cell? ⟨w.heap.size, 3, none⟩ = some (.int .i64 b0) := by rw [hA]; exact (cellHB (World.alloc_heap_new w _) 3).trans (by simp)
    have q4 : A.cell? ⟨w.heap.size, 4, none⟩ = some (.int .i64 b1) := by rw [hA]; exact (cellHB (World.alloc_heap_new w _) 4).trans (by simp)
    have KK := Lib.hid (show ∀ W, Below A.heap.size A W → W.cell? ⟨w.heap.size, 0, none⟩ = some (.int .i64 2) ∧ W.cell? ⟨w.heap.size, 1, none⟩ = some (.int .i64 v0) ∧ W.cell? ⟨w.heap.size, 2, none⟩ = some (.int .i64 v1) ∧ W.cell? ⟨w.heap.size, 3, none⟩ = some (.int .i64 b0) ∧ W.cell? ⟨w.heap.size, 4, none⟩ = some (.int .i64 b1) from fun W h => ⟨(h.cell (p := ⟨w.heap.size, 0, none⟩) (by show w.heap.size < A.heap.size; omega)).trans q0, (h.cell (p := ⟨w.heap.size, 1, none⟩) (by show w.heap.size < A.heap.size; omega)).trans q1, (h.cell (p := ⟨w.heap.size, 2, none⟩) (by show w.heap.size < A.heap.size; omega)).trans q2, (h.cell (p := ⟨w.heap.size, 3, none⟩) (by show w.heap.size < A.heap.size; omega)).trans q3, (h.cell (p := ⟨w.heap.size, 4, none⟩) (by show w.heap.size < A.heap.size; omega)).trans q4⟩)
    have HLT := Lib.hid hltA
    clear hltA q0 q1 q2 q3 q4
    obtain ⟨k0, k1, k2, k3, k4⟩ := KK.out _ (Below.refl _ _)
    cases x
    · rw [Bool.false_and]
      go_enter Try.func111, Try.ntmps111
      go_upto_region 1 with fail
      rw [← hA]
      clear hA
      go_wp2_with fail
      refine (c1 _).mono ?_
      rintro e w1 ⟨rfl, hb⟩
      have HB1 := Lib.hid hb
      clear hb k0 k1 k2 k3 k4
      obtain ⟨k0, k1, k2, k3, k4⟩ := KK.out _ HB1.out
      go_wp2_with fail
      go_ret
      exact ⟨by first | rfl | simp [*], HBA.out.trans (HB1.out.mono HBA.out.size)⟩
    · rw [Bool.true_and]
      go_enter Try.func111, Try.ntmps111
      go_upto_region 1 with fail
      rw [← hA]
      clear hA
      go_wp2_with fail
      refine (c1 _).mono ?_
      rintro e w1 ⟨rfl, hb⟩
      have HB1 := Lib.hid hb
      clear hb k0 k1 k2 k3 k4
      obtain ⟨k0, k1, k2, k3, k4⟩ := KK.out _ HB1.out
      go_wp2_with fail
      refine (c2 _).mono ?_
      rintro e w2 ⟨rfl, hb⟩
      have HB2 := Lib.hid (HB1.out.trans (hb.mono HB1.out.size))
      clear hb k0 k1 k2 k3 k4
      obtain ⟨k0, k1, k2, k3, k4⟩ := KK.out _ HB2.out
      go_wp2_with fail
      go_ret
      exact ⟨by first | rfl | simp [*], HBA.out.trans (HB2.out.mono HBA.out.size)⟩
  by_cases h3 : kd = 3
  · subst h3
    rw [if_neg (by decide), if_neg (by decide), if_pos rfl]
    have c1 := fun W => refSpan_any v0 v1 0 1073741824 W
    have c2 := fun W => refSpan_any b0 b1 0 1073741824 W
    rw [show (vB v0 v1 && (decide (0 ≤ v0) && decide (v1 ≤ 1073741824))) = partB v0 v1 0 1073741824 from rfl] at c1
    rw [show (vB b0 b1 && (decide (0 ≤ b0) && decide (b1 ≤ 1073741824))) = partB b0 b1 0 1073741824 from rfl] at c2
    generalize partB v0 v1 0 1073741824 = x at *
    generalize partB b0 b1 0 1073741824 = y at *
    obtain ⟨A, hA⟩ : ∃ A, A = w.alloc (.cells #[.int .i64 3, .int .i64 v0, .int .i64 v1, .int .i64 b0, .int .i64 b1] 52) := ⟨_, rfl⟩
    have HBA := Lib.hid (show Below w.heap.size w A by rw [hA]; exact ((Below.refl _ _).alloc (Nat.le_refl _) _))
    have hltA : w.heap.size + 1 ≤ A.heap.size := by rw [hA]; simp
    have q0 : A.cell? ⟨w.heap.size, 0, none⟩ = some (.int .i64 3) := by rw [hA]; exact (cellHB (World.alloc_heap_new w _) 0).trans (by simp)
    have q1 : A.cell? ⟨w.heap.size, 1, none⟩ = some (.int .i64 v0) := by rw [hA]; exact (cellHB (World.alloc_heap_new w _) 1).trans (by simp)
    have q2 : A.cell? ⟨w.heap.size, 2, none⟩ = some (.int .i64 v1) := by rw [hA]; exact (cellHB (World.alloc_heap_new w _) 2).trans (by simp)
    have q3 : A.cell? ⟨w.heap.size, 3, none⟩ = some (.int .i64 b0) := by rw [hA]; exact (cellHB (World.alloc_heap_new w _) 3).trans (by simp)
    have q4 : A.cell? ⟨w.heap.size, 4, none⟩ = some (.int .i64 b1) := by rw [hA]; exact (cellHB (World.alloc_heap_new w _) 4).trans (by simp)
    have KK := Lib.hid (show ∀ W, Below A.heap.size A W → W.cell? ⟨w.heap.size, 0, none⟩ = some (.int .i64 3) ∧ W.cell? ⟨w.heap.size, 1, none⟩ = some (.int .i64 v0) ∧ W.cell? ⟨w.heap.size, 2, none⟩ = some (.int .i64 v1) ∧ W.cell? ⟨w.heap.size, 3, none⟩ = some (.int .i64 b0) ∧ W.cell? ⟨w.heap.size, 4, none⟩ = some (.int .i64 b1) from fun W h => ⟨(h.cell (p := ⟨w.heap.size, 0, none⟩) (by show w.heap.size < A.heap.size; omega)).trans q0, (h.cell (p := ⟨w.heap.size, 1, none⟩) (by show w.heap.size < A.heap.size; omega)).trans q1, (h.cell (p := ⟨w.heap.size, 2, none⟩) (by show w.heap.size < A.heap.size; omega)).trans q2, (h.cell (p := ⟨w.heap.size, 3, none⟩) (by show w.heap.size < A.heap.size; omega)).trans q3, (h.cell (p := ⟨w.heap.size, 4, none⟩) (by show w.heap.size < A.heap.size; omega)).trans q4⟩)
    have HLT := Lib.hid hltA
    clear hltA q0 q1 q2 q3 q4
    obtain ⟨k0, k1, k2, k3, k4⟩ := KK.out _ (Below.refl _ _)
    cases x
    · rw [Bool.false_and]
      go_enter Try.func111, Try.ntmps111
      go_upto_region 1 with fail
      rw [← hA]
      clear hA
      go_wp2_with fail
      refine (c1 _).mono ?_
      rintro e w1 ⟨rfl, hb⟩
      have HB1 := Lib.hid hb
      clear hb k0 k1 k2 k3 k4
      obtain ⟨k0, k1, k2, k3, k4⟩ := KK.out _ HB1.out
      go_wp2_with fail
      go_ret
      exact ⟨by first | rfl | simp [*], HBA.out.trans (HB1.out.mono HBA.out.size)⟩
    · rw [Bool.true_and]
      go_enter Try.func111, Try.ntmps111
      go_upto_region 1 with fail
      rw [← hA]
      clear hA
      go_wp2_with fail
      refine (c1 _).mono ?_
      rintro e w1 ⟨rfl, hb⟩
      have HB1 := Lib.hid hb
      clear hb k0 k1 k2 k3 k4
      obtain ⟨k0, k1, k2, k3, k4⟩ := KK.out _ HB1.out
      go_wp2_with fail
      refine (c2 _).mono ?_
      rintro e w2 ⟨rfl, hb⟩
      have HB2 := Lib.hid (HB1.out.trans (hb.mono HB1.out.size))
      clear hb k0 k1 k2 k3 k4
      obtain ⟨k0, k1, k2, k3, k4⟩ := KK.out _ HB2.out
      go_wp2_with fail
      go_ret
      exact ⟨by first | rfl | simp [*], HBA.out.trans (HB2.out.mono HBA.out.size)⟩
  rw [if_neg h1, if_neg h2, if_neg h3]
  have g1 : (kd == 1) = false := by simpa using h1
  have g2 : (kd == 2) = false := by simpa using h2
  have g3 : (kd == 3) = false := by simpa using h3
  clear h1 h2 h3
  obtain ⟨A, hA⟩ : ∃ A, A = w.alloc (.cells #[.int .i64 kd, .int .i64 v0, .int .i64 v1, .int .i64 b0, .int .i64 b1] 52) := ⟨_, rfl⟩
  have HBA := Lib.hid (show Below w.heap.size w A by rw [hA]; exact ((Below.refl _ _).alloc (Nat.le_refl _) _))
  have hltA : w.heap.size + 1 ≤ A.heap.size := by rw [hA]; simp
  have q0 : A.cell? ⟨w.heap.size, 0, none⟩ = some (.int .i64 kd) := by rw [hA]; exact (cellHB (World.alloc_heap_new w _) 0).trans (by simp)
  have q1 : A.cell? ⟨w.heap.size, 1, none⟩ = some (.int .i64 v0) := by rw [hA]; exact (cellHB (World.alloc_heap_new w _) 1).trans (by simp)
  have q2 : A.cell? ⟨w.heap.size, 2, none⟩ = some (.int .i64 v1) := by rw [hA]; exact (cellHB (World.alloc_heap_new w _) 2).trans (by simp)
  have q3 : A.cell? ⟨w.heap.size, 3, none⟩ = some (.int .i64 b0) := by rw [hA]; exact (cellHB (World.alloc_heap_new w _) 3).trans (by simp)
  have q4 : A.cell? ⟨w.heap.size, 4, none⟩ = some (.int .i64 b1) := by rw [hA]; exact (cellHB (World.alloc_heap_new w _) 4).trans (by simp)
  have KK := Lib.hid (show ∀ W, Below A.heap.size A W → W.cell? ⟨w.heap.size, 0, none⟩ = some (.int .i64 kd) ∧ W.cell? ⟨w.heap.size, 1, none⟩ = some (.int .i64 v0) ∧ W.cell? ⟨w.heap.size, 2, none⟩ = some (.int .i64 v1) ∧ W.cell? ⟨w.heap.size, 3, none⟩ = some (.int .i64 b0) ∧ W.cell? ⟨w.heap.size, 4, none⟩ = some (.int .i64 b1) from fun W h => ⟨(h.cell (p := ⟨w.heap.size, 0, none⟩) (by show w.heap.size < A.heap.size; omega)).trans q0, (h.cell (p := ⟨w.heap.size, 1, none⟩) (by show w.heap.size < A.heap.size; omega)).trans q1, (h.cell (p := ⟨w.heap.size, 2, none⟩) (by show w.heap.size < A.heap.size; omega)).trans q2, (h.cell (p := ⟨w.heap.size, 3, none⟩) (by show w.heap.size < A.heap.size; omega)).trans q3, (h.cell (p := ⟨w.heap.size, 4, none⟩) (by show w.heap.size < A.heap.size; omega)).trans q4⟩)
  have HLT := Lib.hid hltA
  clear hltA q0 q1 q2 q3 q4
  obtain ⟨k0, k1, k2, k3, k4⟩ := KK.out _ (Below.refl _ _)
  go_enter Try.func111, Try.ntmps111
  go_upto_region 1 with fail
  rw [← hA]
  clear hA
  go_wp2_with fail
  go_ret
  exact ⟨by first | rfl | simp [*], HBA.out⟩
theorem refUp_any (n d : Int) (h1 : 0 ≤ n) (h2 : n ≤ 4611686018427387904) (hd : 1 ≤ d) (hd2 : d ≤ 1099511627776) (w : World) :
    Calls Try.prog 112 #[.int .i64 n, .int .i64 d] w fun e w' => e = .returned (.int .i64 ((n + d - 1) / d)) ∧ w' = w := by
  have hq : (n + d - 1).tdiv d = (n + d - 1) / d := Int.tdiv_eq_ediv_of_nonneg (by omega)
  have hq0 : 0 ≤ (n + d - 1) / d := Int.ediv_nonneg (by omega) (by omega)
  have hq2 : (n + d - 1) / d ≤ n + d - 1 := Int.ediv_le_self d (by omega)
  obtain ⟨q, hqq⟩ : ∃ q, q = (n + d - 1) / d := ⟨_, rfl⟩
  rw [← hqq] at hq hq0 hq2 ⊢
  clear hqq
  have w1 : IntKind.wrap .i64 q = q := by rw [IntKind.wrap_i64]; omega
  have hdz : (d == 0) = false := by simp; omega
  go_enter Try.func112, Try.ntmps112
  go_wp2_with fail
  go_ret
  exact ⟨by first | rfl | (simp [hq, w1]; done), rfl⟩
set_option maxRecDepth 100000 in
set_option maxHeartbeats 16000000 in
theorem refDistance_any (kd v0 v1 b0 b1 : Int) (w : World) :
    Calls Try.prog 45 #[.agg #[.int .i64 kd, .int .i64 v0, .int .i64 v1, .int .i64 b0, .int .i64 b1]] w fun e w' => e = .returned (.tuple #[.agg #[.int .i64 (dsS kd v0 v1 b0 b1).lo, .int .i64 (dsS kd v0 v1 b0 b1).hi], .int .i64 (dsS kd v0 v1 b0 b1).e]) ∧ Below w.heap.size w w' := by
  have c1 := fun W => refmeasure_any kd v0 v1 b0 b1 W
  by_cases hf : fitB kd v0 v1 b0 b1 = true
  rotate_left
  · rw [show dsS kd v0 v1 b0 b1 = ⟨0, 0, 2⟩ from if_neg hf]
    rw [Bool.not_eq_true] at hf
    rw [hf] at c1
    clear hf
    obtain ⟨A, hA⟩ : ∃ A, A = (w.alloc (.cells #[.int .i64 kd, .int .i64 v0, .int .i64 v1, .int .i64 b0, .int .i64 b1] 52)).alloc (.cells #[.int .i64 0, .int .i64 0] 23) := ⟨_, rfl⟩
    have HBA := Lib.hid (show Below w.heap.size w A by rw [hA]; exact ((Below.refl _ _).alloc (Nat.le_refl _) _).alloc (by simp) _)
    have hzA : A.heap.size = w.heap.size + 2 := by rw [hA]; simp
    have hRA : Bx2 A (w.heap.size + 1) (.int .i64 0) (.int .i64 0) := by
      rw [hA]
      have q := Bx2.new (w.alloc (.cells #[.int .i64 kd, .int .i64 v0, .int .i64 v1, .int .i64 b0, .int .i64 b1] 52)) (.int .i64 0) (.int .i64 0)
      rwa [World.size_alloc] at q
    have HRA := Lib.hid hRA
    have k0 : A.cell? ⟨w.heap.size, 0, none⟩ = some (.int .i64 kd) := by rw [hA]; simp [go_sem]
    have k1 : A.cell? ⟨w.heap.size, 1, none⟩ = some (.int .i64 v0) := by rw [hA]; simp [go_sem]
    have k2 : A.cell? ⟨w.heap.size, 2, none⟩ = some (.int .i64 v1) := by rw [hA]; simp [go_sem]
    have k3 : A.cell? ⟨w.heap.size, 3, none⟩ = some (.int .i64 b0) := by rw [hA]; simp [go_sem]
    have k4 : A.cell? ⟨w.heap.size, 4, none⟩ = some (.int .i64 b1) := by rw [hA]; simp [go_sem]
    have KK := Lib.hid (show ∀ W, Below A.heap.size A W → W.cell? ⟨w.heap.size, 0, none⟩ = some (.int .i64 kd) ∧ W.cell? ⟨w.heap.size, 1, none⟩ = some (.int .i64 v0) ∧ W.cell? ⟨w.heap.size, 2, none⟩ = some (.int .i64 v1) ∧ W.cell? ⟨w.heap.size, 3, none⟩ = some (.int .i64 b0) ∧ W.cell? ⟨w.heap.size, 4, none⟩ = some (.int .i64 b1) from fun W h => ⟨(h.cell (p := ⟨w.heap.size, 0, none⟩) (by show w.heap.size < A.heap.size; omega)).trans k0, (h.cell (p := ⟨w.heap.size, 1, none⟩) (by show w.heap.size < A.heap.size; omega)).trans k1, (h.cell (p := ⟨w.heap.size, 2, none⟩) (by show w.heap.size < A.heap.size; omega)).trans k2, (h.cell (p := ⟨w.heap.size, 3, none⟩) (by show w.heap.size < A.heap.size; omega)).trans k3, (h.cell (p := ⟨w.heap.size, 4, none⟩) (by show w.heap.size < A.heap.size; omega)).trans k4⟩)
    have HEND := Lib.hid (show ∀ W v0 v1, Below A.heap.size A W → Below w.heap.size w ((W.setCell ⟨w.heap.size + 1, 0, none⟩ v0).setCell ⟨w.heap.size + 1, 1, none⟩ v1) from fun W v0 v1 h =>
      ((HBA.out.trans (h.mono HBA.out.size)).setCell (p := ⟨w.heap.size + 1, 0, none⟩) (by show w.heap.size ≤ w.heap.size + 1; omega) _).setCell (p := ⟨w.heap.size + 1, 1, none⟩) (by show w.heap.size ≤ w.heap.size + 1; omega) _)
    have hlw : w.heap.size < w.heap.size + 1 ∧ w.heap.size + 1 < A.heap.size := by omega
    clear hRA hzA
    go_enter Try.func45, Try.ntmps45
    go_upto_region 1 with fail
    try rw [← hA]
    clear hA
    generalize hB1 : w.heap.size + 1 = B1 at *
    clear hB1
    go_wp2_with fail
    refine (c1 _).mono ?_
    rintro e w1 ⟨rfl, hb⟩
    have HB1 := Lib.hid hb
    clear hb k0 k1 k2 k3 k4
    obtain ⟨k0, k1, k2, k3, k4⟩ := KK.out _ HB1.out
    obtain ⟨x0, x1⟩ := And.intro (HRA.out.keep HB1.out).c0 (HRA.out.keep HB1.out).c1
    obtain ⟨f0, f1⟩ := And.intro ((HRA.out.keep HB1.out).f0 0) ((HRA.out.keep HB1.out).f0 1)
    go_wp2_with fail
    refine bodyPost_ret (v := .tuple #[.agg #[.int .i64 0, .int .i64 0], .int .i64 2]) (by simp [results, Try.results45, go_sem, ((HRA.out.keep HB1.out).set (.int .i64 0) (.int .i64 0)).c0, ((HRA.out.keep HB1.out).set (.int .i64 0) (.int .i64 0)).c1]) rfl ⟨rfl, HEND.out _ _ _ HB1.out⟩
  rw [show dsS kd v0 v1 b0 b1 = fit (dsQ kd v0 v1 b0 b1).1 (dsQ kd v0 v1 b0 b1).2 from if_pos hf]
  rw [hf] at c1
  rcases fitB_cases hf with ⟨rfl, h1, h2, h3, h4, h5, h6⟩ | ⟨rfl, h1, h2, h3, h4, h5, h6⟩ | ⟨rfl, h1, h2, h3, h4, h5, h6⟩
  · rw [show dsQ 1 v0 v1 b0 b1 = (1000 * v0 / b1, (1000 * v1 + b0 - 1) / b0) from rfl]
    have c2 := fun W => refUp_any (1000 * v1) b0 (by omega) (by omega) (by omega) (by omega) W
    have hq : (1000 * v0).tdiv b1 = 1000 * v0 / b1 := Int.tdiv_eq_ediv_of_nonneg (by omega)
    have hqb : 0 ≤ 1000 * v0 / b1 := Int.ediv_nonneg (by omega) (by omega)
    have hqb2 : 1000 * v0 / b1 ≤ 1000 * v0 := Int.ediv_le_self _ (by omega)
    have hw1 : IntKind.wrap .i64 (1000 * v0) = 1000 * v0 := by rw [IntKind.wrap_i64]; omega
    have hw2 : IntKind.wrap .i64 (1000 * v1) = 1000 * v1 := by rw [IntKind.wrap_i64]; omega
    have hw3 : IntKind.wrap .i64 (1000 * v0 / b1) = 1000 * v0 / b1 := by rw [IntKind.wrap_i64]; omega
    have hz : (b1 == 0) = false := by simp; omega
    dsimp only
    generalize 1000 * v0 / b1 = q1 at *
    generalize (1000 * v1 + b0 - 1) / b0 = q2 at *
    have c3 := fun W => refCheck1_any q1 q2 W
    have HF := Lib.hid (show fit q1 q2 = if vB q1 q2 = true then ⟨q1, q2, 0⟩ else ⟨0, 0, 4⟩ from rfl)
    clear hf
    obtain ⟨A, hA⟩ : ∃ A, A = (w.alloc (.cells #[.int .i64 1, .int .i64 v0, .int .i64 v1, .int .i64 b0, .int .i64 b1] 52)).alloc (.cells #[.int .i64 0, .int .i64 0] 23) := ⟨_, rfl⟩
    have HBA := Lib.hid (show Below w.heap.size w A by rw [hA]; exact ((Below.refl _ _).alloc (Nat.le_refl _) _).alloc (by simp) _)
    have hzA : A.heap.size = w.heap.size + 2 := by rw [hA]; simp
    have hRA : Bx2 A (w.heap.size + 1) (.int .i64 0) (.int .i64 0) := by
      rw [hA]
      have q := Bx2.new (w.alloc (.cells #[.int .i64 1, .int .i64 v0, .int .i64 v1, .int .i64 b0, .int .i64 b1] 52)) (.int .i64 0) (.int .i64 0)
      rwa [World.size_alloc] at q
    have HRA := Lib.hid hRA
    have k0 : A.cell? ⟨w.heap.size, 0, none⟩ = some (.int .i64 1) := by rw [hA]; simp [go_sem]
    have k1 : A.cell? ⟨w.heap.size, 1, none⟩ = some (.int .i64 v0) := by rw [hA]; simp [go_sem]
    have k2 : A.cell? ⟨w.heap.size, 2, none⟩ = some (.int .i64 v1) := by rw [hA]; simp [go_sem]
    have k3 : A.cell? ⟨w.heap.size, 3, none⟩ = some (.int .i64 b0) := by rw [hA]; simp [go_sem]
    have k4 : A.cell? ⟨w.heap.size, 4, none⟩ = some (.int .i64 b1) := by rw [hA]; simp [go_sem]
    have KK := Lib.hid (show ∀ W, Below A.heap.size A W → W.cell? ⟨w.heap.size, 0, none⟩ = some (.int .i64 1) ∧ W.cell? ⟨w.heap.size, 1, none⟩ = some (.int .i64 v0) ∧ W.cell? ⟨w.heap.size, 2, none⟩ = some (.int .i64 v1) ∧ W.cell? ⟨w.heap.size, 3, none⟩ = some (.int .i64 b0) ∧ W.cell? ⟨w.heap.size, 4, none⟩ = some (.int .i64 b1) from fun W h => ⟨(h.cell (p := ⟨w.heap.size, 0, none⟩) (by show w.heap.size < A.heap.size; omega)).trans k0, (h.cell (p := ⟨w.heap.size, 1, none⟩) (by show w.heap.size < A.heap.size; omega)).trans k1, (h.cell (p := ⟨w.heap.size, 2, none⟩) (by show w.heap.size < A.heap.size; omega)).trans k2, (h.cell (p := ⟨w.heap.size, 3, none⟩) (by show w.heap.size < A.heap.size; omega)).trans k3, (h.cell (p := ⟨w.heap.size, 4, none⟩) (by show w.heap.size < A.heap.size; omega)).trans k4⟩)
    have HEND := Lib.hid (show ∀ W v0 v1, Below A.heap.size A W → Below w.heap.size w ((W.setCell ⟨w.heap.size + 1, 0, none⟩ v0).setCell ⟨w.heap.size + 1, 1, none⟩ v1) from fun W v0 v1 h =>
      ((HBA.out.trans (h.mono HBA.out.size)).setCell (p := ⟨w.heap.size + 1, 0, none⟩) (by show w.heap.size ≤ w.heap.size + 1; omega) _).setCell (p := ⟨w.heap.size + 1, 1, none⟩) (by show w.heap.size ≤ w.heap.size + 1; omega) _)
    have hlw : w.heap.size < w.heap.size + 1 ∧ w.heap.size + 1 < A.heap.size := by omega
    clear hRA hzA
    go_enter Try.func45, Try.ntmps45
    go_upto_region 1 with fail
    try rw [← hA]
    clear hA
    generalize hB1 : w.heap.size + 1 = B1 at *
    clear hB1
    go_wp2_with fail
    refine (c1 _).mono ?_
    rintro e w1 ⟨rfl, hb⟩
    have HB1 := Lib.hid hb
    clear hb k0 k1 k2 k3 k4
    obtain ⟨k0, k1, k2, k3, k4⟩ := KK.out _ HB1.out
    obtain ⟨V, hV⟩ : ∃ V, V = w1.alloc (.cells #[.int .i64 (b0 - v1), .int .i64 (b1 - v0)] 23) := ⟨_, rfl⟩
    have HBV := Lib.hid (show Below A.heap.size A V by rw [hV]; exact HB1.out.alloc HB1.out.size _)
    have HX := Lib.hid (show Bx2 V w1.heap.size (.int .i64 (b0 - v1)) (.int .i64 (b1 - v0)) by rw [hV]; exact Bx2.new _ _ _)
    have hA1 : A.heap.size ≤ w1.heap.size := HB1.out.size
    go_upto_region 4 with fail
    try rw [← hV]
    clear hV k0 k1 k2 k3 k4
    obtain ⟨k0, k1, k2, k3, k4⟩ := KK.out _ HBV.out
    generalize w1.heap.size = B4 at *
    go_upto_region 5 with fail
    refine wp_region_held_drew (S := fun w' => w'.cell? ⟨w.heap.size, 1, none⟩ = some (Value.int .i64 v0) ∧ w'.cell? ⟨w.heap.size, 2, none⟩ = some (Value.int .i64 v1) ∧ w'.cell? ⟨w.heap.size, 3, none⟩ = some (Value.int .i64 b0) ∧ w'.cell? ⟨w.heap.size, 4, none⟩ = some (Value.int .i64 b1)) (by kernel_rfl) ⟨by simpa [go_sem] using k1, by simpa [go_sem] using k2, by simpa [go_sem] using k3, by simpa [go_sem] using k4⟩ (fun hHeld => ?_)
    have HBD := Lib.hid (show Below A.heap.size A V.drew from HBV.out.drew)
    refine wpAnyH_take (i := 0) (oi := _) (v := Value.pointer (some ⟨w.heap.size, 1, none⟩)) rfl (by kernel_rfl) (by kernel_rfl) (by kernel_rfl) (fun _ _ _ h => h) (Or.inl ⟨by rfl, fun w' hSw => ?_⟩) hHeld ?_
    · obtain ⟨t0, t1, t2, t3⟩ := hSw
      go_simp
      try simp [*]
      try (intro hh; exfalso; omega)
      try omega
    try simp only [Act.put, List.setIfInBounds_toArray, List.set_cons_zero, List.set_cons_succ, List.getElem_toArray, List.getElem_cons_succ, List.getElem_cons_zero]
    refine wpAnyH_take (i := 1) (oi := _) (v := Value.pointer (some ⟨w.heap.size, 1, none⟩)) rfl (by kernel_rfl) (by kernel_rfl) (by kernel_rfl) (fun _ _ _ h => h) (Or.inl ⟨by rfl, fun w' hSw => ?_⟩) hHeld ?_
    · obtain ⟨t0, t1, t2, t3⟩ := hSw
      go_simp
      try simp [*]
      try (intro hh; exfalso; omega)
      try omega
    try simp only [Act.put, List.setIfInBounds_toArray, List.set_cons_zero, List.set_cons_succ, List.getElem_toArray, List.getElem_cons_succ, List.getElem_cons_zero]
    refine wpAnyH_take (i := 2) (oi := _) (v := Value.int .i64 v0) rfl (by kernel_rfl) (by kernel_rfl) (by kernel_rfl) (fun _ _ _ h => h) (Or.inl ⟨by rfl, fun w' hSw => ?_⟩) hHeld ?_
    · obtain ⟨t0, t1, t2, t3⟩ := hSw
      go_simp
      try simp [*]
      try (intro hh; exfalso; omega)
      try omega
    try simp only [Act.put, List.setIfInBounds_toArray, List.set_cons_zero, List.set_cons_succ, List.getElem_toArray, List.getElem_cons_succ, List.getElem_cons_zero]
    refine wpAnyH_take (i := 3) (oi := _) (v := Value.int .i64 (1000 * v0)) rfl (by kernel_rfl) (by kernel_rfl) (by kernel_rfl) (fun _ _ _ h => h) (Or.inl ⟨by rfl, fun w' hSw => ?_⟩) hHeld ?_
    · obtain ⟨t0, t1, t2, t3⟩ := hSw
      go_simp
      try simp [*]
      try (intro hh; exfalso; omega)
      try omega
    try simp only [Act.put, List.setIfInBounds_toArray, List.set_cons_zero, List.set_cons_succ, List.getElem_toArray, List.getElem_cons_succ, List.getElem_cons_zero]
    refine wpAnyH_take (i := 4) (oi := _) (v := Value.pointer (some ⟨w.heap.size, 3, none⟩)) rfl (by kernel_rfl) (by kernel_rfl) (by kernel_rfl) (fun _ _ _ h => h) (Or.inl ⟨by rfl, fun w' hSw => ?_⟩) hHeld ?_
    · obtain ⟨t0, t1, t2, t3⟩ := hSw
      go_simp
      try simp [*]
      try (intro hh; exfalso; omega)
      try omega
    try simp only [Act.put, List.setIfInBounds_toArray, List.set_cons_zero, List.set_cons_succ, List.getElem_toArray, List.getElem_cons_succ, List.getElem_cons_zero]
    refine wpAnyH_take (i := 5) (oi := _) (v := Value.pointer (some ⟨w.heap.size, 4, none⟩)) rfl (by kernel_rfl) (by kernel_rfl) (by kernel_rfl) (fun _ _ _ h => h) (Or.inl ⟨by rfl, fun w' hSw => ?_⟩) hHeld ?_
    · obtain ⟨t0, t1, t2, t3⟩ := hSw
      go_simp
      try simp [*]
      try (intro hh; exfalso; omega)
      try omega
    try simp only [Act.put, List.setIfInBounds_toArray, List.set_cons_zero, List.set_cons_succ, List.getElem_toArray, List.getElem_cons_succ, List.getElem_cons_zero]
    refine wpAnyH_take (i := 6) (oi := _) (v := Value.int .i64 b1) rfl (by kernel_rfl) (by kernel_rfl) (by kernel_rfl) (fun _ _ _ h => h) (Or.inl ⟨by rfl, fun w' hSw => ?_⟩) hHeld ?_
    · obtain ⟨t0, t1, t2, t3⟩ := hSw
      go_simp
      try simp [*]
      try (intro hh; exfalso; omega)
      try omega
    try simp only [Act.put, List.setIfInBounds_toArray, List.set_cons_zero, List.set_cons_succ, List.getElem_toArray, List.getElem_cons_succ, List.getElem_cons_zero]
    refine wpAnyH_take (i := 7) (oi := _) (v := Value.int .i64 q1) rfl (by kernel_rfl) (by kernel_rfl) (by kernel_rfl) (fun _ _ _ h => h) (Or.inl ⟨by rfl, fun w' hSw => ?_⟩) hHeld ?_
    · obtain ⟨t0, t1, t2, t3⟩ := hSw
      go_simp
      try simp [*]
      try (intro hh; exfalso; omega)
      try omega
    try simp only [Act.put, List.setIfInBounds_toArray, List.set_cons_zero, List.set_cons_succ, List.getElem_toArray, List.getElem_cons_succ, List.getElem_cons_zero]
    refine wpAnyH_take (i := 8) (oi := _) (v := Value.pointer (some ⟨w.heap.size, 1, none⟩)) rfl (by kernel_rfl) (by kernel_rfl) (by kernel_rfl) (fun _ _ _ h => h) (Or.inl ⟨by rfl, fun w' hSw => ?_⟩) hHeld ?_
    · obtain ⟨t0, t1, t2, t3⟩ := hSw
      go_simp
      try simp [*]
      try (intro hh; exfalso; omega)
      try omega
    try simp only [Act.put, List.setIfInBounds_toArray, List.set_cons_zero, List.set_cons_succ, List.getElem_toArray, List.getElem_cons_succ, List.getElem_cons_zero]
    refine wpAnyH_take (i := 9) (oi := _) (v := Value.pointer (some ⟨w.heap.size, 2, none⟩)) rfl (by kernel_rfl) (by kernel_rfl) (by kernel_rfl) (fun _ _ _ h => h) (Or.inl ⟨by rfl, fun w' hSw => ?_⟩) hHeld ?_
    · obtain ⟨t0, t1, t2, t3⟩ := hSw
      go_simp
      try simp [*]
      try (intro hh; exfalso; omega)
      try omega
    try simp only [Act.put, List.setIfInBounds_toArray, List.set_cons_zero, List.set_cons_succ, List.getElem_toArray, List.getElem_cons_succ, List.getElem_cons_zero]
    refine wpAnyH_take (i := 10) (oi := _) (v := Value.int .i64 v1) rfl (by kernel_rfl) (by kernel_rfl) (by kernel_rfl) (fun _ _ _ h => h) (Or.inl ⟨by rfl, fun w' hSw => ?_⟩) hHeld ?_
    · obtain ⟨t0, t1, t2, t3⟩ := hSw
      go_simp
      try simp [*]
      try (intro hh; exfalso; omega)
      try omega
    try simp only [Act.put, List.setIfInBounds_toArray, List.set_cons_zero, List.set_cons_succ, List.getElem_toArray, List.getElem_cons_succ, List.getElem_cons_zero]
    refine wpAnyH_take (i := 11) (oi := _) (v := Value.int .i64 (1000 * v1)) rfl (by kernel_rfl) (by kernel_rfl) (by kernel_rfl) (fun _ _ _ h => h) (Or.inl ⟨by rfl, fun w' hSw => ?_⟩) hHeld ?_
    · obtain ⟨t0, t1, t2, t3⟩ := hSw
      go_simp
      try simp [*]
      try (intro hh; exfalso; omega)
      try omega
    try simp only [Act.put, List.setIfInBounds_toArray, List.set_cons_zero, List.set_cons_succ, List.getElem_toArray, List.getElem_cons_succ, List.getElem_cons_zero]
    refine wpAnyH_take (i := 12) (oi := _) (v := Value.pointer (some ⟨w.heap.size, 3, none⟩)) rfl (by kernel_rfl) (by kernel_rfl) (by kernel_rfl) (fun _ _ _ h => h) (Or.inl ⟨by rfl, fun w' hSw => ?_⟩) hHeld ?_
    · obtain ⟨t0, t1, t2, t3⟩ := hSw
      go_simp
      try simp [*]
      try (intro hh; exfalso; omega)
      try omega
    try simp only [Act.put, List.setIfInBounds_toArray, List.set_cons_zero, List.set_cons_succ, List.getElem_toArray, List.getElem_cons_succ, List.getElem_cons_zero]
    refine wpAnyH_take (i := 13) (oi := _) (v := Value.pointer (some ⟨w.heap.size, 3, none⟩)) rfl (by kernel_rfl) (by kernel_rfl) (by kernel_rfl) (fun _ _ _ h => h) (Or.inl ⟨by rfl, fun w' hSw => ?_⟩) hHeld ?_
    · obtain ⟨t0, t1, t2, t3⟩ := hSw
      go_simp
      try simp [*]
      try (intro hh; exfalso; omega)
      try omega
    try simp only [Act.put, List.setIfInBounds_toArray, List.set_cons_zero, List.set_cons_succ, List.getElem_toArray, List.getElem_cons_succ, List.getElem_cons_zero]
    refine wpAnyH_take (i := 14) (oi := _) (v := Value.int .i64 b0) rfl (by kernel_rfl) (by kernel_rfl) (by kernel_rfl) (fun _ _ _ h => h) (Or.inl ⟨by rfl, fun w' hSw => ?_⟩) hHeld ?_
    · obtain ⟨t0, t1, t2, t3⟩ := hSw
      go_simp
      try simp [*]
      try (intro hh; exfalso; omega)
      try omega
    try simp only [Act.put, List.setIfInBounds_toArray, List.set_cons_zero, List.set_cons_succ, List.getElem_toArray, List.getElem_cons_succ, List.getElem_cons_zero]
    refine wpAnyH_ready (rs := [15]) (by kernel_rfl) (by simp) ?_
    refine AllReadyH.cons (o := _) rfl (fun K hK => ?_) AllReadyH.nil
    go_simp
    go_at_call 112
    refine Calls.mono (c2 _) ?_
    rintro e v2 ⟨rfl, rfl⟩
    clear hHeld
    refine hK.out _ _ ((fun q => ⟨q.2.1, q.2.2.1, q.2.2.2.1, q.2.2.2.2⟩) (KK.out _ HBD.out)) (fun hHeld => ?_)
    clear hK K
    try simp only [Act.put, List.setIfInBounds_toArray, List.set_cons_zero, List.set_cons_succ, List.getElem_toArray, List.getElem_cons_succ, List.getElem_cons_zero]
    refine wpAnyH_take (i := 16) (oi := _) (v := Value.agg #[Value.int .i64 q1, Value.int .i64 q2]) rfl (by kernel_rfl) (by kernel_rfl) (by kernel_rfl) (fun _ _ _ h => h) (Or.inl ⟨by rfl, fun w' hSw => ?_⟩) hHeld ?_
    · obtain ⟨t0, t1, t2, t3⟩ := hSw
      go_simp
      try simp [*]
      try (intro hh; exfalso; omega)
      try omega
    try simp only [Act.put, List.setIfInBounds_toArray, List.set_cons_zero, List.set_cons_succ, List.getElem_toArray, List.getElem_cons_succ, List.getElem_cons_zero]
    obtain ⟨Z, hZ⟩ : ∃ Z, Z = ((V.setCell ⟨B4, 0, none⟩ (.int .i64 q1)).setCell ⟨B4, 1, none⟩ (.int .i64 q2)).drew := ⟨_, rfl⟩
    have HXZ := Lib.hid (show Bx2 Z B4 (.int .i64 q1) (.int .i64 q2) by rw [hZ]; exact HX.out.set _ _)
    have HBZ := Lib.hid (show Below A.heap.size A Z by rw [hZ]; exact ((HBV.out.setCell (p := ⟨B4, 0, none⟩) hA1 _).setCell (p := ⟨B4, 1, none⟩) hA1 _).drew)
    have y0 := HX.out.c0
    have y1 := HX.out.c1
    have yf0 := HX.out.f0 0
    have yf1 := HX.out.f0 1
    refine wpAnyH_ready (rs := [17]) (by kernel_rfl) (by simp) ?_
    refine AllReadyH.cons (o := _) rfl (fun K hK => ?_) AllReadyH.nil
    go_simp
    try rw [← hZ]
    clear hHeld
    refine hK.out _ _ ((fun q => ⟨q.2.1, q.2.2.1, q.2.2.2.1, q.2.2.2.2⟩) (KK.out _ HBZ.out)) (fun hHeld => ?_)
    clear hK K
    try simp only [Act.put, List.setIfInBounds_toArray, List.set_cons_zero, List.set_cons_succ, List.getElem_toArray, List.getElem_cons_succ, List.getElem_cons_zero]
    refine wpAnyH_done (by kernel_rfl) ?_ _
    clear hHeld
    clear hZ y0 y1 yf0 yf1 k0 k1 k2 k3 k4
    obtain ⟨k0, k1, k2, k3, k4⟩ := KK.out _ HBZ.out
    have y0 := HXZ.out.c0
    have y1 := HXZ.out.c1
    go_wp2_with fail
    refine (c3 _).mono ?_
    rintro e w5 ⟨he, hb⟩
    have HB5 := Lib.hid (HBZ.out.trans (hb.mono HBZ.out.size))
    have HX5 := Lib.hid (HXZ.out.keep hb)
    clear hb y0 y1 k0 k1 k2 k3 k4
    have y0 := HX5.out.c0
    have y1 := HX5.out.c1
    by_cases hv : vB q1 q2 = true
    · rw [if_pos hv] at he
      have hF := HF.out
      rw [if_pos hv] at hF
      have HFF := Lib.hid hF
      clear hF hv HF c3
      subst he
      obtain ⟨x0, x1⟩ := And.intro (HRA.out.keep HB5.out).c0 (HRA.out.keep HB5.out).c1
      obtain ⟨f0, f1⟩ := And.intro ((HRA.out.keep HB5.out).f0 0) ((HRA.out.keep HB5.out).f0 1)
      go_wp2_with fail
      refine bodyPost_ret (v := .tuple #[.agg #[.int .i64 q1, .int .i64 q2], .int .i64 0]) (by simp [results, Try.results45, go_sem, ((HRA.out.keep HB5.out).set (.int .i64 q1) (.int .i64 q2)).c0, ((HRA.out.keep HB5.out).set (.int .i64 q1) (.int .i64 q2)).c1]) rfl ⟨by rw [HFF.out], HEND.out _ _ _ HB5.out⟩
    · rw [if_neg hv] at he
      have hF := HF.out
      rw [if_neg hv] at hF
      have HFF := Lib.hid hF
      clear hF hv HF c3
      subst he
      obtain ⟨x0, x1⟩ := And.intro (HRA.out.keep HB5.out).c0 (HRA.out.keep HB5.out).c1
      obtain ⟨f0, f1⟩ := And.intro ((HRA.out.keep HB5.out).f0 0) ((HRA.out.keep HB5.out).f0 1)
      go_wp2_with fail
      refine bodyPost_ret (v := .tuple #[.agg #[.int .i64 0, .int .i64 0], .int .i64 4]) (by simp [results, Try.results45, go_sem, ((HRA.out.keep HB5.out).set (.int .i64 0) (.int .i64 0)).c0, ((HRA.out.keep HB5.out).set (.int .i64 0) (.int .i64 0)).c1]) rfl ⟨by rw [HFF.out], HEND.out _ _ _ HB5.out⟩
  · rw [show dsQ 2 v0 v1 b0 b1 = (v0 * b0 / 2000000, (v1 * b1 + 2000000 - 1) / 2000000) from rfl]
    have n1 : 0 ≤ v0 * b0 := Int.mul_nonneg h1 (by omega)
    have n2 : v0 * b0 ≤ 67108864 * 300000 := Int.mul_le_mul (by omega) (by omega) (by omega) (by omega)
    have n3 : 0 ≤ v1 * b1 := Int.mul_nonneg (by omega) (by omega)
    have n4 : v1 * b1 ≤ 67108864 * 300000 := Int.mul_le_mul (by omega) (by omega) (by omega) (by omega)
    have c2 := fun W => refUp_any (v1 * b1) 2000000 (by omega) (by omega) (by omega) (by omega) W
    have hq : (v0 * b0).tdiv 2000000 = v0 * b0 / 2000000 := Int.tdiv_eq_ediv_of_nonneg (by omega)
    have hw1 : IntKind.wrap .i64 (v0 * b0) = v0 * b0 := by rw [IntKind.wrap_i64]; omega
    have hw2 : IntKind.wrap .i64 (v1 * b1) = v1 * b1 := by rw [IntKind.wrap_i64]; omega
    have hw3 : IntKind.wrap .i64 (v0 * b0 / 2000000) = v0 * b0 / 2000000 := by rw [IntKind.wrap_i64]; omega
    dsimp only
    generalize v0 * b0 / 2000000 = q1 at *
    generalize (v1 * b1 + 2000000 - 1) / 2000000 = q2 at *
    clear n1 n2 n3 n4
    have c3 := fun W => refCheck1_any q1 q2 W
    have HF := Lib.hid (show fit q1 q2 = if vB q1 q2 = true then ⟨q1, q2, 0⟩ else ⟨0, 0, 4⟩ from rfl)
    clear hf
    obtain ⟨A, hA⟩ : ∃ A, A = (w.alloc (.cells #[.int .i64 2, .int .i64 v0, .int .i64 v1, .int .i64 b0, .int .i64 b1] 52)).alloc (.cells #[.int .i64 0, .int .i64 0] 23) := ⟨_, rfl⟩
    have HBA := Lib.hid (show Below w.heap.size w A by rw [hA]; exact ((Below.refl _ _).alloc (Nat.le_refl _) _).alloc (by simp) _)
    have hzA : A.heap.size = w.heap.size + 2 := by rw [hA]; simp
    have hRA : Bx2 A (w.heap.size + 1) (.int .i64 0) (.int .i64 0) := by
      rw [hA]
      have q := Bx2.new (w.alloc (.cells #[.int .i64 2, .int .i64 v0, .int .i64 v1, .int .i64 b0, .int .i64 b1] 52)) (.int .i64 0) (.int .i64 0)
      rwa [World.size_alloc] at q
    have HRA := Lib.hid hRA
    have k0 : A.cell? ⟨w.heap.size, 0, none⟩ = some (.int .i64 2) := by rw [hA]; simp [go_sem]
    have k1 : A.cell? ⟨w.heap.size, 1, none⟩ = some (.int .i64 v0) := by rw [hA]; simp [go_sem]
    have k2 : A.cell? ⟨w.heap.size, 2, none⟩ = some (.int .i64 v1) := by rw [hA]; simp [go_sem]
    have k3 : A.cell? ⟨w.heap.size, 3, none⟩ = some (.int .i64 b0) := by rw [hA]; simp [go_sem]
    have k4 : A.cell? ⟨w.heap.size, 4, none⟩ = some (.int .i64 b1) := by rw [hA]; simp [go_sem]
    have KK := Lib.hid (show ∀ W, Below A.heap.size A W → W.cell? ⟨w.heap.size, 0, none⟩ = some (.int .i64 2) ∧ W.cell? ⟨w.heap.size, 1, none⟩ = some (.int .i64 v0) ∧ W.cell? ⟨w.heap.size, 2, none⟩ = some (.int .i64 v1) ∧ W.cell? ⟨w.heap.size, 3, none⟩ = some (.int .i64 b0) ∧ W.cell? ⟨w.heap.size, 4, none⟩ = some (.int .i64 b1) from fun W h => ⟨(h.cell (p := ⟨w.heap.size, 0, none⟩) (by show w.heap.size < A.heap.size; omega)).trans k0, (h.cell (p := ⟨w.heap.size, 1, none⟩) (by show w.heap.size < A.heap.size; omega)).trans k1, (h.cell (p := ⟨w.heap.size, 2, none⟩) (by show w.heap.size < A.heap.size; omega)).trans k2, (h.cell (p := ⟨w.heap.size, 3, none⟩) (by show w.heap.size < A.heap.size; omega)).trans k3, (h.cell (p := ⟨w.heap.size, 4, none⟩) (by show w.heap.size < A.heap.size; omega)).trans k4⟩)
    have HEND := Lib.hid (show ∀ W v0 v1, Below A.heap.size A W → Below w.heap.size w ((W.setCell ⟨w.heap.size + 1, 0, none⟩ v0).setCell ⟨w.heap.size + 1, 1, none⟩ v1) from fun W v0 v1 h =>
      ((HBA.out.trans (h.mono HBA.out.size)).setCell (p := ⟨w.heap.size + 1, 0, none⟩) (by show w.heap.size ≤ w.heap.size + 1; omega) _).setCell (p := ⟨w.heap.size + 1, 1, none⟩) (by show w.heap.size ≤ w.heap.size + 1; omega) _)
    have hlw : w.heap.size < w.heap.size + 1 ∧ w.heap.size + 1 < A.heap.size := by omega
    clear hRA hzA
    go_enter Try.func45, Try.ntmps45
    go_upto_region 1 with fail
    try rw [← hA]
    clear hA
    generalize hB1 : w.heap.size + 1 = B1 at *
    clear hB1
    go_wp2_with fail
    refine (c1 _).mono ?_
    rintro e w1 ⟨rfl, hb⟩
    have HB1 := Lib.hid hb
    clear hb k0 k1 k2 k3 k4
    obtain ⟨k0, k1, k2, k3, k4⟩ := KK.out _ HB1.out
    obtain ⟨V, hV⟩ : ∃ V, V = w1.alloc (.cells #[.int .i64 (b0 - v1), .int .i64 (b1 - v0)] 23) := ⟨_, rfl⟩
    have HBV := Lib.hid (show Below A.heap.size A V by rw [hV]; exact HB1.out.alloc HB1.out.size _)
    have HX := Lib.hid (show Bx2 V w1.heap.size (.int .i64 (b0 - v1)) (.int .i64 (b1 - v0)) by rw [hV]; exact Bx2.new _ _ _)
    have hA1 : A.heap.size ≤ w1.heap.size := HB1.out.size
    go_upto_region 4 with fail
    try rw [← hV]
    clear hV k0 k1 k2 k3 k4
    obtain ⟨k0, k1, k2, k3, k4⟩ := KK.out _ HBV.out
    generalize w1.heap.size = B4 at *
    go_upto_region 7 with fail
    refine wp_region_held_drew (S := fun w' => w'.cell? ⟨w.heap.size, 1, none⟩ = some (Value.int .i64 v0) ∧ w'.cell? ⟨w.heap.size, 2, none⟩ = some (Value.int .i64 v1) ∧ w'.cell? ⟨w.heap.size, 3, none⟩ = some (Value.int .i64 b0) ∧ w'.cell? ⟨w.heap.size, 4, none⟩ = some (Value.int .i64 b1)) (by kernel_rfl) ⟨by simpa [go_sem] using k1, by simpa [go_sem] using k2, by simpa [go_sem] using k3, by simpa [go_sem] using k4⟩ (fun hHeld => ?_)
    have HBD := Lib.hid (show Below A.heap.size A V.drew from HBV.out.drew)
    refine wpAnyH_take (i := 0) (oi := _) (v := Value.pointer (some ⟨w.heap.size, 1, none⟩)) rfl (by kernel_rfl) (by kernel_rfl) (by kernel_rfl) (fun _ _ _ h => h) (Or.inl ⟨by rfl, fun w' hSw => ?_⟩) hHeld ?_
    · obtain ⟨t0, t1, t2, t3⟩ := hSw
      go_simp
      try simp [*]
      try (intro hh; exfalso; omega)
      try omega
    try simp only [Act.put, List.setIfInBounds_toArray, List.set_cons_zero, List.set_cons_succ, List.getElem_toArray, List.getElem_cons_succ, List.getElem_cons_zero]
    refine wpAnyH_take (i := 1) (oi := _) (v := Value.pointer (some ⟨w.heap.size, 1, none⟩)) rfl (by kernel_rfl) (by kernel_rfl) (by kernel_rfl) (fun _ _ _ h => h) (Or.inl ⟨by rfl, fun w' hSw => ?_⟩) hHeld ?_
    · obtain ⟨t0, t1, t2, t3⟩ := hSw
      go_simp
      try simp [*]
      try (intro hh; exfalso; omega)
      try omega
    try simp only [Act.put, List.setIfInBounds_toArray, List.set_cons_zero, List.set_cons_succ, List.getElem_toArray, List.getElem_cons_succ, List.getElem_cons_zero]
    refine wpAnyH_take (i := 2) (oi := _) (v := Value.int .i64 v0) rfl (by kernel_rfl) (by kernel_rfl) (by kernel_rfl) (fun _ _ _ h => h) (Or.inl ⟨by rfl, fun w' hSw => ?_⟩) hHeld ?_
    · obtain ⟨t0, t1, t2, t3⟩ := hSw
      go_simp
      try simp [*]
      try (intro hh; exfalso; omega)
      try omega
    try simp only [Act.put, List.setIfInBounds_toArray, List.set_cons_zero, List.set_cons_succ, List.getElem_toArray, List.getElem_cons_succ, List.getElem_cons_zero]
    refine wpAnyH_take (i := 3) (oi := _) (v := Value.pointer (some ⟨w.heap.size, 3, none⟩)) rfl (by kernel_rfl) (by kernel_rfl) (by kernel_rfl) (fun _ _ _ h => h) (Or.inl ⟨by rfl, fun w' hSw => ?_⟩) hHeld ?_
    · obtain ⟨t0, t1, t2, t3⟩ := hSw
      go_simp
      try simp [*]
      try (intro hh; exfalso; omega)
      try omega
    try simp only [Act.put, List.setIfInBounds_toArray, List.set_cons_zero, List.set_cons_succ, List.getElem_toArray, List.getElem_cons_succ, List.getElem_cons_zero]
    refine wpAnyH_take (i := 4) (oi := _) (v := Value.pointer (some ⟨w.heap.size, 3, none⟩)) rfl (by kernel_rfl) (by kernel_rfl) (by kernel_rfl) (fun _ _ _ h => h) (Or.inl ⟨by rfl, fun w' hSw => ?_⟩) hHeld ?_
    · obtain ⟨t0, t1, t2, t3⟩ := hSw
      go_simp
      try simp [*]
      try (intro hh; exfalso; omega)
      try omega
    try simp only [Act.put, List.setIfInBounds_toArray, List.set_cons_zero, List.set_cons_succ, List.getElem_toArray, List.getElem_cons_succ, List.getElem_cons_zero]
    refine wpAnyH_take (i := 5) (oi := _) (v := Value.int .i64 b0) rfl (by kernel_rfl) (by kernel_rfl) (by kernel_rfl) (fun _ _ _ h => h) (Or.inl ⟨by rfl, fun w' hSw => ?_⟩) hHeld ?_
    · obtain ⟨t0, t1, t2, t3⟩ := hSw
      go_simp
      try simp [*]
      try (intro hh; exfalso; omega)
      try omega
    try simp only [Act.put, List.setIfInBounds_toArray, List.set_cons_zero, List.set_cons_succ, List.getElem_toArray, List.getElem_cons_succ, List.getElem_cons_zero]
    refine wpAnyH_take (i := 6) (oi := _) (v := Value.int .i64 (v0 * b0)) rfl (by kernel_rfl) (by kernel_rfl) (by kernel_rfl) (fun _ _ _ h => h) (Or.inl ⟨by rfl, fun w' hSw => ?_⟩) hHeld ?_
    · obtain ⟨t0, t1, t2, t3⟩ := hSw
      go_simp
      try simp [*]
      try (intro hh; exfalso; omega)
      try omega
    try simp only [Act.put, List.setIfInBounds_toArray, List.set_cons_zero, List.set_cons_succ, List.getElem_toArray, List.getElem_cons_succ, List.getElem_cons_zero]
    refine wpAnyH_take (i := 7) (oi := _) (v := Value.int .i64 q1) rfl (by kernel_rfl) (by kernel_rfl) (by kernel_rfl) (fun _ _ _ h => h) (Or.inl ⟨by rfl, fun w' hSw => ?_⟩) hHeld ?_
    · obtain ⟨t0, t1, t2, t3⟩ := hSw
      go_simp
      try simp [*]
      try (intro hh; exfalso; omega)
      try omega
    try simp only [Act.put, List.setIfInBounds_toArray, List.set_cons_zero, List.set_cons_succ, List.getElem_toArray, List.getElem_cons_succ, List.getElem_cons_zero]
    refine wpAnyH_take (i := 8) (oi := _) (v := Value.pointer (some ⟨w.heap.size, 1, none⟩)) rfl (by kernel_rfl) (by kernel_rfl) (by kernel_rfl) (fun _ _ _ h => h) (Or.inl ⟨by rfl, fun w' hSw => ?_⟩) hHeld ?_
    · obtain ⟨t0, t1, t2, t3⟩ := hSw
      go_simp
      try simp [*]
      try (intro hh; exfalso; omega)
      try omega
    try simp only [Act.put, List.setIfInBounds_toArray, List.set_cons_zero, List.set_cons_succ, List.getElem_toArray, List.getElem_cons_succ, List.getElem_cons_zero]
    refine wpAnyH_take (i := 9) (oi := _) (v := Value.pointer (some ⟨w.heap.size, 2, none⟩)) rfl (by kernel_rfl) (by kernel_rfl) (by kernel_rfl) (fun _ _ _ h => h) (Or.inl ⟨by rfl, fun w' hSw => ?_⟩) hHeld ?_
    · obtain ⟨t0, t1, t2, t3⟩ := hSw
      go_simp
      try simp [*]
      try (intro hh; exfalso; omega)
      try omega
    try simp only [Act.put, List.setIfInBounds_toArray, List.set_cons_zero, List.set_cons_succ, List.getElem_toArray, List.getElem_cons_succ, List.getElem_cons_zero]
    refine wpAnyH_take (i := 10) (oi := _) (v := Value.int .i64 v1) rfl (by kernel_rfl) (by kernel_rfl) (by kernel_rfl) (fun _ _ _ h => h) (Or.inl ⟨by rfl, fun w' hSw => ?_⟩) hHeld ?_
    · obtain ⟨t0, t1, t2, t3⟩ := hSw
      go_simp
      try simp [*]
      try (intro hh; exfalso; omega)
      try omega
    try simp only [Act.put, List.setIfInBounds_toArray, List.set_cons_zero, List.set_cons_succ, List.getElem_toArray, List.getElem_cons_succ, List.getElem_cons_zero]
    refine wpAnyH_take (i := 11) (oi := _) (v := Value.pointer (some ⟨w.heap.size, 3, none⟩)) rfl (by kernel_rfl) (by kernel_rfl) (by kernel_rfl) (fun _ _ _ h => h) (Or.inl ⟨by rfl, fun w' hSw => ?_⟩) hHeld ?_
    · obtain ⟨t0, t1, t2, t3⟩ := hSw
      go_simp
      try simp [*]
      try (intro hh; exfalso; omega)
      try omega
    try simp only [Act.put, List.setIfInBounds_toArray, List.set_cons_zero, List.set_cons_succ, List.getElem_toArray, List.getElem_cons_succ, List.getElem_cons_zero]
    refine wpAnyH_take (i := 12) (oi := _) (v := Value.pointer (some ⟨w.heap.size, 4, none⟩)) rfl (by kernel_rfl) (by kernel_rfl) (by kernel_rfl) (fun _ _ _ h => h) (Or.inl ⟨by rfl, fun w' hSw => ?_⟩) hHeld ?_
    · obtain ⟨t0, t1, t2, t3⟩ := hSw
      go_simp
      try simp [*]
      try (intro hh; exfalso; omega)
      try omega
    try simp only [Act.put, List.setIfInBounds_toArray, List.set_cons_zero, List.set_cons_succ, List.getElem_toArray, List.getElem_cons_succ, List.getElem_cons_zero]
    refine wpAnyH_take (i := 13) (oi := _) (v := Value.int .i64 b1) rfl (by kernel_rfl) (by kernel_rfl) (by kernel_rfl) (fun _ _ _ h => h) (Or.inl ⟨by rfl, fun w' hSw => ?_⟩) hHeld ?_
    · obtain ⟨t0, t1, t2, t3⟩ := hSw
      go_simp
      try simp [*]
      try (intro hh; exfalso; omega)
      try omega
    try simp only [Act.put, List.setIfInBounds_toArray, List.set_cons_zero, List.set_cons_succ, List.getElem_toArray, List.getElem_cons_succ, List.getElem_cons_zero]
    refine wpAnyH_take (i := 14) (oi := _) (v := Value.int .i64 (v1 * b1)) rfl (by kernel_rfl) (by kernel_rfl) (by kernel_rfl) (fun _ _ _ h => h) (Or.inl ⟨by rfl, fun w' hSw => ?_⟩) hHeld ?_
    · obtain ⟨t0, t1, t2, t3⟩ := hSw
      go_simp
      try simp [*]
      try (intro hh; exfalso; omega)
      try omega
    try simp only [Act.put, List.setIfInBounds_toArray, List.set_cons_zero, List.set_cons_succ, List.getElem_toArray, List.getElem_cons_succ, List.getElem_cons_zero]
    refine wpAnyH_ready (rs := [15]) (by kernel_rfl) (by simp) ?_
    refine AllReadyH.cons (o := _) rfl (fun K hK => ?_) AllReadyH.nil
    go_simp
    go_at_call 112
    refine Calls.mono (c2 _) ?_
    rintro e v2 ⟨rfl, rfl⟩
    clear hHeld
    refine hK.out _ _ ((fun q => ⟨q.2.1, q.2.2.1, q.2.2.2.1, q.2.2.2.2⟩) (KK.out _ HBD.out)) (fun hHeld => ?_)
    clear hK K
    try simp only [Act.put, List.setIfInBounds_toArray, List.set_cons_zero, List.set_cons_succ, List.getElem_toArray, List.getElem_cons_succ, List.getElem_cons_zero]
    refine wpAnyH_take (i := 16) (oi := _) (v := Value.agg #[Value.int .i64 q1, Value.int .i64 q2]) rfl (by kernel_rfl) (by kernel_rfl) (by kernel_rfl) (fun _ _ _ h => h) (Or.inl ⟨by rfl, fun w' hSw => ?_⟩) hHeld ?_
    · obtain ⟨t0, t1, t2, t3⟩ := hSw
      go_simp
      try simp [*]
      try (intro hh; exfalso; omega)
      try omega
    try simp only [Act.put, List.setIfInBounds_toArray, List.set_cons_zero, List.set_cons_succ, List.getElem_toArray, List.getElem_cons_succ, List.getElem_cons_zero]
    obtain ⟨Z, hZ⟩ : ∃ Z, Z = ((V.setCell ⟨B4, 0, none⟩ (.int .i64 q1)).setCell ⟨B4, 1, none⟩ (.int .i64 q2)).drew := ⟨_, rfl⟩
    have HXZ := Lib.hid (show Bx2 Z B4 (.int .i64 q1) (.int .i64 q2) by rw [hZ]; exact HX.out.set _ _)
    have HBZ := Lib.hid (show Below A.heap.size A Z by rw [hZ]; exact ((HBV.out.setCell (p := ⟨B4, 0, none⟩) hA1 _).setCell (p := ⟨B4, 1, none⟩) hA1 _).drew)
    have y0 := HX.out.c0
    have y1 := HX.out.c1
    have yf0 := HX.out.f0 0
    have yf1 := HX.out.f0 1
    refine wpAnyH_ready (rs := [17]) (by kernel_rfl) (by simp) ?_
    refine AllReadyH.cons (o := _) rfl (fun K hK => ?_) AllReadyH.nil
    go_simp
    try rw [← hZ]
    clear hHeld
    refine hK.out _ _ ((fun q => ⟨q.2.1, q.2.2.1, q.2.2.2.1, q.2.2.2.2⟩) (KK.out _ HBZ.out)) (fun hHeld => ?_)
    clear hK K
    try simp only [Act.put, List.setIfInBounds_toArray, List.set_cons_zero, List.set_cons_succ, List.getElem_toArray, List.getElem_cons_succ, List.getElem_cons_zero]
    refine wpAnyH_done (by kernel_rfl) ?_ _
    clear hHeld
    clear hZ y0 y1 yf0 yf1 k0 k1 k2 k3 k4
    obtain ⟨k0, k1, k2, k3, k4⟩ := KK.out _ HBZ.out
    have y0 := HXZ.out.c0
    have y1 := HXZ.out.c1
    go_wp2_with fail
    refine (c3 _).mono ?_
    rintro e w5 ⟨he, hb⟩
    have HB5 := Lib.hid (HBZ.out.trans (hb.mono HBZ.out.size))
    have HX5 := Lib.hid (HXZ.out.keep hb)
    clear hb y0 y1 k0 k1 k2 k3 k4
    have y0 := HX5.out.c0
    have y1 := HX5.out.c1
    by_cases hv : vB q1 q2 = true
    · rw [if_pos hv] at he
      have hF := HF.out
      rw [if_pos hv] at hF
      have HFF := Lib.hid hF
      clear hF hv HF c3
      subst he
      obtain ⟨x0, x1⟩ := And.intro (HRA.out.keep HB5.out).c0 (HRA.out.keep HB5.out).c1
      obtain ⟨f0, f1⟩ := And.intro ((HRA.out.keep HB5.out).f0 0) ((HRA.out.keep HB5.out).f0 1)
      go_wp2_with fail
      refine bodyPost_ret (v := .tuple #[.agg #[.int .i64 q1, .int .i64 q2], .int .i64 0]) (by simp [results, Try.results45, go_sem, ((HRA.out.keep HB5.out).set (.int .i64 q1) (.int .i64 q2)).c0, ((HRA.out.keep HB5.out).set (.int .i64 q1) (.int .i64 q2)).c1]) rfl ⟨by rw [HFF.out], HEND.out _ _ _ HB5.out⟩
    · rw [if_neg hv] at he
      have hF := HF.out
      rw [if_neg hv] at hF
      have HFF := Lib.hid hF
      clear hF hv HF c3
      subst he
      obtain ⟨x0, x1⟩ := And.intro (HRA.out.keep HB5.out).c0 (HRA.out.keep HB5.out).c1
      obtain ⟨f0, f1⟩ := And.intro ((HRA.out.keep HB5.out).f0 0) ((HRA.out.keep HB5.out).f0 1)
      go_wp2_with fail
      refine bodyPost_ret (v := .tuple #[.agg #[.int .i64 0, .int .i64 0], .int .i64 4]) (by simp [results, Try.results45, go_sem, ((HRA.out.keep HB5.out).set (.int .i64 0) (.int .i64 0)).c0, ((HRA.out.keep HB5.out).set (.int .i64 0) (.int .i64 0)).c1]) rfl ⟨by rw [HFF.out], HEND.out _ _ _ HB5.out⟩
  · rw [show dsQ 3 v0 v1 b0 b1 = (b0 - v1, b1 - v0) from rfl]
    dsimp only
    have c3 := fun W => refCheck1_any (b0 - v1) (b1 - v0) W
    have HF := Lib.hid (show fit (b0 - v1) (b1 - v0) = if vB (b0 - v1) (b1 - v0) = true then ⟨(b0 - v1), (b1 - v0), 0⟩ else ⟨0, 0, 4⟩ from rfl)
    clear hf
    obtain ⟨A, hA⟩ : ∃ A, A = (w.alloc (.cells #[.int .i64 3, .int .i64 v0, .int .i64 v1, .int .i64 b0, .int .i64 b1] 52)).alloc (.cells #[.int .i64 0, .int .i64 0] 23) := ⟨_, rfl⟩
    have HBA := Lib.hid (show Below w.heap.size w A by rw [hA]; exact ((Below.refl _ _).alloc (Nat.le_refl _) _).alloc (by simp) _)
    have hzA : A.heap.size = w.heap.size + 2 := by rw [hA]; simp
    have hRA : Bx2 A (w.heap.size + 1) (.int .i64 0) (.int .i64 0) := by
      rw [hA]
      have q := Bx2.new (w.alloc (.cells #[.int .i64 3, .int .i64 v0, .int .i64 v1, .int .i64 b0, .int .i64 b1] 52)) (.int .i64 0) (.int .i64 0)
      rwa [World.size_alloc] at q
    have HRA := Lib.hid hRA
    have k0 : A.cell? ⟨w.heap.size, 0, none⟩ = some (.int .i64 3) := by rw [hA]; simp [go_sem]
    have k1 : A.cell? ⟨w.heap.size, 1, none⟩ = some (.int .i64 v0) := by rw [hA]; simp [go_sem]
    have k2 : A.cell? ⟨w.heap.size, 2, none⟩ = some (.int .i64 v1) := by rw [hA]; simp [go_sem]
    have k3 : A.cell? ⟨w.heap.size, 3, none⟩ = some (.int .i64 b0) := by rw [hA]; simp [go_sem]
    have k4 : A.cell? ⟨w.heap.size, 4, none⟩ = some (.int .i64 b1) := by rw [hA]; simp [go_sem]
    have KK := Lib.hid (show ∀ W, Below A.heap.size A W → W.cell? ⟨w.heap.size, 0, none⟩ = some (.int .i64 3) ∧ W.cell? ⟨w.heap.size, 1, none⟩ = some (.int .i64 v0) ∧ W.cell? ⟨w.heap.size, 2, none⟩ = some (.int .i64 v1) ∧ W.cell? ⟨w.heap.size, 3, none⟩ = some (.int .i64 b0) ∧ W.cell? ⟨w.heap.size, 4, none⟩ = some (.int .i64 b1) from fun W h => ⟨(h.cell (p := ⟨w.heap.size, 0, none⟩) (by show w.heap.size < A.heap.size; omega)).trans k0, (h.cell (p := ⟨w.heap.size, 1, none⟩) (by show w.heap.size < A.heap.size; omega)).trans k1, (h.cell (p := ⟨w.heap.size, 2, none⟩) (by show w.heap.size < A.heap.size; omega)).trans k2, (h.cell (p := ⟨w.heap.size, 3, none⟩) (by show w.heap.size < A.heap.size; omega)).trans k3, (h.cell (p := ⟨w.heap.size, 4, none⟩) (by show w.heap.size < A.heap.size; omega)).trans k4⟩)
    have HEND := Lib.hid (show ∀ W v0 v1, Below A.heap.size A W → Below w.heap.size w ((W.setCell ⟨w.heap.size + 1, 0, none⟩ v0).setCell ⟨w.heap.size + 1, 1, none⟩ v1) from fun W v0 v1 h =>
      ((HBA.out.trans (h.mono HBA.out.size)).setCell (p := ⟨w.heap.size + 1, 0, none⟩) (by show w.heap.size ≤ w.heap.size + 1; omega) _).setCell (p := ⟨w.heap.size + 1, 1, none⟩) (by show w.heap.size ≤ w.heap.size + 1; omega) _)
    have hlw : w.heap.size < w.heap.size + 1 ∧ w.heap.size + 1 < A.heap.size := by omega
    clear hRA hzA
    go_enter Try.func45, Try.ntmps45
    go_upto_region 1 with fail
    try rw [← hA]
    clear hA
    generalize hB1 : w.heap.size + 1 = B1 at *
    clear hB1
    go_wp2_with fail
    refine (c1 _).mono ?_
    rintro e w1 ⟨rfl, hb⟩
    have HB1 := Lib.hid hb
    clear hb k0 k1 k2 k3 k4
    obtain ⟨k0, k1, k2, k3, k4⟩ := KK.out _ HB1.out
    obtain ⟨V, hV⟩ : ∃ V, V = w1.alloc (.cells #[.int .i64 (b0 - v1), .int .i64 (b1 - v0)] 23) := ⟨_, rfl⟩
    have HBV := Lib.hid (show Below A.heap.size A V by rw [hV]; exact HB1.out.alloc HB1.out.size _)
    have HX := Lib.hid (show Bx2 V w1.heap.size (.int .i64 (b0 - v1)) (.int .i64 (b1 - v0)) by rw [hV]; exact Bx2.new _ _ _)
    have hA1 : A.heap.size ≤ w1.heap.size := HB1.out.size
    go_upto_region 4 with fail
    try rw [← hV]
    clear hV k0 k1 k2 k3 k4
    obtain ⟨k0, k1, k2, k3, k4⟩ := KK.out _ HBV.out
    generalize w1.heap.size = B4 at *
    have y0 := HX.out.c0
    have y1 := HX.out.c1
    go_wp2_with fail
    refine (c3 _).mono ?_
    rintro e w5 ⟨he, hb⟩
    have HB5 := Lib.hid (HBV.out.trans (hb.mono HBV.out.size))
    have HX5 := Lib.hid (HX.out.keep hb)
    clear hb y0 y1 k0 k1 k2 k3 k4
    have y0 := HX5.out.c0
    have y1 := HX5.out.c1
    by_cases hv : vB (b0 - v1) (b1 - v0) = true
    · rw [if_pos hv] at he
      have hF := HF.out
      rw [if_pos hv] at hF
      have HFF := Lib.hid hF
      clear hF hv HF c3
      subst he
      obtain ⟨x0, x1⟩ := And.intro (HRA.out.keep HB5.out).c0 (HRA.out.keep HB5.out).c1
      obtain ⟨f0, f1⟩ := And.intro ((HRA.out.keep HB5.out).f0 0) ((HRA.out.keep HB5.out).f0 1)
      go_wp2_with fail
      refine bodyPost_ret (v := .tuple #[.agg #[.int .i64 (b0 - v1), .int .i64 (b1 - v0)], .int .i64 0]) (by simp [results, Try.results45, go_sem, ((HRA.out.keep HB5.out).set (.int .i64 (b0 - v1)) (.int .i64 (b1 - v0))).c0, ((HRA.out.keep HB5.out).set (.int .i64 (b0 - v1)) (.int .i64 (b1 - v0))).c1]) rfl ⟨by rw [HFF.out], HEND.out _ _ _ HB5.out⟩
    · rw [if_neg hv] at he
      have hF := HF.out
      rw [if_neg hv] at hF
      have HFF := Lib.hid hF
      clear hF hv HF c3
      subst he
      obtain ⟨x0, x1⟩ := And.intro (HRA.out.keep HB5.out).c0 (HRA.out.keep HB5.out).c1
      obtain ⟨f0, f1⟩ := And.intro ((HRA.out.keep HB5.out).f0 0) ((HRA.out.keep HB5.out).f0 1)
      go_wp2_with fail
      refine bodyPost_ret (v := .tuple #[.agg #[.int .i64 0, .int .i64 0], .int .i64 4]) (by simp [results, Try.results45, go_sem, ((HRA.out.keep HB5.out).set (.int .i64 0) (.int .i64 0)).c0, ((HRA.out.keep HB5.out).set (.int .i64 0) (.int .i64 0)).c1]) rfl ⟨by rw [HFF.out], HEND.out _ _ _ HB5.out⟩
end Go.Proofs.Ytdohfpnnmppdkaa

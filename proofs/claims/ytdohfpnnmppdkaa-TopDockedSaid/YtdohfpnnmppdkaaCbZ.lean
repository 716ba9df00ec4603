/-
  Cables: the distance of a measurement, by its kind.
-/
import Derived.Test.YtdohfpnnmppdkaaCbB
import Derived.Test.YtdohfpnnmppdkaaCbH
namespace Go.Proofs.Ytdohfpnnmppdkaa
open Go.RowKit Go.Shelf
set_option linter.unusedSimpArgs false
attribute [local go_sem] Oper.semAt_some
def partB (a b lo hi : Int) : Bool := vB a b && (decide (lo ≤ a) && decide (b ≤ hi))
theorem partB_iff {a b lo hi : Int} : partB a b lo hi = true ↔ (a ≤ b ∧ -1073741824 ≤ a ∧ b ≤ 1073741824) ∧ lo ≤ a ∧ b ≤ hi := by
  unfold partB
  simp only [Bool.and_eq_true, decide_eq_true_iff, vB_iff]
/-- the numbers of a measurement are those that its kind allows -/
def fitB (kd v0 v1 b0 b1 : Int) : Bool :=
  if kd = 1 then partB v0 v1 0 16777216 && partB b0 b1 1 16777216 else if kd = 2 then partB v0 v1 0 67108864 && partB b0 b1 1 300000 else if kd = 3 then partB v0 v1 0 1073741824 && partB b0 b1 0 1073741824 else false
set_option maxHeartbeats 4000000 in
theorem fits_any (kd v0 v1 b0 b1 : Int) (w : World) :
    Calls Try.prog 108 #[.agg #[.int .i64 kd, .int .i64 v0, .int .i64 v1, .int .i64 b0, .int .i64 b1]] w fun e w' => e = .returned (.bool (fitB kd v0 v1 b0 b1)) ∧ Below w.heap.size w w' := by
  unfold fitB
  by_cases h1 : kd = 1
  · subst h1
    rw [if_pos rfl]
    have c1 := fun W => isPart_any v0 v1 0 16777216 W
    have c2 := fun W => isPart_any b0 b1 1 16777216 W
    rw [show (vB v0 v1 && (decide (0 ≤ v0) && decide (v1 ≤ 16777216))) = partB v0 v1 0 16777216 from rfl] at c1
    rw [show (vB b0 b1 && (decide (1 ≤ b0) && decide (b1 ≤ 16777216))) = partB b0 b1 1 16777216 from rfl] at c2
    generalize partB v0 v1 0 16777216 = x at *
    generalize partB b0 b1 1 16777216 = y at *
    obtain ⟨A, hA⟩ : ∃ A, A = w.alloc (.cells #[.int .i64 1, .int .i64 v0, .int .i64 v1, .int .i64 b0, .int .i64 b1] 52) := ⟨_, rfl⟩
    have HBA := Lib.hid (show Below w.heap.size w A by rw [hA]; exact ((Below.refl _ _).alloc (Nat.le_refl _) _))
    have hltA : w.heap.size + 1 ≤ A.heap.size := by rw [hA]; simp
    have q0 : A.cell? ⟨w.heap.size, 0, none⟩ = some (.int .i64 1) := by rw [hA]; exact (cellHB (World.alloc_heap_new w _) 0).trans (by simp)
    have q1 : A.cell? ⟨w.heap.size, 1, none⟩ = some (.int .i64 v0) := by rw [hA]; exact (cellHB (World.alloc_heap_new w _) 1).trans (by simp)
    have q2 : A.cell? ⟨w.heap.size, 2, none⟩ = some (.int .i64 v1) := by rw [hA]; exact (cellHB (World.alloc_heap_new w _) 2).trans (by simp)
    have q3 : A.cell? ⟨w.heap.size, 3, none⟩ = some (.int .i64 b0) := by rw [hA]; exact (cellHB (World.alloc_heap_new w _) 3).trans (by simp)
    have q4 : A.cell? ⟨w.heap.size, 4, none⟩ = some (.int .i64 b1) := by rw [hA]; exact (cellHB (World.alloc_heap_new w _) 4).trans (by simp)
    have KK := Lib.hid (show ∀ W, Below A.heap.size A W → W.cell? ⟨w.heap.size, 0, none⟩ = some (.int .i64 1) ∧ W.cell? ⟨w.heap.size, 1, none⟩ = some (.int .i64 v0) ∧ W.cell? ⟨w.heap.size, 2, none⟩ = some (.int .i64 v1) ∧ W.cell? ⟨w.heap.size, 3, none⟩ = some (.int .i64 b0) ∧ W.cell? ⟨w.heap.size, 4, none⟩ = some (.int .i64 b1) from fun W h => ⟨(h.cell (p := ⟨w.heap.size, 0, none⟩) (by show w.heap.size < A.heap.size; omega)).trans q0, (h.cell (p := ⟨w.heap.size, 1, none⟩) (by show w.heap.size < A.heap.size; omega)).trans q1, (h.cell (p := ⟨w.heap.size, 2, none⟩) (by show w.heap.size < A.heap.size; omega)).trans q2, (h.cell (p := ⟨w.heap.size, 3, none⟩) (by show w.heap.size < A.heap.size; omega)).trans q3, (h.cell (p := ⟨w.heap.size, 4, none⟩) (by show w.heap.size < A.heap.size; omega)).trans q4⟩)
    have HLT := Lib.hid hltA
    clear hltA q0 q1 q2 q3 q4
    obtain ⟨k0, k1, k2, k3, k4⟩ := KK.out _ (Below.refl _ _)
    cases x
    · rw [Bool.false_and]
      go_enter Try.func108, Try.ntmps108
      go_upto_region 1 with fail
      rw [← hA]
      clear hA
      go_wp2_with fail
      refine (c1 _).mono ?_
      rintro e w1 ⟨rfl, hb⟩
      have HB1 := Lib.hid hb
      clear hb k0 k1 k2 k3 k4
      obtain ⟨k0, k1, k2, k3, k4⟩ := KK.out _ HB1.out
      go_wp2_with fail
      go_ret
      exact ⟨by first | rfl | simp [*], HBA.out.trans (HB1.out.mono HBA.out.size)⟩
    · rw [Bool.true_and]
      go_enter Try.func108, Try.ntmps108
      go_upto_region 1 with fail
      rw [← hA]
      clear hA
      go_wp2_with fail
      refine (c1 _).mono ?_
      rintro e w1 ⟨rfl, hb⟩
      have HB1 := Lib.hid hb
      clear hb k0 k1 k2 k3 k4
      obtain ⟨k0, k1, k2, k3, k4⟩ := KK.out _ HB1.out
      go_wp2_with fail
      refine (c2 _).mono ?_
      rintro e w2 ⟨rfl, hb⟩
      have HB2 := Lib.hid (HB1.out.trans (hb.mono HB1.out.size))
      clear hb k0 k1 k2 k3 k4
      obtain ⟨k0, k1, k2, k3, k4⟩ := KK.out _ HB2.out
      go_wp2_with fail
      go_ret
      exact ⟨by first | rfl | simp [*], HBA.out.trans (HB2.out.mono HBA.out.size)⟩
  by_cases h2 : kd = 2
  · subst h2
    rw [if_neg (by decide), if_pos rfl]
    have c1 := fun W => isPart_any v0 v1 0 67108864 W
    have c2 := fun W => isPart_any b0 b1 1 300000 W
    rw [show (vB v0 v1 && (decide (0 ≤ v0) && decide (v1 ≤ 67108864))) = partB v0 v1 0 67108864 from rfl] at c1
    rw [show (vB b0 b1 && (decide (1 ≤ b0) && decide (b1 ≤ 300000))) = partB b0 b1 1 300000 from rfl] at c2
    generalize partB v0 v1 0 67108864 = x at *
    generalize partB b0 b1 1 300000 = y at *
    obtain ⟨A, hA⟩ : ∃ A, A = w.alloc (.cells #[.int .i64 2, .int .i64 v0, .int .i64 v1, .int .i64 b0, .int .i64 b1] 52) := ⟨_, rfl⟩
    have HBA := Lib.hid (show Below w.heap.size w A by rw [hA]; exact ((Below.refl _ _).alloc (Nat.le_refl _) _))
    have hltA : w.heap.size + 1 ≤ A.heap.size := by rw [hA]; simp
    have q0 : A.cell? ⟨w.heap.size, 0, none⟩ = some (.int .i64 2) := by rw [hA]; exact (cellHB (World.alloc_heap_new w _) 0).trans (by simp)
    have q1 : A.cell? ⟨w.heap.size, 1, none⟩ = some (.int .i64 v0) := by rw [hA]; exact (cellHB (World.alloc_heap_new w _) 1).trans (by simp)
    have q2 : A.cell? ⟨w.heap.size, 2, none⟩ = some (.int .i64 v1) := by rw [hA]; exact (cellHB (World.alloc_heap_new w _) 2).trans (by simp)
    have q3 : A.cell? ⟨w.heap.size, 3, none⟩ = some (.int .i64 b0) := by rw [hA]; exact (cellHB (World.alloc_heap_new w _) 3).trans (by simp)
    have q4 : A.cell? ⟨w.heap.size, 4, none⟩ = some (.int .i64 b1) := by rw [hA]; exact (cellHB (World.alloc_heap_new w _) 4).trans (by simp)
    have KK := Lib.hid (show ∀ W, Below A.heap.size A W → W.cell? ⟨w.heap.size, 0, none⟩ = some (.int .i64 2) ∧ W.cell? ⟨w.heap.size, 1, none⟩ = some (.int .i64 v0) ∧ W.cell? ⟨w.heap.size, 2, none⟩ = some (.int .i64 v1) ∧ W.cell? ⟨w.heap.size, 3, none⟩ = some (.int .i64 b0) ∧ W.cell? ⟨w.heap.size, 4, none⟩ = some (.int .i64 b1) from fun W h => ⟨(h.cell (p := ⟨w.heap.size, 0, none⟩) (by show w.heap.size < A.heap.size; omega)).trans q0, (h.cell (p := ⟨w.heap.size, 1, none⟩) (by show w.heap.size < A.heap.size; omega)).trans q1, (h.cell (p := ⟨w.heap.size, 2, none⟩) (by show w.heap.size < A.heap.size; omega)).trans q2, (h.cell (p := ⟨w.heap.size, 3, none⟩) (by show w.heap.size < A.heap.size; omega)).trans q3, (h.cell (p := ⟨w.heap.size, 4, none⟩) (by show w.heap.size < A.heap.size; omega)).trans q4⟩)
    have HLT := Lib.hid hltA
    clear hltA q0 q1 q2 q3 q4
    obtain ⟨k0, k1, k2, k3, k4⟩ := KK.out _ (Below.refl _ _)
    cases x
    · rw [Bool.false_and]
      go_enter Try.func108, Try.ntmps108
      go_upto_region 1 with fail
      rw [← hA]
      clear hA
      go_wp2_with fail
      refine (c1 _).mono ?_
      rintro e w1 ⟨rfl, hb⟩
      have HB1 := Lib.hid hb
      clear hb k0 k1 k2 k3 k4
      obtain ⟨k0, k1, k2, k3, k4⟩ := KK.out _ HB1.out
      go_wp2_with fail
      go_ret
      exact ⟨by first | rfl | simp [*], HBA.out.trans (HB1.out.mono HBA.out.size)⟩
    · rw [Bool.true_and]
      go_enter Try.func108, Try.ntmps108
      go_upto_region 1 with fail
      rw [← hA]
      clear hA
      go_wp2_with fail
      refine (c1 _).mono ?_
      rintro e w1 ⟨rfl, hb⟩
      have HB1 := Lib.hid hb
      clear hb k0 k1 k2 k3 k4
      obtain ⟨k0, k1, k2, k3, k4⟩ := KK.out _ HB1.out
      go_wp2_with fail
      refine (c2 _).mono ?_
      rintro e w2 ⟨rfl, hb⟩
      have HB2 := Lib.hid (HB1.out.trans (hb.mono HB1.out.size))
      clear hb k0 k1 k2 k3 k4
      obtain ⟨k0, k1, k2, k3, k4⟩ := KK.out _ HB2.out
      go_wp2_with fail
      go_ret
      exact ⟨by first | rfl | simp [*], HBA.out.trans (HB2.out.mono HBA.out.size)⟩
  by_cases h3 : kd = 3
  · subst h3
    rw [if_neg (by decide), if_neg (by decide), if_pos rfl]
    have c1 := fun W => isPart_any v0 v1 0 1073741824 W
    have c2 := fun W => isPart_any b0 b1 0 1073741824 W
    rw [show (vB v0 v1 && (decide (0 ≤ v0) && decide (v1 ≤ 1073741824))) = partB v0 v1 0 1073741824 from rfl] at c1
    rw [show (vB b0 b1 && (decide (0 ≤ b0) && decide (b1 ≤ 1073741824))) = partB b0 b1 0 1073741824 from rfl] at c2
    generalize partB v0 v1 0 1073741824 = x at *
    generalize partB b0 b1 0 1073741824 = y at *
    obtain ⟨A, hA⟩ : ∃ A, A = w.alloc (.cells #[.int .i64 3, .int .i64 v0, .int .i64 v1, .int .i64 b0, .int .i64 b1] 52) := ⟨_, rfl⟩
    have HBA := Lib.hid (show Below w.heap.size w A by rw [hA]; exact ((Below.refl _ _).alloc (Nat.le_refl _) _))
    have hltA : w.heap.size + 1 ≤ A.heap.size := by rw [hA]; simp
    have q0 : A.cell? ⟨w.heap.size, 0, none⟩ = some (.int .i64 3) := by rw [hA]; exact (cellHB (World.alloc_heap_new w _) 0).trans (by simp)
    have q1 : A.cell? ⟨w.heap.size, 1, none⟩ = some (.int .i64 v0) := by rw [hA]; exact (cellHB (World.alloc_heap_new w _) 1).trans (by simp)
    have q2 : A.cell? ⟨w.heap.size, 2, none⟩ = some (.int .i64 v1) := by rw [hA]; exact (cellHB (World.alloc_heap_new w _) 2).trans (by simp)
    have q3 : A.cell? ⟨w.heap.size, 3, none⟩ = some (.int .i64 b0) := by rw [hA]; exact (cellHB (World.alloc_heap_new w _) 3).trans (by simp)
    have q4 : A.cell? ⟨w.heap.size, 4, none⟩ = some (.int .i64 b1) := by rw [hA]; exact (cellHB (World.alloc_heap_new w _) 4).trans (by simp)
    have KK := Lib.hid (show ∀ W, Below A.heap.size A W → W.cell? ⟨w.heap.size, 0, none⟩ = some (.int .i64 3) ∧ W.cell? ⟨w.heap.size, 1, none⟩ = some (.int .i64 v0) ∧ W.cell? ⟨w.heap.size, 2, none⟩ = some (.int .i64 v1) ∧ W.cell? ⟨w.heap.size, 3, none⟩ = some (.int .i64 b0) ∧ W.cell? ⟨w.heap.size, 4, none⟩ = some (.int .i64 b1) from fun W h => ⟨(h.cell (p := ⟨w.heap.size, 0, none⟩) (by show w.heap.size < A.heap.size; omega)).trans q0, (h.cell (p := ⟨w.heap.size, 1, none⟩) (by show w.heap.size < A.heap.size; omega)).trans q1, (h.cell (p := ⟨w.heap.size, 2, none⟩) (by show w.heap.size < A.heap.size; omega)).trans q2, (h.cell (p := ⟨w.heap.size, 3, none⟩) (by show w.heap.size < A.heap.size; omega)).trans q3, (h.cell (p := ⟨w.heap.size, 4, none⟩) (by show w.heap.size < A.heap.size; omega)).trans q4⟩)
    have HLT := Lib.hid hltA
    clear hltA q0 q1 q2 q3 q4
    obtain ⟨k0, k1, k2, k3, k4⟩ := KK.out _ (Below.refl _ _)
    cases x
    · rw [Bool.false_and]
      go_enter Try.func108, Try.ntmps108
      go_upto_region 1 with fail
      rw [← hA]
      clear hA
      go_wp2_with fail
      refine (c1 _).mono ?_
      rintro e w1 ⟨rfl, hb⟩
      have HB1 := Lib.hid hb
      clear hb k0 k1 k2 k3 k4
      obtain ⟨k0, k1, k2, k3, k4⟩ := KK.out _ HB1.out
      go_wp2_with fail
      go_ret
      exact ⟨by first | rfl | simp [*], HBA.out.trans (HB1.out.mono HBA.out.size)⟩
    · rw [Bool.true_and]
      go_enter Try.func108, Try.ntmps108
      go_upto_region 1 with fail
      rw [← hA]
      clear hA
      go_wp2_with fail
      refine (c1 _).mono ?_
      rintro e w1 ⟨rfl, hb⟩
      have HB1 := Lib.hid hb
      clear hb k0 k1 k2 k3 k4
      obtain ⟨k0, k1, k2, k3, k4⟩ := KK.out _ HB1.out
      go_wp2_with fail
      refine (c2 _).mono ?_
      rintro e w2 ⟨rfl, hb⟩
      have HB2 := Lib.hid (HB1.out.trans (hb.mono HB1.out.size))
      clear hb k0 k1 k2 k3 k4
      obtain ⟨k0, k1, k2, k3, k4⟩ := KK.out _ HB2.out
      go_wp2_with fail
      go_ret
      exact ⟨by first | rfl | simp [*], HBA.out.trans (HB2.out.mono HBA.out.size)⟩
  rw [if_neg h1, if_neg h2, if_neg h3]
  have g1 : (kd == 1) = false := by simpa using h1
  have g2 : (kd == 2) = false := by simpa using h2
  have g3 : (kd == 3) = false := by simpa using h3
  clear h1 h2 h3
  obtain ⟨A, hA⟩ : ∃ A, A = w.alloc (.cells #[.int .i64 kd, .int .i64 v0, .int .i64 v1, .int .i64 b0, .int .i64 b1] 52) := ⟨_, rfl⟩
  have HBA := Lib.hid (show Below w.heap.size w A by rw [hA]; exact ((Below.refl _ _).alloc (Nat.le_refl _) _))
  have hltA : w.heap.size + 1 ≤ A.heap.size := by rw [hA]; simp
  have q0 : A.cell? ⟨w.heap.size, 0, none⟩ = some (.int .i64 kd) := by rw [hA]; exact (cellHB (World.alloc_heap_new w _) 0).trans (by simp)
  have q1 : A.cell? ⟨w.heap.size, 1, none⟩ = some (.int .i64 v0) := by rw [hA]; exact (cellHB (World.alloc_heap_new w _) 1).trans (by simp)
  have q2 : A.cell? ⟨w.heap.size, 2, none⟩ = some (.int .i64 v1) := by rw [hA]; exact (cellHB (World.alloc_heap_new w _) 2).trans (by simp)
  have q3 : A.cell? ⟨w.heap.size, 3, none⟩ = some (.int .i64 b0) := by rw [hA]; exact (cellHB (World.alloc_heap_new w _) 3).trans (by simp)
  have q4 : A.cell? ⟨w.heap.size, 4, none⟩ = some (.int .i64 b1) := by rw [hA]; exact (cellHB (World.alloc_heap_new w _) 4).trans (by simp)
  have KK := Lib.hid (show ∀ W, Below A.heap.size A W → W.cell? ⟨w.heap.size, 0, none⟩ = some (.int .i64 kd) ∧ W.cell? ⟨w.heap.size, 1, none⟩ = some (.int .i64 v0) ∧ W.cell? ⟨w.heap.size, 2, none⟩ = some (.int .i64 v1) ∧ W.cell? ⟨w.heap.size, 3, none⟩ = some (.int .i64 b0) ∧ W.cell? ⟨w.heap.size, 4, none⟩ = some (.int .i64 b1) from fun W h => ⟨(h.cell (p := ⟨w.heap.size, 0, none⟩) (by show w.heap.size < A.heap.size; omega)).trans q0, (h.cell (p := ⟨w.heap.size, 1, none⟩) (by show w.heap.size < A.heap.size; omega)).trans q1, (h.cell (p := ⟨w.heap.size, 2, none⟩) (by show w.heap.size < A.heap.size; omega)).trans q2, (h.cell (p := ⟨w.heap.size, 3, none⟩) (by show w.heap.size < A.heap.size; omega)).trans q3, (h.cell (p := ⟨w.heap.size, 4, none⟩) (by show w.heap.size < A.heap.size; omega)).trans q4⟩)
  have HLT := Lib.hid hltA
  clear hltA q0 q1 q2 q3 q4
  obtain ⟨k0, k1, k2, k3, k4⟩ := KK.out _ (Below.refl _ _)
  go_enter Try.func108, Try.ntmps108
  go_upto_region 1 with fail
  rw [← hA]
  clear hA
  go_wp2_with fail
  go_ret
  exact ⟨by first | rfl | simp [*], HBA.out⟩
section
set_option maxRecDepth 100000
set_option maxHeartbeats 4000000 in
theorem byOhms_any (v0 v1 b0 b1 : Int) (h1 : 0 ≤ v0) (h2 : v0 ≤ v1) (h3 : v1 ≤ 16777216) (h4 : 1 ≤ b0) (h5 : b0 ≤ b1) (h6 : b1 ≤ 16777216) (w : World) :
    Calls Try.prog 159 #[.agg #[.int .i64 1, .int .i64 v0, .int .i64 v1, .int .i64 b0, .int .i64 b1]] w fun e w' => e = .returned (.agg #[.int .i64 (1000 * v0 / b1), .int .i64 ((1000 * v1 + b0 - 1) / b0)]) ∧ Below w.heap.size w w' := by
  have c := fun W => foutward_any (1000 * v0) b1 (1000 * v1) b0 (by omega) (by omega) (by omega) (by omega) (by omega) (by omega) (by omega) (by omega) W
  have w1 : IntKind.wrap .i64 (1000 * v0) = 1000 * v0 := by rw [IntKind.wrap_i64]; omega
  have w2 : IntKind.wrap .i64 (1000 * v1) = 1000 * v1 := by rw [IntKind.wrap_i64]; omega
  generalize 1000 * v0 / b1 = q1 at *
  generalize (1000 * v1 + b0 - 1) / b0 = q2 at *
  clear h1 h2 h3 h4 h5 h6
  obtain ⟨A, hA⟩ : ∃ A, A = (w.alloc (.cells #[.int .i64 1, .int .i64 v0, .int .i64 v1, .int .i64 b0, .int .i64 b1] 148)).alloc (.cells #[.int .i64 0, .int .i64 0] 23) := ⟨_, rfl⟩
  have HBA := Lib.hid (show Below w.heap.size w A by rw [hA]; exact ((Below.refl _ _).alloc (Nat.le_refl _) _).alloc (by simp) _)
  have hzA : A.heap.size = w.heap.size + 2 := by rw [hA]; simp
  have hRA : Bx2 A (w.heap.size + 1) (.int .i64 0) (.int .i64 0) := by
    rw [hA]
    have q := Bx2.new (w.alloc (.cells #[.int .i64 1, .int .i64 v0, .int .i64 v1, .int .i64 b0, .int .i64 b1] 148)) (.int .i64 0) (.int .i64 0)
    rwa [World.size_alloc] at q
  have HRA := Lib.hid hRA
  have k1 : A.cell? ⟨w.heap.size, 1, none⟩ = some (.int .i64 v0) := by rw [hA]; simp [go_sem]
  have k2 : A.cell? ⟨w.heap.size, 2, none⟩ = some (.int .i64 v1) := by rw [hA]; simp [go_sem]
  have k3 : A.cell? ⟨w.heap.size, 3, none⟩ = some (.int .i64 b0) := by rw [hA]; simp [go_sem]
  have k4 : A.cell? ⟨w.heap.size, 4, none⟩ = some (.int .i64 b1) := by rw [hA]; simp [go_sem]
  have HEND := Lib.hid (show ∀ W v0 v1, Below A.heap.size A W → Below w.heap.size w ((W.setCell ⟨w.heap.size + 1, 0, none⟩ v0).setCell ⟨w.heap.size + 1, 1, none⟩ v1) from fun W v0 v1 h =>
    ((HBA.out.trans (h.mono HBA.out.size)).setCell (p := ⟨w.heap.size + 1, 0, none⟩) (by show w.heap.size ≤ w.heap.size + 1; omega) _).setCell (p := ⟨w.heap.size + 1, 1, none⟩) (by show w.heap.size ≤ w.heap.size + 1; omega) _)
  clear hRA
  clear hzA
  go_enter Try.func159, Try.ntmps159
  go_upto_region 1 with fail
  try rw [← hA]
  clear hA
  generalize w.heap.size + 1 = B1 at *
  go_wp2_with fail
  refine (c _).mono ?_
  rintro e w1 ⟨rfl, hb⟩
  have HB := Lib.hid hb
  obtain ⟨x0, x1⟩ := And.intro (HRA.out.keep hb).c0 (HRA.out.keep hb).c1
  obtain ⟨f0, f1⟩ := And.intro ((HRA.out.keep hb).f0 0) ((HRA.out.keep hb).f0 1)
  clear hb
  go_wp2_with fail
  refine bodyPost_ret (v := .agg #[.int .i64 q1, .int .i64 q2]) (by simp [results, Try.results159, go_sem, ((HRA.out.keep HB.out).set (.int .i64 q1) (.int .i64 q2)).c0, ((HRA.out.keep HB.out).set (.int .i64 q1) (.int .i64 q2)).c1]) rfl ⟨rfl, HEND.out _ _ _ HB.out⟩
set_option maxHeartbeats 4000000 in
theorem byEcho_any (v0 v1 b0 b1 : Int) (h1 : 0 ≤ v0) (h2 : v0 ≤ v1) (h3 : v1 ≤ 67108864) (h4 : 1 ≤ b0) (h5 : b0 ≤ b1) (h6 : b1 ≤ 300000) (w : World) :
    Calls Try.prog 160 #[.agg #[.int .i64 2, .int .i64 v0, .int .i64 v1, .int .i64 b0, .int .i64 b1]] w fun e w' => e = .returned (.agg #[.int .i64 (v0 * b0 / 2000000), .int .i64 ((v1 * b1 + 2000000 - 1) / 2000000)]) ∧ Below w.heap.size w w' := by
  have n1 : 0 ≤ v0 * b0 := Int.mul_nonneg h1 (by omega)
  have n2 : v0 * b0 ≤ 67108864 * 300000 := Int.mul_le_mul (by omega) (by omega) (by omega) (by omega)
  have n3 : 0 ≤ v1 * b1 := Int.mul_nonneg (by omega) (by omega)
  have n4 : v1 * b1 ≤ 67108864 * 300000 := Int.mul_le_mul (by omega) (by omega) (by omega) (by omega)
  have c := fun W => foutward_any (v0 * b0) 2000000 (v1 * b1) 2000000 n1 (by omega) (by omega) (by omega) n3 (by omega) (by omega) (by omega) W
  have w1 : IntKind.wrap .i64 (v0 * b0) = v0 * b0 := by rw [IntKind.wrap_i64]; omega
  have w2 : IntKind.wrap .i64 (v1 * b1) = v1 * b1 := by rw [IntKind.wrap_i64]; omega
  generalize v0 * b0 / 2000000 = q1 at *
  generalize (v1 * b1 + 2000000 - 1) / 2000000 = q2 at *
  clear n1 n2 n3 n4 h1 h2 h3 h4 h5 h6
  obtain ⟨A, hA⟩ : ∃ A, A = (w.alloc (.cells #[.int .i64 2, .int .i64 v0, .int .i64 v1, .int .i64 b0, .int .i64 b1] 148)).alloc (.cells #[.int .i64 0, .int .i64 0] 23) := ⟨_, rfl⟩
  have HBA := Lib.hid (show Below w.heap.size w A by rw [hA]; exact ((Below.refl _ _).alloc (Nat.le_refl _) _).alloc (by simp) _)
  have hzA : A.heap.size = w.heap.size + 2 := by rw [hA]; simp
  have hRA : Bx2 A (w.heap.size + 1) (.int .i64 0) (.int .i64 0) := by
    rw [hA]
    have q := Bx2.new (w.alloc (.cells #[.int .i64 2, .int .i64 v0, .int .i64 v1, .int .i64 b0, .int .i64 b1] 148)) (.int .i64 0) (.int .i64 0)
    rwa [World.size_alloc] at q
  have HRA := Lib.hid hRA
  have k1 : A.cell? ⟨w.heap.size, 1, none⟩ = some (.int .i64 v0) := by rw [hA]; simp [go_sem]
  have k2 : A.cell? ⟨w.heap.size, 2, none⟩ = some (.int .i64 v1) := by rw [hA]; simp [go_sem]
  have k3 : A.cell? ⟨w.heap.size, 3, none⟩ = some (.int .i64 b0) := by rw [hA]; simp [go_sem]
  have k4 : A.cell? ⟨w.heap.size, 4, none⟩ = some (.int .i64 b1) := by rw [hA]; simp [go_sem]
  have HEND := Lib.hid (show ∀ W v0 v1, Below A.heap.size A W → Below w.heap.size w ((W.setCell ⟨w.heap.size + 1, 0, none⟩ v0).setCell ⟨w.heap.size + 1, 1, none⟩ v1) from fun W v0 v1 h =>
    ((HBA.out.trans (h.mono HBA.out.size)).setCell (p := ⟨w.heap.size + 1, 0, none⟩) (by show w.heap.size ≤ w.heap.size + 1; omega) _).setCell (p := ⟨w.heap.size + 1, 1, none⟩) (by show w.heap.size ≤ w.heap.size + 1; omega) _)
  clear hRA
  clear hzA
  go_enter Try.func160, Try.ntmps160
  go_upto_region 1 with fail
  try rw [← hA]
  clear hA
  generalize w.heap.size + 1 = B1 at *
  go_wp2_with fail
  refine (c _).mono ?_
  rintro e w1 ⟨rfl, hb⟩
  have HB := Lib.hid hb
  obtain ⟨x0, x1⟩ := And.intro (HRA.out.keep hb).c0 (HRA.out.keep hb).c1
  obtain ⟨f0, f1⟩ := And.intro ((HRA.out.keep hb).f0 0) ((HRA.out.keep hb).f0 1)
  clear hb
  go_wp2_with fail
  refine bodyPost_ret (v := .agg #[.int .i64 q1, .int .i64 q2]) (by simp [results, Try.results160, go_sem, ((HRA.out.keep HB.out).set (.int .i64 q1) (.int .i64 q2)).c0, ((HRA.out.keep HB.out).set (.int .i64 q1) (.int .i64 q2)).c1]) rfl ⟨rfl, HEND.out _ _ _ HB.out⟩
set_option maxHeartbeats 4000000 in
theorem fromFar_any (v0 v1 b0 b1 : Int) (h1 : 0 ≤ v0) (h2 : v0 ≤ v1) (h3 : v1 ≤ 1073741824) (h4 : 0 ≤ b0) (h5 : b0 ≤ b1) (h6 : b1 ≤ 1073741824) (w : World) :
    Calls Try.prog 161 #[.agg #[.int .i64 3, .int .i64 v0, .int .i64 v1, .int .i64 b0, .int .i64 b1]] w fun e w' => e = .returned (.agg #[.int .i64 (b0 - v1), .int .i64 (b1 - v0)]) ∧ Below w.heap.size w w' := by
  have c := fun W => bsub_any b0 b1 v0 v1 W
  rw [show subS b0 b1 v0 v1 = ⟨b0 - v1, b1 - v0, 0⟩ by
    unfold subS fit
    rw [if_pos ⟨(vB_iff _ _).2 (by omega), (vB_iff _ _).2 (by omega)⟩, if_pos ((vB_iff _ _).2 (by omega))]] at c
  dsimp only at c
  generalize b0 - v1 = q1 at *
  generalize b1 - v0 = q2 at *
  clear h1 h2 h3 h4 h5 h6
  obtain ⟨A, hA⟩ : ∃ A, A = (w.alloc (.cells #[.int .i64 3, .int .i64 v0, .int .i64 v1, .int .i64 b0, .int .i64 b1] 148)).alloc (.cells #[.int .i64 0, .int .i64 0] 23) := ⟨_, rfl⟩
  have HBA := Lib.hid (show Below w.heap.size w A by rw [hA]; exact ((Below.refl _ _).alloc (Nat.le_refl _) _).alloc (by simp) _)
  have hzA : A.heap.size = w.heap.size + 2 := by rw [hA]; simp
  have hRA : Bx2 A (w.heap.size + 1) (.int .i64 0) (.int .i64 0) := by
    rw [hA]
    have q := Bx2.new (w.alloc (.cells #[.int .i64 3, .int .i64 v0, .int .i64 v1, .int .i64 b0, .int .i64 b1] 148)) (.int .i64 0) (.int .i64 0)
    rwa [World.size_alloc] at q
  have HRA := Lib.hid hRA
  have k1 : A.cell? ⟨w.heap.size, 1, none⟩ = some (.int .i64 v0) := by rw [hA]; simp [go_sem]
  have k2 : A.cell? ⟨w.heap.size, 2, none⟩ = some (.int .i64 v1) := by rw [hA]; simp [go_sem]
  have k3 : A.cell? ⟨w.heap.size, 3, none⟩ = some (.int .i64 b0) := by rw [hA]; simp [go_sem]
  have k4 : A.cell? ⟨w.heap.size, 4, none⟩ = some (.int .i64 b1) := by rw [hA]; simp [go_sem]
  have HEND := Lib.hid (show ∀ W v0 v1, Below A.heap.size A W → Below w.heap.size w ((W.setCell ⟨w.heap.size + 1, 0, none⟩ v0).setCell ⟨w.heap.size + 1, 1, none⟩ v1) from fun W v0 v1 h =>
    ((HBA.out.trans (h.mono HBA.out.size)).setCell (p := ⟨w.heap.size + 1, 0, none⟩) (by show w.heap.size ≤ w.heap.size + 1; omega) _).setCell (p := ⟨w.heap.size + 1, 1, none⟩) (by show w.heap.size ≤ w.heap.size + 1; omega) _)
  clear hRA
  clear hzA
  go_enter Try.func161, Try.ntmps161
  go_upto_region 1 with fail
  try rw [← hA]
  clear hA
  generalize hB1 : w.heap.size + 1 = B1 at *
  go_wp2_with fail
  refine (c _).mono ?_
  rintro e w1 ⟨rfl, hb⟩
  obtain ⟨V, hV⟩ : ∃ V, V = w1.alloc (.cells #[.int .i64 q1, .int .i64 q2] 23) := ⟨_, rfl⟩
  have hbV : Below w1.heap.size w1 V := by rw [hV]; exact (Below.refl _ _).alloc (Nat.le_refl _) _
  have HB := Lib.hid (hb.trans (hbV.mono hb.size))
  have hXV : V.heap[w1.heap.size]? = some (.cells #[.int .i64 q1, .int .i64 q2] 23 (0, 0)) := by rw [hV]; exact World.alloc_heap_new _ _
  have y0 := cellHB hXV 0
  have y1 := cellHB hXV 1
  have hlt : B1 < w1.heap.size := by have h1 := hb.size; have h2 := HRA.out.lt; omega
  have hne : ¬ w1.heap.size = B1 := by omega
  clear hb hbV hXV hlt
  go_upto_region 2 with fail
  rw [← hV]
  clear hV
  obtain ⟨x0, x1⟩ := And.intro (HRA.out.keep HB.out).c0 (HRA.out.keep HB.out).c1
  obtain ⟨f0, f1⟩ := And.intro ((HRA.out.keep HB.out).f0 0) ((HRA.out.keep HB.out).f0 1)
  go_wp2_with fail
  refine bodyPost_ret (v := .agg #[.int .i64 q1, .int .i64 q2]) (by simp [results, Try.results161, go_sem, ((HRA.out.keep HB.out).set (.int .i64 q1) (.int .i64 q2)).c0, ((HRA.out.keep HB.out).set (.int .i64 q1) (.int .i64 q2)).c1]) rfl ⟨rfl, HEND.out _ _ _ HB.out⟩
set_option maxHeartbeats 8000000 in
/-- distance, by the function of the kind -/
theorem mdist_any (kd : Int) (g : Nat) (v0 v1 b0 b1 q1 q2 : Int) (hk : (kd = 1 ∧ g = 159) ∨ (kd = 2 ∧ g = 160) ∨ (kd = 3 ∧ g = 161)) (hc : ∀ W, Calls Try.prog g #[.agg #[.int .i64 kd, .int .i64 v0, .int .i64 v1, .int .i64 b0, .int .i64 b1]] W fun e W' => e = .returned (.agg #[.int .i64 q1, .int .i64 q2]) ∧ Below W.heap.size W W') (w : World) :
    Calls Try.prog 109 #[.agg #[.int .i64 kd, .int .i64 v0, .int .i64 v1, .int .i64 b0, .int .i64 b1]] w fun e w' => e = .returned (.agg #[.int .i64 q1, .int .i64 q2]) ∧ Below w.heap.size w w' := by
  rcases hk with ⟨rfl, rfl⟩ | ⟨rfl, rfl⟩ | ⟨rfl, rfl⟩
  · obtain ⟨A0, hA0⟩ : ∃ A, A = (w.alloc (.cells #[.int .i64 1, .int .i64 v0, .int .i64 v1, .int .i64 b0, .int .i64 b1] 148)).alloc (.cells #[.int .i64 0, .int .i64 0] 23) := ⟨_, rfl⟩
    have hz0 : A0.heap.size = w.heap.size + 1 + 1 := by rw [hA0]; simp
    have HB0 := Lib.hid (show Below w.heap.size w A0 by rw [hA0]; exact ((Below.refl _ _).alloc (Nat.le_refl _) _).alloc (by simp) _)
    have hR0 : Bx2 A0 (w.heap.size + 1) (.int .i64 0) (.int .i64 0) := by
      rw [hA0]
      have q := Bx2.new (w.alloc (.cells #[.int .i64 1, .int .i64 v0, .int .i64 v1, .int .i64 b0, .int .i64 b1] 148)) (.int .i64 0) (.int .i64 0)
      rwa [World.size_alloc] at q
    have j0 : A0.cell? ⟨w.heap.size, 0, none⟩ = some (.int .i64 1) := by rw [hA0]; simp [go_sem]
    have j1 : A0.cell? ⟨w.heap.size, 1, none⟩ = some (.int .i64 v0) := by rw [hA0]; simp [go_sem]
    have j2 : A0.cell? ⟨w.heap.size, 2, none⟩ = some (.int .i64 v1) := by rw [hA0]; simp [go_sem]
    have j3 : A0.cell? ⟨w.heap.size, 3, none⟩ = some (.int .i64 b0) := by rw [hA0]; simp [go_sem]
    have j4 : A0.cell? ⟨w.heap.size, 4, none⟩ = some (.int .i64 b1) := by rw [hA0]; simp [go_sem]
    obtain ⟨A, hA⟩ : ∃ A, A = A0.alloc (.cells #[.nilFunc, .func (.func 159) #[] #[], .func (.func 160) #[] #[], .func (.func 161) #[] #[]] 199) := ⟨_, rfl⟩
    have HA1 := Lib.hid (show Below A0.heap.size A0 A by rw [hA]; exact (Below.refl _ _).alloc (Nat.le_refl _) _)
    have HBA := Lib.hid (HB0.out.trans (HA1.out.mono HB0.out.size))
    have HRA := Lib.hid (hR0.keep HA1.out)
    have hzA : A.heap.size = A0.heap.size + 1 := by rw [hA]; simp
    have k5 : A.cell? ⟨A0.heap.size, 1, none⟩ = some (.func (.func 159) #[] #[]) := by rw [hA]; simp [go_sem]
    have k0 := (HA1.out.cell (p := ⟨w.heap.size, 0, none⟩) (by show w.heap.size < A0.heap.size; omega)).trans j0
    have k1 := (HA1.out.cell (p := ⟨w.heap.size, 1, none⟩) (by show w.heap.size < A0.heap.size; omega)).trans j1
    have k2 := (HA1.out.cell (p := ⟨w.heap.size, 2, none⟩) (by show w.heap.size < A0.heap.size; omega)).trans j2
    have k3 := (HA1.out.cell (p := ⟨w.heap.size, 3, none⟩) (by show w.heap.size < A0.heap.size; omega)).trans j3
    have k4 := (HA1.out.cell (p := ⟨w.heap.size, 4, none⟩) (by show w.heap.size < A0.heap.size; omega)).trans j4
    have HEND := Lib.hid (show ∀ W v0 v1, Below A.heap.size A W → Below w.heap.size w ((W.setCell ⟨w.heap.size + 1, 0, none⟩ v0).setCell ⟨w.heap.size + 1, 1, none⟩ v1) from fun W v0 v1 h =>
      ((HBA.out.trans (h.mono HBA.out.size)).setCell (p := ⟨w.heap.size + 1, 0, none⟩) (by show w.heap.size ≤ w.heap.size + 1; omega) _).setCell (p := ⟨w.heap.size + 1, 1, none⟩) (by show w.heap.size ≤ w.heap.size + 1; omega) _)
    have ne0 : ¬ w.heap.size = w.heap.size + 1 := by omega
    have ne1 : ¬ A0.heap.size = w.heap.size + 1 := by omega
    have HK := Lib.hid (show ∀ W, Below A.heap.size A W → W.cell? ⟨w.heap.size, 0, none⟩ = some (.int .i64 1) ∧ W.cell? ⟨w.heap.size, 1, none⟩ = some (.int .i64 v0) ∧ W.cell? ⟨w.heap.size, 2, none⟩ = some (.int .i64 v1) ∧ W.cell? ⟨w.heap.size, 3, none⟩ = some (.int .i64 b0) ∧ W.cell? ⟨w.heap.size, 4, none⟩ = some (.int .i64 b1) ∧ W.cell? ⟨A0.heap.size, 1, none⟩ = some (.func (.func 159) #[] #[]) from fun W h => ⟨(h.cell (p := ⟨w.heap.size, 0, none⟩) (by show w.heap.size < A.heap.size; omega)).trans k0, (h.cell (p := ⟨w.heap.size, 1, none⟩) (by show w.heap.size < A.heap.size; omega)).trans k1, (h.cell (p := ⟨w.heap.size, 2, none⟩) (by show w.heap.size < A.heap.size; omega)).trans k2, (h.cell (p := ⟨w.heap.size, 3, none⟩) (by show w.heap.size < A.heap.size; omega)).trans k3, (h.cell (p := ⟨w.heap.size, 4, none⟩) (by show w.heap.size < A.heap.size; omega)).trans k4, (h.cell (p := ⟨A0.heap.size, 1, none⟩) (by show A0.heap.size < A.heap.size; omega)).trans k5⟩)
    clear j0 j1 j2 j3 j4 hR0 HB0 HA1 hzA
    go_enter Try.func109, Try.ntmps109
    go_upto_region 2 with fail
    try rw [← hA0]
    try rw [← hz0]
    try rw [← hA]
    clear hA hA0 hz0
    generalize A0.heap.size = BF at *
    generalize w.heap.size + 1 = B1 at *
    refine wp_region_held_drew (S := fun w' => w'.cell? ⟨w.heap.size, 0, none⟩ = some (Value.int .i64 1) ∧ w'.cell? ⟨w.heap.size, 1, none⟩ = some (Value.int .i64 v0) ∧ w'.cell? ⟨w.heap.size, 2, none⟩ = some (Value.int .i64 v1) ∧ w'.cell? ⟨w.heap.size, 3, none⟩ = some (Value.int .i64 b0) ∧ w'.cell? ⟨w.heap.size, 4, none⟩ = some (Value.int .i64 b1) ∧ w'.cell? ⟨BF, 1, none⟩ = some (Value.func (.func 159) #[] #[])) (by kernel_rfl) ⟨by simpa [go_sem] using k0, by simpa [go_sem] using k1, by simpa [go_sem] using k2, by simpa [go_sem] using k3, by simpa [go_sem] using k4, by simpa [go_sem] using k5⟩ (fun hHeld => ?_)
    have HD := Lib.hid (show Below A.heap.size A _ from (Below.refl A.heap.size A).drew)
    refine wpAnyH_take (i := 0) (oi := _) (v := Value.pointer (some ⟨w.heap.size, 0, none⟩)) rfl (by kernel_rfl) (by kernel_rfl) (by kernel_rfl) (fun _ _ _ h => h) (Or.inl ⟨by rfl, fun w' hSw => ?_⟩) hHeld ?_
    · obtain ⟨t0, t1, t2, t3, t4, t5⟩ := hSw
      go_simp
      try simp [*]
      try (intro hh; exfalso; omega)
      try omega
    try simp only [Act.put, List.setIfInBounds_toArray, List.set_cons_zero, List.set_cons_succ, List.getElem_toArray, List.getElem_cons_succ, List.getElem_cons_zero]
    refine wpAnyH_take (i := 1) (oi := _) (v := Value.int .i64 1) rfl (by kernel_rfl) (by kernel_rfl) (by kernel_rfl) (fun _ _ _ h => h) (Or.inl ⟨by rfl, fun w' hSw => ?_⟩) hHeld ?_
    · obtain ⟨t0, t1, t2, t3, t4, t5⟩ := hSw
      go_simp
      try simp [*]
      try (intro hh; exfalso; omega)
      try omega
    try simp only [Act.put, List.setIfInBounds_toArray, List.set_cons_zero, List.set_cons_succ, List.getElem_toArray, List.getElem_cons_succ, List.getElem_cons_zero]
    refine wpAnyH_take (i := 2) (oi := _) (v := Value.pointer (some ⟨BF, 1, none⟩)) rfl (by kernel_rfl) (by kernel_rfl) (by kernel_rfl) (fun _ _ _ h => h) (Or.inl ⟨by rfl, fun w' hSw => ?_⟩) hHeld ?_
    · obtain ⟨t0, t1, t2, t3, t4, t5⟩ := hSw
      go_simp
      try simp [*]
      try (intro hh; exfalso; omega)
      try omega
    try simp only [Act.put, List.setIfInBounds_toArray, List.set_cons_zero, List.set_cons_succ, List.getElem_toArray, List.getElem_cons_succ, List.getElem_cons_zero]
    refine wpAnyH_take (i := 3) (oi := _) (v := Value.func (.func 159) #[] #[]) rfl (by kernel_rfl) (by kernel_rfl) (by kernel_rfl) (fun _ _ _ h => h) (Or.inl ⟨by rfl, fun w' hSw => ?_⟩) hHeld ?_
    · obtain ⟨t0, t1, t2, t3, t4, t5⟩ := hSw
      go_simp
      try simp [*]
      try (intro hh; exfalso; omega)
      try omega
    try simp only [Act.put, List.setIfInBounds_toArray, List.set_cons_zero, List.set_cons_succ, List.getElem_toArray, List.getElem_cons_succ, List.getElem_cons_zero]
    refine wpAnyH_take (i := 4) (oi := _) (v := Value.agg #[Value.int .i64 1, Value.int .i64 v0, Value.int .i64 v1, Value.int .i64 b0, Value.int .i64 b1]) rfl (by kernel_rfl) (by kernel_rfl) (by kernel_rfl) (fun _ _ _ h => h) (Or.inl ⟨by rfl, fun w' hSw => ?_⟩) hHeld ?_
    · obtain ⟨t0, t1, t2, t3, t4, t5⟩ := hSw
      go_simp
      try simp [*]
      try (intro hh; exfalso; omega)
      try omega
    try simp only [Act.put, List.setIfInBounds_toArray, List.set_cons_zero, List.set_cons_succ, List.getElem_toArray, List.getElem_cons_succ, List.getElem_cons_zero]
    refine wpAnyH_ready (rs := [5]) (by kernel_rfl) (by simp) ?_
    refine AllReadyH.cons (o := _) rfl (fun K hK => ?_) AllReadyH.nil
    go_simp
    go_at_call 159
    refine Calls.mono (hc _) ?_
    rintro e v1 ⟨rfl, hb⟩
    have HD1 := Lib.hid (HD.out.trans (hb.mono HD.out.size))
    clear hb
    clear hHeld
    refine hK.out _ _ (HK.out _ HD1.out) (fun hHeld => ?_)
    clear hK K
    try simp only [Act.put, List.setIfInBounds_toArray, List.set_cons_zero, List.set_cons_succ, List.getElem_toArray, List.getElem_cons_succ, List.getElem_cons_zero]
    obtain ⟨x0, x1⟩ := And.intro (HRA.out.keep HD1.out).c0 (HRA.out.keep HD1.out).c1
    obtain ⟨f0, f1⟩ := And.intro ((HRA.out.keep HD1.out).f0 0) ((HRA.out.keep HD1.out).f0 1)
    obtain ⟨u0, u1, u2, u3, u4, u5⟩ := HK.out _ HD1.out
    refine wpAnyH_ready (rs := [6]) (by kernel_rfl) (by simp) ?_
    refine AllReadyH.cons (o := _) rfl (fun K hK => ?_) AllReadyH.nil
    go_simp
    clear hHeld
    refine hK.out _ _ ⟨by simpa [go_sem, ne0, ne1] using u0, by simpa [go_sem, ne0, ne1] using u1, by simpa [go_sem, ne0, ne1] using u2, by simpa [go_sem, ne0, ne1] using u3, by simpa [go_sem, ne0, ne1] using u4, by simpa [go_sem, ne0, ne1] using u5⟩ (fun hHeld => ?_)
    clear hK K
    try simp only [Act.put, List.setIfInBounds_toArray, List.set_cons_zero, List.set_cons_succ, List.getElem_toArray, List.getElem_cons_succ, List.getElem_cons_zero]
    refine wpAnyH_done (by kernel_rfl) ?_ _
    clear hHeld
    go_wp2_with fail
    refine bodyPost_ret (v := .agg #[.int .i64 q1, .int .i64 q2]) (by simp [results, Try.results109, go_sem, ((HRA.out.keep HD1.out).set (.int .i64 q1) (.int .i64 q2)).c0, ((HRA.out.keep HD1.out).set (.int .i64 q1) (.int .i64 q2)).c1]) rfl ⟨rfl, HEND.out _ _ _ HD1.out⟩
  · obtain ⟨A0, hA0⟩ : ∃ A, A = (w.alloc (.cells #[.int .i64 2, .int .i64 v0, .int .i64 v1, .int .i64 b0, .int .i64 b1] 148)).alloc (.cells #[.int .i64 0, .int .i64 0] 23) := ⟨_, rfl⟩
    have hz0 : A0.heap.size = w.heap.size + 1 + 1 := by rw [hA0]; simp
    have HB0 := Lib.hid (show Below w.heap.size w A0 by rw [hA0]; exact ((Below.refl _ _).alloc (Nat.le_refl _) _).alloc (by simp) _)
    have hR0 : Bx2 A0 (w.heap.size + 1) (.int .i64 0) (.int .i64 0) := by
      rw [hA0]
      have q := Bx2.new (w.alloc (.cells #[.int .i64 2, .int .i64 v0, .int .i64 v1, .int .i64 b0, .int .i64 b1] 148)) (.int .i64 0) (.int .i64 0)
      rwa [World.size_alloc] at q
    have j0 : A0.cell? ⟨w.heap.size, 0, none⟩ = some (.int .i64 2) := by rw [hA0]; simp [go_sem]
    have j1 : A0.cell? ⟨w.heap.size, 1, none⟩ = some (.int .i64 v0) := by rw [hA0]; simp [go_sem]
    have j2 : A0.cell? ⟨w.heap.size, 2, none⟩ = some (.int .i64 v1) := by rw [hA0]; simp [go_sem]
    have j3 : A0.cell? ⟨w.heap.size, 3, none⟩ = some (.int .i64 b0) := by rw [hA0]; simp [go_sem]
    have j4 : A0.cell? ⟨w.heap.size, 4, none⟩ = some (.int .i64 b1) := by rw [hA0]; simp [go_sem]
    obtain ⟨A, hA⟩ : ∃ A, A = A0.alloc (.cells #[.nilFunc, .func (.func 159) #[] #[], .func (.func 160) #[] #[], .func (.func 161) #[] #[]] 199) := ⟨_, rfl⟩
    have HA1 := Lib.hid (show Below A0.heap.size A0 A by rw [hA]; exact (Below.refl _ _).alloc (Nat.le_refl _) _)
    have HBA := Lib.hid (HB0.out.trans (HA1.out.mono HB0.out.size))
    have HRA := Lib.hid (hR0.keep HA1.out)
    have hzA : A.heap.size = A0.heap.size + 1 := by rw [hA]; simp
    have k5 : A.cell? ⟨A0.heap.size, 2, none⟩ = some (.func (.func 160) #[] #[]) := by rw [hA]; simp [go_sem]
    have k0 := (HA1.out.cell (p := ⟨w.heap.size, 0, none⟩) (by show w.heap.size < A0.heap.size; omega)).trans j0
    have k1 := (HA1.out.cell (p := ⟨w.heap.size, 1, none⟩) (by show w.heap.size < A0.heap.size; omega)).trans j1
    have k2 := (HA1.out.cell (p := ⟨w.heap.size, 2, none⟩) (by show w.heap.size < A0.heap.size; omega)).trans j2
    have k3 := (HA1.out.cell (p := ⟨w.heap.size, 3, none⟩) (by show w.heap.size < A0.heap.size; omega)).trans j3
    have k4 := (HA1.out.cell (p := ⟨w.heap.size, 4, none⟩) (by show w.heap.size < A0.heap.size; omega)).trans j4
    have HEND := Lib.hid (show ∀ W v0 v1, Below A.heap.size A W → Below w.heap.size w ((W.setCell ⟨w.heap.size + 1, 0, none⟩ v0).setCell ⟨w.heap.size + 1, 1, none⟩ v1) from fun W v0 v1 h =>
      ((HBA.out.trans (h.mono HBA.out.size)).setCell (p := ⟨w.heap.size + 1, 0, none⟩) (by show w.heap.size ≤ w.heap.size + 1; omega) _).setCell (p := ⟨w.heap.size + 1, 1, none⟩) (by show w.heap.size ≤ w.heap.size + 1; omega) _)
    have ne0 : ¬ w.heap.size = w.heap.size + 1 := by omega
    have ne1 : ¬ A0.heap.size = w.heap.size + 1 := by omega
    have HK := Lib.hid (show ∀ W, Below A.heap.size A W → W.cell? ⟨w.heap.size, 0, none⟩ = some (.int .i64 2) ∧ W.cell? ⟨w.heap.size, 1, none⟩ = some (.int .i64 v0) ∧ W.cell? ⟨w.heap.size, 2, none⟩ = some (.int .i64 v1) ∧ W.cell? ⟨w.heap.size, 3, none⟩ = some (.int .i64 b0) ∧ W.cell? ⟨w.heap.size, 4, none⟩ = some (.int .i64 b1) ∧ W.cell? ⟨A0.heap.size, 2, none⟩ = some (.func (.func 160) #[] #[]) from fun W h => ⟨(h.cell (p := ⟨w.heap.size, 0, none⟩) (by show w.heap.size < A.heap.size; omega)).trans k0, (h.cell (p := ⟨w.heap.size, 1, none⟩) (by show w.heap.size < A.heap.size; omega)).trans k1, (h.cell (p := ⟨w.heap.size, 2, none⟩) (by show w.heap.size < A.heap.size; omega)).trans k2, (h.cell (p := ⟨w.heap.size, 3, none⟩) (by show w.heap.size < A.heap.size; omega)).trans k3, (h.cell (p := ⟨w.heap.size, 4, none⟩) (by show w.heap.size < A.heap.size; omega)).trans k4, (h.cell (p := ⟨A0.heap.size, 2, none⟩) (by show A0.heap.size < A.heap.size; omega)).trans k5⟩)
    clear j0 j1 j2 j3 j4 hR0 HB0 HA1 hzA
    go_enter Try.func109, Try.ntmps109
    go_upto_region 2 with fail
    try rw [← hA0]
    try rw [← hz0]
    try rw [← hA]
    clear hA hA0 hz0
    generalize A0.heap.size = BF at *
    generalize w.heap.size + 1 = B1 at *
    refine wp_region_held_drew (S := fun w' => w'.cell? ⟨w.heap.size, 0, none⟩ = some (Value.int .i64 2) ∧ w'.cell? ⟨w.heap.size, 1, none⟩ = some (Value.int .i64 v0) ∧ w'.cell? ⟨w.heap.size, 2, none⟩ = some (Value.int .i64 v1) ∧ w'.cell? ⟨w.heap.size, 3, none⟩ = some (Value.int .i64 b0) ∧ w'.cell? ⟨w.heap.size, 4, none⟩ = some (Value.int .i64 b1) ∧ w'.cell? ⟨BF, 2, none⟩ = some (Value.func (.func 160) #[] #[])) (by kernel_rfl) ⟨by simpa [go_sem] using k0, by simpa [go_sem] using k1, by simpa [go_sem] using k2, by simpa [go_sem] using k3, by simpa [go_sem] using k4, by simpa [go_sem] using k5⟩ (fun hHeld => ?_)
    have HD := Lib.hid (show Below A.heap.size A _ from (Below.refl A.heap.size A).drew)
    refine wpAnyH_take (i := 0) (oi := _) (v := Value.pointer (some ⟨w.heap.size, 0, none⟩)) rfl (by kernel_rfl) (by kernel_rfl) (by kernel_rfl) (fun _ _ _ h => h) (Or.inl ⟨by rfl, fun w' hSw => ?_⟩) hHeld ?_
    · obtain ⟨t0, t1, t2, t3, t4, t5⟩ := hSw
      go_simp
      try simp [*]
      try (intro hh; exfalso; omega)
      try omega
    try simp only [Act.put, List.setIfInBounds_toArray, List.set_cons_zero, List.set_cons_succ, List.getElem_toArray, List.getElem_cons_succ, List.getElem_cons_zero]
    refine wpAnyH_take (i := 1) (oi := _) (v := Value.int .i64 2) rfl (by kernel_rfl) (by kernel_rfl) (by kernel_rfl) (fun _ _ _ h => h) (Or.inl ⟨by rfl, fun w' hSw => ?_⟩) hHeld ?_
    · obtain ⟨t0, t1, t2, t3, t4, t5⟩ := hSw
      go_simp
      try simp [*]
      try (intro hh; exfalso; omega)
      try omega
    try simp only [Act.put, List.setIfInBounds_toArray, List.set_cons_zero, List.set_cons_succ, List.getElem_toArray, List.getElem_cons_succ, List.getElem_cons_zero]
    refine wpAnyH_take (i := 2) (oi := _) (v := Value.pointer (some ⟨BF, 2, none⟩)) rfl (by kernel_rfl) (by kernel_rfl) (by kernel_rfl) (fun _ _ _ h => h) (Or.inl ⟨by rfl, fun w' hSw => ?_⟩) hHeld ?_
    · obtain ⟨t0, t1, t2, t3, t4, t5⟩ := hSw
      go_simp
      try simp [*]
      try (intro hh; exfalso; omega)
      try omega
    try simp only [Act.put, List.setIfInBounds_toArray, List.set_cons_zero, List.set_cons_succ, List.getElem_toArray, List.getElem_cons_succ, List.getElem_cons_zero]
    refine wpAnyH_take (i := 3) (oi := _) (v := Value.func (.func 160) #[] #[]) rfl (by kernel_rfl) (by kernel_rfl) (by kernel_rfl) (fun _ _ _ h => h) (Or.inl ⟨by rfl, fun w' hSw => ?_⟩) hHeld ?_
    · obtain ⟨t0, t1, t2, t3, t4, t5⟩ := hSw
      go_simp
      try simp [*]
      try (intro hh; exfalso; omega)
      try omega
    try simp only [Act.put, List.setIfInBounds_toArray, List.set_cons_zero, List.set_cons_succ, List.getElem_toArray, List.getElem_cons_succ, List.getElem_cons_zero]
    refine wpAnyH_take (i := 4) (oi := _) (v := Value.agg #[Value.int .i64 2, Value.int .i64 v0, Value.int .i64 v1, Value.int .i64 b0, Value.int .i64 b1]) rfl (by kernel_rfl) (by kernel_rfl) (by kernel_rfl) (fun _ _ _ h => h) (Or.inl ⟨by rfl, fun w' hSw => ?_⟩) hHeld ?_
    · obtain ⟨t0, t1, t2, t3, t4, t5⟩ := hSw
      go_simp
      try simp [*]
      try (intro hh; exfalso; omega)
      try omega
    try simp only [Act.put, List.setIfInBounds_toArray, List.set_cons_zero, List.set_cons_succ, List.getElem_toArray, List.getElem_cons_succ, List.getElem_cons_zero]
    refine wpAnyH_ready (rs := [5]) (by kernel_rfl) (by simp) ?_
    refine AllReadyH.cons (o := _) rfl (fun K hK => ?_) AllReadyH.nil
    go_simp
    go_at_call 160
    refine Calls.mono (hc _) ?_
    rintro e v1 ⟨rfl, hb⟩
    have HD1 := Lib.hid (HD.out.trans (hb.mono HD.out.size))
    clear hb
    clear hHeld
    refine hK.out _ _ (HK.out _ HD1.out) (fun hHeld => ?_)
    clear hK K
    try simp only [Act.put, List.setIfInBounds_toArray, List.set_cons_zero, List.set_cons_succ, List.getElem_toArray, List.getElem_cons_succ, List.getElem_cons_zero]
    obtain ⟨x0, x1⟩ := And.intro (HRA.out.keep HD1.out).c0 (HRA.out.keep HD1.out).c1
    obtain ⟨f0, f1⟩ := And.intro ((HRA.out.keep HD1.out).f0 0) ((HRA.out.keep HD1.out).f0 1)
    obtain ⟨u0, u1, u2, u3, u4, u5⟩ := HK.out _ HD1.out
    refine wpAnyH_ready (rs := [6]) (by kernel_rfl) (by simp) ?_
    refine AllReadyH.cons (o := _) rfl (fun K hK => ?_) AllReadyH.nil
    go_simp
    clear hHeld
    refine hK.out _ _ ⟨by simpa [go_sem, ne0, ne1] using u0, by simpa [go_sem, ne0, ne1] using u1, by simpa [go_sem, ne0, ne1] using u2, by simpa [go_sem, ne0, ne1] using u3, by simpa [go_sem, ne0, ne1] using u4, by simpa [go_sem, ne0, ne1] using u5⟩ (fun hHeld => ?_)
    clear hK K
    try simp only [Act.put, List.setIfInBounds_toArray, List.set_cons_zero, List.set_cons_succ, List.getElem_toArray, List.getElem_cons_succ, List.getElem_cons_zero]
    refine wpAnyH_done (by kernel_rfl) ?_ _
    clear hHeld
    go_wp2_with fail
    refine bodyPost_ret (v := .agg #[.int .i64 q1, .int .i64 q2]) (by simp [results, Try.results109, go_sem, ((HRA.out.keep HD1.out).set (.int .i64 q1) (.int .i64 q2)).c0, ((HRA.out.keep HD1.out).set (.int .i64 q1) (.int .i64 q2)).c1]) rfl ⟨rfl, HEND.out _ _ _ HD1.out⟩
  · obtain ⟨A0, hA0⟩ : ∃ A, A = (w.alloc (.cells #[.int .i64 3, .int .i64 v0, .int .i64 v1, .int .i64 b0, .int .i64 b1] 148)).alloc (.cells #[.int .i64 0, .int .i64 0] 23) := ⟨_, rfl⟩
    have hz0 : A0.heap.size = w.heap.size + 1 + 1 := by rw [hA0]; simp
    have HB0 := Lib.hid (show Below w.heap.size w A0 by rw [hA0]; exact ((Below.refl _ _).alloc (Nat.le_refl _) _).alloc (by simp) _)
    have hR0 : Bx2 A0 (w.heap.size + 1) (.int .i64 0) (.int .i64 0) := by
      rw [hA0]
      have q := Bx2.new (w.alloc (.cells #[.int .i64 3, .int .i64 v0, .int .i64 v1, .int .i64 b0, .int .i64 b1] 148)) (.int .i64 0) (.int .i64 0)
      rwa [World.size_alloc] at q
    have j0 : A0.cell? ⟨w.heap.size, 0, none⟩ = some (.int .i64 3) := by rw [hA0]; simp [go_sem]
    have j1 : A0.cell? ⟨w.heap.size, 1, none⟩ = some (.int .i64 v0) := by rw [hA0]; simp [go_sem]
    have j2 : A0.cell? ⟨w.heap.size, 2, none⟩ = some (.int .i64 v1) := by rw [hA0]; simp [go_sem]
    have j3 : A0.cell? ⟨w.heap.size, 3, none⟩ = some (.int .i64 b0) := by rw [hA0]; simp [go_sem]
    have j4 : A0.cell? ⟨w.heap.size, 4, none⟩ = some (.int .i64 b1) := by rw [hA0]; simp [go_sem]
    obtain ⟨A, hA⟩ : ∃ A, A = A0.alloc (.cells #[.nilFunc, .func (.func 159) #[] #[], .func (.func 160) #[] #[], .func (.func 161) #[] #[]] 199) := ⟨_, rfl⟩
    have HA1 := Lib.hid (show Below A0.heap.size A0 A by rw [hA]; exact (Below.refl _ _).alloc (Nat.le_refl _) _)
    have HBA := Lib.hid (HB0.out.trans (HA1.out.mono HB0.out.size))
    have HRA := Lib.hid (hR0.keep HA1.out)
    have hzA : A.heap.size = A0.heap.size + 1 := by rw [hA]; simp
    have k5 : A.cell? ⟨A0.heap.size, 3, none⟩ = some (.func (.func 161) #[] #[]) := by rw [hA]; simp [go_sem]
    have k0 := (HA1.out.cell (p := ⟨w.heap.size, 0, none⟩) (by show w.heap.size < A0.heap.size; omega)).trans j0
    have k1 := (HA1.out.cell (p := ⟨w.heap.size, 1, none⟩) (by show w.heap.size < A0.heap.size; omega)).trans j1
    have k2 := (HA1.out.cell (p := ⟨w.heap.size, 2, none⟩) (by show w.heap.size < A0.heap.size; omega)).trans j2
    have k3 := (HA1.out.cell (p := ⟨w.heap.size, 3, none⟩) (by show w.heap.size < A0.heap.size; omega)).trans j3
    have k4 := (HA1.out.cell (p := ⟨w.heap.size, 4, none⟩) (by show w.heap.size < A0.heap.size; omega)).trans j4
    have HEND := Lib.hid (show ∀ W v0 v1, Below A.heap.size A W → Below w.heap.size w ((W.setCell ⟨w.heap.size + 1, 0, none⟩ v0).setCell ⟨w.heap.size + 1, 1, none⟩ v1) from fun W v0 v1 h =>
      ((HBA.out.trans (h.mono HBA.out.size)).setCell (p := ⟨w.heap.size + 1, 0, none⟩) (by show w.heap.size ≤ w.heap.size + 1; omega) _).setCell (p := ⟨w.heap.size + 1, 1, none⟩) (by show w.heap.size ≤ w.heap.size + 1; omega) _)
    have ne0 : ¬ w.heap.size = w.heap.size + 1 := by omega
    have ne1 : ¬ A0.heap.size = w.heap.size + 1 := by omega
    have HK := Lib.hid (show ∀ W, Below A.heap.size A W → W.cell? ⟨w.heap.size, 0, none⟩ = some (.int .i64 3) ∧ W.cell? ⟨w.heap.size, 1, none⟩ = some (.int .i64 v0) ∧ W.cell? ⟨w.heap.size, 2, none⟩ = some (.int .i64 v1) ∧ W.cell? ⟨w.heap.size, 3, none⟩ = some (.int .i64 b0) ∧ W.cell? ⟨w.heap.size, 4, none⟩ = some (.int .i64 b1) ∧ W.cell? ⟨A0.heap.size, 3, none⟩ = some (.func (.func 161) #[] #[]) from fun W h => ⟨(h.cell (p := ⟨w.heap.size, 0, none⟩) (by show w.heap.size < A.heap.size; omega)).trans k0, (h.cell (p := ⟨w.heap.size, 1, none⟩) (by show w.heap.size < A.heap.size; omega)).trans k1, (h.cell (p := ⟨w.heap.size, 2, none⟩) (by show w.heap.size < A.heap.size; omega)).trans k2, (h.cell (p := ⟨w.heap.size, 3, none⟩) (by show w.heap.size < A.heap.size; omega)).trans k3, (h.cell (p := ⟨w.heap.size, 4, none⟩) (by show w.heap.size < A.heap.size; omega)).trans k4, (h.cell (p := ⟨A0.heap.size, 3, none⟩) (by show A0.heap.size < A.heap.size; omega)).trans k5⟩)
    clear j0 j1 j2 j3 j4 hR0 HB0 HA1 hzA
    go_enter Try.func109, Try.ntmps109
    go_upto_region 2 with fail
    try rw [← hA0]
    try rw [← hz0]
    try rw [← hA]
    clear hA hA0 hz0
    generalize A0.heap.size = BF at *
    generalize w.heap.size + 1 = B1 at *
    refine wp_region_held_drew (S := fun w' => w'.cell? ⟨w.heap.size, 0, none⟩ = some (Value.int .i64 3) ∧ w'.cell? ⟨w.heap.size, 1, none⟩ = some (Value.int .i64 v0) ∧ w'.cell? ⟨w.heap.size, 2, none⟩ = some (Value.int .i64 v1) ∧ w'.cell? ⟨w.heap.size, 3, none⟩ = some (Value.int .i64 b0) ∧ w'.cell? ⟨w.heap.size, 4, none⟩ = some (Value.int .i64 b1) ∧ w'.cell? ⟨BF, 3, none⟩ = some (Value.func (.func 161) #[] #[])) (by kernel_rfl) ⟨by simpa [go_sem] using k0, by simpa [go_sem] using k1, by simpa [go_sem] using k2, by simpa [go_sem] using k3, by simpa [go_sem] using k4, by simpa [go_sem] using k5⟩ (fun hHeld => ?_)
    have HD := Lib.hid (show Below A.heap.size A _ from (Below.refl A.heap.size A).drew)
    refine wpAnyH_take (i := 0) (oi := _) (v := Value.pointer (some ⟨w.heap.size, 0, none⟩)) rfl (by kernel_rfl) (by kernel_rfl) (by kernel_rfl) (fun _ _ _ h => h) (Or.inl ⟨by rfl, fun w' hSw => ?_⟩) hHeld ?_
    · obtain ⟨t0, t1, t2, t3, t4, t5⟩ := hSw
      go_simp
      try simp [*]
      try (intro hh; exfalso; omega)
      try omega
    try simp only [Act.put, List.setIfInBounds_toArray, List.set_cons_zero, List.set_cons_succ, List.getElem_toArray, List.getElem_cons_succ, List.getElem_cons_zero]
    refine wpAnyH_take (i := 1) (oi := _) (v := Value.int .i64 3) rfl (by kernel_rfl) (by kernel_rfl) (by kernel_rfl) (fun _ _ _ h => h) (Or.inl ⟨by rfl, fun w' hSw => ?_⟩) hHeld ?_
    · obtain ⟨t0, t1, t2, t3, t4, t5⟩ := hSw
      go_simp
      try simp [*]
      try (intro hh; exfalso; omega)
      try omega
    try simp only [Act.put, List.setIfInBounds_toArray, List.set_cons_zero, List.set_cons_succ, List.getElem_toArray, List.getElem_cons_succ, List.getElem_cons_zero]
    refine wpAnyH_take (i := 2) (oi := _) (v := Value.pointer (some ⟨BF, 3, none⟩)) rfl (by kernel_rfl) (by kernel_rfl) (by kernel_rfl) (fun _ _ _ h => h) (Or.inl ⟨by rfl, fun w' hSw => ?_⟩) hHeld ?_
    · obtain ⟨t0, t1, t2, t3, t4, t5⟩ := hSw
      go_simp
      try simp [*]
      try (intro hh; exfalso; omega)
      try omega
    try simp only [Act.put, List.setIfInBounds_toArray, List.set_cons_zero, List.set_cons_succ, List.getElem_toArray, List.getElem_cons_succ, List.getElem_cons_zero]
    refine wpAnyH_take (i := 3) (oi := _) (v := Value.func (.func 161) #[] #[]) rfl (by kernel_rfl) (by kernel_rfl) (by kernel_rfl) (fun _ _ _ h => h) (Or.inl ⟨by rfl, fun w' hSw => ?_⟩) hHeld ?_
    · obtain ⟨t0, t1, t2, t3, t4, t5⟩ := hSw
      go_simp
      try simp [*]
      try (intro hh; exfalso; omega)
      try omega
    try simp only [Act.put, List.setIfInBounds_toArray, List.set_cons_zero, List.set_cons_succ, List.getElem_toArray, List.getElem_cons_succ, List.getElem_cons_zero]
    refine wpAnyH_take (i := 4) (oi := _) (v := Value.agg #[Value.int .i64 3, Value.int .i64 v0, Value.int .i64 v1, Value.int .i64 b0, Value.int .i64 b1]) rfl (by kernel_rfl) (by kernel_rfl) (by kernel_rfl) (fun _ _ _ h => h) (Or.inl ⟨by rfl, fun w' hSw => ?_⟩) hHeld ?_
    · obtain ⟨t0, t1, t2, t3, t4, t5⟩ := hSw
      go_simp
      try simp [*]
      try (intro hh; exfalso; omega)
      try omega
    try simp only [Act.put, List.setIfInBounds_toArray, List.set_cons_zero, List.set_cons_succ, List.getElem_toArray, List.getElem_cons_succ, List.getElem_cons_zero]
    refine wpAnyH_ready (rs := [5]) (by kernel_rfl) (by simp) ?_
    refine AllReadyH.cons (o := _) rfl (fun K hK => ?_) AllReadyH.nil
    go_simp
    go_at_call 161
    refine Calls.mono (hc _) ?_
    rintro e v1 ⟨rfl, hb⟩
    have HD1 := Lib.hid (HD.out.trans (hb.mono HD.out.size))
    clear hb
    clear hHeld
    refine hK.out _ _ (HK.out _ HD1.out) (fun hHeld => ?_)
    clear hK K
    try simp only [Act.put, List.setIfInBounds_toArray, List.set_cons_zero, List.set_cons_succ, List.getElem_toArray, List.getElem_cons_succ, List.getElem_cons_zero]
    obtain ⟨x0, x1⟩ := And.intro (HRA.out.keep HD1.out).c0 (HRA.out.keep HD1.out).c1
    obtain ⟨f0, f1⟩ := And.intro ((HRA.out.keep HD1.out).f0 0) ((HRA.out.keep HD1.out).f0 1)
    obtain ⟨u0, u1, u2, u3, u4, u5⟩ := HK.out _ HD1.out
    refine wpAnyH_ready (rs := [6]) (by kernel_rfl) (by simp) ?_
    refine AllReadyH.cons (o := _) rfl (fun K hK => ?_) AllReadyH.nil
    go_simp
    clear hHeld
    refine hK.out _ _ ⟨by simpa [go_sem, ne0, ne1] using u0, by simpa [go_sem, ne0, ne1] using u1, by simpa [go_sem, ne0, ne1] using u2, by simpa [go_sem, ne0, ne1] using u3, by simpa [go_sem, ne0, ne1] using u4, by simpa [go_sem, ne0, ne1] using u5⟩ (fun hHeld => ?_)
    clear hK K
    try simp only [Act.put, List.setIfInBounds_toArray, List.set_cons_zero, List.set_cons_succ, List.getElem_toArray, List.getElem_cons_succ, List.getElem_cons_zero]
    refine wpAnyH_done (by kernel_rfl) ?_ _
    clear hHeld
    go_wp2_with fail
    refine bodyPost_ret (v := .agg #[.int .i64 q1, .int .i64 q2]) (by simp [results, Try.results109, go_sem, ((HRA.out.keep HD1.out).set (.int .i64 q1) (.int .i64 q2)).c0, ((HRA.out.keep HD1.out).set (.int .i64 q1) (.int .i64 q2)).c1]) rfl ⟨rfl, HEND.out _ _ _ HD1.out⟩
end
end Go.Proofs.Ytdohfpnnmppdkaa

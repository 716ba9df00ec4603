/-
  Cables: what the reference checks of a cable.
-/
import Derived.Test.YtdohfpnnmppdkaaCbC
namespace Go.Proofs.Ytdohfpnnmppdkaa
open Go.RowKit Go.Shelf
set_option linter.unusedSimpArgs false
attribute [local go_sem] Oper.semAt_some
theorem refWithin_any (x lo hi : Int) (w : World) : Calls Try.prog 192 #[.int .i64 x, .int .i64 lo, .int .i64 hi] w fun e w' => e = .returned (.bool (decide (lo ≤ x ∧ x ≤ hi))) ∧ w' = w := by
  by_cases h1 : lo ≤ x
  · by_cases h2 : x ≤ hi
    · rw [decide_eq_true ⟨h1, h2⟩]
      go_enter Try.func192, Try.ntmps192
      go_wp2_with fail
      go_ret
      exact ⟨by first | rfl | simp [*], rfl⟩
    · rw [decide_eq_false (fun h => h2 h.2)]
      go_enter Try.func192, Try.ntmps192
      go_wp2_with fail
      go_ret
      exact ⟨by first | rfl | simp [*], rfl⟩
  · rw [decide_eq_false (fun h => h1 h.1)]
    go_enter Try.func192, Try.ntmps192
    go_wp2_with fail
    go_ret
    exact ⟨by first | rfl | simp [*], rfl⟩
set_option maxHeartbeats 1000000 in
theorem refValid_any (a b : Int) (w : World) : Calls Try.prog 162 #[.agg #[.int .i64 a, .int .i64 b]] w fun e w' => e = .returned (.bool (vB a b)) ∧ Below w.heap.size w w' := by
  have c1 := fun W => refWithin_any a (-1073741824) 1073741824 W
  have c2 := fun W => refWithin_any b (-1073741824) 1073741824 W
  have HV : vB a b = (decide (a ≤ b) && (decide (-1073741824 ≤ a ∧ a ≤ 1073741824) && decide (-1073741824 ≤ b ∧ b ≤ 1073741824))) := by
    rw [Bool.eq_iff_iff, vB_iff]
    simp only [Bool.and_eq_true, decide_eq_true_iff]
    omega
  rw [HV]
  clear HV
  generalize decide (-1073741824 ≤ a ∧ a ≤ 1073741824) = x at *
  generalize decide (-1073741824 ≤ b ∧ b ≤ 1073741824) = y at *
  obtain ⟨A, hA⟩ : ∃ A, A = w.alloc (.cells #[.int .i64 a, .int .i64 b] 23) := ⟨_, rfl⟩
  have HBA := Lib.hid (show Below w.heap.size w A by rw [hA]; exact ((Below.refl _ _).alloc (Nat.le_refl _) _))
  have hltA : w.heap.size + 1 ≤ A.heap.size := by rw [hA]; simp
  have q0 : A.cell? ⟨w.heap.size, 0, none⟩ = some (.int .i64 a) := by rw [hA]; exact (cellHB (World.alloc_heap_new w _) 0).trans (by simp)
  have q1 : A.cell? ⟨w.heap.size, 1, none⟩ = some (.int .i64 b) := by rw [hA]; exact (cellHB (World.alloc_heap_new w _) 1).trans (by simp)
  have KK := Lib.hid (show ∀ W, Below A.heap.size A W → W.cell? ⟨w.heap.size, 0, none⟩ = some (.int .i64 a) ∧ W.cell? ⟨w.heap.size, 1, none⟩ = some (.int .i64 b) from fun W h => ⟨(h.cell (p := ⟨w.heap.size, 0, none⟩) (by show w.heap.size < A.heap.size; omega)).trans q0, (h.cell (p := ⟨w.heap.size, 1, none⟩) (by show w.heap.size < A.heap.size; omega)).trans q1⟩)
  have HLT := Lib.hid hltA
  clear hltA q0 q1
  obtain ⟨k0, k1⟩ := KK.out _ (Below.refl _ _)
  by_cases h1 : a ≤ b
  · rw [decide_eq_true h1, Bool.true_and]
    cases x
    · rw [Bool.false_and]
      go_enter Try.func162, Try.ntmps162
      go_upto_region 1 with fail
      rw [← hA]
      clear hA
      go_wp2_with fail
      refine (c1 _).mono ?_
      rintro e w1 ⟨rfl, rfl⟩
      go_wp2_with fail
      go_ret
      exact ⟨by first | rfl | simp [*], HBA.out⟩
    · rw [Bool.true_and]
      go_enter Try.func162, Try.ntmps162
      go_upto_region 1 with fail
      rw [← hA]
      clear hA
      go_wp2_with fail
      refine (c1 _).mono ?_
      rintro e w1 ⟨rfl, rfl⟩
      go_wp2_with fail
      refine (c2 _).mono ?_
      rintro e w2 ⟨rfl, rfl⟩
      go_wp2_with fail
      go_ret
      exact ⟨by first | rfl | simp [*], HBA.out⟩
  · rw [decide_eq_false h1, Bool.false_and]
    go_enter Try.func162, Try.ntmps162
    go_upto_region 1 with fail
    rw [← hA]
    clear hA
    go_wp2_with fail
    go_ret
    exact ⟨by first | rfl | simp [*], HBA.out⟩
theorem refCheck1_any (a b : Int) (w : World) : Calls Try.prog 113 #[.agg #[.int .i64 a, .int .i64 b]] w fun e w' => e = .returned (.int .i64 (if vB a b = true then 0 else 2)) ∧ Below w.heap.size w w' := by
  have c1 := fun W => refValid_any a b W
  generalize vB a b = x at *
  obtain ⟨A, hA⟩ : ∃ A, A = w.alloc (.cells #[.int .i64 a, .int .i64 b] 23) := ⟨_, rfl⟩
  have HBA := Lib.hid (show Below w.heap.size w A by rw [hA]; exact ((Below.refl _ _).alloc (Nat.le_refl _) _))
  have hltA : w.heap.size + 1 ≤ A.heap.size := by rw [hA]; simp
  have q0 : A.cell? ⟨w.heap.size, 0, none⟩ = some (.int .i64 a) := by rw [hA]; exact (cellHB (World.alloc_heap_new w _) 0).trans (by simp)
  have q1 : A.cell? ⟨w.heap.size, 1, none⟩ = some (.int .i64 b) := by rw [hA]; exact (cellHB (World.alloc_heap_new w _) 1).trans (by simp)
  have KK := Lib.hid (show ∀ W, Below A.heap.size A W → W.cell? ⟨w.heap.size, 0, none⟩ = some (.int .i64 a) ∧ W.cell? ⟨w.heap.size, 1, none⟩ = some (.int .i64 b) from fun W h => ⟨(h.cell (p := ⟨w.heap.size, 0, none⟩) (by show w.heap.size < A.heap.size; omega)).trans q0, (h.cell (p := ⟨w.heap.size, 1, none⟩) (by show w.heap.size < A.heap.size; omega)).trans q1⟩)
  have HLT := Lib.hid hltA
  clear hltA q0 q1
  obtain ⟨k0, k1⟩ := KK.out _ (Below.refl _ _)
  cases x
  · rw [if_neg (by decide)]
    go_enter Try.func113, Try.ntmps113
    go_upto_region 1 with fail
    rw [← hA]
    clear hA
    go_wp2_with fail
    refine (c1 _).mono ?_
    rintro e w1 ⟨rfl, hb⟩
    have HB1 := Lib.hid hb
    clear hb k0 k1
    obtain ⟨k0, k1⟩ := KK.out _ HB1.out
    go_wp2_with fail
    go_ret
    exact ⟨by first | rfl | simp [*], HBA.out.trans (HB1.out.mono HBA.out.size)⟩
  · rw [if_pos rfl]
    go_enter Try.func113, Try.ntmps113
    go_upto_region 1 with fail
    rw [← hA]
    clear hA
    go_wp2_with fail
    refine (c1 _).mono ?_
    rintro e w1 ⟨rfl, hb⟩
    have HB1 := Lib.hid hb
    clear hb k0 k1
    obtain ⟨k0, k1⟩ := KK.out _ HB1.out
    go_wp2_with fail
    go_ret
    exact ⟨by first | rfl | simp [*], HBA.out.trans (HB1.out.mono HBA.out.size)⟩
set_option maxHeartbeats 1000000 in
/-- a span is valid, with its ends from lo to hi -/
theorem refSpan_any (a b lo hi : Int) (w : World) :
    Calls Try.prog 90 #[.agg #[.int .i64 a, .int .i64 b], .int .i64 lo, .int .i64 hi] w fun e w' => e = .returned (.bool (vB a b && (decide (lo ≤ a) && decide (b ≤ hi)))) ∧ Below w.heap.size w w' := by
  have c1 := fun W => refCheck1_any a b W
  obtain ⟨A, hA⟩ : ∃ A, A = w.alloc (.cells #[.int .i64 a, .int .i64 b] 23) := ⟨_, rfl⟩
  have HBA := Lib.hid (show Below w.heap.size w A by rw [hA]; exact ((Below.refl _ _).alloc (Nat.le_refl _) _))
  have hltA : w.heap.size + 1 ≤ A.heap.size := by rw [hA]; simp
  have q0 : A.cell? ⟨w.heap.size, 0, none⟩ = some (.int .i64 a) := by rw [hA]; exact (cellHB (World.alloc_heap_new w _) 0).trans (by simp)
  have q1 : A.cell? ⟨w.heap.size, 1, none⟩ = some (.int .i64 b) := by rw [hA]; exact (cellHB (World.alloc_heap_new w _) 1).trans (by simp)
  have KK := Lib.hid (show ∀ W, Below A.heap.size A W → W.cell? ⟨w.heap.size, 0, none⟩ = some (.int .i64 a) ∧ W.cell? ⟨w.heap.size, 1, none⟩ = some (.int .i64 b) from fun W h => ⟨(h.cell (p := ⟨w.heap.size, 0, none⟩) (by show w.heap.size < A.heap.size; omega)).trans q0, (h.cell (p := ⟨w.heap.size, 1, none⟩) (by show w.heap.size < A.heap.size; omega)).trans q1⟩)
  have HLT := Lib.hid hltA
  clear hltA q0 q1
  obtain ⟨k0, k1⟩ := KK.out _ (Below.refl _ _)
  by_cases hv : vB a b = true
  · rw [if_pos hv] at c1
    rw [hv, Bool.true_and]
    clear hv
    by_cases h1 : lo ≤ a
    · rw [decide_eq_true h1, Bool.true_and]
      by_cases h2 : b ≤ hi
      · rw [decide_eq_true h2]
        go_enter Try.func90, Try.ntmps90
        go_upto_region 1 with fail
        rw [← hA]
        clear hA
        go_wp2_with fail
        refine (c1 _).mono ?_
        rintro e w1 ⟨rfl, hb⟩
        have HB1 := Lib.hid hb
        clear hb k0 k1
        obtain ⟨k0, k1⟩ := KK.out _ HB1.out
        go_wp2_with fail
        go_ret
        exact ⟨by first | rfl | simp [*], HBA.out.trans (HB1.out.mono HBA.out.size)⟩
      · rw [decide_eq_false h2]
        go_enter Try.func90, Try.ntmps90
        go_upto_region 1 with fail
        rw [← hA]
        clear hA
        go_wp2_with fail
        refine (c1 _).mono ?_
        rintro e w1 ⟨rfl, hb⟩
        have HB1 := Lib.hid hb
        clear hb k0 k1
        obtain ⟨k0, k1⟩ := KK.out _ HB1.out
        go_wp2_with fail
        go_ret
        exact ⟨by first | rfl | simp [*], HBA.out.trans (HB1.out.mono HBA.out.size)⟩
    · rw [decide_eq_false h1, Bool.false_and]
      go_enter Try.func90, Try.ntmps90
      go_upto_region 1 with fail
      rw [← hA]
      clear hA
      go_wp2_with fail
      refine (c1 _).mono ?_
      rintro e w1 ⟨rfl, hb⟩
      have HB1 := Lib.hid hb
      clear hb k0 k1
      obtain ⟨k0, k1⟩ := KK.out _ HB1.out
      go_wp2_with fail
      go_ret
      exact ⟨by first | rfl | simp [*], HBA.out.trans (HB1.out.mono HBA.out.size)⟩
  · rw [if_neg hv] at c1
    rw [Bool.not_eq_true] at hv
    rw [hv, Bool.false_and]
    clear hv
    go_enter Try.func90, Try.ntmps90
    go_upto_region 1 with fail
    rw [← hA]
    clear hA
    go_wp2_with fail
    refine (c1 _).mono ?_
    rintro e w1 ⟨rfl, hb⟩
    have HB1 := Lib.hid hb
    clear hb k0 k1
    obtain ⟨k0, k1⟩ := KK.out _ HB1.out
    go_wp2_with fail
    go_ret
    exact ⟨by first | rfl | simp [*], HBA.out.trans (HB1.out.mono HBA.out.size)⟩
def nodeV2 (a b li c d le de : Int) : Bool := (((((((vB a b && (decide (0 ≤ a) && decide (b ≤ 16777216))) && decide (0 ≤ li)) && decide (li ≤ 3932160)) && (vB c d && (decide (0 ≤ c) && decide (d ≤ 65536)))) && decide (0 ≤ le)) && decide (le ≤ 67108864)) && decide (-1 ≤ de)) && decide (de ≤ 1048576)
theorem nodeV2_eq (a b li c d le de : Int) : nodeV2 a b li c d le de = nodeV a b li c d le de := by
  unfold nodeV2 nodeV
  rw [Bool.eq_iff_iff]
  simp only [Bool.and_eq_true, decide_eq_true_iff, and_assoc]
set_option maxRecDepth 100000 in
set_option maxHeartbeats 8000000 in
theorem refNode_any (p a b li c d le de k : Int) (w : World) :
    Calls Try.prog 91 #[.agg #[.int .i64 p, .int .i64 a, .int .i64 b, .int .i64 li, .int .i64 c, .int .i64 d, .int .i64 le, .int .i64 de], .int .i64 k] w fun e w' => e = .returned (.bool (joinV p a b de k && nodeV a b li c d le de)) ∧ Below w.heap.size w w' := by
  have c1 := fun W => refSpan_any a b 0 16777216 W
  have c2 := fun W => refSpan_any c d 0 65536 W
  rw [← nodeV2_eq]
  unfold joinV nodeV2
  generalize (vB a b && (decide (0 ≤ a) && decide (b ≤ 16777216))) = x1 at *
  generalize (vB c d && (decide (0 ≤ c) && decide (d ≤ 65536))) = x4 at *
  obtain ⟨A, hA⟩ : ∃ A, A = w.alloc (.cells #[.int .i64 p, .int .i64 a, .int .i64 b, .int .i64 li, .int .i64 c, .int .i64 d, .int .i64 le, .int .i64 de] 62) := ⟨_, rfl⟩
  have HBA := Lib.hid (show Below w.heap.size w A by rw [hA]; exact ((Below.refl _ _).alloc (Nat.le_refl _) _))
  have hltA : w.heap.size + 1 ≤ A.heap.size := by rw [hA]; simp
  have q0 : A.cell? ⟨w.heap.size, 0, none⟩ = some (.int .i64 p) := by rw [hA]; exact (cellHB (World.alloc_heap_new w _) 0).trans (by simp)
  have q1 : A.cell? ⟨w.heap.size, 1, none⟩ = some (.int .i64 a) := by rw [hA]; exact (cellHB (World.alloc_heap_new w _) 1).trans (by simp)
  have q2 : A.cell? ⟨w.heap.size, 2, none⟩ = some (.int .i64 b) := by rw [hA]; exact (cellHB (World.alloc_heap_new w _) 2).trans (by simp)
  have q3 : A.cell? ⟨w.heap.size, 3, none⟩ = some (.int .i64 li) := by rw [hA]; exact (cellHB (World.alloc_heap_new w _) 3).trans (by simp)
  have q4 : A.cell? ⟨w.heap.size, 4, none⟩ = some (.int .i64 c) := by rw [hA]; exact (cellHB (World.alloc_heap_new w _) 4).trans (by simp)
  have q5 : A.cell? ⟨w.heap.size, 5, none⟩ = some (.int .i64 d) := by rw [hA]; exact (cellHB (World.alloc_heap_new w _) 5).trans (by simp)
  have q6 : A.cell? ⟨w.heap.size, 6, none⟩ = some (.int .i64 le) := by rw [hA]; exact (cellHB (World.alloc_heap_new w _) 6).trans (by simp)
  have q7 : A.cell? ⟨w.heap.size, 7, none⟩ = some (.int .i64 de) := by rw [hA]; exact (cellHB (World.alloc_heap_new w _) 7).trans (by simp)
  have KK := Lib.hid (show ∀ W, Below A.heap.size A W → W.cell? ⟨w.heap.size, 0, none⟩ = some (.int .i64 p) ∧ W.cell? ⟨w.heap.size, 1, none⟩ = some (.int .i64 a) ∧ W.cell? ⟨w.heap.size, 2, none⟩ = some (.int .i64 b) ∧ W.cell? ⟨w.heap.size, 3, none⟩ = some (.int .i64 li) ∧ W.cell? ⟨w.heap.size, 4, none⟩ = some (.int .i64 c) ∧ W.cell? ⟨w.heap.size, 5, none⟩ = some (.int .i64 d) ∧ W.cell? ⟨w.heap.size, 6, none⟩ = some (.int .i64 le) ∧ W.cell? ⟨w.heap.size, 7, none⟩ = some (.int .i64 de) from fun W h => ⟨(h.cell (p := ⟨w.heap.size, 0, none⟩) (by show w.heap.size < A.heap.size; omega)).trans q0, (h.cell (p := ⟨w.heap.size, 1, none⟩) (by show w.heap.size < A.heap.size; omega)).trans q1, (h.cell (p := ⟨w.heap.size, 2, none⟩) (by show w.heap.size < A.heap.size; omega)).trans q2, (h.cell (p := ⟨w.heap.size, 3, none⟩) (by show w.heap.size < A.heap.size; omega)).trans q3, (h.cell (p := ⟨w.heap.size, 4, none⟩) (by show w.heap.size < A.heap.size; omega)).trans q4, (h.cell (p := ⟨w.heap.size, 5, none⟩) (by show w.heap.size < A.heap.size; omega)).trans q5, (h.cell (p := ⟨w.heap.size, 6, none⟩) (by show w.heap.size < A.heap.size; omega)).trans q6, (h.cell (p := ⟨w.heap.size, 7, none⟩) (by show w.heap.size < A.heap.size; omega)).trans q7⟩)
  have HLT := Lib.hid hltA
  clear hltA q0 q1 q2 q3 q4 q5 q6 q7
  obtain ⟨k0, k1, k2, k3, k4, k5, k6, k7⟩ := KK.out _ (Below.refl _ _)
  by_cases h0 : k = 0
  · subst h0
    rw [if_pos rfl]
    by_cases h1 : p = -1
    rotate_left
    · rw [decide_eq_false h1, Bool.false_and, Bool.false_and]
      have h1' : (p != -1) = true := by simpa using h1
      go_enter Try.func91, Try.ntmps91
      go_upto_region 1 with fail
      rw [← hA]
      clear hA
      go_wp2_with fail
      go_ret
      exact ⟨by first | rfl | simp [*], HBA.out⟩
    subst h1
    rw [decide_eq_true rfl, Bool.true_and]
    by_cases h2 : a = 0
    rotate_left
    · rw [decide_eq_false h2, Bool.false_and, Bool.false_and, Bool.false_and]
      have h2' : (a == 0) = false := by simpa using h2
      go_enter Try.func91, Try.ntmps91
      go_upto_region 1 with fail
      rw [← hA]
      clear hA
      go_wp2_with fail
      go_ret
      exact ⟨by first | rfl | simp [*], HBA.out⟩
    subst h2
    rw [decide_eq_true rfl, Bool.true_and]
    by_cases h3 : b = 0
    rotate_left
    · rw [decide_eq_false h3, Bool.false_and, Bool.false_and]
      have h3' : (b == 0) = false := by simpa using h3
      go_enter Try.func91, Try.ntmps91
      go_upto_region 1 with fail
      rw [← hA]
      clear hA
      go_wp2_with fail
      go_ret
      exact ⟨by first | rfl | simp [*], HBA.out⟩
    subst h3
    rw [decide_eq_true rfl, Bool.true_and]
    by_cases h4 : de = -1
    rotate_left
    · have h4' : (de != -1) = true := by simpa using h4
      rw [h4', Bool.not_true, Bool.false_and]
      go_enter Try.func91, Try.ntmps91
      go_upto_region 1 with fail
      rw [← hA]
      clear hA
      go_wp2_with fail
      go_ret
      exact ⟨by first | rfl | simp [*], HBA.out⟩
    subst h4
    rw [show (!((-1 : Int) != -1)) = true by rfl, Bool.true_and]
    cases x1
    · rw [Bool.false_and, Bool.false_and, Bool.false_and, Bool.false_and, Bool.false_and, Bool.false_and, Bool.false_and]
      go_enter Try.func91, Try.ntmps91
      go_upto_region 1 with fail
      rw [← hA]
      clear hA
      go_wp2_with fail
      refine (c1 _).mono ?_
      rintro e w1 ⟨rfl, hb⟩
      have HB1 := Lib.hid hb
      clear hb k0 k1 k2 k3 k4 k5 k6 k7
      obtain ⟨k0, k1, k2, k3, k4, k5, k6, k7⟩ := KK.out _ HB1.out
      go_wp2_with fail
      go_ret
      exact ⟨by first | rfl | simp [*], HBA.out.trans (HB1.out.mono HBA.out.size)⟩
    · rw [Bool.true_and]
      by_cases g1 : 0 ≤ li
      rotate_left
      · rw [decide_eq_false g1, Bool.false_and, Bool.false_and, Bool.false_and, Bool.false_and, Bool.false_and, Bool.false_and]
        go_enter Try.func91, Try.ntmps91
        go_upto_region 1 with fail
        rw [← hA]
        clear hA
        go_wp2_with fail
        refine (c1 _).mono ?_
        rintro e w1 ⟨rfl, hb⟩
        have HB1 := Lib.hid hb
        clear hb k0 k1 k2 k3 k4 k5 k6 k7
        obtain ⟨k0, k1, k2, k3, k4, k5, k6, k7⟩ := KK.out _ HB1.out
        go_wp2_with fail
        go_ret
        exact ⟨by first | rfl | simp [*], HBA.out.trans (HB1.out.mono HBA.out.size)⟩
      · rw [decide_eq_true g1, Bool.true_and]
        by_cases g2 : li ≤ 3932160
        rotate_left
        · rw [decide_eq_false g2, Bool.false_and, Bool.false_and, Bool.false_and, Bool.false_and, Bool.false_and]
          go_enter Try.func91, Try.ntmps91
          go_upto_region 1 with fail
          rw [← hA]
          clear hA
          go_wp2_with fail
          refine (c1 _).mono ?_
          rintro e w1 ⟨rfl, hb⟩
          have HB1 := Lib.hid hb
          clear hb k0 k1 k2 k3 k4 k5 k6 k7
          obtain ⟨k0, k1, k2, k3, k4, k5, k6, k7⟩ := KK.out _ HB1.out
          go_wp2_with fail
          go_ret
          exact ⟨by first | rfl | simp [*], HBA.out.trans (HB1.out.mono HBA.out.size)⟩
        · rw [decide_eq_true g2, Bool.true_and]
          cases x4
          · rw [Bool.false_and, Bool.false_and, Bool.false_and, Bool.false_and]
            go_enter Try.func91, Try.ntmps91
            go_upto_region 1 with fail
            rw [← hA]
            clear hA
            go_wp2_with fail
            refine (c1 _).mono ?_
            rintro e w1 ⟨rfl, hb⟩
            have HB1 := Lib.hid hb
            clear hb k0 k1 k2 k3 k4 k5 k6 k7
            obtain ⟨k0, k1, k2, k3, k4, k5, k6, k7⟩ := KK.out _ HB1.out
            go_wp2_with fail
            refine (c2 _).mono ?_
            rintro e w2 ⟨rfl, hb⟩
            have HB2 := Lib.hid (HB1.out.trans (hb.mono HB1.out.size))
            clear hb k0 k1 k2 k3 k4 k5 k6 k7
            obtain ⟨k0, k1, k2, k3, k4, k5, k6, k7⟩ := KK.out _ HB2.out
            go_wp2_with fail
            go_ret
            exact ⟨by first | rfl | simp [*], HBA.out.trans (HB2.out.mono HBA.out.size)⟩
          · rw [Bool.true_and]
            by_cases g4 : 0 ≤ le
            rotate_left
            · rw [decide_eq_false g4, Bool.false_and, Bool.false_and, Bool.false_and]
              go_enter Try.func91, Try.ntmps91
              go_upto_region 1 with fail
              rw [← hA]
              clear hA
              go_wp2_with fail
              refine (c1 _).mono ?_
              rintro e w1 ⟨rfl, hb⟩
              have HB1 := Lib.hid hb
              clear hb k0 k1 k2 k3 k4 k5 k6 k7
              obtain ⟨k0, k1, k2, k3, k4, k5, k6, k7⟩ := KK.out _ HB1.out
              go_wp2_with fail
              refine (c2 _).mono ?_
              rintro e w2 ⟨rfl, hb⟩
              have HB2 := Lib.hid (HB1.out.trans (hb.mono HB1.out.size))
              clear hb k0 k1 k2 k3 k4 k5 k6 k7
              obtain ⟨k0, k1, k2, k3, k4, k5, k6, k7⟩ := KK.out _ HB2.out
              go_wp2_with fail
              go_ret
              exact ⟨by first | rfl | simp [*], HBA.out.trans (HB2.out.mono HBA.out.size)⟩
            · rw [decide_eq_true g4, Bool.true_and]
              by_cases g5 : le ≤ 67108864
              rotate_left
              · rw [decide_eq_false g5, Bool.false_and, Bool.false_and]
                go_enter Try.func91, Try.ntmps91
                go_upto_region 1 with fail
                rw [← hA]
                clear hA
                go_wp2_with fail
                refine (c1 _).mono ?_
                rintro e w1 ⟨rfl, hb⟩
                have HB1 := Lib.hid hb
                clear hb k0 k1 k2 k3 k4 k5 k6 k7
                obtain ⟨k0, k1, k2, k3, k4, k5, k6, k7⟩ := KK.out _ HB1.out
                go_wp2_with fail
                refine (c2 _).mono ?_
                rintro e w2 ⟨rfl, hb⟩
                have HB2 := Lib.hid (HB1.out.trans (hb.mono HB1.out.size))
                clear hb k0 k1 k2 k3 k4 k5 k6 k7
                obtain ⟨k0, k1, k2, k3, k4, k5, k6, k7⟩ := KK.out _ HB2.out
                go_wp2_with fail
                go_ret
                exact ⟨by first | rfl | simp [*], HBA.out.trans (HB2.out.mono HBA.out.size)⟩
              · rw [decide_eq_true g5, Bool.true_and]
                by_cases g6 : (-1 : Int) ≤ -1
                rotate_left
                · exact absurd (by decide) g6
                · rw [decide_eq_true g6, Bool.true_and]
                  by_cases g7 : (-1 : Int) ≤ 1048576
                  rotate_left
                  · exact absurd (by decide) g7
                  · rw [decide_eq_true g7]
                    go_enter Try.func91, Try.ntmps91
                    go_upto_region 1 with fail
                    rw [← hA]
                    clear hA
                    go_wp2_with fail
                    refine (c1 _).mono ?_
                    rintro e w1 ⟨rfl, hb⟩
                    have HB1 := Lib.hid hb
                    clear hb k0 k1 k2 k3 k4 k5 k6 k7
                    obtain ⟨k0, k1, k2, k3, k4, k5, k6, k7⟩ := KK.out _ HB1.out
                    go_wp2_with fail
                    refine (c2 _).mono ?_
                    rintro e w2 ⟨rfl, hb⟩
                    have HB2 := Lib.hid (HB1.out.trans (hb.mono HB1.out.size))
                    clear hb k0 k1 k2 k3 k4 k5 k6 k7
                    obtain ⟨k0, k1, k2, k3, k4, k5, k6, k7⟩ := KK.out _ HB2.out
                    go_wp2_with fail
                    go_ret
                    exact ⟨by first | rfl | simp [*], HBA.out.trans (HB2.out.mono HBA.out.size)⟩
  · rw [if_neg h0]
    have h0' : (k == 0) = false := by simpa using h0
    by_cases h1 : 0 ≤ p
    rotate_left
    · rw [decide_eq_false (fun h => h1 h.1), Bool.false_and]
      go_enter Try.func91, Try.ntmps91
      go_upto_region 1 with fail
      rw [← hA]
      clear hA
      go_wp2_with fail
      go_ret
      exact ⟨by first | rfl | simp [*], HBA.out⟩
    by_cases h2 : p ≤ k - 1
    rotate_left
    · rw [decide_eq_false (fun h => h2 h.2), Bool.false_and]
      have h2' : k ≤ p := by omega
      go_enter Try.func91, Try.ntmps91
      go_upto_region 1 with fail
      rw [← hA]
      clear hA
      go_wp2_with fail
      go_ret
      exact ⟨by first | rfl | simp [*], HBA.out⟩
    have h2' : ¬ k ≤ p := by omega
    rw [decide_eq_true ⟨h1, h2⟩, Bool.true_and]
    cases x1
    · rw [Bool.false_and, Bool.false_and, Bool.false_and, Bool.false_and, Bool.false_and, Bool.false_and, Bool.false_and]
      go_enter Try.func91, Try.ntmps91
      go_upto_region 1 with fail
      rw [← hA]
      clear hA
      go_wp2_with fail
      refine (c1 _).mono ?_
      rintro e w1 ⟨rfl, hb⟩
      have HB1 := Lib.hid hb
      clear hb k0 k1 k2 k3 k4 k5 k6 k7
      obtain ⟨k0, k1, k2, k3, k4, k5, k6, k7⟩ := KK.out _ HB1.out
      go_wp2_with fail
      go_ret
      exact ⟨by first | rfl | simp [*], HBA.out.trans (HB1.out.mono HBA.out.size)⟩
    · rw [Bool.true_and]
      by_cases g1 : 0 ≤ li
      rotate_left
      · rw [decide_eq_false g1, Bool.false_and, Bool.false_and, Bool.false_and, Bool.false_and, Bool.false_and, Bool.false_and]
        go_enter Try.func91, Try.ntmps91
        go_upto_region 1 with fail
        rw [← hA]
        clear hA
        go_wp2_with fail
        refine (c1 _).mono ?_
        rintro e w1 ⟨rfl, hb⟩
        have HB1 := Lib.hid hb
        clear hb k0 k1 k2 k3 k4 k5 k6 k7
        obtain ⟨k0, k1, k2, k3, k4, k5, k6, k7⟩ := KK.out _ HB1.out
        go_wp2_with fail
        go_ret
        exact ⟨by first | rfl | simp [*], HBA.out.trans (HB1.out.mono HBA.out.size)⟩
      · rw [decide_eq_true g1, Bool.true_and]
        by_cases g2 : li ≤ 3932160
        rotate_left
        · rw [decide_eq_false g2, Bool.false_and, Bool.false_and, Bool.false_and, Bool.false_and, Bool.false_and]
          go_enter Try.func91, Try.ntmps91
          go_upto_region 1 with fail
          rw [← hA]
          clear hA
          go_wp2_with fail
          refine (c1 _).mono ?_
          rintro e w1 ⟨rfl, hb⟩
          have HB1 := Lib.hid hb
          clear hb k0 k1 k2 k3 k4 k5 k6 k7
          obtain ⟨k0, k1, k2, k3, k4, k5, k6, k7⟩ := KK.out _ HB1.out
          go_wp2_with fail
          go_ret
          exact ⟨by first | rfl | simp [*], HBA.out.trans (HB1.out.mono HBA.out.size)⟩
        · rw [decide_eq_true g2, Bool.true_and]
          cases x4
          · rw [Bool.false_and, Bool.false_and, Bool.false_and, Bool.false_and]
            go_enter Try.func91, Try.ntmps91
            go_upto_region 1 with fail
            rw [← hA]
            clear hA
            go_wp2_with fail
            refine (c1 _).mono ?_
            rintro e w1 ⟨rfl, hb⟩
            have HB1 := Lib.hid hb
            clear hb k0 k1 k2 k3 k4 k5 k6 k7
            obtain ⟨k0, k1, k2, k3, k4, k5, k6, k7⟩ := KK.out _ HB1.out
            go_wp2_with fail
            refine (c2 _).mono ?_
            rintro e w2 ⟨rfl, hb⟩
            have HB2 := Lib.hid (HB1.out.trans (hb.mono HB1.out.size))
            clear hb k0 k1 k2 k3 k4 k5 k6 k7
            obtain ⟨k0, k1, k2, k3, k4, k5, k6, k7⟩ := KK.out _ HB2.out
            go_wp2_with fail
            go_ret
            exact ⟨by first | rfl | simp [*], HBA.out.trans (HB2.out.mono HBA.out.size)⟩
          · rw [Bool.true_and]
            by_cases g4 : 0 ≤ le
            rotate_left
            · rw [decide_eq_false g4, Bool.false_and, Bool.false_and, Bool.false_and]
              go_enter Try.func91, Try.ntmps91
              go_upto_region 1 with fail
              rw [← hA]
              clear hA
              go_wp2_with fail
              refine (c1 _).mono ?_
              rintro e w1 ⟨rfl, hb⟩
              have HB1 := Lib.hid hb
              clear hb k0 k1 k2 k3 k4 k5 k6 k7
              obtain ⟨k0, k1, k2, k3, k4, k5, k6, k7⟩ := KK.out _ HB1.out
              go_wp2_with fail
              refine (c2 _).mono ?_
              rintro e w2 ⟨rfl, hb⟩
              have HB2 := Lib.hid (HB1.out.trans (hb.mono HB1.out.size))
              clear hb k0 k1 k2 k3 k4 k5 k6 k7
              obtain ⟨k0, k1, k2, k3, k4, k5, k6, k7⟩ := KK.out _ HB2.out
              go_wp2_with fail
              go_ret
              exact ⟨by first | rfl | simp [*], HBA.out.trans (HB2.out.mono HBA.out.size)⟩
            · rw [decide_eq_true g4, Bool.true_and]
              by_cases g5 : le ≤ 67108864
              rotate_left
              · rw [decide_eq_false g5, Bool.false_and, Bool.false_and]
                go_enter Try.func91, Try.ntmps91
                go_upto_region 1 with fail
                rw [← hA]
                clear hA
                go_wp2_with fail
                refine (c1 _).mono ?_
                rintro e w1 ⟨rfl, hb⟩
                have HB1 := Lib.hid hb
                clear hb k0 k1 k2 k3 k4 k5 k6 k7
                obtain ⟨k0, k1, k2, k3, k4, k5, k6, k7⟩ := KK.out _ HB1.out
                go_wp2_with fail
                refine (c2 _).mono ?_
                rintro e w2 ⟨rfl, hb⟩
                have HB2 := Lib.hid (HB1.out.trans (hb.mono HB1.out.size))
                clear hb k0 k1 k2 k3 k4 k5 k6 k7
                obtain ⟨k0, k1, k2, k3, k4, k5, k6, k7⟩ := KK.out _ HB2.out
                go_wp2_with fail
                go_ret
                exact ⟨by first | rfl | simp [*], HBA.out.trans (HB2.out.mono HBA.out.size)⟩
              · rw [decide_eq_true g5, Bool.true_and]
                by_cases g6 : -1 ≤ de
                rotate_left
                · rw [decide_eq_false g6, Bool.false_and]
                  go_enter Try.func91, Try.ntmps91
                  go_upto_region 1 with fail
                  rw [← hA]
                  clear hA
                  go_wp2_with fail
                  refine (c1 _).mono ?_
                  rintro e w1 ⟨rfl, hb⟩
                  have HB1 := Lib.hid hb
                  clear hb k0 k1 k2 k3 k4 k5 k6 k7
                  obtain ⟨k0, k1, k2, k3, k4, k5, k6, k7⟩ := KK.out _ HB1.out
                  go_wp2_with fail
                  refine (c2 _).mono ?_
                  rintro e w2 ⟨rfl, hb⟩
                  have HB2 := Lib.hid (HB1.out.trans (hb.mono HB1.out.size))
                  clear hb k0 k1 k2 k3 k4 k5 k6 k7
                  obtain ⟨k0, k1, k2, k3, k4, k5, k6, k7⟩ := KK.out _ HB2.out
                  go_wp2_with fail
                  go_ret
                  exact ⟨by first | rfl | simp [*], HBA.out.trans (HB2.out.mono HBA.out.size)⟩
                · rw [decide_eq_true g6, Bool.true_and]
                  by_cases g7 : de ≤ 1048576
                  rotate_left
                  · rw [decide_eq_false g7]
                    go_enter Try.func91, Try.ntmps91
                    go_upto_region 1 with fail
                    rw [← hA]
                    clear hA
                    go_wp2_with fail
                    refine (c1 _).mono ?_
                    rintro e w1 ⟨rfl, hb⟩
                    have HB1 := Lib.hid hb
                    clear hb k0 k1 k2 k3 k4 k5 k6 k7
                    obtain ⟨k0, k1, k2, k3, k4, k5, k6, k7⟩ := KK.out _ HB1.out
                    go_wp2_with fail
                    refine (c2 _).mono ?_
                    rintro e w2 ⟨rfl, hb⟩
                    have HB2 := Lib.hid (HB1.out.trans (hb.mono HB1.out.size))
                    clear hb k0 k1 k2 k3 k4 k5 k6 k7
                    obtain ⟨k0, k1, k2, k3, k4, k5, k6, k7⟩ := KK.out _ HB2.out
                    go_wp2_with fail
                    go_ret
                    exact ⟨by first | rfl | simp [*], HBA.out.trans (HB2.out.mono HBA.out.size)⟩
                  · rw [decide_eq_true g7]
                    go_enter Try.func91, Try.ntmps91
                    go_upto_region 1 with fail
                    rw [← hA]
                    clear hA
                    go_wp2_with fail
                    refine (c1 _).mono ?_
                    rintro e w1 ⟨rfl, hb⟩
                    have HB1 := Lib.hid hb
                    clear hb k0 k1 k2 k3 k4 k5 k6 k7
                    obtain ⟨k0, k1, k2, k3, k4, k5, k6, k7⟩ := KK.out _ HB1.out
                    go_wp2_with fail
                    refine (c2 _).mono ?_
                    rintro e w2 ⟨rfl, hb⟩
                    have HB2 := Lib.hid (HB1.out.trans (hb.mono HB1.out.size))
                    clear hb k0 k1 k2 k3 k4 k5 k6 k7
                    obtain ⟨k0, k1, k2, k3, k4, k5, k6, k7⟩ := KK.out _ HB2.out
                    go_wp2_with fail
                    go_ret
                    exact ⟨by first | rfl | simp [*], HBA.out.trans (HB2.out.mono HBA.out.size)⟩
set_option maxRecDepth 100000 in
set_option maxHeartbeats 4000000 in
theorem refCheck_any (sl sh : Int) (sv : Value) (ns : List Nd) (w : World) (hN : Nds w.heap.size w sv ns) :
    Calls Try.prog 26 #[.agg #[.int .i64 sl, .int .i64 sh, sv]] w fun e w' => e = .returned (.int .i64 (cabE sl sh ns)) ∧ Below w.heap.size w w' := by
  obtain ⟨a, cap, rfl, -, hcc⟩ := hN
  have HC := Lib.hid (show ∀ W k, Below w.heap.size w W → k < ns.length → ∃ b off, a = some ⟨b, off, none⟩ ∧ b < w.heap.size ∧ W.cell? ⟨b, off + k * 8, none⟩ = some (.int .i64 (nd ns k).par) ∧ W.cell? ⟨b, off + k * 8 + 1, none⟩ = some (.int .i64 (nd ns k).ol) ∧ W.cell? ⟨b, off + k * 8 + 2, none⟩ = some (.int .i64 (nd ns k).oh) ∧ W.cell? ⟨b, off + k * 8 + 3, none⟩ = some (.int .i64 (nd ns k).lim) ∧ W.cell? ⟨b, off + k * 8 + 4, none⟩ = some (.int .i64 (nd ns k).ll) ∧ W.cell? ⟨b, off + k * 8 + 5, none⟩ = some (.int .i64 (nd ns k).lh) ∧ W.cell? ⟨b, off + k * 8 + 6, none⟩ = some (.int .i64 (nd ns k).lea) ∧ W.cell? ⟨b, off + k * 8 + 7, none⟩ = some (.int .i64 (nd ns k).del) from fun W k hb hk => by
    obtain ⟨b, off, h1, h2, e0, e1, e2, e3, e4, e5, e6, e7⟩ := hcc k hk
    exact ⟨b, off, h1, h2, (hb.cell (p := ⟨b, _, none⟩) h2).trans e0, (hb.cell (p := ⟨b, _, none⟩) h2).trans e1, (hb.cell (p := ⟨b, _, none⟩) h2).trans e2, (hb.cell (p := ⟨b, _, none⟩) h2).trans e3, (hb.cell (p := ⟨b, _, none⟩) h2).trans e4, (hb.cell (p := ⟨b, _, none⟩) h2).trans e5, (hb.cell (p := ⟨b, _, none⟩) h2).trans e6, (hb.cell (p := ⟨b, _, none⟩) h2).trans e7⟩)
  clear hcc
  have HE := Lib.hid (cabE_def sl sh ns)
  have HAL := Lib.hid (show (AllN ns ↔ ∀ k, k < ns.length → joinB (nd ns k) k = true ∧ nodeB (nd ns k) = true) from Iff.rfl)
  have HV := Lib.hid (show (vB sl sh && (decide (0 ≤ sl) && decide (sh ≤ 67108864))) = decide (sl ≤ sh ∧ 0 ≤ sl ∧ sh ≤ 67108864) from vB_and _ _ _ _ (by decide) (by decide))
  have cp := fun W => refSpan_any sl sh 0 67108864 W
  rw [HV.out] at cp
  clear HV
  generalize hn : ns.length = n at *
  generalize cabE sl sh ns = E at *
  clear hn
  obtain ⟨A, hA⟩ : ∃ A, A = w.alloc (.cells #[.int .i64 sl, .int .i64 sh, .slice a n cap] 26) := ⟨_, rfl⟩
  have HBA := Lib.hid (show Below w.heap.size w A by rw [hA]; exact ((Below.refl _ _).alloc (Nat.le_refl _) _))
  have hltA : w.heap.size + 1 ≤ A.heap.size := by rw [hA]; simp
  have q0 : A.cell? ⟨w.heap.size, 0, none⟩ = some (.int .i64 sl) := by rw [hA]; exact (cellHB (World.alloc_heap_new w _) 0).trans (by simp)
  have q1 : A.cell? ⟨w.heap.size, 1, none⟩ = some (.int .i64 sh) := by rw [hA]; exact (cellHB (World.alloc_heap_new w _) 1).trans (by simp)
  have q2 : A.cell? ⟨w.heap.size, 2, none⟩ = some (.slice a n cap) := by rw [hA]; exact (cellHB (World.alloc_heap_new w _) 2).trans (by simp)
  have KK := Lib.hid (show ∀ W, Below A.heap.size A W → W.cell? ⟨w.heap.size, 0, none⟩ = some (.int .i64 sl) ∧ W.cell? ⟨w.heap.size, 1, none⟩ = some (.int .i64 sh) ∧ W.cell? ⟨w.heap.size, 2, none⟩ = some (.slice a n cap) from fun W h => ⟨(h.cell (p := ⟨w.heap.size, 0, none⟩) (by show w.heap.size < A.heap.size; omega)).trans q0, (h.cell (p := ⟨w.heap.size, 1, none⟩) (by show w.heap.size < A.heap.size; omega)).trans q1, (h.cell (p := ⟨w.heap.size, 2, none⟩) (by show w.heap.size < A.heap.size; omega)).trans q2⟩)
  have HLT := Lib.hid hltA
  clear hltA q0 q1 q2
  obtain ⟨k0, k1, k2⟩ := KK.out _ (Below.refl _ _)
  by_cases hbig : (60 : Int) < (n : Int)
  · have hE := HE.out
    rw [if_pos (show 60 < n by omega)] at hE
    subst hE
    go_enter Try.func26, Try.ntmps26
    go_upto_region 1 with fail
    rw [← hA]
    clear hA
    go_wp2_with fail
    go_ret
    exact ⟨rfl, HBA.out⟩
  have hn60 : n ≤ 60 := by omega
  by_cases hn0 : n = 0
  · have hE := HE.out
    rw [if_neg (show ¬ 60 < n by omega), if_pos hn0] at hE
    subst hE
    subst hn0
    go_enter Try.func26, Try.ntmps26
    go_upto_region 1 with fail
    rw [← hA]
    clear hA
    go_wp2_with fail
    go_ret
    exact ⟨rfl, HBA.out⟩
  have hn0' : ((n : Int) == 0) = false := by simp; omega
  by_cases hs : sl ≤ sh ∧ 0 ≤ sl ∧ sh ≤ 67108864
  rotate_left
  · rw [decide_eq_false hs] at cp
    have hE := HE.out
    rw [if_neg (show ¬ 60 < n by omega), if_neg hn0, if_pos hs] at hE
    subst hE
    clear HE hs hbig
    go_enter Try.func26, Try.ntmps26
    go_upto_region 1 with fail
    rw [← hA]
    clear hA
    go_wp2_with fail
    refine (cp _).mono ?_
    rintro e w1 ⟨rfl, hb⟩
    have HB1 := Lib.hid hb
    clear hb k0 k1 k2
    obtain ⟨k0, k1, k2⟩ := KK.out _ HB1.out
    go_wp2_with fail
    go_ret
    exact ⟨rfl, HBA.out.trans (HB1.out.mono HBA.out.size)⟩
  rw [decide_eq_true hs] at cp
  have hE := HE.out
  rw [if_neg (show ¬ 60 < n by omega), if_neg hn0, if_neg (show ¬ ¬ (sl ≤ sh ∧ 0 ≤ sl ∧ sh ≤ 67108864) from fun h => h hs)] at hE
  have HE2 := Lib.hid hE
  clear hE HE hs hbig
  go_enter Try.func26, Try.ntmps26
  go_upto_region 1 with fail
  rw [← hA]
  clear hA
  go_wp2_with fail
  refine (cp _).mono ?_
  rintro e w1 ⟨rfl, hb⟩
  have HB1 := Lib.hid hb
  clear hb k0 k1 k2
  obtain ⟨k0, k1, k2⟩ := KK.out _ HB1.out
  go_wp2_with fail
  go_loopw [3] (fun iv wr => ∃ k : Nat, k ≤ n ∧ iv = .int .i64 k ∧ (∀ j, j < k → joinB (nd ns j) j = true ∧ nodeB (nd ns j) = true) ∧ Below A.heap.size A wr) (fun iv _ => n - (intOf iv).toNat)
  case atStart => exact ⟨0, Nat.zero_le _, rfl, fun j hj => absurd hj (Nat.not_lt_zero _), HB1.out⟩
  case round =>
    obtain ⟨k, hk, rfl, hv, hB⟩ := hrel
    have HVK := Lib.hid hv
    have HB := Lib.hid hB
    clear hv hB k0 k1 k2
    obtain ⟨k0, k1, k2⟩ := KK.out _ HB.out
    by_cases hlt : k < n
    · have hki : (k : Int) < (n : Int) := by omega
      obtain ⟨b, off, hab, hb, n0, n1, n2, n3, n4, n5, n6, n7⟩ := HC.out _ k (HBA.out.trans (HB.out.mono HBA.out.size)) hlt
      subst hab
      have cj := fun W => refNode_any (nd ns k).par (nd ns k).ol (nd ns k).oh (nd ns k).lim (nd ns k).ll (nd ns k).lh (nd ns k).lea (nd ns k).del (k : Int) W
      rw [joinV_eq, nodeV_eq] at cj
      have HNX := Lib.hid (fun (h1 : (joinB (nd ns k) k && nodeB (nd ns k)) = true) => show ∀ j, j < k + 1 → joinB (nd ns j) j = true ∧ nodeB (nd ns j) = true from fun j hj => by
        rcases (show j < k ∨ j = k by omega) with h | h
        · exact HVK.out j h
        · rw [h]; simpa using h1)
      have HNO := Lib.hid (fun (h : ¬ (joinB (nd ns k) k && nodeB (nd ns k)) = true) => show E = 2 by
        rw [HE2.out, if_neg (fun g => h (by simpa using HAL.out.1 g k hlt))])
      generalize (nd ns k).par = xpar at *
      generalize (nd ns k).ol = xol at *
      generalize (nd ns k).oh = xoh at *
      generalize (nd ns k).lim = xlim at *
      generalize (nd ns k).ll = xll at *
      generalize (nd ns k).lh = xlh at *
      generalize (nd ns k).lea = xlea at *
      generalize (nd ns k).del = xdel at *
      generalize (joinB (nd ns k) k && nodeB (nd ns k)) = JB at *
      cases JB
      · have hE := HNO.out (by simp)
        subst hE
        go_wp2_with fail
        refine (cj _).mono ?_
        rintro e w2 ⟨rfl, hb⟩
        have HB2 := Lib.hid (HB.out.trans (hb.mono HB.out.size))
        clear hb
        go_wp2_with fail
        go_ret
        exact ⟨rfl, HBA.out.trans (HB2.out.mono HBA.out.size)⟩
      · have HNX2 := Lib.hid (HNX.out (by first | rfl | trivial))
        go_wp2_with fail
        refine (cj _).mono ?_
        rintro e w2 ⟨rfl, hb⟩
        have HB2 := Lib.hid (HB.out.trans (hb.mono HB.out.size))
        clear hb n0 n1 n2 n3 n4 n5 n6 n7 k0 k1 k2
        go_wp2_with fail
        go_roundw
        case rel => exact ⟨k + 1, by omega, by go_num, HNX2.out, HB2.out⟩
        case measure => simp [intOf]; omega
    · obtain rfl : k = n := by omega
      have hE := HE2.out
      rw [if_pos (HAL.out.2 HVK.out)] at hE
      subst hE
      go_wp2_with fail
      go_ret
      exact ⟨rfl, HBA.out.trans (HB.out.mono HBA.out.size)⟩
/-- too long a cable for the statements -/
def lng (n : Nat) : Bool := (decide (20 < n) && decide (n ≤ 60)) || decide (70 < n)
theorem long_any (sl sh : Int) (a : Option Addr) (n cap : Nat) (w : World) :
    Calls Try.prog 19 #[.agg #[.int .i64 sl, .int .i64 sh, .slice a n cap]] w fun e w' => e = .returned (.bool (lng n)) ∧ Below w.heap.size w w' := by
  unfold lng
  obtain ⟨A, hA⟩ : ∃ A, A = w.alloc (.cells #[.int .i64 sl, .int .i64 sh, .slice a n cap] 26) := ⟨_, rfl⟩
  have HBA := Lib.hid (show Below w.heap.size w A by rw [hA]; exact ((Below.refl _ _).alloc (Nat.le_refl _) _))
  have hltA : w.heap.size + 1 ≤ A.heap.size := by rw [hA]; simp
  have q0 : A.cell? ⟨w.heap.size, 0, none⟩ = some (.int .i64 sl) := by rw [hA]; exact (cellHB (World.alloc_heap_new w _) 0).trans (by simp)
  have q1 : A.cell? ⟨w.heap.size, 1, none⟩ = some (.int .i64 sh) := by rw [hA]; exact (cellHB (World.alloc_heap_new w _) 1).trans (by simp)
  have q2 : A.cell? ⟨w.heap.size, 2, none⟩ = some (.slice a n cap) := by rw [hA]; exact (cellHB (World.alloc_heap_new w _) 2).trans (by simp)
  have KK := Lib.hid (show ∀ W, Below A.heap.size A W → W.cell? ⟨w.heap.size, 0, none⟩ = some (.int .i64 sl) ∧ W.cell? ⟨w.heap.size, 1, none⟩ = some (.int .i64 sh) ∧ W.cell? ⟨w.heap.size, 2, none⟩ = some (.slice a n cap) from fun W h => ⟨(h.cell (p := ⟨w.heap.size, 0, none⟩) (by show w.heap.size < A.heap.size; omega)).trans q0, (h.cell (p := ⟨w.heap.size, 1, none⟩) (by show w.heap.size < A.heap.size; omega)).trans q1, (h.cell (p := ⟨w.heap.size, 2, none⟩) (by show w.heap.size < A.heap.size; omega)).trans q2⟩)
  have HLT := Lib.hid hltA
  clear hltA q0 q1 q2
  obtain ⟨k0, k1, k2⟩ := KK.out _ (Below.refl _ _)
  by_cases h1 : 20 < n
  · have h1' : (20 : Int) < (n : Int) := by omega
    rw [decide_eq_true h1, Bool.true_and]
    by_cases h2 : n ≤ 60
    · have h2' : (n : Int) ≤ 60 := by omega
      rw [decide_eq_true h2, Bool.true_or]
      go_enter Try.func19, Try.ntmps19
      go_upto_region 1 with fail
      rw [← hA]
      clear hA
      go_wp2_with fail
      go_ret
      exact ⟨by first | rfl | simp [*], HBA.out⟩
    · have h2' : ¬ (n : Int) ≤ 60 := by omega
      rw [decide_eq_false h2, Bool.false_or, show decide (70 < n) = decide ((70 : Int) < (n : Int)) by rw [decide_eq_decide]; omega]
      go_enter Try.func19, Try.ntmps19
      go_upto_region 1 with fail
      rw [← hA]
      clear hA
      go_wp2_with fail
      go_ret
      exact ⟨by first | rfl | simp [*], HBA.out⟩
  · have h1' : ¬ (20 : Int) < (n : Int) := by omega
    have h2' : ¬ (70 : Int) < (n : Int) := by omega
    rw [decide_eq_false h1, Bool.false_and, Bool.false_or, decide_eq_false (show ¬ 70 < n by omega)]
    go_enter Try.func19, Try.ntmps19
    go_upto_region 1 with fail
    rw [← hA]
    clear hA
    go_wp2_with fail
    go_ret
    exact ⟨by first | rfl | simp [*], HBA.out⟩
open Classical in
/-- a cable that is valid, and not too long -/
noncomputable def valB (sl sh : Int) (ns : List Nd) : Bool := !lng ns.length && decide (cabE sl sh ns = 0)
theorem valB_ok {sl sh : Int} {ns : List Nd} (h : valB sl sh ns = true) : ValidC sl sh ns ∧ ns.length ≤ 20 := by
  unfold valB at h
  simp only [Bool.and_eq_true, decide_eq_true_iff, Bool.not_eq_true'] at h
  have hv := cabE_ok h.2
  refine ⟨hv, ?_⟩
  have h1 := h.1
  unfold lng at h1
  have := hv.len
  simp at h1
  omega
set_option maxHeartbeats 1000000 in
theorem valid_any (sl sh : Int) (sv : Value) (ns : List Nd) (w : World) (hN : Nds w.heap.size w sv ns) :
    Calls Try.prog 50 #[.agg #[.int .i64 sl, .int .i64 sh, sv]] w fun e w' => e = .returned (.bool (valB sl sh ns)) ∧ Below w.heap.size w w' := by
  have c2 := Lib.hid (fun W (h : Below w.heap.size w W) => refCheck_any sl sh sv ns W (hN.at h))
  obtain ⟨a, cap, hsv⟩ := hN.form
  subst hsv
  have c1 := fun W => long_any sl sh a ns.length cap W
  unfold valB
  clear hN
  generalize cabE sl sh ns = E at *
  generalize lng ns.length = L at *
  generalize ns.length = n at *
  obtain ⟨A, hA⟩ : ∃ A, A = w.alloc (.cells #[.int .i64 sl, .int .i64 sh, .slice a n cap] 26) := ⟨_, rfl⟩
  have HBA := Lib.hid (show Below w.heap.size w A by rw [hA]; exact ((Below.refl _ _).alloc (Nat.le_refl _) _))
  have hltA : w.heap.size + 1 ≤ A.heap.size := by rw [hA]; simp
  have q0 : A.cell? ⟨w.heap.size, 0, none⟩ = some (.int .i64 sl) := by rw [hA]; exact (cellHB (World.alloc_heap_new w _) 0).trans (by simp)
  have q1 : A.cell? ⟨w.heap.size, 1, none⟩ = some (.int .i64 sh) := by rw [hA]; exact (cellHB (World.alloc_heap_new w _) 1).trans (by simp)
  have q2 : A.cell? ⟨w.heap.size, 2, none⟩ = some (.slice a n cap) := by rw [hA]; exact (cellHB (World.alloc_heap_new w _) 2).trans (by simp)
  have KK := Lib.hid (show ∀ W, Below A.heap.size A W → W.cell? ⟨w.heap.size, 0, none⟩ = some (.int .i64 sl) ∧ W.cell? ⟨w.heap.size, 1, none⟩ = some (.int .i64 sh) ∧ W.cell? ⟨w.heap.size, 2, none⟩ = some (.slice a n cap) from fun W h => ⟨(h.cell (p := ⟨w.heap.size, 0, none⟩) (by show w.heap.size < A.heap.size; omega)).trans q0, (h.cell (p := ⟨w.heap.size, 1, none⟩) (by show w.heap.size < A.heap.size; omega)).trans q1, (h.cell (p := ⟨w.heap.size, 2, none⟩) (by show w.heap.size < A.heap.size; omega)).trans q2⟩)
  have HLT := Lib.hid hltA
  clear hltA q0 q1 q2
  obtain ⟨k0, k1, k2⟩ := KK.out _ (Below.refl _ _)
  cases L
  rotate_left
  · rw [Bool.not_true, Bool.false_and]
    go_enter Try.func50, Try.ntmps50
    go_upto_region 1 with fail
    rw [← hA]
    clear hA
    go_wp2_with fail
    refine (c1 _).mono ?_
    rintro e w1 ⟨rfl, hb⟩
    have HB1 := Lib.hid hb
    clear hb k0 k1 k2
    obtain ⟨k0, k1, k2⟩ := KK.out _ HB1.out
    go_wp2_with fail
    go_ret
    exact ⟨by first | rfl | simp [*], HBA.out.trans (HB1.out.mono HBA.out.size)⟩
  rw [Bool.not_false, Bool.true_and]
  by_cases hE : E = 0
  · subst hE
    rw [decide_eq_true rfl]
    go_enter Try.func50, Try.ntmps50
    go_upto_region 1 with fail
    rw [← hA]
    clear hA
    go_wp2_with fail
    refine (c1 _).mono ?_
    rintro e w1 ⟨rfl, hb⟩
    have HB1 := Lib.hid hb
    clear hb k0 k1 k2
    obtain ⟨k0, k1, k2⟩ := KK.out _ HB1.out
    go_wp2_with fail
    refine (c2.out _ (HBA.out.trans (HB1.out.mono HBA.out.size))).mono ?_
    rintro e w2 ⟨rfl, hb⟩
    have HB2 := Lib.hid (HB1.out.trans (hb.mono HB1.out.size))
    clear hb k0 k1 k2
    obtain ⟨k0, k1, k2⟩ := KK.out _ HB2.out
    go_wp2_with fail
    go_ret
    exact ⟨by first | rfl | simp [*], HBA.out.trans (HB2.out.mono HBA.out.size)⟩
  · rw [decide_eq_false hE]
    have hE' : (E == 0) = false := by simpa using hE
    go_enter Try.func50, Try.ntmps50
    go_upto_region 1 with fail
    rw [← hA]
    clear hA
    go_wp2_with fail
    refine (c1 _).mono ?_
    rintro e w1 ⟨rfl, hb⟩
    have HB1 := Lib.hid hb
    clear hb k0 k1 k2
    obtain ⟨k0, k1, k2⟩ := KK.out _ HB1.out
    go_wp2_with fail
    refine (c2.out _ (HBA.out.trans (HB1.out.mono HBA.out.size))).mono ?_
    rintro e w2 ⟨rfl, hb⟩
    have HB2 := Lib.hid (HB1.out.trans (hb.mono HB1.out.size))
    clear hb k0 k1 k2
    obtain ⟨k0, k1, k2⟩ := KK.out _ HB2.out
    go_wp2_with fail
    go_ret
    exact ⟨by first | rfl | simp [*], HBA.out.trans (HB2.out.mono HBA.out.size)⟩
end Go.Proofs.Ytdohfpnnmppdkaa

/-
  Cables: what is checked of a node.
-/
import Derived.Test.YtdohfpnnmppdkaaCbA
import Derived.Test.YtdohfpnnmppdkaaCblVal
namespace Go.Proofs.Ytdohfpnnmppdkaa
open Go.RowKit Go.Shelf
set_option linter.unusedSimpArgs false
set_option maxHeartbeats 1000000 in
/-- a span is valid, with its ends from lo to hi -/
theorem isPart_any (a b lo hi : Int) (w : World) :
    Calls Try.prog 87 #[.agg #[.int .i64 a, .int .i64 b], .int .i64 lo, .int .i64 hi] w fun e w' => e = .returned (.bool (vB a b && (decide (lo ≤ a) && decide (b ≤ hi)))) ∧ Below w.heap.size w w' := by
  obtain ⟨A, hA⟩ : ∃ A, A = w.alloc (.cells #[.int .i64 a, .int .i64 b] 23) := ⟨_, rfl⟩
  have HBA := Lib.hid (show Below w.heap.size w A by rw [hA]; exact ((Below.refl _ _).alloc (Nat.le_refl _) _))
  have hltA : w.heap.size + 1 ≤ A.heap.size := by rw [hA]; simp
  have q0 : A.cell? ⟨w.heap.size, 0, none⟩ = some (.int .i64 a) := by rw [hA]; exact (cellHB (World.alloc_heap_new w _) 0).trans (by simp)
  have q1 : A.cell? ⟨w.heap.size, 1, none⟩ = some (.int .i64 b) := by rw [hA]; exact (cellHB (World.alloc_heap_new w _) 1).trans (by simp)
  have KK := Lib.hid (show ∀ W, Below A.heap.size A W → W.cell? ⟨w.heap.size, 0, none⟩ = some (.int .i64 a) ∧ W.cell? ⟨w.heap.size, 1, none⟩ = some (.int .i64 b) from fun W h => ⟨(h.cell (p := ⟨w.heap.size, 0, none⟩) (by show w.heap.size < A.heap.size; omega)).trans q0, (h.cell (p := ⟨w.heap.size, 1, none⟩) (by show w.heap.size < A.heap.size; omega)).trans q1⟩)
  have HLT := Lib.hid hltA
  clear hltA q0 q1
  obtain ⟨k0, k1⟩ := KK.out _ (Below.refl _ _)
  by_cases hv : vB a b = true
  · have c1 := fun W => check_ok a b hv W
    rw [hv, Bool.true_and]
    clear hv
    by_cases h1 : lo ≤ a
    · rw [decide_eq_true h1, Bool.true_and]
      by_cases h2 : b ≤ hi
      · rw [decide_eq_true h2]
        go_enter Try.func87, Try.ntmps87
        go_upto_region 1 with fail
        rw [← hA]
        clear hA
        go_wp2_with fail
        refine (c1 _).mono ?_
        rintro e w1 ⟨rfl, hb⟩
        have HB1 := Lib.hid hb
        clear hb k0 k1
        obtain ⟨k0, k1⟩ := KK.out _ HB1.out
        go_wp2_with fail
        go_ret
        exact ⟨by first | rfl | simp [*], HBA.out.trans (HB1.out.mono HBA.out.size)⟩
      · rw [decide_eq_false h2]
        go_enter Try.func87, Try.ntmps87
        go_upto_region 1 with fail
        rw [← hA]
        clear hA
        go_wp2_with fail
        refine (c1 _).mono ?_
        rintro e w1 ⟨rfl, hb⟩
        have HB1 := Lib.hid hb
        clear hb k0 k1
        obtain ⟨k0, k1⟩ := KK.out _ HB1.out
        go_wp2_with fail
        go_ret
        exact ⟨by first | rfl | simp [*], HBA.out.trans (HB1.out.mono HBA.out.size)⟩
    · rw [decide_eq_false h1, Bool.false_and]
      go_enter Try.func87, Try.ntmps87
      go_upto_region 1 with fail
      rw [← hA]
      clear hA
      go_wp2_with fail
      refine (c1 _).mono ?_
      rintro e w1 ⟨rfl, hb⟩
      have HB1 := Lib.hid hb
      clear hb k0 k1
      obtain ⟨k0, k1⟩ := KK.out _ HB1.out
      go_wp2_with fail
      go_ret
      exact ⟨by first | rfl | simp [*], HBA.out.trans (HB1.out.mono HBA.out.size)⟩
  · have c1 := fun W => check_bad a b hv W
    rw [Bool.not_eq_true] at hv
    rw [hv, Bool.false_and]
    clear hv
    go_enter Try.func87, Try.ntmps87
    go_upto_region 1 with fail
    rw [← hA]
    clear hA
    go_wp2_with fail
    refine (c1 _).mono ?_
    rintro e w1 ⟨rfl, hb⟩
    have HB1 := Lib.hid hb
    clear hb k0 k1
    obtain ⟨k0, k1⟩ := KK.out _ HB1.out
    go_wp2_with fail
    go_ret
    exact ⟨by first | rfl | simp [*], HBA.out.trans (HB1.out.mono HBA.out.size)⟩
def Nd.val (n : Nd) : Value := .agg #[.int .i64 n.par, .int .i64 n.ol, .int .i64 n.oh, .int .i64 n.lim, .int .i64 n.ll, .int .i64 n.lh, .int .i64 n.lea, .int .i64 n.del]
theorem hasBreaker_any (p a b li c d le de : Int) (w : World) :
    Calls Try.prog 151 #[.agg #[.int .i64 p, .int .i64 a, .int .i64 b, .int .i64 li, .int .i64 c, .int .i64 d, .int .i64 le, .int .i64 de]] w fun e w' => e = .returned (.bool (de != -1)) ∧ Below w.heap.size w w' := by
  obtain ⟨A, hA⟩ : ∃ A, A = w.alloc (.cells #[.int .i64 p, .int .i64 a, .int .i64 b, .int .i64 li, .int .i64 c, .int .i64 d, .int .i64 le, .int .i64 de] 62) := ⟨_, rfl⟩
  have HBA := Lib.hid (show Below w.heap.size w A by rw [hA]; exact ((Below.refl _ _).alloc (Nat.le_refl _) _))
  have hltA : w.heap.size + 1 ≤ A.heap.size := by rw [hA]; simp
  have q0 : A.cell? ⟨w.heap.size, 0, none⟩ = some (.int .i64 p) := by rw [hA]; exact (cellHB (World.alloc_heap_new w _) 0).trans (by simp)
  have q1 : A.cell? ⟨w.heap.size, 1, none⟩ = some (.int .i64 a) := by rw [hA]; exact (cellHB (World.alloc_heap_new w _) 1).trans (by simp)
  have q2 : A.cell? ⟨w.heap.size, 2, none⟩ = some (.int .i64 b) := by rw [hA]; exact (cellHB (World.alloc_heap_new w _) 2).trans (by simp)
  have q3 : A.cell? ⟨w.heap.size, 3, none⟩ = some (.int .i64 li) := by rw [hA]; exact (cellHB (World.alloc_heap_new w _) 3).trans (by simp)
  have q4 : A.cell? ⟨w.heap.size, 4, none⟩ = some (.int .i64 c) := by rw [hA]; exact (cellHB (World.alloc_heap_new w _) 4).trans (by simp)
  have q5 : A.cell? ⟨w.heap.size, 5, none⟩ = some (.int .i64 d) := by rw [hA]; exact (cellHB (World.alloc_heap_new w _) 5).trans (by simp)
  have q6 : A.cell? ⟨w.heap.size, 6, none⟩ = some (.int .i64 le) := by rw [hA]; exact (cellHB (World.alloc_heap_new w _) 6).trans (by simp)
  have q7 : A.cell? ⟨w.heap.size, 7, none⟩ = some (.int .i64 de) := by rw [hA]; exact (cellHB (World.alloc_heap_new w _) 7).trans (by simp)
  have KK := Lib.hid (show ∀ W, Below A.heap.size A W → W.cell? ⟨w.heap.size, 0, none⟩ = some (.int .i64 p) ∧ W.cell? ⟨w.heap.size, 1, none⟩ = some (.int .i64 a) ∧ W.cell? ⟨w.heap.size, 2, none⟩ = some (.int .i64 b) ∧ W.cell? ⟨w.heap.size, 3, none⟩ = some (.int .i64 li) ∧ W.cell? ⟨w.heap.size, 4, none⟩ = some (.int .i64 c) ∧ W.cell? ⟨w.heap.size, 5, none⟩ = some (.int .i64 d) ∧ W.cell? ⟨w.heap.size, 6, none⟩ = some (.int .i64 le) ∧ W.cell? ⟨w.heap.size, 7, none⟩ = some (.int .i64 de) from fun W h => ⟨(h.cell (p := ⟨w.heap.size, 0, none⟩) (by show w.heap.size < A.heap.size; omega)).trans q0, (h.cell (p := ⟨w.heap.size, 1, none⟩) (by show w.heap.size < A.heap.size; omega)).trans q1, (h.cell (p := ⟨w.heap.size, 2, none⟩) (by show w.heap.size < A.heap.size; omega)).trans q2, (h.cell (p := ⟨w.heap.size, 3, none⟩) (by show w.heap.size < A.heap.size; omega)).trans q3, (h.cell (p := ⟨w.heap.size, 4, none⟩) (by show w.heap.size < A.heap.size; omega)).trans q4, (h.cell (p := ⟨w.heap.size, 5, none⟩) (by show w.heap.size < A.heap.size; omega)).trans q5, (h.cell (p := ⟨w.heap.size, 6, none⟩) (by show w.heap.size < A.heap.size; omega)).trans q6, (h.cell (p := ⟨w.heap.size, 7, none⟩) (by show w.heap.size < A.heap.size; omega)).trans q7⟩)
  have HLT := Lib.hid hltA
  clear hltA q0 q1 q2 q3 q4 q5 q6 q7
  obtain ⟨k0, k1, k2, k3, k4, k5, k6, k7⟩ := KK.out _ (Below.refl _ _)
  go_enter Try.func151, Try.ntmps151
  go_upto_region 1 with fail
  rw [← hA]
  clear hA
  go_wp2_with fail
  go_ret
  exact ⟨by first | rfl | simp, HBA.out⟩
def joinV (p a b de k : Int) : Bool := if k = 0 then decide (p = -1) && (decide (a = 0) && decide (b = 0) && !(de != -1)) else decide (0 ≤ p ∧ p ≤ k - 1)
set_option maxHeartbeats 1000000 in
theorem isJoined_any (p a b li c d le de k : Int) (hk : 0 ≤ k ∧ k ≤ 1000) (w : World) :
    Calls Try.prog 88 #[.agg #[.int .i64 p, .int .i64 a, .int .i64 b, .int .i64 li, .int .i64 c, .int .i64 d, .int .i64 le, .int .i64 de], .int .i64 k] w fun e w' => e = .returned (.bool (joinV p a b de k)) ∧ Below w.heap.size w w' := by
  have c1 := fun W => hasBreaker_any p a b li c d le de W
  have c2 := fun W => withinI p 0 (k - 1) W
  unfold joinV
  obtain ⟨A, hA⟩ : ∃ A, A = w.alloc (.cells #[.int .i64 p, .int .i64 a, .int .i64 b, .int .i64 li, .int .i64 c, .int .i64 d, .int .i64 le, .int .i64 de] 62) := ⟨_, rfl⟩
  have HBA := Lib.hid (show Below w.heap.size w A by rw [hA]; exact ((Below.refl _ _).alloc (Nat.le_refl _) _))
  have hltA : w.heap.size + 1 ≤ A.heap.size := by rw [hA]; simp
  have q0 : A.cell? ⟨w.heap.size, 0, none⟩ = some (.int .i64 p) := by rw [hA]; exact (cellHB (World.alloc_heap_new w _) 0).trans (by simp)
  have q1 : A.cell? ⟨w.heap.size, 1, none⟩ = some (.int .i64 a) := by rw [hA]; exact (cellHB (World.alloc_heap_new w _) 1).trans (by simp)
  have q2 : A.cell? ⟨w.heap.size, 2, none⟩ = some (.int .i64 b) := by rw [hA]; exact (cellHB (World.alloc_heap_new w _) 2).trans (by simp)
  have q3 : A.cell? ⟨w.heap.size, 3, none⟩ = some (.int .i64 li) := by rw [hA]; exact (cellHB (World.alloc_heap_new w _) 3).trans (by simp)
  have q4 : A.cell? ⟨w.heap.size, 4, none⟩ = some (.int .i64 c) := by rw [hA]; exact (cellHB (World.alloc_heap_new w _) 4).trans (by simp)
  have q5 : A.cell? ⟨w.heap.size, 5, none⟩ = some (.int .i64 d) := by rw [hA]; exact (cellHB (World.alloc_heap_new w _) 5).trans (by simp)
  have q6 : A.cell? ⟨w.heap.size, 6, none⟩ = some (.int .i64 le) := by rw [hA]; exact (cellHB (World.alloc_heap_new w _) 6).trans (by simp)
  have q7 : A.cell? ⟨w.heap.size, 7, none⟩ = some (.int .i64 de) := by rw [hA]; exact (cellHB (World.alloc_heap_new w _) 7).trans (by simp)
  have KK := Lib.hid (show ∀ W, Below A.heap.size A W → W.cell? ⟨w.heap.size, 0, none⟩ = some (.int .i64 p) ∧ W.cell? ⟨w.heap.size, 1, none⟩ = some (.int .i64 a) ∧ W.cell? ⟨w.heap.size, 2, none⟩ = some (.int .i64 b) ∧ W.cell? ⟨w.heap.size, 3, none⟩ = some (.int .i64 li) ∧ W.cell? ⟨w.heap.size, 4, none⟩ = some (.int .i64 c) ∧ W.cell? ⟨w.heap.size, 5, none⟩ = some (.int .i64 d) ∧ W.cell? ⟨w.heap.size, 6, none⟩ = some (.int .i64 le) ∧ W.cell? ⟨w.heap.size, 7, none⟩ = some (.int .i64 de) from fun W h => ⟨(h.cell (p := ⟨w.heap.size, 0, none⟩) (by show w.heap.size < A.heap.size; omega)).trans q0, (h.cell (p := ⟨w.heap.size, 1, none⟩) (by show w.heap.size < A.heap.size; omega)).trans q1, (h.cell (p := ⟨w.heap.size, 2, none⟩) (by show w.heap.size < A.heap.size; omega)).trans q2, (h.cell (p := ⟨w.heap.size, 3, none⟩) (by show w.heap.size < A.heap.size; omega)).trans q3, (h.cell (p := ⟨w.heap.size, 4, none⟩) (by show w.heap.size < A.heap.size; omega)).trans q4, (h.cell (p := ⟨w.heap.size, 5, none⟩) (by show w.heap.size < A.heap.size; omega)).trans q5, (h.cell (p := ⟨w.heap.size, 6, none⟩) (by show w.heap.size < A.heap.size; omega)).trans q6, (h.cell (p := ⟨w.heap.size, 7, none⟩) (by show w.heap.size < A.heap.size; omega)).trans q7⟩)
  have HLT := Lib.hid hltA
  clear hltA q0 q1 q2 q3 q4 q5 q6 q7
  obtain ⟨k0, k1, k2, k3, k4, k5, k6, k7⟩ := KK.out _ (Below.refl _ _)
  by_cases h0 : k = 0
  · subst h0
    rw [if_pos rfl]
    clear c2
    generalize (de != -1) = x at *
    by_cases h1 : p = -1
    · subst h1
      rw [decide_eq_true rfl, Bool.true_and]
      by_cases h2 : a = 0
      · subst h2
        rw [decide_eq_true rfl, Bool.true_and]
        by_cases h3 : b = 0
        · subst h3
          rw [decide_eq_true rfl, Bool.true_and]
          go_enter Try.func88, Try.ntmps88
          go_upto_region 1 with fail
          rw [← hA]
          clear hA
          go_wp2_with fail
          refine (c1 _).mono ?_
          rintro e w1 ⟨rfl, hb⟩
          have HB1 := Lib.hid hb
          clear hb k0 k1 k2 k3 k4 k5 k6 k7
          obtain ⟨k0, k1, k2, k3, k4, k5, k6, k7⟩ := KK.out _ HB1.out
          go_wp2_with fail
          go_ret
          exact ⟨by first | rfl | simp [*], HBA.out.trans (HB1.out.mono HBA.out.size)⟩
        · rw [decide_eq_false h3, Bool.false_and]
          have h3' : (b == 0) = false := by simpa using h3
          go_enter Try.func88, Try.ntmps88
          go_upto_region 1 with fail
          rw [← hA]
          clear hA
          go_wp2_with fail
          go_ret
          exact ⟨by first | rfl | simp [*], HBA.out⟩
      · rw [decide_eq_false h2, Bool.false_and, Bool.false_and]
        have h2' : (a == 0) = false := by simpa using h2
        go_enter Try.func88, Try.ntmps88
        go_upto_region 1 with fail
        rw [← hA]
        clear hA
        go_wp2_with fail
        go_ret
        exact ⟨by first | rfl | simp [*], HBA.out⟩
    · rw [decide_eq_false h1, Bool.false_and]
      have h1' : (p == -1) = false := by simpa using h1
      go_enter Try.func88, Try.ntmps88
      go_upto_region 1 with fail
      rw [← hA]
      clear hA
      go_wp2_with fail
      go_ret
      exact ⟨by first | rfl | simp [*], HBA.out⟩
  · rw [if_neg h0]
    have h0' : (k == 0) = false := by simpa using h0
    clear c1
    generalize decide (0 ≤ p ∧ p ≤ k - 1) = x at *
    go_enter Try.func88, Try.ntmps88
    go_upto_region 1 with fail
    rw [← hA]
    clear hA
    go_wp2_with fail
    refine (c2 _).mono ?_
    rintro e w1 ⟨rfl, rfl⟩
    go_wp2_with fail
    go_ret
    exact ⟨by first | rfl | simp [*], HBA.out⟩
def nodeV (a b li c d le de : Int) : Bool := ((((vB a b && (decide (0 ≤ a) && decide (b ≤ 16777216))) && decide (0 ≤ li ∧ li ≤ 3932160)) && (vB c d && (decide (0 ≤ c) && decide (d ≤ 65536)))) && decide (0 ≤ le ∧ le ≤ 67108864)) && decide (-1 ≤ de ∧ de ≤ 1048576)
set_option maxHeartbeats 1000000 in
theorem validNode_any (p a b li c d le de : Int) (w : World) :
    Calls Try.prog 89 #[.agg #[.int .i64 p, .int .i64 a, .int .i64 b, .int .i64 li, .int .i64 c, .int .i64 d, .int .i64 le, .int .i64 de]] w fun e w' => e = .returned (.bool (nodeV a b li c d le de)) ∧ Below w.heap.size w w' := by
  have c1 := fun W => isPart_any a b 0 16777216 W
  have c2 := fun W => withinL li 0 3932160 W
  have c3 := fun W => isPart_any c d 0 65536 W
  have c4 := fun W => withinL le 0 67108864 W
  have c5 := fun W => withinL de (-1) 1048576 W
  unfold nodeV
  generalize (vB a b && (decide (0 ≤ a) && decide (b ≤ 16777216))) = x1 at *
  generalize decide (0 ≤ li ∧ li ≤ 3932160) = x2 at *
  generalize (vB c d && (decide (0 ≤ c) && decide (d ≤ 65536))) = x3 at *
  generalize decide (0 ≤ le ∧ le ≤ 67108864) = x4 at *
  generalize decide (-1 ≤ de ∧ de ≤ 1048576) = x5 at *
  obtain ⟨A, hA⟩ : ∃ A, A = w.alloc (.cells #[.int .i64 p, .int .i64 a, .int .i64 b, .int .i64 li, .int .i64 c, .int .i64 d, .int .i64 le, .int .i64 de] 62) := ⟨_, rfl⟩
  have HBA := Lib.hid (show Below w.heap.size w A by rw [hA]; exact ((Below.refl _ _).alloc (Nat.le_refl _) _))
  have hltA : w.heap.size + 1 ≤ A.heap.size := by rw [hA]; simp
  have q0 : A.cell? ⟨w.heap.size, 0, none⟩ = some (.int .i64 p) := by rw [hA]; exact (cellHB (World.alloc_heap_new w _) 0).trans (by simp)
  have q1 : A.cell? ⟨w.heap.size, 1, none⟩ = some (.int .i64 a) := by rw [hA]; exact (cellHB (World.alloc_heap_new w _) 1).trans (by simp)
  have q2 : A.cell? ⟨w.heap.size, 2, none⟩ = some (.int .i64 b) := by rw [hA]; exact (cellHB (World.alloc_heap_new w _) 2).trans (by simp)
  have q3 : A.cell? ⟨w.heap.size, 3, none⟩ = some (.int .i64 li) := by rw [hA]; exact (cellHB (World.alloc_heap_new w _) 3).trans (by simp)
  have q4 : A.cell? ⟨w.heap.size, 4, none⟩ = some (.int .i64 c) := by rw [hA]; exact (cellHB (World.alloc_heap_new w _) 4).trans (by simp)
  have q5 : A.cell? ⟨w.heap.size, 5, none⟩ = some (.int .i64 d) := by rw [hA]; exact (cellHB (World.alloc_heap_new w _) 5).trans (by simp)
  have q6 : A.cell? ⟨w.heap.size, 6, none⟩ = some (.int .i64 le) := by rw [hA]; exact (cellHB (World.alloc_heap_new w _) 6).trans (by simp)
  have q7 : A.cell? ⟨w.heap.size, 7, none⟩ = some (.int .i64 de) := by rw [hA]; exact (cellHB (World.alloc_heap_new w _) 7).trans (by simp)
  have KK := Lib.hid (show ∀ W, Below A.heap.size A W → W.cell? ⟨w.heap.size, 0, none⟩ = some (.int .i64 p) ∧ W.cell? ⟨w.heap.size, 1, none⟩ = some (.int .i64 a) ∧ W.cell? ⟨w.heap.size, 2, none⟩ = some (.int .i64 b) ∧ W.cell? ⟨w.heap.size, 3, none⟩ = some (.int .i64 li) ∧ W.cell? ⟨w.heap.size, 4, none⟩ = some (.int .i64 c) ∧ W.cell? ⟨w.heap.size, 5, none⟩ = some (.int .i64 d) ∧ W.cell? ⟨w.heap.size, 6, none⟩ = some (.int .i64 le) ∧ W.cell? ⟨w.heap.size, 7, none⟩ = some (.int .i64 de) from fun W h => ⟨(h.cell (p := ⟨w.heap.size, 0, none⟩) (by show w.heap.size < A.heap.size; omega)).trans q0, (h.cell (p := ⟨w.heap.size, 1, none⟩) (by show w.heap.size < A.heap.size; omega)).trans q1, (h.cell (p := ⟨w.heap.size, 2, none⟩) (by show w.heap.size < A.heap.size; omega)).trans q2, (h.cell (p := ⟨w.heap.size, 3, none⟩) (by show w.heap.size < A.heap.size; omega)).trans q3, (h.cell (p := ⟨w.heap.size, 4, none⟩) (by show w.heap.size < A.heap.size; omega)).trans q4, (h.cell (p := ⟨w.heap.size, 5, none⟩) (by show w.heap.size < A.heap.size; omega)).trans q5, (h.cell (p := ⟨w.heap.size, 6, none⟩) (by show w.heap.size < A.heap.size; omega)).trans q6, (h.cell (p := ⟨w.heap.size, 7, none⟩) (by show w.heap.size < A.heap.size; omega)).trans q7⟩)
  have HLT := Lib.hid hltA
  clear hltA q0 q1 q2 q3 q4 q5 q6 q7
  obtain ⟨k0, k1, k2, k3, k4, k5, k6, k7⟩ := KK.out _ (Below.refl _ _)
  cases x1
  · rw [Bool.false_and, Bool.false_and, Bool.false_and, Bool.false_and]
    go_enter Try.func89, Try.ntmps89
    go_upto_region 1 with fail
    rw [← hA]
    clear hA
    go_wp2_with fail
    refine (c1 _).mono ?_
    rintro e w1 ⟨rfl, hb⟩
    have HB1 := Lib.hid hb
    clear hb k0 k1 k2 k3 k4 k5 k6 k7
    obtain ⟨k0, k1, k2, k3, k4, k5, k6, k7⟩ := KK.out _ HB1.out
    go_wp2_with fail
    go_ret
    exact ⟨by first | rfl | simp [*], HBA.out.trans (HB1.out.mono HBA.out.size)⟩
  · rw [Bool.true_and]
    cases x2
    · rw [Bool.false_and, Bool.false_and, Bool.false_and]
      go_enter Try.func89, Try.ntmps89
      go_upto_region 1 with fail
      rw [← hA]
      clear hA
      go_wp2_with fail
      refine (c1 _).mono ?_
      rintro e w1 ⟨rfl, hb⟩
      have HB1 := Lib.hid hb
      clear hb k0 k1 k2 k3 k4 k5 k6 k7
      obtain ⟨k0, k1, k2, k3, k4, k5, k6, k7⟩ := KK.out _ HB1.out
      go_wp2_with fail
      refine (c2 _).mono ?_
      rintro e w2 ⟨rfl, rfl⟩
      go_wp2_with fail
      go_ret
      exact ⟨by first | rfl | simp [*], HBA.out.trans (HB1.out.mono HBA.out.size)⟩
    · rw [Bool.true_and]
      cases x3
      · rw [Bool.false_and, Bool.false_and]
        go_enter Try.func89, Try.ntmps89
        go_upto_region 1 with fail
        rw [← hA]
        clear hA
        go_wp2_with fail
        refine (c1 _).mono ?_
        rintro e w1 ⟨rfl, hb⟩
        have HB1 := Lib.hid hb
        clear hb k0 k1 k2 k3 k4 k5 k6 k7
        obtain ⟨k0, k1, k2, k3, k4, k5, k6, k7⟩ := KK.out _ HB1.out
        go_wp2_with fail
        refine (c2 _).mono ?_
        rintro e w2 ⟨rfl, rfl⟩
        go_wp2_with fail
        refine (c3 _).mono ?_
        rintro e w3 ⟨rfl, hb⟩
        have HB3 := Lib.hid (HB1.out.trans (hb.mono HB1.out.size))
        clear hb k0 k1 k2 k3 k4 k5 k6 k7
        obtain ⟨k0, k1, k2, k3, k4, k5, k6, k7⟩ := KK.out _ HB3.out
        go_wp2_with fail
        go_ret
        exact ⟨by first | rfl | simp [*], HBA.out.trans (HB3.out.mono HBA.out.size)⟩
      · rw [Bool.true_and]
        cases x4
        · rw [Bool.false_and]
          go_enter Try.func89, Try.ntmps89
          go_upto_region 1 with fail
          rw [← hA]
          clear hA
          go_wp2_with fail
          refine (c1 _).mono ?_
          rintro e w1 ⟨rfl, hb⟩
          have HB1 := Lib.hid hb
          clear hb k0 k1 k2 k3 k4 k5 k6 k7
          obtain ⟨k0, k1, k2, k3, k4, k5, k6, k7⟩ := KK.out _ HB1.out
          go_wp2_with fail
          refine (c2 _).mono ?_
          rintro e w2 ⟨rfl, rfl⟩
          go_wp2_with fail
          refine (c3 _).mono ?_
          rintro e w3 ⟨rfl, hb⟩
          have HB3 := Lib.hid (HB1.out.trans (hb.mono HB1.out.size))
          clear hb k0 k1 k2 k3 k4 k5 k6 k7
          obtain ⟨k0, k1, k2, k3, k4, k5, k6, k7⟩ := KK.out _ HB3.out
          go_wp2_with fail
          refine (c4 _).mono ?_
          rintro e w4 ⟨rfl, rfl⟩
          go_wp2_with fail
          go_ret
          exact ⟨by first | rfl | simp [*], HBA.out.trans (HB3.out.mono HBA.out.size)⟩
        · rw [Bool.true_and]
          go_enter Try.func89, Try.ntmps89
          go_upto_region 1 with fail
          rw [← hA]
          clear hA
          go_wp2_with fail
          refine (c1 _).mono ?_
          rintro e w1 ⟨rfl, hb⟩
          have HB1 := Lib.hid hb
          clear hb k0 k1 k2 k3 k4 k5 k6 k7
          obtain ⟨k0, k1, k2, k3, k4, k5, k6, k7⟩ := KK.out _ HB1.out
          go_wp2_with fail
          refine (c2 _).mono ?_
          rintro e w2 ⟨rfl, rfl⟩
          go_wp2_with fail
          refine (c3 _).mono ?_
          rintro e w3 ⟨rfl, hb⟩
          have HB3 := Lib.hid (HB1.out.trans (hb.mono HB1.out.size))
          clear hb k0 k1 k2 k3 k4 k5 k6 k7
          obtain ⟨k0, k1, k2, k3, k4, k5, k6, k7⟩ := KK.out _ HB3.out
          go_wp2_with fail
          refine (c4 _).mono ?_
          rintro e w4 ⟨rfl, rfl⟩
          go_wp2_with fail
          refine (c5 _).mono ?_
          rintro e w5 ⟨rfl, rfl⟩
          go_wp2_with fail
          go_ret
          exact ⟨by first | rfl | simp [*], HBA.out.trans (HB3.out.mono HBA.out.size)⟩
end Go.Proofs.Ytdohfpnnmppdkaa

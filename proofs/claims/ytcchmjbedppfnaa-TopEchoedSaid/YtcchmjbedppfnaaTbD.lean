/-
  Layer 4 in this seat: the cable of the example, its path; works05.
-/
import Derived.Test.YtcchmjbedppfnaaTbC
namespace Go.Proofs.Ytcchmjbedppfnaa
open Go.RowKit Go.Shelf
set_option linter.unusedSimpArgs false
set_option maxHeartbeats 1000000
set_option maxRecDepth 100000
theorem validNode0 (w : World) : Calls Try.prog 119 #[.agg #[.int .i64 (-1), .int .i64 0, .int .i64 0, .int .i64 0, .int .i64 0, .int .i64 0, .int .i64 0, .int .i64 (-1)]] w fun e w' => e = .returned (.bool true) ∧ Below w.heap.size w w' := by
  have c1 := fun W => isPart117 0 0 0 16777216 (by decide) (by decide) (by decide) W
  have c2 := fun W => within152 0 0 3932160 W
  rw [decide_eq_true (show (0 : Int) ≤ 0 ∧ (0 : Int) ≤ 3932160 by decide)] at c2
  have c3 := fun W => isPart117 0 0 0 65536 (by decide) (by decide) (by decide) W
  have c4 := fun W => within152 0 0 67108864 W
  rw [decide_eq_true (show (0 : Int) ≤ 0 ∧ (0 : Int) ≤ 67108864 by decide)] at c4
  have c5 := fun W => within152 (-1) (-1) 1048576 W
  rw [decide_eq_true (show (-1 : Int) ≤ (-1) ∧ (-1 : Int) ≤ 1048576 by decide)] at c5
  obtain ⟨A, hA⟩ : ∃ A, A = w.alloc (.cells #[.int .i64 (-1), .int .i64 0, .int .i64 0, .int .i64 0, .int .i64 0, .int .i64 0, .int .i64 0, .int .i64 (-1)] 106) := ⟨_, rfl⟩
  have HBA := Lib.hid (show Below w.heap.size w A by rw [hA]; exact (Below.refl _ _).alloc (Nat.le_refl _) _)
  have hlt : w.heap.size < A.heap.size := by rw [hA]; simp
  have k : ∀ o, A.cell? ⟨w.heap.size, o, none⟩ = (#[.int .i64 (-1), .int .i64 0, .int .i64 0, .int .i64 0, .int .i64 0, .int .i64 0, .int .i64 0, .int .i64 (-1)] : Array Value)[o]? := fun o => cellHB (by rw [hA]; exact World.alloc_heap_new w _) o
  have KK := Lib.hid (show ∀ W, Below A.heap.size A W → W.cell? ⟨w.heap.size, 0, none⟩ = some (.int .i64 (-1)) ∧ W.cell? ⟨w.heap.size, 1, none⟩ = some (.int .i64 0) ∧ W.cell? ⟨w.heap.size, 2, none⟩ = some (.int .i64 0) ∧ W.cell? ⟨w.heap.size, 3, none⟩ = some (.int .i64 0) ∧ W.cell? ⟨w.heap.size, 4, none⟩ = some (.int .i64 0) ∧ W.cell? ⟨w.heap.size, 5, none⟩ = some (.int .i64 0) ∧ W.cell? ⟨w.heap.size, 6, none⟩ = some (.int .i64 0) ∧ W.cell? ⟨w.heap.size, 7, none⟩ = some (.int .i64 (-1)) from fun W h => ⟨(h.cell (p := ⟨w.heap.size, 0, none⟩) hlt).trans (k 0), (h.cell (p := ⟨w.heap.size, 1, none⟩) hlt).trans (k 1), (h.cell (p := ⟨w.heap.size, 2, none⟩) hlt).trans (k 2), (h.cell (p := ⟨w.heap.size, 3, none⟩) hlt).trans (k 3), (h.cell (p := ⟨w.heap.size, 4, none⟩) hlt).trans (k 4), (h.cell (p := ⟨w.heap.size, 5, none⟩) hlt).trans (k 5), (h.cell (p := ⟨w.heap.size, 6, none⟩) hlt).trans (k 6), (h.cell (p := ⟨w.heap.size, 7, none⟩) hlt).trans (k 7)⟩)
  clear hlt k
  obtain ⟨k0, k1, k2, k3, k4, k5, k6, k7⟩ := KK.out _ (Below.refl _ _)
  go_enter Try.func119, Try.ntmps119
  go_upto_region 1 with fail
  rw [← hA]
  clear hA
  go_wp2_with fail
  refine (c1 _).mono ?_
  rintro e w1 ⟨rfl, hb⟩
  have HB1 := Lib.hid hb
  clear hb k0 k1 k2 k3 k4 k5 k6 k7
  obtain ⟨k0, k1, k2, k3, k4, k5, k6, k7⟩ := KK.out _ HB1.out
  go_wp2_with fail
  refine (c2 _).mono ?_
  rintro e w2 ⟨rfl, rfl⟩
  go_wp2_with fail
  refine (c3 _).mono ?_
  rintro e w3 ⟨rfl, hb⟩
  have HB3 := Lib.hid (HB1.out.trans (hb.mono HB1.out.size))
  clear hb k0 k1 k2 k3 k4 k5 k6 k7
  obtain ⟨k0, k1, k2, k3, k4, k5, k6, k7⟩ := KK.out _ HB3.out
  go_wp2_with fail
  refine (c4 _).mono ?_
  rintro e w4 ⟨rfl, rfl⟩
  go_wp2_with fail
  refine (c5 _).mono ?_
  rintro e w5 ⟨rfl, rfl⟩
  go_wp2_with fail
  go_ret
  exact ⟨rfl, HBA.out.trans (HB3.out.mono HBA.out.size)⟩
theorem validNode1 (w : World) : Calls Try.prog 119 #[.agg #[.int .i64 0, .int .i64 0, .int .i64 0, .int .i64 0, .int .i64 0, .int .i64 0, .int .i64 0, .int .i64 3]] w fun e w' => e = .returned (.bool true) ∧ Below w.heap.size w w' := by
  have c1 := fun W => isPart117 0 0 0 16777216 (by decide) (by decide) (by decide) W
  have c2 := fun W => within152 0 0 3932160 W
  rw [decide_eq_true (show (0 : Int) ≤ 0 ∧ (0 : Int) ≤ 3932160 by decide)] at c2
  have c3 := fun W => isPart117 0 0 0 65536 (by decide) (by decide) (by decide) W
  have c4 := fun W => within152 0 0 67108864 W
  rw [decide_eq_true (show (0 : Int) ≤ 0 ∧ (0 : Int) ≤ 67108864 by decide)] at c4
  have c5 := fun W => within152 3 (-1) 1048576 W
  rw [decide_eq_true (show (-1 : Int) ≤ 3 ∧ (3 : Int) ≤ 1048576 by decide)] at c5
  obtain ⟨A, hA⟩ : ∃ A, A = w.alloc (.cells #[.int .i64 0, .int .i64 0, .int .i64 0, .int .i64 0, .int .i64 0, .int .i64 0, .int .i64 0, .int .i64 3] 106) := ⟨_, rfl⟩
  have HBA := Lib.hid (show Below w.heap.size w A by rw [hA]; exact (Below.refl _ _).alloc (Nat.le_refl _) _)
  have hlt : w.heap.size < A.heap.size := by rw [hA]; simp
  have k : ∀ o, A.cell? ⟨w.heap.size, o, none⟩ = (#[.int .i64 0, .int .i64 0, .int .i64 0, .int .i64 0, .int .i64 0, .int .i64 0, .int .i64 0, .int .i64 3] : Array Value)[o]? := fun o => cellHB (by rw [hA]; exact World.alloc_heap_new w _) o
  have KK := Lib.hid (show ∀ W, Below A.heap.size A W → W.cell? ⟨w.heap.size, 0, none⟩ = some (.int .i64 0) ∧ W.cell? ⟨w.heap.size, 1, none⟩ = some (.int .i64 0) ∧ W.cell? ⟨w.heap.size, 2, none⟩ = some (.int .i64 0) ∧ W.cell? ⟨w.heap.size, 3, none⟩ = some (.int .i64 0) ∧ W.cell? ⟨w.heap.size, 4, none⟩ = some (.int .i64 0) ∧ W.cell? ⟨w.heap.size, 5, none⟩ = some (.int .i64 0) ∧ W.cell? ⟨w.heap.size, 6, none⟩ = some (.int .i64 0) ∧ W.cell? ⟨w.heap.size, 7, none⟩ = some (.int .i64 3) from fun W h => ⟨(h.cell (p := ⟨w.heap.size, 0, none⟩) hlt).trans (k 0), (h.cell (p := ⟨w.heap.size, 1, none⟩) hlt).trans (k 1), (h.cell (p := ⟨w.heap.size, 2, none⟩) hlt).trans (k 2), (h.cell (p := ⟨w.heap.size, 3, none⟩) hlt).trans (k 3), (h.cell (p := ⟨w.heap.size, 4, none⟩) hlt).trans (k 4), (h.cell (p := ⟨w.heap.size, 5, none⟩) hlt).trans (k 5), (h.cell (p := ⟨w.heap.size, 6, none⟩) hlt).trans (k 6), (h.cell (p := ⟨w.heap.size, 7, none⟩) hlt).trans (k 7)⟩)
  clear hlt k
  obtain ⟨k0, k1, k2, k3, k4, k5, k6, k7⟩ := KK.out _ (Below.refl _ _)
  go_enter Try.func119, Try.ntmps119
  go_upto_region 1 with fail
  rw [← hA]
  clear hA
  go_wp2_with fail
  refine (c1 _).mono ?_
  rintro e w1 ⟨rfl, hb⟩
  have HB1 := Lib.hid hb
  clear hb k0 k1 k2 k3 k4 k5 k6 k7
  obtain ⟨k0, k1, k2, k3, k4, k5, k6, k7⟩ := KK.out _ HB1.out
  go_wp2_with fail
  refine (c2 _).mono ?_
  rintro e w2 ⟨rfl, rfl⟩
  go_wp2_with fail
  refine (c3 _).mono ?_
  rintro e w3 ⟨rfl, hb⟩
  have HB3 := Lib.hid (HB1.out.trans (hb.mono HB1.out.size))
  clear hb k0 k1 k2 k3 k4 k5 k6 k7
  obtain ⟨k0, k1, k2, k3, k4, k5, k6, k7⟩ := KK.out _ HB3.out
  go_wp2_with fail
  refine (c4 _).mono ?_
  rintro e w4 ⟨rfl, rfl⟩
  go_wp2_with fail
  refine (c5 _).mono ?_
  rintro e w5 ⟨rfl, rfl⟩
  go_wp2_with fail
  go_ret
  exact ⟨rfl, HBA.out.trans (HB3.out.mono HBA.out.size)⟩
theorem hasBreaker0 (w : World) : Calls Try.prog 150 #[.agg #[.int .i64 (-1), .int .i64 0, .int .i64 0, .int .i64 0, .int .i64 0, .int .i64 0, .int .i64 0, .int .i64 (-1)]] w fun e w' => e = .returned (.bool false) ∧ Below w.heap.size w w' := by
  have HA := Lib.hid (show Below w.heap.size w (w.alloc (.cells #[.int .i64 (-1), .int .i64 0, .int .i64 0, .int .i64 0, .int .i64 0, .int .i64 0, .int .i64 0, .int .i64 (-1)] 106)) from (Below.refl _ _).alloc (Nat.le_refl _) _)
  go_enter Try.func150, Try.ntmps150
  go_wp2_with fail
  go_ret
  exact ⟨rfl, HA.out⟩
theorem joined0 (w : World) : Calls Try.prog 118 #[.agg #[.int .i64 (-1), .int .i64 0, .int .i64 0, .int .i64 0, .int .i64 0, .int .i64 0, .int .i64 0, .int .i64 (-1)], .int .i64 0] w fun e w' => e = .returned (.bool true) ∧ Below w.heap.size w w' := by
  have c1 := fun W => hasBreaker0 W
  obtain ⟨A, hA⟩ : ∃ A, A = w.alloc (.cells #[.int .i64 (-1), .int .i64 0, .int .i64 0, .int .i64 0, .int .i64 0, .int .i64 0, .int .i64 0, .int .i64 (-1)] 106) := ⟨_, rfl⟩
  have HBA := Lib.hid (show Below w.heap.size w A by rw [hA]; exact (Below.refl _ _).alloc (Nat.le_refl _) _)
  have hlt : w.heap.size < A.heap.size := by rw [hA]; simp
  have k : ∀ o, A.cell? ⟨w.heap.size, o, none⟩ = (#[.int .i64 (-1), .int .i64 0, .int .i64 0, .int .i64 0, .int .i64 0, .int .i64 0, .int .i64 0, .int .i64 (-1)] : Array Value)[o]? := fun o => cellHB (by rw [hA]; exact World.alloc_heap_new w _) o
  have KK := Lib.hid (show ∀ W, Below A.heap.size A W → W.cell? ⟨w.heap.size, 0, none⟩ = some (.int .i64 (-1)) ∧ W.cell? ⟨w.heap.size, 1, none⟩ = some (.int .i64 0) ∧ W.cell? ⟨w.heap.size, 2, none⟩ = some (.int .i64 0) ∧ W.cell? ⟨w.heap.size, 3, none⟩ = some (.int .i64 0) ∧ W.cell? ⟨w.heap.size, 4, none⟩ = some (.int .i64 0) ∧ W.cell? ⟨w.heap.size, 5, none⟩ = some (.int .i64 0) ∧ W.cell? ⟨w.heap.size, 6, none⟩ = some (.int .i64 0) ∧ W.cell? ⟨w.heap.size, 7, none⟩ = some (.int .i64 (-1)) from fun W h => ⟨(h.cell (p := ⟨w.heap.size, 0, none⟩) hlt).trans (k 0), (h.cell (p := ⟨w.heap.size, 1, none⟩) hlt).trans (k 1), (h.cell (p := ⟨w.heap.size, 2, none⟩) hlt).trans (k 2), (h.cell (p := ⟨w.heap.size, 3, none⟩) hlt).trans (k 3), (h.cell (p := ⟨w.heap.size, 4, none⟩) hlt).trans (k 4), (h.cell (p := ⟨w.heap.size, 5, none⟩) hlt).trans (k 5), (h.cell (p := ⟨w.heap.size, 6, none⟩) hlt).trans (k 6), (h.cell (p := ⟨w.heap.size, 7, none⟩) hlt).trans (k 7)⟩)
  clear hlt k
  obtain ⟨k0, k1, k2, k3, k4, k5, k6, k7⟩ := KK.out _ (Below.refl _ _)
  go_enter Try.func118, Try.ntmps118
  go_upto_region 1 with fail
  rw [← hA]
  clear hA
  go_wp2_with fail
  refine (c1 _).mono ?_
  rintro e w1 ⟨rfl, hb⟩
  have HB1 := Lib.hid hb
  clear hb
  go_wp2_with fail
  go_ret
  exact ⟨rfl, HBA.out.trans (HB1.out.mono HBA.out.size)⟩
theorem joined1 (w : World) : Calls Try.prog 118 #[.agg #[.int .i64 0, .int .i64 0, .int .i64 0, .int .i64 0, .int .i64 0, .int .i64 0, .int .i64 0, .int .i64 3], .int .i64 1] w fun e w' => e = .returned (.bool true) ∧ Below w.heap.size w w' := by
  have c1 := fun W => within151 0 0 0 W
  rw [decide_eq_true (show (0 : Int) ≤ 0 ∧ (0 : Int) ≤ 0 by decide)] at c1
  obtain ⟨A, hA⟩ : ∃ A, A = w.alloc (.cells #[.int .i64 0, .int .i64 0, .int .i64 0, .int .i64 0, .int .i64 0, .int .i64 0, .int .i64 0, .int .i64 3] 106) := ⟨_, rfl⟩
  have HBA := Lib.hid (show Below w.heap.size w A by rw [hA]; exact (Below.refl _ _).alloc (Nat.le_refl _) _)
  have hlt : w.heap.size < A.heap.size := by rw [hA]; simp
  have k : ∀ o, A.cell? ⟨w.heap.size, o, none⟩ = (#[.int .i64 0, .int .i64 0, .int .i64 0, .int .i64 0, .int .i64 0, .int .i64 0, .int .i64 0, .int .i64 3] : Array Value)[o]? := fun o => cellHB (by rw [hA]; exact World.alloc_heap_new w _) o
  have KK := Lib.hid (show ∀ W, Below A.heap.size A W → W.cell? ⟨w.heap.size, 0, none⟩ = some (.int .i64 0) ∧ W.cell? ⟨w.heap.size, 1, none⟩ = some (.int .i64 0) ∧ W.cell? ⟨w.heap.size, 2, none⟩ = some (.int .i64 0) ∧ W.cell? ⟨w.heap.size, 3, none⟩ = some (.int .i64 0) ∧ W.cell? ⟨w.heap.size, 4, none⟩ = some (.int .i64 0) ∧ W.cell? ⟨w.heap.size, 5, none⟩ = some (.int .i64 0) ∧ W.cell? ⟨w.heap.size, 6, none⟩ = some (.int .i64 0) ∧ W.cell? ⟨w.heap.size, 7, none⟩ = some (.int .i64 3) from fun W h => ⟨(h.cell (p := ⟨w.heap.size, 0, none⟩) hlt).trans (k 0), (h.cell (p := ⟨w.heap.size, 1, none⟩) hlt).trans (k 1), (h.cell (p := ⟨w.heap.size, 2, none⟩) hlt).trans (k 2), (h.cell (p := ⟨w.heap.size, 3, none⟩) hlt).trans (k 3), (h.cell (p := ⟨w.heap.size, 4, none⟩) hlt).trans (k 4), (h.cell (p := ⟨w.heap.size, 5, none⟩) hlt).trans (k 5), (h.cell (p := ⟨w.heap.size, 6, none⟩) hlt).trans (k 6), (h.cell (p := ⟨w.heap.size, 7, none⟩) hlt).trans (k 7)⟩)
  clear hlt k
  obtain ⟨k0, k1, k2, k3, k4, k5, k6, k7⟩ := KK.out _ (Below.refl _ _)
  go_enter Try.func118, Try.ntmps118
  go_upto_region 1 with fail
  rw [← hA]
  clear hA
  go_wp2_with fail
  refine (c1 _).mono ?_
  rintro e w1 ⟨rfl, rfl⟩
  go_wp2_with fail
  go_ret
  exact ⟨rfl, HBA.out⟩
/-- the nodes of the example in a block -/
def NdB (W : World) (b : Nat) : Prop := W.heap[b]? = some (.cells #[.int .i64 (-1), .int .i64 0, .int .i64 0, .int .i64 0, .int .i64 0, .int .i64 0, .int .i64 0, .int .i64 (-1), .int .i64 0, .int .i64 0, .int .i64 0, .int .i64 0, .int .i64 0, .int .i64 0, .int .i64 0, .int .i64 3] 106 (0, 0))
theorem NdB.keep {W W' : World} {b : Nat} (h : NdB W b) (hb : Below W.heap.size W W') : NdB W' b := (hb.block b (Array.getElem?_eq_some_iff.1 h).1).trans h
theorem check61 (b : Nat) (w : World) (hN : NdB w b) : Calls Try.prog 61 #[.agg #[.int .i64 0, .int .i64 0, .slice (some ⟨b, 0, none⟩) 2 2]] w fun e w' => e = .returned (.int .i64 0) ∧ Below w.heap.size w w' := by
  have c1 := fun W => isPart117 0 0 0 67108864 (by decide) (by decide) (by decide) W
  have cj0 := fun W => joined0 W
  have cj1 := fun W => joined1 W
  have cv0 := fun W => validNode0 W
  have cv1 := fun W => validNode1 W
  have HN := Lib.hid (show ∀ W, Below w.heap.size w W → NdB W b from fun W h => hN.keep h)
  obtain ⟨A, hA⟩ : ∃ A, A = w.alloc (.cells #[.int .i64 0, .int .i64 0, .slice (some ⟨b, 0, none⟩) 2 2] 100) := ⟨_, rfl⟩
  have HBA := Lib.hid (show Below w.heap.size w A by rw [hA]; exact (Below.refl _ _).alloc (Nat.le_refl _) _)
  have hlt : w.heap.size < A.heap.size := by rw [hA]; simp
  have k : ∀ o, A.cell? ⟨w.heap.size, o, none⟩ = (#[.int .i64 0, .int .i64 0, .slice (some ⟨b, 0, none⟩) 2 2] : Array Value)[o]? := fun o => cellHB (by rw [hA]; exact World.alloc_heap_new w _) o
  have KK := Lib.hid (show ∀ W, Below A.heap.size A W → W.cell? ⟨w.heap.size, 0, none⟩ = some (.int .i64 0) ∧ W.cell? ⟨w.heap.size, 1, none⟩ = some (.int .i64 0) ∧ W.cell? ⟨w.heap.size, 2, none⟩ = some (.slice (some ⟨b, 0, none⟩) 2 2) from fun W h => ⟨(h.cell (p := ⟨w.heap.size, 0, none⟩) hlt).trans (k 0), (h.cell (p := ⟨w.heap.size, 1, none⟩) hlt).trans (k 1), (h.cell (p := ⟨w.heap.size, 2, none⟩) hlt).trans (k 2)⟩)
  clear hlt k
  clear hN
  obtain ⟨k0, k1, k2⟩ := KK.out _ (Below.refl _ _)
  go_enter Try.func61, Try.ntmps61
  go_upto_region 1 with fail
  rw [← hA]
  clear hA
  go_wp2_with fail
  refine (c1 _).mono ?_
  rintro e w1 ⟨rfl, hb⟩
  have HB1 := Lib.hid hb
  clear hb k0 k1 k2
  obtain ⟨k0, k1, k2⟩ := KK.out _ HB1.out
  go_wp2_with fail
  go_loopw [22] (fun iv wr => ∃ k : Nat, k ≤ 2 ∧ iv = .int .i64 k ∧ Below A.heap.size A wr) (fun iv _ => 2 - (intOf iv).toNat)
  case atStart => exact ⟨0, Nat.zero_le _, rfl, HB1.out⟩
  case round =>
    obtain ⟨k, hk, rfl, hB⟩ := hrel
    have HB := Lib.hid hB
    have hn := HN.out _ (HBA.out.trans (hB.mono HBA.out.size))
    clear hB k0 k1 k2
    rcases (show k = 0 ∨ k = 1 ∨ k = 2 by omega) with rfl | rfl | rfl
    · have n0 : wr.cell? ⟨b, 0, none⟩ = some (.int .i64 (-1)) := cellHB hn 0
      have n1 : wr.cell? ⟨b, 1, none⟩ = some (.int .i64 0) := cellHB hn 1
      have n2 : wr.cell? ⟨b, 2, none⟩ = some (.int .i64 0) := cellHB hn 2
      have n3 : wr.cell? ⟨b, 3, none⟩ = some (.int .i64 0) := cellHB hn 3
      have n4 : wr.cell? ⟨b, 4, none⟩ = some (.int .i64 0) := cellHB hn 4
      have n5 : wr.cell? ⟨b, 5, none⟩ = some (.int .i64 0) := cellHB hn 5
      have n6 : wr.cell? ⟨b, 6, none⟩ = some (.int .i64 0) := cellHB hn 6
      have n7 : wr.cell? ⟨b, 7, none⟩ = some (.int .i64 (-1)) := cellHB hn 7
      go_upto_region 8 with fail
      obtain ⟨V, hV⟩ : ∃ V, V = wr.alloc (.cells #[.int .i64 (-1), .int .i64 0, .int .i64 0, .int .i64 0, .int .i64 0, .int .i64 0, .int .i64 0, .int .i64 (-1)] 106) := ⟨_, rfl⟩
      try rw [← hV]
      have HBV := Lib.hid (show Below A.heap.size A V by rw [hV]; exact HB.out.alloc HB.out.size _)
      have hX := show V.heap[wr.heap.size]? = some (.cells #[.int .i64 (-1), .int .i64 0, .int .i64 0, .int .i64 0, .int .i64 0, .int .i64 0, .int .i64 0, .int .i64 (-1)] 106 (0, 0)) by rw [hV]; exact World.alloc_heap_new _ _
      have HX := Lib.hid hX
      have e0 : V.cell? ⟨wr.heap.size, 0, none⟩ = some (.int .i64 (-1)) := cellHB hX 0
      have e1 : V.cell? ⟨wr.heap.size, 1, none⟩ = some (.int .i64 0) := cellHB hX 1
      have e2 : V.cell? ⟨wr.heap.size, 2, none⟩ = some (.int .i64 0) := cellHB hX 2
      have e3 : V.cell? ⟨wr.heap.size, 3, none⟩ = some (.int .i64 0) := cellHB hX 3
      have e4 : V.cell? ⟨wr.heap.size, 4, none⟩ = some (.int .i64 0) := cellHB hX 4
      have e5 : V.cell? ⟨wr.heap.size, 5, none⟩ = some (.int .i64 0) := cellHB hX 5
      have e6 : V.cell? ⟨wr.heap.size, 6, none⟩ = some (.int .i64 0) := cellHB hX 6
      have e7 : V.cell? ⟨wr.heap.size, 7, none⟩ = some (.int .i64 (-1)) := cellHB hX 7
      clear hV hX hn n0 n1 n2 n3 n4 n5 n6 n7
      go_wp2_with fail
      refine (cj0 _).mono ?_
      rintro e w2 ⟨rfl, hb⟩
      have HB2 := Lib.hid (HBV.out.trans (hb.mono HBV.out.size))
      have hX := (hb.block _ (Array.getElem?_eq_some_iff.1 HX.out).1).trans HX.out
      clear hb e0 e1 e2 e3 e4 e5 e6 e7
      have e0 : w2.cell? ⟨wr.heap.size, 0, none⟩ = some (.int .i64 (-1)) := cellHB hX 0
      have e1 : w2.cell? ⟨wr.heap.size, 1, none⟩ = some (.int .i64 0) := cellHB hX 1
      have e2 : w2.cell? ⟨wr.heap.size, 2, none⟩ = some (.int .i64 0) := cellHB hX 2
      have e3 : w2.cell? ⟨wr.heap.size, 3, none⟩ = some (.int .i64 0) := cellHB hX 3
      have e4 : w2.cell? ⟨wr.heap.size, 4, none⟩ = some (.int .i64 0) := cellHB hX 4
      have e5 : w2.cell? ⟨wr.heap.size, 5, none⟩ = some (.int .i64 0) := cellHB hX 5
      have e6 : w2.cell? ⟨wr.heap.size, 6, none⟩ = some (.int .i64 0) := cellHB hX 6
      have e7 : w2.cell? ⟨wr.heap.size, 7, none⟩ = some (.int .i64 (-1)) := cellHB hX 7
      clear hX
      go_wp2_with fail
      refine (cv0 _).mono ?_
      rintro e w3 ⟨rfl, hb⟩
      have HB3 := Lib.hid (HB2.out.trans (hb.mono HB2.out.size))
      clear hb e0 e1 e2 e3 e4 e5 e6 e7
      go_wp2_with fail
      go_roundw
      case rel => exact ⟨1, by omega, by go_num, HB3.out⟩
      case measure => simp [intOf]
    · have n0 : wr.cell? ⟨b, 8, none⟩ = some (.int .i64 0) := cellHB hn 8
      have n1 : wr.cell? ⟨b, 9, none⟩ = some (.int .i64 0) := cellHB hn 9
      have n2 : wr.cell? ⟨b, 10, none⟩ = some (.int .i64 0) := cellHB hn 10
      have n3 : wr.cell? ⟨b, 11, none⟩ = some (.int .i64 0) := cellHB hn 11
      have n4 : wr.cell? ⟨b, 12, none⟩ = some (.int .i64 0) := cellHB hn 12
      have n5 : wr.cell? ⟨b, 13, none⟩ = some (.int .i64 0) := cellHB hn 13
      have n6 : wr.cell? ⟨b, 14, none⟩ = some (.int .i64 0) := cellHB hn 14
      have n7 : wr.cell? ⟨b, 15, none⟩ = some (.int .i64 3) := cellHB hn 15
      go_upto_region 8 with fail
      obtain ⟨V, hV⟩ : ∃ V, V = wr.alloc (.cells #[.int .i64 0, .int .i64 0, .int .i64 0, .int .i64 0, .int .i64 0, .int .i64 0, .int .i64 0, .int .i64 3] 106) := ⟨_, rfl⟩
      try rw [← hV]
      have HBV := Lib.hid (show Below A.heap.size A V by rw [hV]; exact HB.out.alloc HB.out.size _)
      have hX := show V.heap[wr.heap.size]? = some (.cells #[.int .i64 0, .int .i64 0, .int .i64 0, .int .i64 0, .int .i64 0, .int .i64 0, .int .i64 0, .int .i64 3] 106 (0, 0)) by rw [hV]; exact World.alloc_heap_new _ _
      have HX := Lib.hid hX
      have e0 : V.cell? ⟨wr.heap.size, 0, none⟩ = some (.int .i64 0) := cellHB hX 0
      have e1 : V.cell? ⟨wr.heap.size, 1, none⟩ = some (.int .i64 0) := cellHB hX 1
      have e2 : V.cell? ⟨wr.heap.size, 2, none⟩ = some (.int .i64 0) := cellHB hX 2
      have e3 : V.cell? ⟨wr.heap.size, 3, none⟩ = some (.int .i64 0) := cellHB hX 3
      have e4 : V.cell? ⟨wr.heap.size, 4, none⟩ = some (.int .i64 0) := cellHB hX 4
      have e5 : V.cell? ⟨wr.heap.size, 5, none⟩ = some (.int .i64 0) := cellHB hX 5
      have e6 : V.cell? ⟨wr.heap.size, 6, none⟩ = some (.int .i64 0) := cellHB hX 6
      have e7 : V.cell? ⟨wr.heap.size, 7, none⟩ = some (.int .i64 3) := cellHB hX 7
      clear hV hX hn n0 n1 n2 n3 n4 n5 n6 n7
      go_wp2_with fail
      refine (cj1 _).mono ?_
      rintro e w2 ⟨rfl, hb⟩
      have HB2 := Lib.hid (HBV.out.trans (hb.mono HBV.out.size))
      have hX := (hb.block _ (Array.getElem?_eq_some_iff.1 HX.out).1).trans HX.out
      clear hb e0 e1 e2 e3 e4 e5 e6 e7
      have e0 : w2.cell? ⟨wr.heap.size, 0, none⟩ = some (.int .i64 0) := cellHB hX 0
      have e1 : w2.cell? ⟨wr.heap.size, 1, none⟩ = some (.int .i64 0) := cellHB hX 1
      have e2 : w2.cell? ⟨wr.heap.size, 2, none⟩ = some (.int .i64 0) := cellHB hX 2
      have e3 : w2.cell? ⟨wr.heap.size, 3, none⟩ = some (.int .i64 0) := cellHB hX 3
      have e4 : w2.cell? ⟨wr.heap.size, 4, none⟩ = some (.int .i64 0) := cellHB hX 4
      have e5 : w2.cell? ⟨wr.heap.size, 5, none⟩ = some (.int .i64 0) := cellHB hX 5
      have e6 : w2.cell? ⟨wr.heap.size, 6, none⟩ = some (.int .i64 0) := cellHB hX 6
      have e7 : w2.cell? ⟨wr.heap.size, 7, none⟩ = some (.int .i64 3) := cellHB hX 7
      clear hX
      go_wp2_with fail
      refine (cv1 _).mono ?_
      rintro e w3 ⟨rfl, hb⟩
      have HB3 := Lib.hid (HB2.out.trans (hb.mono HB2.out.size))
      clear hb e0 e1 e2 e3 e4 e5 e6 e7
      go_wp2_with fail
      go_roundw
      case rel => exact ⟨2, by omega, by go_num, HB3.out⟩
      case measure => simp [intOf]
    · go_wp2_with fail
      go_ret
      exact ⟨rfl, HBA.out.trans (HB.out.mono HBA.out.size)⟩
theorem isNode153 (b : Nat) (w : World) : Calls Try.prog 153 #[.agg #[.int .i64 0, .int .i64 0, .slice (some ⟨b, 0, none⟩) 2 2], .int .i64 1] w fun e w' => e = .returned (.bool true) ∧ Below w.heap.size w w' := by
  have c1 := fun W => within151 1 0 1 W
  rw [decide_eq_true (show (0 : Int) ≤ 1 ∧ (1 : Int) ≤ 1 by decide)] at c1
  obtain ⟨A, hA⟩ : ∃ A, A = w.alloc (.cells #[.int .i64 0, .int .i64 0, .slice (some ⟨b, 0, none⟩) 2 2] 100) := ⟨_, rfl⟩
  have HBA := Lib.hid (show Below w.heap.size w A by rw [hA]; exact (Below.refl _ _).alloc (Nat.le_refl _) _)
  have hlt : w.heap.size < A.heap.size := by rw [hA]; simp
  have k : ∀ o, A.cell? ⟨w.heap.size, o, none⟩ = (#[.int .i64 0, .int .i64 0, .slice (some ⟨b, 0, none⟩) 2 2] : Array Value)[o]? := fun o => cellHB (by rw [hA]; exact World.alloc_heap_new w _) o
  have KK := Lib.hid (show ∀ W, Below A.heap.size A W → W.cell? ⟨w.heap.size, 0, none⟩ = some (.int .i64 0) ∧ W.cell? ⟨w.heap.size, 1, none⟩ = some (.int .i64 0) ∧ W.cell? ⟨w.heap.size, 2, none⟩ = some (.slice (some ⟨b, 0, none⟩) 2 2) from fun W h => ⟨(h.cell (p := ⟨w.heap.size, 0, none⟩) hlt).trans (k 0), (h.cell (p := ⟨w.heap.size, 1, none⟩) hlt).trans (k 1), (h.cell (p := ⟨w.heap.size, 2, none⟩) hlt).trans (k 2)⟩)
  clear hlt k
  obtain ⟨k0, k1, k2⟩ := KK.out _ (Below.refl _ _)
  go_enter Try.func153, Try.ntmps153
  go_upto_region 1 with fail
  rw [← hA]
  clear hA
  go_wp2_with fail
  refine (c1 _).mono ?_
  rintro e w1 ⟨rfl, rfl⟩
  go_wp2_with fail
  go_ret
  exact ⟨rfl, HBA.out⟩
theorem checkNode120 (b : Nat) (w : World) (hN : NdB w b) : Calls Try.prog 120 #[.agg #[.int .i64 0, .int .i64 0, .slice (some ⟨b, 0, none⟩) 2 2], .int .i64 1] w fun e w' => e = .returned (.int .i64 0) ∧ Below w.heap.size w w' := by
  have c1 := Lib.hid (fun W (h : Below w.heap.size w W) => check61 b W (hN.keep h))
  have c2 := fun W => isNode153 b W
  obtain ⟨A, hA⟩ : ∃ A, A = w.alloc (.cells #[.int .i64 0, .int .i64 0, .slice (some ⟨b, 0, none⟩) 2 2] 100) := ⟨_, rfl⟩
  have HBA := Lib.hid (show Below w.heap.size w A by rw [hA]; exact (Below.refl _ _).alloc (Nat.le_refl _) _)
  have hlt : w.heap.size < A.heap.size := by rw [hA]; simp
  have k : ∀ o, A.cell? ⟨w.heap.size, o, none⟩ = (#[.int .i64 0, .int .i64 0, .slice (some ⟨b, 0, none⟩) 2 2] : Array Value)[o]? := fun o => cellHB (by rw [hA]; exact World.alloc_heap_new w _) o
  have KK := Lib.hid (show ∀ W, Below A.heap.size A W → W.cell? ⟨w.heap.size, 0, none⟩ = some (.int .i64 0) ∧ W.cell? ⟨w.heap.size, 1, none⟩ = some (.int .i64 0) ∧ W.cell? ⟨w.heap.size, 2, none⟩ = some (.slice (some ⟨b, 0, none⟩) 2 2) from fun W h => ⟨(h.cell (p := ⟨w.heap.size, 0, none⟩) hlt).trans (k 0), (h.cell (p := ⟨w.heap.size, 1, none⟩) hlt).trans (k 1), (h.cell (p := ⟨w.heap.size, 2, none⟩) hlt).trans (k 2)⟩)
  clear hlt k
  clear hN
  obtain ⟨k0, k1, k2⟩ := KK.out _ (Below.refl _ _)
  go_enter Try.func120, Try.ntmps120
  go_upto_region 1 with fail
  rw [← hA]
  clear hA
  go_wp2_with fail
  refine (c1.out _ HBA.out).mono ?_
  rintro e w1 ⟨rfl, hb⟩
  have HB1 := Lib.hid hb
  clear hb k0 k1 k2
  obtain ⟨k0, k1, k2⟩ := KK.out _ HB1.out
  go_wp2_with fail
  refine (c2 _).mono ?_
  rintro e w2 ⟨rfl, hb⟩
  have HB2 := Lib.hid (HB1.out.trans (hb.mono HB1.out.size))
  clear hb
  go_wp2_with fail
  go_ret
  exact ⟨rfl, HBA.out.trans (HB2.out.mono HBA.out.size)⟩
theorem up122 (b : Nat) (w : World) : Calls Try.prog 122 #[.agg #[.int .i64 0, .int .i64 0, .slice (some ⟨b, 0, none⟩) 2 2], .int .i64 1] w fun e w' => e = .returned (.func (.func 155) #[] #[.pointer (some ⟨w.heap.size + 1, 0, none⟩), .pointer (some ⟨w.heap.size, 0, none⟩)]) ∧ w' = (w.alloc (.cells #[.int .i64 0, .int .i64 0, .slice (some ⟨b, 0, none⟩) 2 2] 100)).alloc (.cells #[.int .i64 1] 3) := by
  go_enter Try.func122, Try.ntmps122
  go_wp2_with fail
  go_ret
  exact ⟨by first | rfl | trivial | simp, by first | rfl | trivial⟩
/-- the path of the example -/
theorem collect_up (Bk Bc b : Nat) (w : World) (hk : Bk < w.heap.size) (hc : Bc < w.heap.size) (hb : b < w.heap.size) (h1 : w.cell? ⟨Bk, 0, none⟩ = some (.int .i64 1)) (h2 : w.cell? ⟨Bc, 2, none⟩ = some (.slice (some ⟨b, 0, none⟩) 2 2)) (hN : NdB w b) :
    Calls Try.prog 121 #[.func (.func 155) #[] #[.pointer (some ⟨Bk, 0, none⟩), .pointer (some ⟨Bc, 0, none⟩)]] w fun e w' => (∃ a c, e = .returned (.slice a 2 c)) ∧ Below w.heap.size w w' := by
  have q := callsIn_wide.1 (appendSeq154 10 (by omega) 155 #[.pointer (some ⟨Bk, 0, none⟩), .pointer (some ⟨Bc, 0, none⟩)] (enters_of Try.func155 (by kernel_rfl) rfl) (fun ys => ys = [1, 0]) (fun pre => pre <+: [1, 0]) 60 (by decide) w.heap.size w (Nat.le_refl _)
    (up_stops 9 (by omega) Bk Bc w.heap.size (.slice (some ⟨b, 0, none⟩) 2 2) [1, 0] (by decide) (fun k hk => by
      have hk2 : k < 2 := hk
      rcases (show k = 0 ∨ k = 1 by omega) with rfl | rfl <;> decide) w hk hc (Nat.le_refl _) h1 h2 ⟨b, 0, 2, 2, rfl, hb, fun k hk => by
        have hk2 : k < 2 := hk
        rcases (show k = 0 ∨ k = 1 by omega) with rfl | rfl
        · exact ⟨by decide, cellHB hN 8⟩
        · exact ⟨by decide, cellHB hN 0⟩⟩))
  have Q := Lib.hid q
  clear q
  go_enter Try.func121, Try.ntmps121
  go_wp2_with fail
  refine Q.out.mono ?_
  rintro e w1 ⟨v, ss, rfl, rfl, hr, hb⟩
  obtain ⟨a, c, rfl⟩ := own_form hr
  have HB := Lib.hid hb
  clear hb hr
  go_wp2_with fail
  go_ret
  exact ⟨⟨a, c, rfl⟩, HB.out⟩
theorem path62 (b : Nat) (w : World) (hN : NdB w b) : Calls Try.prog 62 #[.agg #[.int .i64 0, .int .i64 0, .slice (some ⟨b, 0, none⟩) 2 2], .int .i64 1] w fun e w' => (∃ a c, e = .returned (.tuple #[.slice a 2 c, .int .i64 0])) ∧ Below w.heap.size w w' := by
  have c1 := Lib.hid (fun W (h : Below w.heap.size w W) => checkNode120 b W (hN.keep h))
  have c2 := fun W => up122 b W
  have c3 := Lib.hid (fun Bk Bc W (h : Below w.heap.size w W) hk hc h1 h2 => collect_up Bk Bc b W hk hc (Nat.lt_of_lt_of_le (Array.getElem?_eq_some_iff.1 hN).1 h.size) h1 h2 (hN.keep h))
  obtain ⟨A, hA⟩ : ∃ A, A = w.alloc (.cells #[.int .i64 0, .int .i64 0, .slice (some ⟨b, 0, none⟩) 2 2] 100) := ⟨_, rfl⟩
  have HBA := Lib.hid (show Below w.heap.size w A by rw [hA]; exact (Below.refl _ _).alloc (Nat.le_refl _) _)
  have hlt : w.heap.size < A.heap.size := by rw [hA]; simp
  have k : ∀ o, A.cell? ⟨w.heap.size, o, none⟩ = (#[.int .i64 0, .int .i64 0, .slice (some ⟨b, 0, none⟩) 2 2] : Array Value)[o]? := fun o => cellHB (by rw [hA]; exact World.alloc_heap_new w _) o
  have KK := Lib.hid (show ∀ W, Below A.heap.size A W → W.cell? ⟨w.heap.size, 0, none⟩ = some (.int .i64 0) ∧ W.cell? ⟨w.heap.size, 1, none⟩ = some (.int .i64 0) ∧ W.cell? ⟨w.heap.size, 2, none⟩ = some (.slice (some ⟨b, 0, none⟩) 2 2) from fun W h => ⟨(h.cell (p := ⟨w.heap.size, 0, none⟩) hlt).trans (k 0), (h.cell (p := ⟨w.heap.size, 1, none⟩) hlt).trans (k 1), (h.cell (p := ⟨w.heap.size, 2, none⟩) hlt).trans (k 2)⟩)
  clear hlt k
  clear hN
  obtain ⟨k0, k1, k2⟩ := KK.out _ (Below.refl _ _)
  go_enter Try.func62, Try.ntmps62
  go_upto_region 1 with fail
  rw [← hA]
  clear hA
  go_wp2_with fail
  refine (c1.out _ HBA.out).mono ?_
  rintro e w1 ⟨rfl, hb⟩
  have HB1 := Lib.hid hb
  clear hb k0 k1 k2
  obtain ⟨k0, k1, k2⟩ := KK.out _ HB1.out
  go_wp2_with fail
  refine (c2 _).mono ?_
  rintro e w2 ⟨rfl, hw2⟩
  have hb2 : Below w1.heap.size w1 w2 := by rw [hw2]; exact ((Below.refl _ _).alloc (Nat.le_refl _) _).alloc (by simp) _
  have hk2 : w2.cell? ⟨w1.heap.size + 1, 0, none⟩ = some (.int .i64 1) := by rw [hw2]; simp [go_sem]
  have hc2 : w2.cell? ⟨w1.heap.size, 2, none⟩ = some (.slice (some ⟨b, 0, none⟩) 2 2) := by rw [hw2]; simp [go_sem]
  have hz2 : w2.heap.size = w1.heap.size + 2 := by rw [hw2]; simp
  have HB2 := Lib.hid (HB1.out.trans (hb2.mono HB1.out.size))
  have Q := Lib.hid (c3.out (w1.heap.size + 1) w1.heap.size w2 (HBA.out.trans (HB2.out.mono HBA.out.size)) (by omega) (by omega) hk2 hc2)
  clear hw2 hb2 hk2 hc2 hz2
  go_wp2_with fail
  refine Q.out.mono ?_
  rintro e w3 ⟨⟨a, c, rfl⟩, hb⟩
  have HB3 := Lib.hid (HB2.out.trans (hb.mono HB2.out.size))
  clear hb Q
  go_wp2_with fail
  go_ret2
  exact ⟨⟨a, c, rfl⟩, HBA.out.trans (HB3.out.mono HBA.out.size)⟩
end Go.Proofs.Ytcchmjbedppfnaa

/-
  Works: true.
-/
import Derived.Test.YtamelpfhbnkggaaDiv
import Derived.Test.YtamelpfhbnkggaaCover
import Derived.Test.YtamelpfhbnkggaaNrm
namespace Go.Proofs.Ytamelpfhbnkggaa
open Go.RowKit Go.Shelf

theorem rowAt_new (w : World) (zs : List (Int × Int)) : RowAt (w.alloc (.cells (flat zs).toArray 23)) w.heap.size 0 zs := by
  intro j hj
  obtain ⟨h1, h2⟩ := flat_get zs j hj
  have hb : (w.alloc (.cells (flat zs).toArray 23)).heap[w.heap.size]? = some (.cells (flat zs).toArray 23 (0, 0)) := World.alloc_heap_new w _
  have hr := rowAt_of_block (zs := zs) hb (List.take_of_length_le (by rw [show (flat zs).toArray.toList = flat zs from rfl, flat_length]; exact Nat.le_refl _))
  rw [Nat.zero_add]
  exact ⟨(hr (j * 2) (by omega)).1.trans h1, (hr (j * 2 + 1) (by omega)).1.trans h2⟩

theorem works_cover : ∀ ss : List (Int × Int), ss.Perm [(5, 6), (1, 2), (3, 3)] → Asc ss → mrg ss = [(1, 3), (5, 6)] := by
  intro ss hp ha
  have hok : ∀ y ∈ ss, Ok y := by
    intro y hy
    have := hp.mem_iff.1 hy
    simp at this
    rcases this with rfl | rfl | rfl <;> (unfold Ok; decide)
  obtain ⟨hn, hm, _⟩ := mrg_spec ss hok ha
  refine nrm_unique _ _ hn ⟨?_, ?_⟩ fun x => ?_
  · intro y hy
    simp at hy
    rcases hy with rfl | rfl <;> (unfold Ok; decide)
  · simp
  · rw [hm x, inL_perm x hp]
    simp only [inL_cons, inL_nil, or_false]
    omega

set_option maxHeartbeats 2000000 in
theorem works_any (w : World) : Calls Try.prog 22 #[] w fun e w' => e = .returned (.bool true) ∧ Below w.heap.size w w' := by
  have c1 := fun w => mul_any (-3) 5 2 4 w
  rw [show mulS (-3) 5 2 4 = ⟨-12, 20, 0⟩ from rfl] at c1
  have c2 := fun w => div_any 7 9 (-4) (-2) w
  rw [show divS 7 9 (-4) (-2) = ⟨-5, -1, 0⟩ from rfl] at c2
  dsimp only at c1 c2
  go_enter Try.func22, Try.ntmps22
  go_wp2_with fail
  refine (c1 _).mono ?_
  rintro e w1 ⟨rfl, hb⟩
  go_wp2_with fail
  refine (c2 _).mono ?_
  rintro e w2 ⟨rfl, hb2⟩
  go_wp2_with fail
  have hrow := rowAt_new (w2.alloc (Obj.cells #[Value.int IntKind.i64 (-5), Value.int IntKind.i64 (-1)] 23)) [(5, 6), (1, 2), (3, 3)]
  rw [World.size_alloc] at hrow
  have b1 : Boxed2 (w1.alloc (Obj.cells #[Value.int IntKind.i64 (-12), Value.int IntKind.i64 20] 23)) w1.heap.size 23 (.int .i64 (-12)) (.int .i64 20) := Boxed2.new _ _ _ _
  have b1' := (hb2.block _ b1.lt).trans b1
  have b2 : Boxed2 (w2.alloc (Obj.cells #[Value.int IntKind.i64 (-5), Value.int IntKind.i64 (-1)] 23)) w2.heap.size 23 (.int .i64 (-5)) (.int .i64 (-1)) := Boxed2.new _ _ _ _
  have h12 : w1.heap.size < w2.heap.size := by have := hb2.size; simp at this; omega
  obtain ⟨W, hW⟩ : ∃ W, W = (w2.alloc (Obj.cells #[Value.int IntKind.i64 (-5), Value.int IntKind.i64 (-1)] 23)).alloc (Obj.cells #[Value.int IntKind.i64 5, Value.int IntKind.i64 6, Value.int IntKind.i64 1, Value.int IntKind.i64 2, Value.int IntKind.i64 3, Value.int IntKind.i64 3] 23) := ⟨_, rfl⟩
  have hrowW : RowAt W (w2.heap.size + 1) 0 [(5, 6), (1, 2), (3, 3)] := by rw [hW]; exact hrow
  have b1W : Boxed2 W w1.heap.size 23 (.int .i64 (-12)) (.int .i64 20) := by rw [hW]; exact (Below.heap_alloc _ _ _ (by simp; omega)).trans ((Below.heap_alloc _ _ _ h12).trans b1')
  have b2W : Boxed2 W w2.heap.size 23 (.int .i64 (-5)) (.int .i64 (-1)) := by rw [hW]; exact (Below.heap_alloc _ _ _ (by simp)).trans b2
  have hsW : w2.heap.size + 2 ≤ W.heap.size := by rw [hW]; simp
  have hBW : Below w.heap.size w W := by
    rw [hW]
    have h1 := hb.trans (((Below.refl w1.heap.size w1).alloc (Nat.le_refl _) (Obj.cells #[Value.int IntKind.i64 (-12), Value.int IntKind.i64 20] 23)).mono hb.size)
    have h2 := h1.trans (hb2.mono h1.size)
    exact (h2.alloc h2.size _).alloc (by have := h2.size; simp; omega) _
  rw [← hW]
  clear hW hrow b1 b1' b2 hb hb2 c1 c2
  have c3 := cover_ok (.slice (some ⟨w2.heap.size + 1, 0, none⟩) 3 3) [(5, 6), (1, 2), (3, 3)] (by simp) (by simp [vB]) W.heap.size W (Nat.le_refl _) (.inr ⟨w2.heap.size + 1, 0, 3, rfl, by omega, hrowW⟩)
  refine c3.mono ?_
  rintro e w3 ⟨v, cs, rfl, ⟨ss, hp, ha, hcs⟩, hI, hb3⟩
  rw [works_cover ss hp ha] at hcs
  subst hcs
  obtain ⟨a, cap, rfl, hcell⟩ := hI.slice
  obtain ⟨b, off, rfl, hbl, e0, e1⟩ := hcell 0 (by simp)
  simp only [Nat.zero_mul, Nat.add_zero] at e0 e1
  have y := (hb3.block _ b1W.lt).trans b1W
  have z := (hb3.block _ b2W.lt).trans b2W
  have y0 := Boxed2.c0 y
  have y1 := Boxed2.c1 y
  have z0 := Boxed2.c0 z
  have z1 := Boxed2.c1 z
  have hBf := hBW.trans (hb3.mono hBW.size)
  clear hcell hI hp ha y z c3 b1W b2W hrowW hb3 hBW
  dsimp only [List.length_cons, List.length_nil] at *
  simp at e0 e1
  go_wp2_with fail
  go_ret
  exact ⟨rfl, hBf⟩
end Go.Proofs.Ytamelpfhbnkggaa

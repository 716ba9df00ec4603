/-
  The small examples of layers 2 and 4: works04 (contracts of the watch circle's top, of a distance).
-/
import Derived.Test.YtdohfpnnmppdkaaCbDi
namespace Go.Proofs.Ytdohfpnnmppdkaa
open Go.RowKit Go.Shelf
set_option linter.unusedSimpArgs false
set_option maxHeartbeats 4000000
set_option maxRecDepth 100000
theorem ds_ex : dsS 2 20000 20000 150000 160000 = ⟨1500, 1600, 0⟩ := by
  unfold dsS
  rw [if_pos (show fitB 2 20000 20000 150000 160000 = true by first | decide | (unfold fitB; simp [partB_iff]))]
  show fit (20000 * 150000 / 2000000) ((20000 * 160000 + 2000000 - 1) / 2000000) = _
  unfold fit
  rw [if_pos ((vB_iff _ _).2 (by decide))]
  rfl
theorem works04_of (hT : ∀ (W : World) (b c : Nat), b < W.heap.size → c < W.heap.size →
      W.heap[b]? = some (.cells #[.int .i64 0, .int .i64 1000, .int .i64 400, .int .i64 5000, .int .i64 8000, .int .i64 (-200), .int .i64 100, .int .i64 2000] 170 (0, 0)) →
      W.heap[c]? = some (.cells #[.int .i64 0, .int .i64 1000, .int .i64 500, .int .i64 500] 23 (0, 0)) →
      Calls Try.prog 131 #[.agg #[.int .i64 10000, .slice (some ⟨b, 0, none⟩) 2 2, .int .i64 3000, .int .i64 500], .slice (some ⟨c, 0, none⟩) 2 2, .bool false] W fun e w' => e = .returned (.tuple #[.agg #[.int .i64 2000, .int .i64 2936], .int .i64 0]) ∧ Below W.heap.size W w')
    (w : World) : Calls Try.prog 69 #[] w fun e w' => e = .returned (.bool true) ∧ Below w.heap.size w w' := by
  have cD := fun W => distance_any 2 20000 20000 150000 160000 W
  rw [ds_ex] at cD
  dsimp only at cD
  obtain ⟨A, hA⟩ : ∃ A, A = (w.alloc (.cells #[.int .i64 0, .int .i64 1000, .int .i64 400, .int .i64 5000, .int .i64 8000, .int .i64 (-200), .int .i64 100, .int .i64 2000] 170)).alloc (.cells #[.int .i64 10000, .slice (some ⟨w.heap.size, 0, none⟩) 2 2, .int .i64 3000, .int .i64 500] 97) := ⟨_, rfl⟩
  have HBA := Lib.hid (show Below w.heap.size w A by rw [hA]; exact ((Below.refl _ _).alloc (Nat.le_refl _) _).alloc (by simp) _)
  have hzA : A.heap.size = w.heap.size + 1 + 1 := by rw [hA]; simp
  have e0 : A.heap[w.heap.size]? = some (.cells #[.int .i64 0, .int .i64 1000, .int .i64 400, .int .i64 5000, .int .i64 8000, .int .i64 (-200), .int .i64 100, .int .i64 2000] 170 (0, 0)) := by
    have x := World.alloc_heap_new w (.cells #[.int .i64 0, .int .i64 1000, .int .i64 400, .int .i64 5000, .int .i64 8000, .int .i64 (-200), .int .i64 100, .int .i64 2000] 170)
    rw [hA]
    exact (((Below.refl _ (w.alloc (.cells #[.int .i64 0, .int .i64 1000, .int .i64 400, .int .i64 5000, .int .i64 8000, .int .i64 (-200), .int .i64 100, .int .i64 2000] 170))).alloc (Nat.le_refl _) _).block w.heap.size (by simp)).trans x
  obtain ⟨B, hB⟩ : ∃ B, B = A.alloc (.cells #[.int .i64 0, .int .i64 1000, .int .i64 500, .int .i64 500] 23) := ⟨_, rfl⟩
  have HBB := Lib.hid (show Below A.heap.size A B by rw [hB]; exact (Below.refl _ _).alloc (Nat.le_refl _) _)
  have e1 : B.heap[A.heap.size]? = some (.cells #[.int .i64 0, .int .i64 1000, .int .i64 500, .int .i64 500] 23 (0, 0)) := by
    rw [hB]; exact World.alloc_heap_new _ _
  have e2 := (HBB.out.block w.heap.size (by omega)).trans e0
  have hzB : B.heap.size = A.heap.size + 1 := by rw [hB]; simp
  have C1 := Lib.hid (hT B w.heap.size A.heap.size (by omega) (by omega) e2 e1)
  have k0 : A.cell? ⟨w.heap.size + 1, 0, none⟩ = some (.int .i64 10000) := by rw [hA]; simp [go_sem]
  have k1 : A.cell? ⟨w.heap.size + 1, 1, none⟩ = some (.slice (some ⟨w.heap.size, 0, none⟩) 2 2) := by rw [hA]; simp [go_sem]
  have k2 : A.cell? ⟨w.heap.size + 1, 2, none⟩ = some (.int .i64 3000) := by rw [hA]; simp [go_sem]
  have k3 : A.cell? ⟨w.heap.size + 1, 3, none⟩ = some (.int .i64 500) := by rw [hA]; simp [go_sem]
  have HBB2 := Lib.hid (HBA.out.trans (HBB.out.mono HBA.out.size))
  clear hT e0 e1 e2 hzA hzB HBB
  go_enter Try.func69, Try.ntmps69
  go_upto_region 2 with fail
  try rw [← hA]
  clear hA
  go_wp2_with fail
  try rw [← hB]
  clear hB
  refine C1.out.mono ?_
  rintro e w1 ⟨rfl, hb⟩
  have HB1 := Lib.hid (HBB2.out.trans (hb.mono HBB2.out.size))
  clear hb k0 k1 k2 k3
  go_upto_region 3 with fail
  obtain ⟨V, hV⟩ : ∃ V, V = w1.alloc (.cells #[.int .i64 2000, .int .i64 2936] 23) := ⟨_, rfl⟩
  try rw [← hV]
  have HX := Lib.hid (show Bx2 V w1.heap.size (.int .i64 2000) (.int .i64 2936) by rw [hV]; exact Bx2.new _ _ _)
  have HV := Lib.hid (show Below w.heap.size w V by rw [hV]; exact HB1.out.alloc HB1.out.size _)
  clear hV
  go_wp2_with fail
  refine (cD _).mono ?_
  rintro e w2 ⟨rfl, hb⟩
  have HB2 := Lib.hid (HV.out.trans (hb.mono HV.out.size))
  have HX2 := Lib.hid (HX.out.keep hb)
  clear hb
  go_upto_region 4 with fail
  obtain ⟨U, hU⟩ : ∃ U, U = w2.alloc (.cells #[.int .i64 1500, .int .i64 1600] 23) := ⟨_, rfl⟩
  try rw [← hU]
  have HY := Lib.hid (show Bx2 U w2.heap.size (.int .i64 1500) (.int .i64 1600) by rw [hU]; exact Bx2.new _ _ _)
  have hbU : Below w2.heap.size w2 U := by rw [hU]; exact (Below.refl _ _).alloc (Nat.le_refl _) _
  have HU := Lib.hid (HB2.out.trans (hbU.mono HB2.out.size))
  have d0 := (HX2.out.keep hbU).c0
  have d1 := (HX2.out.keep hbU).c1
  have d2 := HY.out.c0
  have d3 := HY.out.c1
  clear hU hbU
  go_wp2_with fail
  go_ret
  exact ⟨rfl, HU.out⟩
end Go.Proofs.Ytdohfpnnmppdkaa

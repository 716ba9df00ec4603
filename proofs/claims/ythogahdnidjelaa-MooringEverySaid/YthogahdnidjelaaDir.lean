/-
  direction.
-/
import Derived.Test.YthogahdnidjelaaEvMath
namespace Go.Proofs.Ythogahdnidjelaa
open Go.RowKit Go.Shelf
set_option linter.unusedSimpArgs false
set_option maxRecDepth 100000 in
set_option maxHeartbeats 8000000 in
theorem direction_any (p : Pc) (h0 : 0 ≤ p.way) (h1 : p.way ≤ 255) (w : World) :
    Calls Try.prog 46 #[.int .u8 p.way] w fun e w' => e = .returned (.tuple #[.int .i64 (dirX true p), .int .i64 (dirY true p)]) ∧ Below w.heap.size w w' := by
  unfold dirX dirY
  generalize p.way = y at *
  have h : y % 4 = 0 ∨ y % 4 = 1 ∨ y % 4 = 2 ∨ y % 4 = 3 := by omega
  have a : y / 4 % 2 = 0 ∨ y / 4 % 2 = 1 := by omega
  have b : y / 8 % 2 = 0 ∨ y / 8 % 2 = 1 := by omega
  have hB : ∀ x1 x2 : Array Value, Below w.heap.size w ((w.alloc (.cells x1 2)).alloc (.cells x2 2)) := fun x1 x2 => ((Below.refl _ _).alloc (Nat.le_refl _) _).alloc (by simp) _
  have HB := Lib.hid hB
  clear hB
  rcases h with h | h | h | h <;> rcases a with a | a <;> rcases b with b | b
  · go_enter Try.func46, Try.ntmps46
    go_wp2_with fail
    refine bodyPost_ret (v := .tuple #[.int .i64 (5), .int .i64 (0)]) (by simp [results, Try.results46, go_sem, *]) rfl ⟨by simp [h, a, b], HB.out _ _⟩
  · go_enter Try.func46, Try.ntmps46
    go_wp2_with fail
    refine bodyPost_ret (v := .tuple #[.int .i64 (5), .int .i64 (0)]) (by simp [results, Try.results46, go_sem, *]) rfl ⟨by simp [h, a, b], HB.out _ _⟩
  · go_enter Try.func46, Try.ntmps46
    go_wp2_with fail
    refine bodyPost_ret (v := .tuple #[.int .i64 (-5), .int .i64 (0)]) (by simp [results, Try.results46, go_sem, *]) rfl ⟨by simp [h, a, b], HB.out _ _⟩
  · go_enter Try.func46, Try.ntmps46
    go_wp2_with fail
    refine bodyPost_ret (v := .tuple #[.int .i64 (-5), .int .i64 (0)]) (by simp [results, Try.results46, go_sem, *]) rfl ⟨by simp [h, a, b], HB.out _ _⟩
  · go_enter Try.func46, Try.ntmps46
    go_wp2_with fail
    refine bodyPost_ret (v := .tuple #[.int .i64 (4), .int .i64 (3)]) (by simp [results, Try.results46, go_sem, *]) rfl ⟨by simp [h, a, b], HB.out _ _⟩
  · go_enter Try.func46, Try.ntmps46
    go_wp2_with fail
    refine bodyPost_ret (v := .tuple #[.int .i64 (4), .int .i64 (-3)]) (by simp [results, Try.results46, go_sem, *]) rfl ⟨by simp [h, a, b], HB.out _ _⟩
  · go_enter Try.func46, Try.ntmps46
    go_wp2_with fail
    refine bodyPost_ret (v := .tuple #[.int .i64 (-4), .int .i64 (3)]) (by simp [results, Try.results46, go_sem, *]) rfl ⟨by simp [h, a, b], HB.out _ _⟩
  · go_enter Try.func46, Try.ntmps46
    go_wp2_with fail
    refine bodyPost_ret (v := .tuple #[.int .i64 (-4), .int .i64 (-3)]) (by simp [results, Try.results46, go_sem, *]) rfl ⟨by simp [h, a, b], HB.out _ _⟩
  · go_enter Try.func46, Try.ntmps46
    go_wp2_with fail
    refine bodyPost_ret (v := .tuple #[.int .i64 (3), .int .i64 (4)]) (by simp [results, Try.results46, go_sem, *]) rfl ⟨by simp [h, a, b], HB.out _ _⟩
  · go_enter Try.func46, Try.ntmps46
    go_wp2_with fail
    refine bodyPost_ret (v := .tuple #[.int .i64 (3), .int .i64 (-4)]) (by simp [results, Try.results46, go_sem, *]) rfl ⟨by simp [h, a, b], HB.out _ _⟩
  · go_enter Try.func46, Try.ntmps46
    go_wp2_with fail
    refine bodyPost_ret (v := .tuple #[.int .i64 (-3), .int .i64 (4)]) (by simp [results, Try.results46, go_sem, *]) rfl ⟨by simp [h, a, b], HB.out _ _⟩
  · go_enter Try.func46, Try.ntmps46
    go_wp2_with fail
    refine bodyPost_ret (v := .tuple #[.int .i64 (-3), .int .i64 (-4)]) (by simp [results, Try.results46, go_sem, *]) rfl ⟨by simp [h, a, b], HB.out _ _⟩
  · go_enter Try.func46, Try.ntmps46
    go_wp2_with fail
    refine bodyPost_ret (v := .tuple #[.int .i64 (0), .int .i64 (5)]) (by simp [results, Try.results46, go_sem, *]) rfl ⟨by simp [h, a, b], HB.out _ _⟩
  · go_enter Try.func46, Try.ntmps46
    go_wp2_with fail
    refine bodyPost_ret (v := .tuple #[.int .i64 (0), .int .i64 (-5)]) (by simp [results, Try.results46, go_sem, *]) rfl ⟨by simp [h, a, b], HB.out _ _⟩
  · go_enter Try.func46, Try.ntmps46
    go_wp2_with fail
    refine bodyPost_ret (v := .tuple #[.int .i64 (0), .int .i64 (5)]) (by simp [results, Try.results46, go_sem, *]) rfl ⟨by simp [h, a, b], HB.out _ _⟩
  · go_enter Try.func46, Try.ntmps46
    go_wp2_with fail
    refine bodyPost_ret (v := .tuple #[.int .i64 (0), .int .i64 (-5)]) (by simp [results, Try.results46, go_sem, *]) rfl ⟨by simp [h, a, b], HB.out _ _⟩
end Go.Proofs.Ythogahdnidjelaa

/-
  Buffers: the example of the chapter.
-/
import Derived.Test.YtbbaehmfadpgeaaBfC
namespace Go.Proofs.Ytbbaehmfadpgeaa
open Go.RowKit Go.Shelf
set_option linter.unusedSimpArgs false
def exA : Rc := ⟨1, 5, 10, 60, 30⟩
def exB : Rc := ⟨2, 3, 20, 50, 40⟩
def exC : Rc := ⟨3, 5, 30, 80, 50⟩
theorem exA_ok : OkR exA := by unfold OkR exA; decide
theorem exB_ok : OkR exB := by unfold OkR exB; decide
theorem exC_ok : OkR exC := by unfold OkR exC; decide
/-- the first record of the chapter's example fits as it is -/
theorem ex_one : fitL 100 (mu (insL exA [])) (insL exA []) [] = ([newH exA], []) := by decide
/-- the second one does when it is compressed -/
theorem ex_two : fitL 100 (mu (insL exB [newH exA])) (insL exB [newH exA]) [] = ([newH exA, { newH exB with small := true }], []) := by decide
/-- with the third one, the second one is dropped -/
theorem ex_three : fitL 100 (mu (insL exC [newH exA, { newH exB with small := true }])) (insL exC [newH exA, { newH exB with small := true }]) [] = ([{ newH exC with small := true }, { newH exA with small := true }], [2]) ∧ usL [{ newH exC with small := true }, { newH exA with small := true }] = 80 := by decide
set_option maxHeartbeats 1000000 in
theorem examples_any (w : World) : Calls Try.prog 55 #[] w fun e w' => e = .returned (.slice (some ⟨w.heap.size, 0, none⟩) 3 3) ∧ w' = w.alloc (.cells #[.int .i64 1, .int .i64 5, .int .i64 10, .int .i64 60, .int .i64 30, .int .i64 2, .int .i64 3, .int .i64 20, .int .i64 50, .int .i64 40, .int .i64 3, .int .i64 5, .int .i64 30, .int .i64 80, .int .i64 50] 23) := by
  go_enter Try.func55, Try.ntmps55
  go_wp2_with fail
  go_ret
  exact ⟨rfl, rfl⟩

end Go.Proofs.Ytbbaehmfadpgeaa

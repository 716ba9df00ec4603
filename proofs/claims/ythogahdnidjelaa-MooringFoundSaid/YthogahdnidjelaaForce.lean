/-
  over, outward, force.
-/
import Derived.Test.YthogahdnidjelaaForceMath
import Derived.Test.YthogahdnidjelaaRoot
import Derived.Laws.EntriesVeiled
namespace Go.Proofs.Ythogahdnidjelaa
open Go.RowKit Go.Shelf
set_option linter.unusedSimpArgs false
/-- what over returns: two closures over the cells of two new blocks -/
def ovv (b1 b2 : Nat) : Value := .agg #[.func (.func 109) #[] #[.pointer (some ⟨b1, 0, none⟩)], .func (.func 110) #[] #[.pointer (some ⟨b2, 0, none⟩)]]
set_option maxHeartbeats 400000 in
theorem over_any (s t : Int) (w : World) :
    Calls Try.prog 95 #[.int .i64 s, .int .i64 t] w fun e w' => e = .returned (ovv w.heap.size (w.heap.size + 1)) ∧
      w'.cell? ⟨w.heap.size, 0, none⟩ = some (.int .i64 s) ∧ w'.cell? ⟨w.heap.size + 1, 0, none⟩ = some (.int .i64 t) ∧ w.heap.size + 2 ≤ w'.heap.size ∧ Below w.heap.size w w' := by
  unfold ovv
  go_enter Try.func95, Try.ntmps95
  go_wp2_with fail
  refine bodyPost_ret (v := ovv w.heap.size (w.heap.size + 1)) (by unfold ovv; simp [results, Try.results95, go_sem]) rfl ⟨rfl, ?_, ?_, ?_, ?_⟩
  · simp [go_sem]
  · simp [go_sem]
  · simp
  · repeat (first | exact Below.refl _ _ | refine Below.setCell ?_ (by first | omega | (simp; omega) | simp) _ | refine Below.alloc ?_ (by first | omega | (simp; omega) | simp) _)
theorem tdiv_nn {x s : Int} (hx : 0 ≤ x) : x.tdiv s = x / s := Int.tdiv_eq_ediv_of_nonneg hx
set_option maxHeartbeats 400000 in
theorem down_any (x s : Int) (b : Nat) (w : World) (hx : 0 ≤ x) (hx2 : x ≤ 4611686018427387904) (hs : 1 ≤ s) (hs2 : s ≤ 4611686018427387904) (hc : w.cell? ⟨b, 0, none⟩ = some (.int .i64 s)) :
    Calls Try.prog 109 #[.int .i64 x, .pointer (some ⟨b, 0, none⟩)] w fun e w' => e = .returned (.int .i64 (x / s)) ∧ w' = w := by
  have h0 : 0 ≤ x / s := Int.ediv_nonneg hx (by omega)
  have h1 : x / s ≤ x := Int.ediv_le_self _ hx
  have e : x.tdiv s = x / s := tdiv_nn hx
  have hz : (s == 0) = false := by simp; omega
  generalize hq : x / s = q at *
  have HQ := Lib.hid hq
  clear hq
  go_enter Try.func109, Try.ntmps109
  go_wp2_with fail
  go_ret
  exact ⟨by first | rfl | (simp [e, HQ.out]), by first | rfl | trivial⟩
set_option maxHeartbeats 400000 in
theorem up_any (x s : Int) (b : Nat) (w : World) (hx : 0 ≤ x) (hx2 : x ≤ 2305843009213693952) (hs : 1 ≤ s) (hs2 : s ≤ 2305843009213693952) (hc : w.cell? ⟨b, 0, none⟩ = some (.int .i64 s)) :
    Calls Try.prog 110 #[.int .i64 x, .pointer (some ⟨b, 0, none⟩)] w fun e w' => e = .returned (.int .i64 ((x + s - 1) / s)) ∧ w' = w := by
  have h0 : 0 ≤ (x + s - 1) / s := Int.ediv_nonneg (by omega) (by omega)
  have h1 : (x + s - 1) / s ≤ x + s - 1 := Int.ediv_le_self _ (by omega)
  have e : (x + s - 1).tdiv s = (x + s - 1) / s := tdiv_nn (by omega)
  have hz : (s == 0) = false := by simp; omega
  generalize hq : (x + s - 1) / s = q at *
  have HQ := Lib.hid hq
  clear hq
  go_enter Try.func110, Try.ntmps110
  go_wp2_with fail
  go_ret
  exact ⟨by first | rfl | (simp [e, HQ.out]), by first | rfl | trivial⟩
end Go.Proofs.Ythogahdnidjelaa

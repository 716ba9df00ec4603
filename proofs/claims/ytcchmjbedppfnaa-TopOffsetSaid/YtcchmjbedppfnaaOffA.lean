/-
  TopOffset: the guard on the sizes.
-/
import Derived.Test.YtcchmjbedppfnaaOffMath
import Derived.Test.YtcchmjbedppfnaaTbE
namespace Go.Proofs.Ytcchmjbedppfnaa
open Go.RowKit Go.Shelf
set_option linter.unusedSimpArgs false
set_option maxRecDepth 100000 in
set_option maxHeartbeats 1000000 in
/-- few58 of one clock -/
theorem few_one (n : Nat) (a : Option Addr) (cap B : Nat) (w : World) (h2 : w.cell? ⟨B, 2, none⟩ = some (.slice a n cap)) :
    Calls Try.prog 58 #[.slice (some ⟨B, 0, none⟩) 1 1] w fun e w' => e = .returned (.bool (decide (n ≤ 12))) ∧ w' = w := by
  have H2 := Lib.hid h2
  clear h2
  go_enter Try.func58, Try.ntmps58
  go_wp2_with fail
  go_loopw [3] (fun iv wr => ∃ k : Int, iv = .int .i64 k ∧ (k = 0 ∨ k = 1 ∧ n ≤ 12) ∧ wr = w) (fun iv _ => (1 - intOf iv).toNat)
  case atStart => exact ⟨0, rfl, .inl rfl, rfl⟩
  case round =>
    obtain ⟨k, rfl, hv, hwr⟩ := hrel
    subst hwr
    rcases hv with rfl | ⟨rfl, hn⟩
    · have d2 := H2.out
      by_cases hn : (12 : Int) < (n : Int)
      · have HD := Lib.hid (show decide (n ≤ 12) = false from decide_eq_false (by omega))
        go_wp2_with fail
        go_ret
        exact ⟨by rw [HD.out]; rfl, rfl⟩
      · have HD := Lib.hid (show n ≤ 12 by omega)
        go_wp2_with fail
        go_roundw
        case rel => exact ⟨1, by go_num, Or.inr (And.intro rfl HD.out), trivial⟩
        case measure => simp [intOf]
    · have HD := Lib.hid (show decide (n ≤ 12) = true from decide_eq_true hn)
      clear hn
      go_wp2_with fail
      go_ret
      exact ⟨by rw [HD.out]; rfl, rfl⟩
end Go.Proofs.Ytcchmjbedppfnaa

/-
  BoundTight: between; a block of ten answers.
-/
import Derived.Test.YtamelpfhbnkggaaTightMath
import Derived.Test.YtamelpfhbnkggaaWorks
namespace Go.Proofs.Ytamelpfhbnkggaa
open Go.RowKit Go.Shelf
set_option linter.unusedSimpArgs false
theorem prod_bd2 (x y : Int) (h1 : -1073741825 ≤ x) (h2 : x ≤ 1073741825) (h3 : -1073741824 ≤ y) (h4 : y ≤ 1073741824) : -1152921505680588800 ≤ x * y ∧ x * y ≤ 1152921505680588800 := by
  have e1 : (x * y).natAbs = x.natAbs * y.natAbs := Int.natAbs_mul x y
  have e2 : x.natAbs * y.natAbs ≤ 1073741825 * 1073741824 := Nat.mul_le_mul (by omega) (by omega)
  omega
set_option maxHeartbeats 1000000 in
theorem between_any (lo hi n d : Int) (l1 : -1073741825 ≤ lo) (l2 : lo ≤ 1073741825) (l3 : -1073741825 ≤ hi) (l4 : hi ≤ 1073741825) (d1 : -1073741824 ≤ d) (d2 : d ≤ 1073741824) (n1 : -4611686018427387904 ≤ n) (n2 : n ≤ 4611686018427387904) (w : World) :
    Calls Try.prog 69 #[.agg #[.int .i64 lo, .int .i64 hi], .int .i64 n, .int .i64 d] w fun e w' => e = .returned (.bool (betB lo hi n d)) ∧ Below w.heap.size w w' := by
  by_cases hd : d < 0
  · have e : betB lo hi n d = (decide (lo * (-d) ≤ -n) && decide (-n ≤ hi * (-d))) := if_pos hd
    rw [e]
    obtain ⟨p1, p2⟩ := prod_bd2 lo (-d) (by omega) (by omega) (by omega) (by omega)
    obtain ⟨p3, p4⟩ := prod_bd2 hi (-d) (by omega) (by omega) (by omega) (by omega)
    clear e
    go_enter Try.func69, Try.ntmps69
    go_wp2
    all_goals
      go_ret
      exact ⟨ret_bool (by first | rfl | (simp <;> omega)), (Below.refl _ _).alloc (Nat.le_refl _) _⟩
  · have e : betB lo hi n d = (decide (lo * d ≤ n) && decide (n ≤ hi * d)) := if_neg hd
    rw [e]
    obtain ⟨p1, p2⟩ := prod_bd2 lo d (by omega) (by omega) (by omega) (by omega)
    obtain ⟨p3, p4⟩ := prod_bd2 hi d (by omega) (by omega) (by omega) (by omega)
    clear e
    go_enter Try.func69, Try.ntmps69
    go_wp2
    all_goals
      go_ret
      exact ⟨ret_bool (by first | rfl | (simp <;> omega)), (Below.refl _ _).alloc (Nat.le_refl _) _⟩
end Go.Proofs.Ytamelpfhbnkggaa

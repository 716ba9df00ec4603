/-
  TopOffset: what its calls give.
-/
import Derived.Test.YtcchmjbedppfnaaOffA
import Derived.Test.YtcchmjbedppfnaaOffMath
import Derived.Test.YtcchmjbedppfnaaRkI
import Derived.Test.YtcchmjbedppfnaaCkR
import Derived.Test.YtcchmjbedppfnaaLawCtr
import Derived.Test.YtcchmjbedppfnaaMonMath
import Derived.Test.YtcchmjbedppfnaaTbE
namespace Go.Proofs.Ytcchmjbedppfnaa
open Go.RowKit Go.Shelf
set_option linter.unusedSimpArgs false
theorem max2_runO {P : Program} (w : World) (k k' : IntKind) (x y : Int) : (Builtin.max2 (.int k x) (.int k' y)).run P w = .ok (.int k (max x y)) w := by
  have e : (if y > x then y else x) = max x y := by rw [Int.max_def]; split <;> split <;> omega
  simp [Builtin.max2, e]
@[go_sem high] theorem run_max4O {P : Program} (w : World) (ts : Array TypeId) (t : TypeId) (k k' k'' k3 : IntKind) (x y z u : Int) :
    (Builtin.max_ ts t #[.int k x, .int k' y, .int k'' z, .int k3 u]).run P w = .ok (.int k (max (max (max x y) z) u)) w := by
  simp [Builtin.max_, max2_runO]
theorem fit_two (lo hi : Int) : (vB lo hi = true ∧ fit lo hi = ⟨lo, hi, 0⟩) ∨ fit lo hi = ⟨0, 0, 4⟩ := by
  unfold fit
  by_cases h : vB lo hi = true
  · rw [if_pos h]; exact .inl ⟨h, rfl⟩
  · rw [if_neg h]; exact .inr rfl
/-- a span moved back by another -/
theorem sub_two {F a b : Int} (h1 : -1073741824 ≤ F ∧ F ≤ 1073741824) (h2 : vB a b = true) : ∃ s0 s1 s2, (∀ W : World, Calls Try.prog 65 #[.agg #[.int .i64 F, .int .i64 F], .agg #[.int .i64 a, .int .i64 b]] W fun e w' => e = .returned (.tuple #[.agg #[.int .i64 s0, .int .i64 s1], .int .i64 s2]) ∧ Below W.heap.size W w') ∧ ((vB (F - b) (F - a) = true ∧ s0 = F - b ∧ s1 = F - a ∧ s2 = 0) ∨ s2 = 4) := by
  refine ⟨_, _, _, fun W => bsub_any F F a b W, ?_⟩
  have e : subS F F a b = fit (F - b) (F - a) := by unfold subS; rw [if_pos ⟨(vB_iff _ _).2 (by omega), h2⟩]
  rw [e]
  rcases fit_two (F - b) (F - a) with ⟨h, e⟩ | e <;> rw [e]
  · exact .inl ⟨h, rfl, rfl, rfl⟩
  · exact .inr rfl
theorem add_two {F a b : Int} (h1 : -1073741824 ≤ F ∧ F ≤ 1073741824) (h2 : vB a b = true) : ∃ s0 s1 s2, (∀ W : World, Calls Try.prog 66 #[.agg #[.int .i64 F, .int .i64 F], .agg #[.int .i64 a, .int .i64 b]] W fun e w' => e = .returned (.tuple #[.agg #[.int .i64 s0, .int .i64 s1], .int .i64 s2]) ∧ Below W.heap.size W w') ∧ ((vB (F + a) (F + b) = true ∧ s0 = F + a ∧ s1 = F + b ∧ s2 = 0) ∨ s2 = 4) := by
  refine ⟨_, _, _, fun W => badd_any F F a b W, ?_⟩
  have e : addS F F a b = fit (F + a) (F + b) := by unfold addS; rw [if_pos ⟨(vB_iff _ _).2 (by omega), h2⟩]
  rw [e]
  rcases fit_two (F + a) (F + b) with ⟨h, e⟩ | e <;> rw [e]
  · exact .inl ⟨h, rfl, rfl, rfl⟩
  · exact .inr rfl
theorem grow_two {a b g : Int} (h1 : vB a b = true) (h2 : 0 ≤ g ∧ g ≤ 1073741824) : ∃ s0 s1 s2, (∀ W : World, Calls Try.prog 67 #[.agg #[.int .i64 a, .int .i64 b], .int .i64 g] W fun e w' => e = .returned (.tuple #[.agg #[.int .i64 s0, .int .i64 s1], .int .i64 s2]) ∧ Below W.heap.size W w') ∧ ((vB (a - g) (b + g) = true ∧ s0 = a - g ∧ s1 = b + g ∧ s2 = 0) ∨ s2 = 4) := by
  refine ⟨_, _, _, fun W => bgrow_any a b g W, ?_⟩
  have e : growS a b g = fit (a - g) (b + g) := by unfold growS; rw [if_pos h1, if_pos h2]
  rw [e]
  rcases fit_two (a - g) (b + g) with ⟨h, e⟩ | e <;> rw [e]
  · exact .inl ⟨h, rfl, rfl, rfl⟩
  · exact .inr rfl
theorem scale_two {r d : Int} (hr : 0 ≤ r ∧ r ≤ 1000000) (hd : 0 ≤ d ∧ d ≤ 1073741824) : ∃ s0, ∀ W : World, Calls Try.prog 64 #[.agg #[.int .i64 d, .int .i64 d], .int .i64 r, .int .i64 1000000000] W fun e w' => e = .returned (.tuple #[.agg #[.int .i64 s0, .int .i64 (grw r d)], .int .i64 0]) ∧ Below W.heap.size W w' := by
  refine ⟨d * r / 1000000000, fun W => ?_⟩
  have c := bscale_any d d r 1000000000 W
  rw [scale_grw hr hd] at c
  exact c
theorem meet_two {a b c d : Int} (h1 : vB a b = true) (h2 : vB c d = true) : ∃ s0 s1 s2, (∀ W : World, Calls Try.prog 68 #[.agg #[.int .i64 a, .int .i64 b], .agg #[.int .i64 c, .int .i64 d]] W fun e w' => e = .returned (.tuple #[.agg #[.int .i64 s0, .int .i64 s1], .int .i64 s2]) ∧ Below W.heap.size W w') ∧ ((max a c ≤ min b d ∧ s0 = max a c ∧ s1 = min b d ∧ s2 = 0) ∨ (min b d < max a c ∧ s2 = 5)) := by
  refine ⟨_, _, _, fun W => bmeet_any a b c d W, ?_⟩
  unfold bmeetS
  rw [if_pos ⟨h1, h2⟩]
  by_cases h : min b d < max a c
  · rw [if_pos h]; exact .inr ⟨h, rfl⟩
  · rw [if_neg h]; exact .inl ⟨by omega, rfl, rfl, rfl⟩
end Go.Proofs.Ytcchmjbedppfnaa

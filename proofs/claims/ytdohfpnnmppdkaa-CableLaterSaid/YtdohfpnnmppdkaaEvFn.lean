/-
  Cables: numbers by parts of spans.
-/
import Derived.Test.YtdohfpnnmppdkaaEvMath
import Derived.Test.YtdohfpnnmppdkaaFrame
namespace Go.Proofs.Ytdohfpnnmppdkaa
open Go.RowKit Go.Shelf
set_option linter.unusedSimpArgs false
attribute [local go_sem] Oper.semAt_some
theorem Sk.mono {kk : IntKind} {n₀ m : Nat} {W W' : World} {v : Value} {zs : List Int} (h : Sk kk n₀ W v zs) (hb : Below n₀ W W') (hm : n₀ ≤ m) : Sk kk m W' v zs := by
  obtain ⟨a, cap, e, hl, hc⟩ := h
  exact ⟨a, cap, e, hl, fun k hk => by obtain ⟨hw, b, off, h1, h2, h3⟩ := hc k hk; exact ⟨hw, b, off, h1, Nat.lt_of_lt_of_le h2 hm, (hb.cell (p := ⟨b, _, none⟩) h2).trans h3⟩⟩
theorem Sk.at {kk : IntKind} {W W' : World} {v : Value} {zs : List Int} (h : Sk kk W.heap.size W v zs) (hb : Below W.heap.size W W') : Sk kk W'.heap.size W' v zs := h.mono hb hb.size
theorem Sk.form {kk : IntKind} {n₀ : Nat} {W : World} {v : Value} {zs : List Int} (h : Sk kk n₀ W v zs) : ∃ a c, v = .slice a zs.length c := by
  obtain ⟨a, c, rfl, -, -⟩ := h
  exact ⟨a, c, rfl⟩
theorem Sk.byt {n₀ : Nat} {W : World} {v : Value} {zs : List Int} (h : Sk .u8 n₀ W v zs) : Byt zs := by
  obtain ⟨a, c, -, -, hc⟩ := h
  exact fun i hi => u8_of_wf (hc i hi).1
/-- an element of a list of bytes, 0 if there is none -/
theorem at_any (v : Value) (zs : List Int) (i : Nat) (w : World) (h : Sk .u8 w.heap.size w v zs) :
    Calls Try.prog 52 #[v, .int .i64 (i : Int)] w fun e w' => e = .returned (.int .u8 (atV zs i)) ∧ w' = w := by
  obtain ⟨a, cap, rfl, -, hc⟩ := h
  unfold atV
  by_cases hlt : i < zs.length
  · rw [if_pos hlt]
    obtain ⟨-, b, off, rfl, hb, c0⟩ := hc i hlt
    generalize ti zs i = t at *
    generalize zs.length = n at *
    have hin : (i : Int) < (n : Int) := by omega
    clear hc
    go_enter Try.func52, Try.ntmps52
    go_wp2_with fail
    go_ret
    exact ⟨rfl, rfl⟩
  · rw [if_neg hlt]
    generalize zs.length = n at *
    have hin : ¬ (i : Int) < (n : Int) := by omega
    clear hc
    go_enter Try.func52, Try.ntmps52
    go_wp2_with fail
    go_ret
    exact ⟨rfl, rfl⟩
/-- a number of a span -/
theorem pick_any (lo hi p : Int) (h0 : 0 ≤ lo) (h1 : lo ≤ hi) (h2 : hi ≤ 4294967296) (h3 : 0 ≤ p) (h4 : p ≤ 255) (w : World) :
    Calls Try.prog 51 #[.agg #[.int .i64 lo, .int .i64 hi], .int .u8 p] w fun e w' => e = .returned (.int .i64 (pickV lo hi p)) ∧ Below w.heap.size w w' := by
  have hin := pickV_in h1 h3 h4
  have hm0 : 0 ≤ (hi - lo) * p := Int.mul_nonneg (by omega) h3
  have hm1 : (hi - lo) * p ≤ (hi - lo) * 255 := Int.mul_le_mul_of_nonneg_left h4 (by omega)
  have hq : ((hi - lo) * p).tdiv 255 = (hi - lo) * p / 255 := Int.tdiv_eq_ediv_of_nonneg hm0
  have hpk : lo + (hi - lo) * p / 255 = pickV lo hi p := rfl
  have w0 : IntKind.wrap .i64 p = p := by rw [IntKind.wrap_i64]; omega
  have w1 : IntKind.wrap .i64 (hi - lo) = hi - lo := by rw [IntKind.wrap_i64]; omega
  have w2 : IntKind.wrap .i64 ((hi - lo) * p) = (hi - lo) * p := by rw [IntKind.wrap_i64]; omega
  have w3 : IntKind.wrap .i64 ((hi - lo) * p / 255) = (hi - lo) * p / 255 := by rw [IntKind.wrap_i64]; omega
  have w4 : IntKind.wrap .i64 (pickV lo hi p) = pickV lo hi p := by rw [IntKind.wrap_i64]; omega
  have HB := Lib.hid (show Below w.heap.size w (w.alloc (.cells #[.int .i64 lo, .int .i64 hi] 23)) from (Below.refl _ _).alloc (Nat.le_refl _) _)
  go_enter Try.func51, Try.ntmps51
  go_wp2_with fail
  go_ret
  exact ⟨by first | rfl | (simp [*]; done), HB.out⟩
end Go.Proofs.Ytdohfpnnmppdkaa

/-
  Cables: numbers by parts of spans.
-/
import Derived.Test.YtdohfpnnmppdkaaGreatEvMath
import Derived.Test.YtdohfpnnmppdkaaGreatFrame
namespace Go.Proofs.YtdohfpnnmppdkaaGreat
open Go.RowKit Go.Shelf
set_option linter.unusedSimpArgs false
attribute [local go_sem] Oper.semAt_some
theorem Sk.mono {kk : IntKind} {n₀ m : Nat} {W W' : World} {v : Value} {zs : List Int} (h : Sk kk n₀ W v zs) (hb : Below n₀ W W') (hm : n₀ ≤ m) : Sk kk m W' v zs := by
  obtain ⟨a, cap, e, hl, hc⟩ := h
  exact ⟨a, cap, e, hl, fun k hk => by obtain ⟨hw, b, off, h1, h2, h3⟩ := hc k hk; exact ⟨hw, b, off, h1, Nat.lt_of_lt_of_le h2 hm, (hb.cell (p := ⟨b, _, none⟩) h2).trans h3⟩⟩
theorem Sk.at {kk : IntKind} {W W' : World} {v : Value} {zs : List Int} (h : Sk kk W.heap.size W v zs) (hb : Below W.heap.size W W') : Sk kk W'.heap.size W' v zs := h.mono hb hb.size
theorem Sk.form {kk : IntKind} {n₀ : Nat} {W : World} {v : Value} {zs : List Int} (h : Sk kk n₀ W v zs) : ∃ a c, v = .slice a zs.length c := by
  obtain ⟨a, c, rfl, -, -⟩ := h
  exact ⟨a, c, rfl⟩
theorem Sk.byt {n₀ : Nat} {W : World} {v : Value} {zs : List Int} (h : Sk .u8 n₀ W v zs) : Byt zs := by
  obtain ⟨a, c, -, -, hc⟩ := h
  exact fun i hi => u8_of_wf (hc i hi).1
end Go.Proofs.YtdohfpnnmppdkaaGreat

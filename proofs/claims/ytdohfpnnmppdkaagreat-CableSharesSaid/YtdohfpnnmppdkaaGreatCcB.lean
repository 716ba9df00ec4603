/-
  Cables: the reference's voltages.
-/
import Derived.Test.YtdohfpnnmppdkaaGreatCcA
namespace Go.Proofs.YtdohfpnnmppdkaaGreat
open Go.RowKit Go.Shelf
set_option linter.unusedSimpArgs false
attribute [local go_sem] Oper.semAt_some
theorem own_one (W : World) (x y : Value) (base : Nat) (hb : base ≤ W.heap.size) : (W.alloc (.cells #[x, y] 23)).ownsRow base 23 2 (.slice (some ⟨W.heap.size, 0, none⟩) 1 1) 1 [x, y] :=
  ⟨rfl, .inr ⟨_, 1, _, rfl, hb, World.alloc_heap_new W _, Nat.le_refl _, by unfold maxLen; omega, rfl, rfl⟩⟩
end Go.Proofs.YtdohfpnnmppdkaaGreat

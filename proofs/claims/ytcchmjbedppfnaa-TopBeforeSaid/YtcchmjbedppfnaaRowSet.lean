/-
  Clock: an element of a row of one's own is replaced.
-/
import Derived.Test.YtcchmjbedppfnaaCkV
namespace Go.Proofs.Ytcchmjbedppfnaa
open Go.RowKit Go.Shelf
set_option linter.unusedSimpArgs false
theorem own_cell {W : World} {base g o size n : Nat} {e : TypeId} {v : Value} {xs : List Value} (h : W.ownsRow base e size v n xs) (hv : v.ownBlock = some g) (u : Value) : (W.setCell ⟨g, o, none⟩ u).ownsRow base e size v n (xs.set o u) := by
  refine ⟨by rw [List.length_set]; exact h.1, ?_⟩
  rcases h.2 with ⟨rfl, -⟩ | ⟨g', cap, cur, rfl, hb, hg, r1, r2, r3, r4⟩
  · simp [Value.ownBlock] at hv
  · simp only [Value.ownBlock, Option.some.injEq] at hv
    subst hv
    refine .inr ⟨g', cap, cur.setIfInBounds o u, rfl, hb, ?_, r1, r2, by simpa using r3, ?_⟩
    · simp [World.setCell, Array.getElem?_modify, hg]
    · rw [← r4, Array.toList_setIfInBounds, List.take_set]
end Go.Proofs.Ytcchmjbedppfnaa

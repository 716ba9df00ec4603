/-
  Cables: the examples of the chapter.
-/
import Derived.Test.YtdohfpnnmppdkaaProg
import Derived.Test.YtdohfpnnmppdkaaCbD
import Derived.Test.YtdohfpnnmppdkaaCbF
import Derived.Test.YtdohfpnnmppdkaaCbK
import Derived.Test.YtdohfpnnmppdkaaCbG
import Derived.Test.YtdohfpnnmppdkaaCbH
import Derived.Maps.Own
import Derived.Maps.Views
import Derived.Shelf.SlIterI.Nil
import Derived.Shelf.SortM.Plain
import Derived.Shelf.SortM.SortNone
import Derived.Ground.GgzProg
import Derived.Ground.SlgmProg
namespace Go.Proofs.Ytdohfpnnmppdkaa
open Go.RowKit Go.Shelf
set_option linter.unusedSimpArgs false
attribute [local go_sem] Oper.semAt_some
theorem il_nil (n : Nat) (W : World) : Il n W (.slice none 0 0) [] := ⟨_, _, rfl, Nat.le_refl _, fun _ hk => absurd hk (Nat.not_lt_zero _)⟩
/-- a row of numbers of the call's own, as a slice of numbers -/
theorem il_of_own {W : World} {base : Nat} {v : Value} {l : List Nat} (h : W.ownsRow base 3 1 v l.length (flatN l)) : Il W.heap.size W v (zs l) := by
  have hz : (zs l).length = l.length := by unfold zs; simp
  obtain ⟨hl, h⟩ := h
  rcases h with ⟨hv, h0⟩ | ⟨g, cap, cur, hv, hb, hg, hc1, hc2, hs, ht⟩
  · subst hv
    obtain rfl : l = [] := by cases l with | nil => rfl | cons => simp at h0
    exact il_nil _ _
  · subst hv
    refine ⟨some ⟨g, 0, none⟩, cap, by rw [hz], by rw [hz]; exact hc1, fun k hk => ⟨g, 0, rfl, (Array.getElem?_eq_some_iff.1 hg).1, ?_⟩⟩
    rw [hz] at hk
    rw [cellHB hg, Nat.zero_add]
    have e : cur.toList[k]? = (flatN l)[k]? := by
      rw [← ht, List.getElem?_take_of_lt (by simpa using hk)]
    have e2 : cur[k]? = (flatN l)[k]? := by simpa using e
    rw [e2]
    unfold flatN ti zs
    simp [hk]
end Go.Proofs.Ytdohfpnnmppdkaa

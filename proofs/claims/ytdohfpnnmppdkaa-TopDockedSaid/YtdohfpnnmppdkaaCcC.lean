/-
  Cables: lists of spans and answers compared; currents and voltages of both sides.
-/
import Derived.Test.YtdohfpnnmppdkaaCbD
import Derived.Test.YtdohfpnnmppdkaaProg
import Derived.Test.YtdohfpnnmppdkaaCbQ
import Derived.Test.YtdohfpnnmppdkaaCbC
import Derived.Test.YtdohfpnnmppdkaaCbH
import Derived.Test.YtdohfpnnmppdkaaCblVal
import Derived.Sort.OwnSortedInts
import Derived.Shelf.SlIterI.Nil
import Derived.Shelf.SortM.Plain
import Derived.Shelf.SortM.SortNone
import Derived.Ground.GgzProg
import Derived.Ground.SlgmProg
import Derived.Maps.Own
import Derived.Maps.Views
namespace Go.Proofs.Ytdohfpnnmppdkaa
open Go.RowKit Go.Shelf
set_option linter.unusedSimpArgs false
attribute [local go_sem] Oper.semAt_some
/-- the first n values of a function -/
def fL (f : Nat → Int) (n : Nat) : List Int := (List.range n).map f
theorem fL_len (f : Nat → Int) (n : Nat) : (fL f n).length = n := by unfold fL; simp
theorem fL_ti (f : Nat → Int) {n k : Nat} (hk : k < n) : ti (fL f n) k = f k := by unfold fL ti; simp [hk]
end Go.Proofs.Ytdohfpnnmppdkaa

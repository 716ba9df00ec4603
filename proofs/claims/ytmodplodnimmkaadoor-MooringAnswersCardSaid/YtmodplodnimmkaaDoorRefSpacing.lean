/-
  The reference's codes and Spacing.
-/
import Derived.Test.YtmodplodnimmkaaDoorSpacing
import Derived.Deep.RegionHeld3
namespace Go.Proofs.YtmodplodnimmkaaDoor
open Go.RowKit Go.Shelf
set_option linter.unusedSimpArgs false
end Go.Proofs.YtmodplodnimmkaaDoor

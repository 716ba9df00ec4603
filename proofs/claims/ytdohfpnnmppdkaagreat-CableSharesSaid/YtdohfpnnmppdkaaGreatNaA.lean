/-
  Cables: narrower spans.
-/
import Derived.Test.YtdohfpnnmppdkaaGreatCcC
import Derived.Test.YtdohfpnnmppdkaaGreatEvFn
namespace Go.Proofs.YtdohfpnnmppdkaaGreat
open Go.RowKit Go.Shelf
set_option linter.unusedSimpArgs false
attribute [local go_sem] Oper.semAt_some
theorem pickV_mono {lo hi p q : Int} (h : lo ≤ hi) (h0 : p ≤ q) : pickV lo hi p ≤ pickV lo hi q := by
  unfold pickV
  have h2 : (hi - lo) * p ≤ (hi - lo) * q := Int.mul_le_mul_of_nonneg_left h0 (by omega)
  have := Int.ediv_le_ediv (show (0 : Int) < 255 by decide) h2
  omega
end Go.Proofs.YtdohfpnnmppdkaaGreat

/-
  Cables: the reference's order of nodes.
-/
import Derived.Test.YtdohfpnnmppdkaaShG
import Derived.Deep.AppendLies
namespace Go.Proofs.Ytdohfpnnmppdkaa
open Go.RowKit Go.Shelf
set_option linter.unusedSimpArgs false
attribute [local go_sem] Oper.semAt_some
theorem add_at (b o i : Nat) : (⟨b, o, none⟩ : Addr).add i = ⟨b, o + i, none⟩ := by unfold Addr.add; split <;> simp_all
end Go.Proofs.Ytdohfpnnmppdkaa

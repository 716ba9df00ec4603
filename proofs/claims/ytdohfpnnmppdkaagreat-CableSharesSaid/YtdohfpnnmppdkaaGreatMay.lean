/-
  Facts of the whole program, each apart: the kernel's memory.
-/
import Derived.Test.YtdohfpnnmppdkaaGreatFrame
namespace Go.Proofs.YtdohfpnnmppdkaaGreat
open Go.ChangeShapes Go.WideShapes Go.ChangeAt Go.RowKit
theorem may_enter : Tryz.pinned.checked.prog.mayEnter = true := by kernel_rfl
theorem lifts_final : Tryz.pinned.checked.prog.liftsFinal = Rows.cableGrantedRow.lifted := by kernel_rfl
theorem make_is : Tryz.pinned.checked.prog.make = some Rows.cableGrantedRow.make := by kernel_rfl
theorem laid_out : laidOutB Tryz.pinned.checked.prog = true := by kernel_rfl
theorem maps_rowed : mapsRowed Tryz.pinned.checked.prog = true := by kernel_rfl
theorem plain_keys : Tryz.pinned.checked.prog.plainKeys = Rows.cableGrantedRow.plainKeys := by kernel_rfl
theorem stops_heard : Tryz.pinned.checked.prog.stopsHeard = true := by kernel_rfl
end Go.Proofs.YtdohfpnnmppdkaaGreat

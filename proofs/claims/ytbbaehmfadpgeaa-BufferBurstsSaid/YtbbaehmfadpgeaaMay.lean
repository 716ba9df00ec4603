/-
  Facts of the whole program, each apart: the kernel's memory.
-/
import Derived.Test.YtbbaehmfadpgeaaFrame
namespace Go.Proofs.Ytbbaehmfadpgeaa
open Go.ChangeShapes Go.WideShapes Go.ChangeAt Go.RowKit
theorem may_enter : Try.pinned.checked.prog.mayEnter = true := by kernel_rfl
theorem lifts_final : Try.pinned.checked.prog.liftsFinal = Rows.bufferRecordsRow.lifted := by kernel_rfl
theorem make_is : Try.pinned.checked.prog.make = some Rows.bufferRecordsRow.make := by kernel_rfl
theorem laid_out : laidOutB Try.pinned.checked.prog = true := by kernel_rfl
theorem maps_rowed : mapsRowed Try.pinned.checked.prog = true := by kernel_rfl
theorem plain_keys : Try.pinned.checked.prog.plainKeys = Rows.bufferRecordsRow.plainKeys := by kernel_rfl
theorem stops_heard : Try.pinned.checked.prog.stopsHeard = true := by kernel_rfl
end Go.Proofs.Ytbbaehmfadpgeaa

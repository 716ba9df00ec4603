/-
  Arguments opened: a box, four numbers of 16 bits.
-/
import Derived.Test.YtamelpfhbnkggaaFrame
import Derived.Laws.IdiomArrays
namespace Go.Proofs.Ytamelpfhbnkggaa
open Go.ChangeShapes Go.WideShapes Go.ChangeAt Go.RowKit Go.Joins
theorem cells56 : Try.prog.cellsOf 56 = 4 := by kernel_rfl
section
variable {H : Type} {enc : TypeId × Value → H} {W : World} {base : Nat} {v : Value} {d : DataW H} {p : List MemPlace}
set_option maxRecDepth 100000 in
theorem open_box (hv : Value.okWide Try.prog W .any base 56 v) (h : DataW.Trod enc Try.prog W 0 (fun _ => true) true 56 v d p) : ∃ a b c e : Int, v = .agg #[.int .i64 a, .int .i64 b, .int .i64 c, .int .i64 e] ∧ I64 a ∧ I64 b ∧ I64 c ∧ I64 e := by
  obtain ⟨cs, rfl, hsz⟩ := okWide_struct Try.underlying56 hv
  obtain ⟨c0, c1, c2, c3, rfl⟩ := array4 (hsz.trans cells56)
  obtain ⟨fuel, hf⟩ := h
  obtain ⟨y0, y1, n, -, -, h0, h1⟩ := trod_struct2 Try.underlying56 hf
  simp [Value.cells, cells23] at h0 h1
  obtain ⟨z0, z1, m, -, -, g0, g1⟩ := trod_struct2 Try.underlying23 h0
  obtain ⟨z2, z3, m', -, -, g2, g3⟩ := trod_struct2 Try.underlying23 h1
  have k2 : Try.prog.cellsOf 2 = 1 := by kernel_rfl
  simp [k2] at g0 g1 g2 g3
  obtain ⟨a, e0, -, wa⟩ := DataW.trod_int Try.underlying2 g0
  obtain ⟨b, e1, -, wb⟩ := DataW.trod_int Try.underlying2 g1
  obtain ⟨c, e2, -, wc⟩ := DataW.trod_int Try.underlying2 g2
  obtain ⟨e, e3, -, we⟩ := DataW.trod_int Try.underlying2 g3
  simp at e0 e1 e2 e3
  subst e0 e1 e2 e3
  exact ⟨a, b, c, e, rfl, i64_of_wf wa, i64_of_wf wb, i64_of_wf wc, i64_of_wf we⟩
theorem cells79 : Try.prog.cellsOf 79 = 4 := by kernel_rfl
set_option maxRecDepth 100000 in
theorem open_u16x4 (hv : Value.okWide Try.prog W .any base 79 v) (h : DataW.Trod enc Try.prog W 0 (fun _ => true) true 79 v d p) : ∃ a b c e : Int, v = .agg #[.int .u16 a, .int .u16 b, .int .u16 c, .int .u16 e] ∧ (0 ≤ a ∧ a ≤ 65535) ∧ (0 ≤ b ∧ b ≤ 65535) ∧ (0 ≤ c ∧ c ≤ 65535) ∧ (0 ≤ e ∧ e ≤ 65535) := by
  simp only [Value.okWide, Try.underlying79] at hv
  obtain ⟨cs, rfl, hsz, _⟩ := hv
  obtain ⟨c0, c1, c2, c3, rfl⟩ := array4 (hsz.trans cells79)
  obtain ⟨fuel, hf⟩ := h
  obtain ⟨y0, y1, y2, y3, n, -, g0, g1, g2, g3⟩ := trod_array4 Try.underlying79 (by kernel_rfl) hf
  obtain ⟨a, e0, -, wa⟩ := DataW.trod_int Try.underlying62 g0
  obtain ⟨b, e1, -, wb⟩ := DataW.trod_int Try.underlying62 g1
  obtain ⟨c, e2, -, wc⟩ := DataW.trod_int Try.underlying62 g2
  obtain ⟨e, e3, -, we⟩ := DataW.trod_int Try.underlying62 g3
  simp at e0 e1 e2 e3
  subst e0 e1 e2 e3
  exact ⟨a, b, c, e, rfl, u16_of_wf wa, u16_of_wf wb, u16_of_wf wc, u16_of_wf we⟩
end
end Go.Proofs.Ytamelpfhbnkggaa

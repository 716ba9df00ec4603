/-
  Clock: more openers of arguments.
-/
import Derived.Test.YtcchmjbedppfnaaFrame
namespace Go.Proofs.Ytcchmjbedppfnaa
open Go.ChangeShapes Go.WideShapes Go.ChangeAt Go.RowKit Go.Joins
set_option linter.unusedSimpArgs false
section
variable {H : Type} {enc : TypeId × Value → H} {W : World} {base : Nat} {v : Value} {d : DataW H} {p : List MemPlace}
set_option maxRecDepth 100000 in
theorem open_u16 (hv : Value.okWide Try.prog W .any base 77 v) (h : DataW.Trod enc Try.prog W 0 (fun _ => true) true 77 v d p) : ∃ a : Int, v = .int .u16 a ∧ 0 ≤ a ∧ a ≤ 65535 := by
  obtain ⟨a, rfl, rfl, rfl, wa⟩ := open_int Try.underlying77 hv h
  exact ⟨a, rfl, u16_of_wf wa⟩
set_option maxRecDepth 100000 in
theorem open_u32 (hv : Value.okWide Try.prog W .any base 68 v) (h : DataW.Trod enc Try.prog W 0 (fun _ => true) true 68 v d p) : ∃ a : Int, v = .int .u32 a ∧ 0 ≤ a ∧ a ≤ 4294967295 := by
  obtain ⟨a, rfl, rfl, rfl, wa⟩ := open_int Try.underlying68 hv h
  exact ⟨a, rfl, u32_of_wf wa⟩
set_option maxRecDepth 100000 in
theorem open_xch (hv : Value.okWide Try.prog W .any base 25 v) (h : DataW.Trod enc Try.prog W 0 (fun _ => true) true 25 v d p) : ∃ x : Xc, v = x.val := by
  obtain ⟨cs, rfl, hsz⟩ := okWide_struct Try.underlying25 hv
  obtain ⟨fuel, hf⟩ := h
  rw [cells25] at hsz
  obtain ⟨l⟩ := cs
  match l, hsz with
  | [v0, v1, v2, v3, v4, v5, v6, v7], _ =>
    obtain ⟨y, z0, z1, z2, z3, z4, z5, z6, z7⟩ := oct_of (by simpa [Value.cells] using hf)
    subst z0 z1 z2 z3 z4 z5 z6 z7
    exact ⟨y, rfl⟩
end
end Go.Proofs.Ytcchmjbedppfnaa

/-
  Opener of two bytes (TopDocked's row).
-/
import Derived.Test.YtdohfpnnmppdkaaOpenWir
namespace Go.Proofs.Ytdohfpnnmppdkaa
open Go.ChangeShapes Go.WideShapes Go.ChangeAt Go.RowKit Go.Joins
set_option linter.unusedSimpArgs false
section
variable {H : Type} {enc : TypeId × Value → H} {W : World} {base : Nat} {v : Value} {d : DataW H} {p : List MemPlace}
set_option maxRecDepth 100000 in
theorem open_u8x2 (hv : Value.okWide Try.prog W .any base 108 v) (h : DataW.Trod enc Try.prog W 0 (fun _ => true) true 108 v d p) : ∃ a b : Int, v = .agg #[.int .u8 a, .int .u8 b] ∧ (0 ≤ a ∧ a ≤ 255) ∧ (0 ≤ b ∧ b ≤ 255) := by
  simp only [Value.okWide, Try.underlying108] at hv
  obtain ⟨cs, rfl, hsz, _⟩ := hv
  obtain ⟨c0, c1, rfl⟩ := array2 (hsz.trans cells108)
  obtain ⟨fuel, hf⟩ := h
  obtain ⟨n, y0, y1, g0, g1⟩ := pair_of_arr Try.underlying108 cells5 hf
  obtain ⟨a, e0, -, wa⟩ := DataW.trod_int Try.underlying5 g0
  obtain ⟨b, e1, -, wb⟩ := DataW.trod_int Try.underlying5 g1
  simp at e0 e1
  subst e0 e1
  exact ⟨a, b, rfl, u8_of_wf wa, u8_of_wf wb⟩
end
end Go.Proofs.Ytdohfpnnmppdkaa

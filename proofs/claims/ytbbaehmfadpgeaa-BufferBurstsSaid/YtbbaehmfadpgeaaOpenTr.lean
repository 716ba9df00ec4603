/-
  Arguments opened: bursts by small numbers.
-/
import Derived.Test.YtbbaehmfadpgeaaOpenPc
import Derived.Test.YtbbaehmfadpgeaaLawBs
namespace Go.Proofs.Ytbbaehmfadpgeaa
open Go.ChangeShapes Go.WideShapes Go.ChangeAt Go.RowKit Go.Joins
set_option linter.unusedSimpArgs false
theorem cells88 : Try.prog.cellsOf 88 = 3 := by kernel_rfl
section
variable {H : Type} {enc : TypeId × Value → H} {W : World} {base : Nat} {v : Value} {d : DataW H} {p : List MemPlace}
set_option maxRecDepth 100000 in
theorem tr_of {b off n : Nat} {cs' : List Value} {x : DataW H × List MemPlace} (h1 : W.cells? 0 (⟨b, off, none⟩ : Addr) 3 = some cs') (h2 : DataW.trod enc Try.prog W 0 (fun _ => true) true n 88 cs' = some x) : ∃ y : Tr, trC W y b off := by
  obtain ⟨_, hlen, hcell⟩ := World.cells?_some h1
  match cs', hlen with
  | [v0, v1, v2], _ =>
    have e0 := hcell 0 (by omega)
    have e1 := hcell 1 (by omega)
    have e2 := hcell 2 (by omega)
    rw [add_plain] at e0 e1 e2
    obtain ⟨y0, y1, y2, m, -, g0, g1, g2⟩ := trod_array3 Try.underlying88 cells5 h2
    obtain ⟨x0, z0, -, w0⟩ := DataW.trod_int Try.underlying5 g0
    obtain ⟨x1, z1, -, w1⟩ := DataW.trod_int Try.underlying5 g1
    obtain ⟨x2, z2, -, w2⟩ := DataW.trod_int Try.underlying5 g2
    simp at z0 z1 z2
    subst z0 z1 z2
    exact ⟨⟨x0, x1, x2⟩, by simpa using e0, by simpa using e1, by simpa using e2, u8_of_wf w0, u8_of_wf w1, u8_of_wf w2⟩
set_option maxRecDepth 100000 in
theorem u83l_of {fuel : Nat} {u : Value} {x : DataW H × List MemPlace} (hf : DataW.trod enc Try.prog W 0 (fun _ => true) true fuel 87 [u] = some x) : ∃ ts : List Tr, TrA W u ts := by
  obtain ⟨zs, a, c, e, hle, hz⟩ := rows_of (α := Tr) (fun y b off => trC W y b off) Try.underlying87 cells88 (by omega) (fun b off n cs' x h1 h2 => tr_of h1 h2) hf
  exact ⟨zs, a, c, e, hz⟩
set_option maxRecDepth 100000 in
theorem open_u83l (hv : Value.okWide Try.prog W .any base 87 v) (h : DataW.Trod enc Try.prog W 0 (fun _ => true) true 87 v d p) : ∃ ts : List Tr, TrA W v ts := by
  obtain ⟨a, n, c, rfl, -⟩ := okWide_slice Try.underlying87 hv
  obtain ⟨fuel, hf⟩ := h
  rw [slice_cells] at hf
  exact u83l_of hf
end
end Go.Proofs.Ytbbaehmfadpgeaa

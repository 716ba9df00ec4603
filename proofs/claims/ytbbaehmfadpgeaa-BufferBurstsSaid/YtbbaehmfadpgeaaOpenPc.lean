/-
  Arguments opened: pieces, numbers of 16 bits.
-/
import Derived.Test.YtbbaehmfadpgeaaFrame
import Derived.Test.YtbbaehmfadpgeaaBfZ
namespace Go.Proofs.Ytbbaehmfadpgeaa
open Go.ChangeShapes Go.WideShapes Go.ChangeAt Go.RowKit Go.Joins
set_option linter.unusedSimpArgs false
theorem cells5 : Try.prog.cellsOf 5 = 1 := by kernel_rfl
theorem cells77 : Try.prog.cellsOf 77 = 5 := by kernel_rfl
section
variable {H : Type} {enc : TypeId × Value → H} {W : World} {base : Nat} {v : Value} {d : DataW H} {p : List MemPlace}
set_option maxRecDepth 100000 in
theorem piece_of {b off n : Nat} {cs' : List Value} {x : DataW H × List MemPlace} (h1 : W.cells? 0 (⟨b, off, none⟩ : Addr) 5 = some cs') (h2 : DataW.trod enc Try.prog W 0 (fun _ => true) true n 77 cs' = some x) : ∃ y : Pc, pcC W y b off := by
  obtain ⟨_, hlen, hcell⟩ := World.cells?_some h1
  match cs', hlen with
  | [v0, v1, v2, v3, v4], _ =>
    have e0 := hcell 0 (by omega)
    have e1 := hcell 1 (by omega)
    have e2 := hcell 2 (by omega)
    have e3 := hcell 3 (by omega)
    have e4 := hcell 4 (by omega)
    rw [add_plain] at e0 e1 e2 e3 e4
    obtain ⟨xs, k, hk, hxy, _, hxl, hf⟩ := DataW.trod_struct Try.underlying77 h2
    match xs, hxl with
    | [y0, y1, y2, y3, y4], _ =>
      have g0 := hf 0 _ rfl
      have g1 := hf 1 _ rfl
      have g2 := hf 2 _ rfl
      have g3 := hf 3 _ rfl
      have g4 := hf 4 _ rfl
      simp [cells5] at g0 g1 g2 g3 g4
      obtain ⟨x0, z0, -, w0⟩ := DataW.trod_int Try.underlying5 g0
      obtain ⟨x1, z1, -, w1⟩ := DataW.trod_int Try.underlying5 g1
      obtain ⟨x2, z2, -, w2⟩ := DataW.trod_int Try.underlying5 g2
      obtain ⟨x3, z3, -, w3⟩ := DataW.trod_int Try.underlying5 g3
      obtain ⟨x4, z4, -, w4⟩ := DataW.trod_int Try.underlying5 g4
      simp at z0 z1 z2 z3 z4
      subst z0 z1 z2 z3 z4
      exact ⟨⟨x0, x1, x2, x3, x4⟩, by simpa using e0, by simpa using e1, by simpa using e2, by simpa using e3, by simpa using e4, u8_of_wf w0, u8_of_wf w1, u8_of_wf w2, u8_of_wf w3, u8_of_wf w4⟩
set_option maxRecDepth 100000 in
theorem pcl_of {fuel : Nat} {u : Value} {x : DataW H × List MemPlace} (hf : DataW.trod enc Try.prog W 0 (fun _ => true) true fuel 74 [u] = some x) : ∃ ps : List Pc, PcA W u ps := by
  obtain ⟨zs, a, c, e, hle, hz⟩ := rows_of (α := Pc) (fun y b off => pcC W y b off) Try.underlying74 cells77 (by omega) (fun b off n cs' x h1 h2 => piece_of h1 h2) hf
  exact ⟨zs, a, c, e, hz⟩
theorem slice_cells {a : Option Addr} {n c : Nat} : (Value.slice a n c).cells.toList = [.slice a n c] := rfl
set_option maxRecDepth 100000 in
theorem open_pcl (hv : Value.okWide Try.prog W .any base 74 v) (h : DataW.Trod enc Try.prog W 0 (fun _ => true) true 74 v d p) : ∃ ps : List Pc, PcA W v ps := by
  obtain ⟨a, n, c, rfl, -⟩ := okWide_slice Try.underlying74 hv
  obtain ⟨fuel, hf⟩ := h
  rw [slice_cells] at hf
  exact pcl_of hf
set_option maxRecDepth 100000 in
theorem open_u16 (hv : Value.okWide Try.prog W .any base 73 v) (h : DataW.Trod enc Try.prog W 0 (fun _ => true) true 73 v d p) : ∃ a : Int, v = .int .u16 a ∧ 0 ≤ a ∧ a ≤ 65535 := by
  obtain ⟨a, rfl, rfl, rfl, wa⟩ := open_int Try.underlying73 hv h
  exact ⟨a, rfl, u16_of_wf wa⟩
end
end Go.Proofs.Ytbbaehmfadpgeaa

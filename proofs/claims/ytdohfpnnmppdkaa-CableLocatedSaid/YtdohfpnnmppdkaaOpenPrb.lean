/-
  Opener of probes.
-/
import Derived.Test.YtdohfpnnmppdkaaFrame
import Derived.Test.YtdohfpnnmppdkaaLdC
import Derived.Laws.IdiomArrays
namespace Go.Proofs.Ytdohfpnnmppdkaa
open Go.ChangeShapes Go.WideShapes Go.ChangeAt Go.RowKit Go.Joins
set_option linter.unusedSimpArgs false
theorem cells83 : Try.prog.cellsOf 83 = 6 := by kernel_rfl
theorem cells81 : Try.prog.cellsOf 81 = 4 := by kernel_rfl
section
variable {H : Type} {enc : TypeId × Value → H} {W : World} {base : Nat} {v : Value} {d : DataW H} {p : List MemPlace}
theorem u8_of_wf2 {a : Int} (h : (Lit.int .u8 a).wf = true) : 0 ≤ a ∧ a ≤ 255 := u8_of_wf h
set_option maxRecDepth 100000 in
theorem prb_of {b off n : Nat} {cs' : List Value} {x : DataW H × List MemPlace} (h1 : W.cells? 0 (⟨b, off, none⟩ : Addr) 6 = some cs') (h2 : DataW.trod enc Try.prog W 0 (fun _ => true) true n 83 cs' = some x) :
    ∃ y : Pb, OkPb y ∧ W.cell? ⟨b, off, none⟩ = some (.int .u8 y.kd) ∧ W.cell? ⟨b, off + 1, none⟩ = some (.int .u16 y.p) ∧ W.cell? ⟨b, off + 2, none⟩ = some (.int .u16 y.e0) ∧ W.cell? ⟨b, off + 3, none⟩ = some (.int .u16 y.e1) ∧ W.cell? ⟨b, off + 4, none⟩ = some (.int .u16 y.e2) ∧ W.cell? ⟨b, off + 5, none⟩ = some (.int .u16 y.e3) := by
  obtain ⟨_, hlen, hcell⟩ := World.cells?_some h1
  match cs', hlen with
  | [v0, v1, v2, v3, v4, v5], _ =>
    have e0 := hcell 0 (by omega)
    have e1 := hcell 1 (by omega)
    have e2 := hcell 2 (by omega)
    have e3 := hcell 3 (by omega)
    have e4 := hcell 4 (by omega)
    have e5 := hcell 5 (by omega)
    rw [add_plain] at e0 e1 e2 e3 e4 e5
    obtain ⟨xs, k, hk, hxy, _, hxl, hf⟩ := DataW.trod_struct Try.underlying83 h2
    match xs, hxl with
    | [y0, y1, y2], _ =>
      have g0 := hf 0 _ rfl
      have g1 := hf 1 _ rfl
      have g2 := hf 2 _ rfl
      simp [cells5, cells70, cells81] at g0 g1 g2
      obtain ⟨x0, z0, -, w0⟩ := DataW.trod_int Try.underlying5 g0
      obtain ⟨x1, z1, -, w1⟩ := DataW.trod_int Try.underlying70 g1
      obtain ⟨u0, u1, u2, u3, n', -, q0, q1, q2, q3⟩ := trod_array4 Try.underlying81 cells70 g2
      obtain ⟨x2, z2, -, w2⟩ := DataW.trod_int Try.underlying70 q0
      obtain ⟨x3, z3, -, w3⟩ := DataW.trod_int Try.underlying70 q1
      obtain ⟨x4, z4, -, w4⟩ := DataW.trod_int Try.underlying70 q2
      obtain ⟨x5, z5, -, w5⟩ := DataW.trod_int Try.underlying70 q3
      simp at z0 z1 z2 z3 z4 z5
      subst z0 z1 z2 z3 z4 z5
      exact ⟨⟨x0, x1, x2, x3, x4, x5⟩, ⟨u8_of_wf w0, u16_of_wf w1, u16_of_wf w2, u16_of_wf w3, u16_of_wf w4, u16_of_wf w5⟩, by simpa using e0, by simpa using e1, by simpa using e2, by simpa using e3, by simpa using e4, by simpa using e5⟩
set_option maxRecDepth 100000 in
theorem open_prl (hv : Value.okWide Try.prog W .any base 80 v) (h : DataW.Trod enc Try.prog W 0 (fun _ => true) true 80 v d p) : ∃ l : List Pb, PbA W.heap.size W v l := by
  obtain ⟨a0, len, cap, rfl⟩ := okWide_slice Try.underlying80 hv
  obtain ⟨fuel, hf⟩ := h
  rw [slice_cells] at hf
  obtain ⟨zs, a, c, e, hle, hz⟩ := rows_of (α := Pb) (fun y b off => OkPb y ∧ W.cell? ⟨b, off, none⟩ = some (.int .u8 y.kd) ∧ W.cell? ⟨b, off + 1, none⟩ = some (.int .u16 y.p) ∧ W.cell? ⟨b, off + 2, none⟩ = some (.int .u16 y.e0) ∧ W.cell? ⟨b, off + 3, none⟩ = some (.int .u16 y.e1) ∧ W.cell? ⟨b, off + 4, none⟩ = some (.int .u16 y.e2) ∧ W.cell? ⟨b, off + 5, none⟩ = some (.int .u16 y.e3)) Try.underlying80 cells83 (by decide) (fun b off n cs' x h1 h2 => prb_of h1 h2) hf
  refine ⟨zs, a, c, e, hle, fun k hk => ?_⟩
  obtain ⟨b, off, e1, hb, hq⟩ := hz k hk
  exact ⟨b, off, e1, hb, hq⟩
end
end Go.Proofs.Ytdohfpnnmppdkaa

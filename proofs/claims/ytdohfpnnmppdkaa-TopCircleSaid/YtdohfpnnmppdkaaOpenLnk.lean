/-
  Openers of links and of a bool (the Top rows of layer 4).
-/
import Derived.Test.YtdohfpnnmppdkaaFrame
import Derived.Test.YtdohfpnnmppdkaaMoored
import Derived.Laws.IdiomArrays
namespace Go.Proofs.Ytdohfpnnmppdkaa
open Go.ChangeShapes Go.WideShapes Go.ChangeAt Go.RowKit Go.Joins
set_option linter.unusedSimpArgs false
theorem i16_of_wf {a : Int} (h : (Lit.int .i16 a).wf = true) : -32768 ≤ a ∧ a ≤ 32767 := by
  have h1 : IntKind.i16.min = -32768 := rfl
  have h2 : IntKind.i16.max = 32767 := rfl
  simp [Lit.wf, h1, h2] at h
  exact ⟨by omega, by omega⟩
theorem cells174 : Try.prog.cellsOf 174 = 6 := by kernel_rfl
theorem cells172 : Try.prog.cellsOf 172 = 1 := by kernel_rfl
section
variable {H : Type} {enc : TypeId × Value → H} {W : World} {base : Nat} {v : Value} {d : DataW H} {p : List MemPlace}
set_option maxRecDepth 100000 in
theorem lnk_of {b off n : Nat} {cs' : List Value} {x : DataW H × List MemPlace} (h1 : W.cells? 0 (⟨b, off, none⟩ : Addr) 6 = some cs') (h2 : DataW.trod enc Try.prog W 0 (fun _ => true) true n 174 cs' = some x) :
    ∃ y : Moo.Lk, Moo.LnkC W y b off := by
  obtain ⟨_, hlen, hcell⟩ := World.cells?_some h1
  match cs', hlen with
  | [v0, v1, v2, v3, v4, v5], _ =>
    have e0 := hcell 0 (by omega)
    have e1 := hcell 1 (by omega)
    have e2 := hcell 2 (by omega)
    have e3 := hcell 3 (by omega)
    have e4 := hcell 4 (by omega)
    have e5 := hcell 5 (by omega)
    rw [add_plain] at e0 e1 e2 e3 e4 e5
    obtain ⟨xs, k, hk, hxy, _, hxl, hf⟩ := DataW.trod_struct Try.underlying174 h2
    match xs, hxl with
    | [y0, y1, y2, y3, y4, y5], _ =>
      have g0 := hf 0 _ rfl
      have g1 := hf 1 _ rfl
      have g2 := hf 2 _ rfl
      have g3 := hf 3 _ rfl
      have g4 := hf 4 _ rfl
      have g5 := hf 5 _ rfl
      simp [cells5, cells70, cells172] at g0 g1 g2 g3 g4 g5
      obtain ⟨x0, z0, -, w0⟩ := DataW.trod_int Try.underlying70 g0
      obtain ⟨x1, z1, -, w1⟩ := DataW.trod_int Try.underlying172 g1
      obtain ⟨x2, z2, -, w2⟩ := DataW.trod_int Try.underlying5 g2
      obtain ⟨x3, z3, -, w3⟩ := DataW.trod_int Try.underlying70 g3
      obtain ⟨x4, z4, -, w4⟩ := DataW.trod_int Try.underlying5 g4
      obtain ⟨x5, z5, -, w5⟩ := DataW.trod_int Try.underlying5 g5
      simp at z0 z1 z2 z3 z4 z5
      subst z0 z1 z2 z3 z4 z5
      exact ⟨⟨x0, x1, x2, x3, x4, x5⟩, ⟨u16_of_wf w0, i16_of_wf w1, u8_of_wf w2, u16_of_wf w3, u8_of_wf w4, u8_of_wf w5⟩, by simpa using e0, by simpa using e1, by simpa using e2, by simpa using e3, by simpa using e4, by simpa using e5⟩
set_option maxRecDepth 100000 in
theorem open_boolT (hv : Value.okWide Try.prog W .any base 4 v) (h : DataW.Trod enc Try.prog W 0 (fun _ => true) true 4 v d p) : ∃ b : Bool, v = .bool b := by
  obtain ⟨b, rfl, -, -⟩ := open_bool Try.underlying4 hv h
  exact ⟨b, rfl⟩
set_option maxRecDepth 100000 in
theorem open_lnkl (hv : Value.okWide Try.prog W .any base 94 v) (h : DataW.Trod enc Try.prog W 0 (fun _ => true) true 94 v d p) : ∃ l : List Moo.Lk, Moo.LnkA W.heap.size W v l := by
  obtain ⟨a0, len, cap, rfl⟩ := okWide_slice Try.underlying94 hv
  obtain ⟨fuel, hf⟩ := h
  rw [slice_cells] at hf
  obtain ⟨zs, a, c, e, hle, hz⟩ := rows_of (α := Moo.Lk) (fun y b off => Moo.LnkC W y b off) Try.underlying94 cells174 (by decide) (fun b off n cs' x h1 h2 => lnk_of h1 h2) hf
  refine ⟨zs, a, c, e, hle, fun k hk => ?_⟩
  obtain ⟨b, off, e1, hb, hq⟩ := hz k hk
  exact ⟨b, off, e1, hb, hq⟩
end
end Go.Proofs.Ytdohfpnnmppdkaa

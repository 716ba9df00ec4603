/-
  Openers of a span and of measurements.
-/
import Derived.Test.YtdohfpnnmppdkaaFrame
import Derived.Test.YtdohfpnnmppdkaaLcC
namespace Go.Proofs.Ytdohfpnnmppdkaa
open Go.ChangeShapes Go.WideShapes Go.ChangeAt Go.RowKit Go.Joins
set_option linter.unusedSimpArgs false
section
variable {H : Type} {enc : TypeId × Value → H} {W : World} {base : Nat} {v : Value} {d : DataW H} {p : List MemPlace}
theorem sk_il {n₀ : Nat} {W : World} {v : Value} {zs : List Int} (h : Sk .i64 n₀ W v zs) : Il n₀ W v zs := by
  obtain ⟨a, c, e, hle, hz⟩ := h
  exact ⟨a, c, e, hle, fun k hk => (hz k hk).2⟩
theorem arr2 {cs : Array Value} (h : cs.size = 2) : ∃ c0 c1, cs = #[c0, c1] := by
  obtain ⟨l⟩ := cs
  match l, h with
  | [c0, c1], _ => exact ⟨c0, c1, rfl⟩
set_option maxRecDepth 100000 in
theorem open_spn (hv : Value.okWide Try.prog W .any base 23 v) (h : DataW.Trod enc Try.prog W 0 (fun _ => true) true 23 v d p) : ∃ a b : Int, v = .agg #[.int .i64 a, .int .i64 b] := by
  obtain ⟨cs, rfl, hsz⟩ := okWide_struct Try.underlying23 hv
  obtain ⟨c0, c1, rfl⟩ := arr2 (hsz.trans cells23)
  obtain ⟨fuel, hf⟩ := h
  obtain ⟨a, b, rfl, rfl⟩ := span_of hf
  exact ⟨a, b, rfl⟩
set_option maxRecDepth 100000 in
theorem msr_of {b off n : Nat} {cs' : List Value} {x : DataW H × List MemPlace} (h1 : W.cells? 0 (⟨b, off, none⟩ : Addr) 5 = some cs') (h2 : DataW.trod enc Try.prog W 0 (fun _ => true) true n 52 cs' = some x) :
    ∃ y : Ms, W.cell? ⟨b, off, none⟩ = some (.int .i64 y.kd) ∧ W.cell? ⟨b, off + 1, none⟩ = some (.int .i64 y.v0) ∧ W.cell? ⟨b, off + 2, none⟩ = some (.int .i64 y.v1) ∧ W.cell? ⟨b, off + 3, none⟩ = some (.int .i64 y.b0) ∧ W.cell? ⟨b, off + 4, none⟩ = some (.int .i64 y.b1) := by
  obtain ⟨_, hlen, hcell⟩ := World.cells?_some h1
  match cs', hlen with
  | [v0, v1, v2, v3, v4], _ =>
    have e0 := hcell 0 (by omega)
    have e1 := hcell 1 (by omega)
    have e2 := hcell 2 (by omega)
    have e3 := hcell 3 (by omega)
    have e4 := hcell 4 (by omega)
    rw [add_plain] at e0 e1 e2 e3 e4
    obtain ⟨xs, k, hk, hxy, _, hxl, hf⟩ := DataW.trod_struct Try.underlying52 h2
    match xs, hxl with
    | [y0, y1, y2], _ =>
      have g0 := hf 0 _ rfl
      have g1 := hf 1 _ rfl
      have g2 := hf 2 _ rfl
      simp [cells3, cells23] at g0 g1 g2
      obtain ⟨x0, z0, -, -⟩ := DataW.trod_int Try.underlying3 g0
      obtain ⟨x1, x2, z1, z2⟩ := span_of g1
      obtain ⟨x3, x4, z3, z4⟩ := span_of g2
      simp at z0
      subst z0 z1 z2 z3 z4
      exact ⟨⟨x0, x1, x2, x3, x4⟩, by simpa using e0, by simpa using e1, by simpa using e2, by simpa using e3, by simpa using e4⟩
set_option maxRecDepth 100000 in
theorem open_msrl (hv : Value.okWide Try.prog W .any base 53 v) (h : DataW.Trod enc Try.prog W 0 (fun _ => true) true 53 v d p) : ∃ l : List Ms, MsA W.heap.size W v l := by
  obtain ⟨a0, len, cap, rfl⟩ := okWide_slice Try.underlying53 hv
  obtain ⟨fuel, hf⟩ := h
  rw [slice_cells] at hf
  obtain ⟨zs, a, c, e, hle, hz⟩ := rows_of (α := Ms) (fun y b off => W.cell? ⟨b, off, none⟩ = some (.int .i64 y.kd) ∧ W.cell? ⟨b, off + 1, none⟩ = some (.int .i64 y.v0) ∧ W.cell? ⟨b, off + 2, none⟩ = some (.int .i64 y.v1) ∧ W.cell? ⟨b, off + 3, none⟩ = some (.int .i64 y.b0) ∧ W.cell? ⟨b, off + 4, none⟩ = some (.int .i64 y.b1)) Try.underlying53 cells52 (by decide) (fun b off n cs' x h1 h2 => msr_of h1 h2) hf
  refine ⟨zs, a, c, e, hle, fun k hk => ?_⟩
  obtain ⟨b, off, e1, hb, hq⟩ := hz k hk
  exact ⟨b, off, e1, hb, hq⟩
end
end Go.Proofs.Ytdohfpnnmppdkaa

/-
  Glider in this seat: seas opened.
-/
import Derived.Test.YthegcbpmammokaaOpenG
import Derived.Test.YthegcbpmammokaaGlD
namespace Go.Proofs.Ythegcbpmammokaa
open Go.ChangeShapes Go.WideShapes Go.ChangeAt Go.RowKit Go.Joins
set_option linter.unusedSimpArgs false
section
variable {H : Type} {enc : TypeId × Value → H} {W : World} {base : Nat} {v : Value} {d : DataW H} {p : List MemPlace}
theorem slice_form {t e : TypeId} (ht : Try.prog.underlying t = some (.slice e)) {fuel : Nat} {u : Value} {x : DataW H × List MemPlace} (hf : DataW.trod enc Try.prog W 0 (fun _ => true) true fuel t [u] = some x) : ∃ a n c, u = .slice a n c := by
  rcases Deep.open_slice ht hf with ⟨hcs, _⟩ | ⟨a, len, cap, m, n, D, Pl, hcs, _⟩
  · simp at hcs
    exact ⟨_, _, _, hcs⟩
  · simp at hcs
    exact ⟨_, _, _, hcs⟩
set_option maxRecDepth 100000 in
theorem open_sea (hv : Value.okWide Try.prog W .any base 25 v) (h : DataW.Trod enc Try.prog W 0 (fun _ => true) true 25 v d p) : ∃ (s : Sea) (sa : Option Addr) (sc : Nat) (cv : Value), v = .agg #[.int .i64 s.nx, .int .i64 s.ny, .int .i64 s.cell, .int .i64 s.slot, .int .i64 s.slots, .int .i64 s.layers, .int .i64 s.most, .slice sa s.sl sc, cv] ∧ Q4s W.heap.size W cv s.cs := by
  obtain ⟨cs, rfl, hsz⟩ := okWide_struct Try.underlying25 hv
  obtain ⟨fuel, hf⟩ := h
  rw [cells25] at hsz
  obtain ⟨l⟩ := cs
  match l, hsz with
  | [w0, w1, w2, w3, w4, w5, w6, w7, w8], _ =>
    simp only [Value.cells] at hf
    obtain ⟨xs, k, hk, hxy, _, hxl, hg⟩ := DataW.trod_struct Try.underlying25 hf
    match xs, hxl with
    | [y0, y1, y2, y3, y4, y5, y6, y7, y8], _ =>
      have g0 := hg 0 _ rfl
      have g1 := hg 1 _ rfl
      have g2 := hg 2 _ rfl
      have g3 := hg 3 _ rfl
      have g4 := hg 4 _ rfl
      have g5 := hg 5 _ rfl
      have g6 := hg 6 _ rfl
      have g7 := hg 7 _ rfl
      have g8 := hg 8 _ rfl
      simp [cells2, cells3, cells22, cells23] at g0 g1 g2 g3 g4 g5 g6 g7 g8
      obtain ⟨x0, z0, -, -⟩ := DataW.trod_int Try.underlying3 g0
      obtain ⟨x1, z1, -, -⟩ := DataW.trod_int Try.underlying3 g1
      obtain ⟨x2, z2, -, -⟩ := DataW.trod_int Try.underlying2 g2
      obtain ⟨x3, z3, -, -⟩ := DataW.trod_int Try.underlying2 g3
      obtain ⟨x4, z4, -, -⟩ := DataW.trod_int Try.underlying3 g4
      obtain ⟨x5, z5, -, -⟩ := DataW.trod_int Try.underlying3 g5
      obtain ⟨x6, z6, -, -⟩ := DataW.trod_int Try.underlying2 g6
      obtain ⟨a7, n7, c7, z7⟩ := slice_form Try.underlying22 g7
      obtain ⟨zs, hq⟩ := curs_of g8
      simp at z0 z1 z2 z3 z4 z5 z6
      subst z0 z1 z2 z3 z4 z5 z6 z7
      exact ⟨⟨x0, x1, x2, x3, x4, x5, x6, n7, zs⟩, a7, c7, w8, rfl, hq⟩
end
end Go.Proofs.Ythegcbpmammokaa

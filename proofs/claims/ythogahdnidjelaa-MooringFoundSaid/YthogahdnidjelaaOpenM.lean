/-
  Moorings and lists of spans opened.
-/
import Derived.Test.YthogahdnidjelaaFrame
import Derived.Test.YthogahdnidjelaaForceMath
import Derived.Deep.SlicePairs
namespace Go.Proofs.Ythogahdnidjelaa
open Go.ChangeShapes Go.WideShapes Go.ChangeAt Go.RowKit Go.Joins
set_option linter.unusedSimpArgs false
section
variable {H : Type} {enc : TypeId × Value → H} {W : World} {base : Nat} {v : Value} {d : DataW H} {p : List MemPlace}
theorem cells2 : Try.prog.cellsOf 2 = 1 := by kernel_rfl
theorem cells71 : Try.prog.cellsOf 71 = 4 := by kernel_rfl
theorem cells24 : Try.prog.cellsOf 24 = 4 := by kernel_rfl
theorem spot_of {a : Addr} {u : Value} (h : W.cell? (a.add 0) = some u) : ∃ b off, a = ⟨b, off, none⟩ ∧ b < W.heap.size := by
  have hb := World.block_lt_of_cell? W _ h
  obtain ⟨b, off, spot⟩ := a
  have hspot : spot = none := by simpa [Addr.add] using World.cell?_spot h
  subst hspot
  exact ⟨b, off, rfl, by simpa [Addr.add] using hb⟩
set_option maxRecDepth 100000 in
theorem quad_of {sp : Nat → Bool} {held : Bool} {n b off i : Nat} {cs' : List Value} {x : DataW H × List MemPlace} (h1 : W.cells? base ((⟨b, off, none⟩ : Addr).add (i * 4)) 4 = some cs') (h2 : DataW.trod enc Try.prog W base sp held n 71 cs' = some x) :
    ∃ y : El, W.cell? ⟨b, off + i * 4, none⟩ = some (.int .i64 y.len) ∧ W.cell? ⟨b, off + i * 4 + 1, none⟩ = some (.int .i64 y.lift) ∧ W.cell? ⟨b, off + i * 4 + 2, none⟩ = some (.int .i64 y.drag) ∧ W.cell? ⟨b, off + i * 4 + 3, none⟩ = some (.int .i64 y.str) := by
  obtain ⟨_, hlen, hcell⟩ := World.cells?_some h1
  obtain ⟨xs, k, hk, hxy, _, hxl, hf⟩ := DataW.trod_struct Try.underlying71 h2
  match xs, hxl, cs', hlen with
  | [y0, y1, y2, y3], _, [v0, v1, v2, v3], _ =>
    have g0 := hf 0 _ rfl
    have g1 := hf 1 _ rfl
    have g2 := hf 2 _ rfl
    have g3 := hf 3 _ rfl
    simp [cells2] at g0 g1 g2 g3
    have e0 := hcell 0 (by omega)
    have e1 := hcell 1 (by omega)
    have e2 := hcell 2 (by omega)
    have e3 := hcell 3 (by omega)
    rw [add_plain, add_plain] at e0 e1 e2 e3
    obtain ⟨x0, z0, -, -⟩ := DataW.trod_int Try.underlying2 g0
    obtain ⟨x1, z1, -, -⟩ := DataW.trod_int Try.underlying2 g1
    obtain ⟨x2, z2, -, -⟩ := DataW.trod_int Try.underlying2 g2
    obtain ⟨x3, z3, -, -⟩ := DataW.trod_int Try.underlying2 g3
    simp at z0 z1 z2 z3
    subst z0 z1 z2 z3
    exact ⟨⟨x0, x1, x2, x3⟩, by simpa using e0, by simpa using e1, by simpa using e2, by simpa using e3⟩
theorem els_of {fuel : Nat} {u : Value} {x : DataW H × List MemPlace} (hf : DataW.trod enc Try.prog W 0 (fun _ => true) true fuel 22 [u] = some x) : ∃ zs : List El, Els W.heap.size W u zs := by
  rcases Deep.open_slice Try.underlying22 hf with ⟨hcs, _⟩ | ⟨a, len, cap, m, n, D, Pl, hcs, _, hle, _, hm, _, hall⟩
  · simp at hcs
    subst hcs
    exact ⟨[], none, 0, rfl, Nat.le_refl _, fun k hk => by simp at hk⟩
  · simp at hcs
    subst hcs
    simp only [if_true] at hm
    subst hm
    rw [cells71] at hall
    by_cases h0 : len = 0
    · subst h0; exact ⟨[], some a, m, rfl, Nat.zero_le _, fun k hk => by simp at hk⟩
    · obtain ⟨c0, q1, q2⟩ := hall 0 (by omega)
      obtain ⟨_, hl0, hc0⟩ := World.cells?_some q1
      have hc00 := hc0 0 (by omega)
      obtain ⟨b, off, rfl, hb⟩ := spot_of (a := a) (u := c0.getD 0 default) (W := W) (by
        have e : ((a.add (0 * 4)).add 0) = a.add 0 := by simp [Addr.add]
        rw [e] at hc00
        rw [hc00]
        match c0, hl0 with
        | x :: _, _ => rfl)
      have hz : ∀ i, i < len → ∃ y : El, W.cell? ⟨b, off + i * 4, none⟩ = some (.int .i64 y.len) ∧ W.cell? ⟨b, off + i * 4 + 1, none⟩ = some (.int .i64 y.lift) ∧ W.cell? ⟨b, off + i * 4 + 2, none⟩ = some (.int .i64 y.drag) ∧ W.cell? ⟨b, off + i * 4 + 3, none⟩ = some (.int .i64 y.str) := by
        intro i hi
        obtain ⟨cs', h1, h2⟩ := hall i (by omega)
        exact quad_of h1 h2
      obtain ⟨f, hf2⟩ := Deep.choose_lt hz
      refine ⟨(List.range len).map f, some ⟨b, off, none⟩, m, by simp, by simpa using hle, fun k hk => ⟨b, off, rfl, hb, ?_⟩⟩
      simp at hk
      have eg : el ((List.range len).map f) k = f k := by unfold el; simp [hk]
      rw [eg]
      exact hf2 k hk
set_option maxRecDepth 100000 in
theorem open_moo (hv : Value.okWide Try.prog W .any base 24 v) (h : DataW.Trod enc Try.prog W 0 (fun _ => true) true 24 v d p) : ∃ (dd : Int) (sv : Value) (zs : List El) (an fr : Int), v = .agg #[.int .i64 dd, sv, .int .i64 an, .int .i64 fr] ∧ Els W.heap.size W sv zs := by
  obtain ⟨c0, c1, c2, c3, y0, y1, y2, y3, m, rfl, rfl, rfl, h0, h1, h2, h3⟩ := open_agg4 Try.underlying24 (by kernel_rfl) cells24 hv h
  obtain ⟨x0, z0, -, -⟩ := DataW.trod_int Try.underlying2 h0
  obtain ⟨x2, z2, -, -⟩ := DataW.trod_int Try.underlying2 h2
  obtain ⟨x3, z3, -, -⟩ := DataW.trod_int Try.underlying2 h3
  obtain ⟨zs, hE⟩ := els_of h1
  simp at z0 z2 z3
  subst z0 z2 z3
  exact ⟨x0, c1, zs, x2, x3, rfl, hE⟩
set_option maxRecDepth 100000 in
theorem open_prs (hv : Value.okWide Try.prog W .any base 25 v) (h : DataW.Trod enc Try.prog W 0 (fun _ => true) true 25 v d p) : ∃ zs : List Pr, Prs W.heap.size W v zs := by
  obtain ⟨a0, len, cap, rfl⟩ := okWide_slice Try.underlying25 hv
  obtain ⟨fuel, hf⟩ := h
  rcases Deep.open_slice_pairs Try.underlying25 Try.underlying41 (by kernel_rfl) rfl rfl (by kernel_rfl) (by kernel_rfl) hf with ⟨hcs, hx⟩ | ⟨a, len', cap', m, n, V0, V1, D0, D1, P0, P1, hcs, _, hle, hmax, hm, hx, hall⟩
  · simp [Value.cells] at hcs
    obtain ⟨rfl, rfl, rfl⟩ := hcs
    exact ⟨[], none, 0, rfl, Nat.le_refl _, fun k hk => by simp at hk⟩
  · simp [Value.cells] at hcs
    obtain ⟨rfl, rfl, rfl⟩ := hcs
    simp only [if_true] at hm
    subst hm
    by_cases h0 : len = 0
    · subst h0; exact ⟨[], some a, m, rfl, Nat.zero_le _, fun k hk => by simp at hk⟩
    · obtain ⟨b, off, rfl, hb⟩ := spot_of (by simpa using (hall 0 (by omega)).1)
      have hz : ∀ i, i < len → ∃ y : Pr, W.cell? ⟨b, off + i * 2, none⟩ = some (.int .i64 y.lo) ∧ W.cell? ⟨b, off + i * 2 + 1, none⟩ = some (.int .i64 y.hi) := by
        intro i hi
        obtain ⟨c0, c1, t0, t1⟩ := hall i (by omega)
        obtain ⟨x, e0, -, -⟩ := DataW.trod_int Try.underlying2 t0
        obtain ⟨y, e1, -, -⟩ := DataW.trod_int Try.underlying2 t1
        simp at e0 e1
        rw [add_plain] at c0 c1
        exact ⟨⟨x, y⟩, by rw [c0, e0], by rw [← e1]; simpa [Nat.add_assoc] using c1⟩
      obtain ⟨f, hf2⟩ := Deep.choose_lt hz
      refine ⟨(List.range len).map f, some ⟨b, off, none⟩, m, by simp, by simpa using hle, fun k hk => ⟨b, off, rfl, hb, ?_⟩⟩
      simp at hk
      have eg : pr ((List.range len).map f) k = f k := by unfold pr; simp [hk]
      rw [eg]
      exact hf2 k hk
set_option maxRecDepth 100000 in
theorem open_bool4 (hv : Value.okWide Try.prog W .any base 4 v) (h : DataW.Trod enc Try.prog W 0 (fun _ => true) true 4 v d p) : ∃ b : Bool, v = .bool b := by
  obtain ⟨b, rfl, -, -⟩ := open_bool Try.underlying4 hv h
  exact ⟨b, rfl⟩
end
end Go.Proofs.Ythogahdnidjelaa

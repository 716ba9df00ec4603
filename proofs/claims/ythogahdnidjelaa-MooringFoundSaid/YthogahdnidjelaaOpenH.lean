/-
  Areas, hours and pairs of small numbers opened.
-/
import Derived.Test.YthogahdnidjelaaOpenM
import Derived.Test.YthogahdnidjelaaSeaOne
import Derived.Lib.SmallJoins
namespace Go.Proofs.Ythogahdnidjelaa
open Go.ChangeShapes Go.WideShapes Go.ChangeAt Go.RowKit Go.Joins
set_option linter.unusedSimpArgs false
section
variable {H : Type} {enc : TypeId × Value → H} {W : World} {base : Nat} {v : Value} {d : DataW H} {p : List MemPlace}
theorem cells54 : Try.prog.cellsOf 54 = 2 := by kernel_rfl
theorem cells81 : Try.prog.cellsOf 81 = 5 := by kernel_rfl
theorem cells41 : Try.prog.cellsOf 41 = 2 := by kernel_rfl
theorem cells46 : Try.prog.cellsOf 46 = 1 := by kernel_rfl
theorem cells3 : Try.prog.cellsOf 3 = 1 := by kernel_rfl
set_option maxRecDepth 100000 in
theorem open_area (hv : Value.okWide Try.prog W .any base 54 v) (h : DataW.Trod enc Try.prog W 0 (fun _ => true) true 54 v d p) : ∃ a b : Int, v = .agg #[.int .i64 a, .int .i64 b] ∧ I64 a ∧ I64 b := by
  obtain ⟨c0, c1, y0, y1, m, rfl, rfl, rfl, hy0, hy1⟩ := open_agg2 Try.underlying54 (by kernel_rfl) cells54 hv h
  obtain ⟨a, e0, rfl, wa⟩ := DataW.trod_int Try.underlying3 hy0
  obtain ⟨b, e1, rfl, wb⟩ := DataW.trod_int Try.underlying3 hy1
  simp at e0 e1
  subst e0 e1
  exact ⟨a, b, rfl, i64_of_wf wa, i64_of_wf wb⟩
theorem nums_of {fuel : Nat} {u : Value} {x : DataW H × List MemPlace} (hf : DataW.trod enc Try.prog W 0 (fun _ => true) true fuel 46 [u] = some x) : ∃ zs : List Int, Nums W.heap.size W u zs := by
  rcases open_ints Try.underlying46 Try.underlying3 (by kernel_rfl) hf with ⟨hcs, hx⟩ | ⟨a, len', cap', zs, hcs, _, hle, hmax, hall, hx, cell, wf⟩
  · simp at hcs
    subst hcs
    exact ⟨[], none, 0, rfl, Nat.le_refl _, fun k hk => by simp at hk⟩
  · simp at hcs
    subst hcs
    simp only [if_true] at hall
    by_cases h0 : len' = 0
    · subst h0; exact ⟨[], some a, cap', rfl, Nat.zero_le _, fun k hk => by simp at hk⟩
    · obtain ⟨b, off, rfl, hc⟩ := ints_at cell (by omega)
      have hb : b < W.heap.size := World.block_lt_of_cell? W ⟨b, off + 0, none⟩ (hc 0 (by omega))
      have e : (zs.take len').length = len' := by rw [List.length_take]; omega
      refine ⟨zs.take len', some ⟨b, off, none⟩, cap', by rw [e], by rw [e]; exact hle, fun k hk => ⟨b, off, rfl, hb, ?_⟩⟩
      rw [e] at hk
      rw [hc k (by omega), List.getD_eq_getElem?_getD, List.getElem?_take]
      simp [hk]
set_option maxRecDepth 100000 in
theorem hour_of {n b off i : Nat} {cs' : List Value} {x : DataW H × List MemPlace} (h1 : W.cells? 0 ((⟨b, off, none⟩ : Addr).add (i * 5)) 5 = some cs') (h2 : DataW.trod enc Try.prog W 0 (fun _ => true) true n 81 cs' = some x) :
    ∃ y : Hr, ∃ s, W.cell? ⟨b, off + i * 5, none⟩ = some (.int .i64 y.eLo) ∧ W.cell? ⟨b, off + i * 5 + 1, none⟩ = some (.int .i64 y.eHi) ∧ W.cell? ⟨b, off + i * 5 + 2, none⟩ = some (.int .i64 y.nLo) ∧ W.cell? ⟨b, off + i * 5 + 3, none⟩ = some (.int .i64 y.nHi) ∧ W.cell? ⟨b, off + i * 5 + 4, none⟩ = some s ∧ Nums W.heap.size W s y.se := by
  obtain ⟨_, hlen, hcell⟩ := World.cells?_some h1
  obtain ⟨xs, k, hk, hxy, _, hxl, hf⟩ := DataW.trod_struct Try.underlying81 h2
  match xs, hxl, cs', hlen with
  | [y0, y1, y2], _, [v0, v1, v2, v3, v4], _ =>
    have g0 := hf 0 _ rfl
    have g1 := hf 1 _ rfl
    have g2 := hf 2 _ rfl
    simp [cells41, cells46] at g0 g1 g2
    have e0 := hcell 0 (by omega)
    have e1 := hcell 1 (by omega)
    have e2 := hcell 2 (by omega)
    have e3 := hcell 3 (by omega)
    have e4 := hcell 4 (by omega)
    rw [add_plain, add_plain] at e0 e1 e2 e3 e4
    obtain ⟨us, k1, hk1, hxy1, _, hul, hu⟩ := DataW.trod_struct Try.underlying41 g0
    obtain ⟨ws, k2, hk2, hxy2, _, hwl, hw⟩ := DataW.trod_struct Try.underlying41 g1
    match us, hul, ws, hwl with
    | [u0, u1], _, [w0, w1], _ =>
      have a0 := hu 0 _ rfl
      have a1 := hu 1 _ rfl
      have b0 := hw 0 _ rfl
      have b1 := hw 1 _ rfl
      simp [cells2] at a0 a1 b0 b1
      obtain ⟨x0, z0, -, -⟩ := DataW.trod_int Try.underlying2 a0
      obtain ⟨x1, z1, -, -⟩ := DataW.trod_int Try.underlying2 a1
      obtain ⟨x2, z2, -, -⟩ := DataW.trod_int Try.underlying2 b0
      obtain ⟨x3, z3, -, -⟩ := DataW.trod_int Try.underlying2 b1
      obtain ⟨zs, hN⟩ := nums_of g2
      simp at z0 z1 z2 z3
      subst z0 z1 z2 z3
      exact ⟨⟨x0, x1, x2, x3, zs⟩, v4, by simpa using e0, by simpa using e1, by simpa using e2, by simpa using e3, by simpa using e4, hN⟩
set_option maxRecDepth 100000 in
theorem open_hrs (hv : Value.okWide Try.prog W .any base 55 v) (h : DataW.Trod enc Try.prog W 0 (fun _ => true) true 55 v d p) : ∃ hs : List Hr, Hrs W.heap.size W v hs := by
  obtain ⟨a0, len0, cap0, rfl⟩ := okWide_slice Try.underlying55 hv
  obtain ⟨fuel, hf⟩ := h
  rcases Deep.open_slice Try.underlying55 hf with ⟨hcs, _⟩ | ⟨a, len, cap, m, n, D, Pl, hcs, _, hle, _, hm, _, hall⟩
  · simp [Value.cells] at hcs
    obtain ⟨rfl, rfl, rfl⟩ := hcs
    exact ⟨[], none, 0, rfl, Nat.le_refl _, fun k hk => by simp at hk⟩
  · simp [Value.cells] at hcs
    obtain ⟨rfl, rfl, rfl⟩ := hcs
    simp only [if_true] at hm
    subst hm
    rw [cells81] at hall
    by_cases h0 : len0 = 0
    · subst h0; exact ⟨[], some a, m, rfl, Nat.zero_le _, fun k hk => by simp at hk⟩
    · obtain ⟨c0, q1, q2⟩ := hall 0 (by omega)
      obtain ⟨_, hl0, hc0⟩ := World.cells?_some q1
      have hc00 := hc0 0 (by omega)
      obtain ⟨b, off, rfl, hb⟩ := spot_of (a := a) (u := c0.getD 0 default) (W := W) (by
        have e : ((a.add (0 * 5)).add 0) = a.add 0 := by simp [Addr.add]
        rw [e] at hc00
        rw [hc00]
        match c0, hl0 with
        | x :: _, _ => rfl)
      have hz : ∀ i, i < len0 → ∃ y : Hr, ∃ s, W.cell? ⟨b, off + i * 5, none⟩ = some (.int .i64 y.eLo) ∧ W.cell? ⟨b, off + i * 5 + 1, none⟩ = some (.int .i64 y.eHi) ∧ W.cell? ⟨b, off + i * 5 + 2, none⟩ = some (.int .i64 y.nLo) ∧ W.cell? ⟨b, off + i * 5 + 3, none⟩ = some (.int .i64 y.nHi) ∧ W.cell? ⟨b, off + i * 5 + 4, none⟩ = some s ∧ Nums W.heap.size W s y.se := by
        intro i hi
        obtain ⟨cs', h1, h2⟩ := hall i (by omega)
        exact hour_of h1 h2
      obtain ⟨f, hf2⟩ := Deep.choose_lt hz
      refine ⟨(List.range len0).map f, some ⟨b, off, none⟩, m, by simp, by simpa using hle, fun k hk => ?_⟩
      simp at hk
      have eg : hr ((List.range len0).map f) k = f k := by unfold hr; simp [hk]
      rw [eg]
      obtain ⟨s, hr⟩ := hf2 k hk
      exact ⟨b, off, s, rfl, hb, hr⟩
end
end Go.Proofs.Ythogahdnidjelaa

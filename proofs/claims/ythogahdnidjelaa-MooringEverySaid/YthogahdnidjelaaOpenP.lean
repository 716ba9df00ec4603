/-
  Lists of pieces opened.
-/
import Derived.Test.YthogahdnidjelaaOpenM
import Derived.Test.YthogahdnidjelaaRigA
namespace Go.Proofs.Ythogahdnidjelaa
open Go.ChangeShapes Go.WideShapes Go.ChangeAt Go.RowKit Go.Joins
set_option linter.unusedSimpArgs false
theorem i16_of_wf {a : Int} (h : (Lit.int .i16 a).wf = true) : -32768 ≤ a ∧ a ≤ 32767 := by
  have h1 : IntKind.i16.min = -32768 := rfl
  have h2 : IntKind.i16.max = 32767 := rfl
  simp [Lit.wf, h1, h2] at h
  exact ⟨by omega, by omega⟩
theorem u8_of_wfP {a : Int} (h : (Lit.int .u8 a).wf = true) : 0 ≤ a ∧ a ≤ 255 := by
  have h1 : IntKind.u8.min = 0 := rfl
  have h2 : IntKind.u8.max = 255 := rfl
  simp [Lit.wf, h1, h2] at h
  exact ⟨by omega, by omega⟩
section
variable {H : Type} {enc : TypeId × Value → H} {W : World} {base : Nat} {v : Value} {d : DataW H} {p : List MemPlace}
theorem cells62 : Try.prog.cellsOf 62 = 1 := by kernel_rfl
theorem cells67 : Try.prog.cellsOf 67 = 1 := by kernel_rfl
theorem cells5 : Try.prog.cellsOf 5 = 1 := by kernel_rfl
theorem cells69 : Try.prog.cellsOf 69 = 9 := by kernel_rfl
set_option maxRecDepth 100000 in
set_option maxHeartbeats 1000000 in
theorem nine_of {sp : Nat → Bool} {held : Bool} {n b off i : Nat} {cs' : List Value} {x : DataW H × List MemPlace} (h1 : W.cells? base ((⟨b, off, none⟩ : Addr).add (i * 9)) 9 = some cs') (h2 : DataW.trod enc Try.prog W base sp held n 69 cs' = some x) :
    ∃ y : Pc, OkPc y ∧ W.cell? ⟨b, off + i * 9, none⟩ = some (.int .u16 y.len) ∧ W.cell? ⟨b, off + i * 9 + 1, none⟩ = some (.int .i16 y.lift) ∧ W.cell? ⟨b, off + i * 9 + 2, none⟩ = some (.int .u8 y.drag) ∧
      W.cell? ⟨b, off + i * 9 + 3, none⟩ = some (.int .u16 y.str) ∧ W.cell? ⟨b, off + i * 9 + 4, none⟩ = some (.int .u8 y.a) ∧ W.cell? ⟨b, off + i * 9 + 5, none⟩ = some (.int .u8 y.b) ∧
      W.cell? ⟨b, off + i * 9 + 6, none⟩ = some (.int .u8 y.at_) ∧ W.cell? ⟨b, off + i * 9 + 7, none⟩ = some (.int .u8 y.way) ∧ W.cell? ⟨b, off + i * 9 + 8, none⟩ = some (.int .u8 y.slk) := by
  obtain ⟨_, hlen, hcell⟩ := World.cells?_some h1
  obtain ⟨xs, k, hk, hxy, _, hxl, hf⟩ := DataW.trod_struct Try.underlying69 h2
  match xs, hxl, cs', hlen with
  | [y0, y1, y2, y3, y4, y5, y6, y7, y8], _, [v0, v1, v2, v3, v4, v5, v6, v7, v8], _ =>
    have g0 := hf 0 _ rfl
    have g1 := hf 1 _ rfl
    have g2 := hf 2 _ rfl
    have g3 := hf 3 _ rfl
    have g4 := hf 4 _ rfl
    have g5 := hf 5 _ rfl
    have g6 := hf 6 _ rfl
    have g7 := hf 7 _ rfl
    have g8 := hf 8 _ rfl
    simp [cells62, cells67, cells5] at g0 g1 g2 g3 g4 g5 g6 g7 g8
    have e0 := hcell 0 (by omega)
    have e1 := hcell 1 (by omega)
    have e2 := hcell 2 (by omega)
    have e3 := hcell 3 (by omega)
    have e4 := hcell 4 (by omega)
    have e5 := hcell 5 (by omega)
    have e6 := hcell 6 (by omega)
    have e7 := hcell 7 (by omega)
    have e8 := hcell 8 (by omega)
    rw [add_plain, add_plain] at e0 e1 e2 e3 e4 e5 e6 e7 e8
    obtain ⟨x0, z0, u0, w0⟩ := DataW.trod_int Try.underlying62 g0
    obtain ⟨x1, z1, u1, w1⟩ := DataW.trod_int Try.underlying67 g1
    obtain ⟨x2, z2, u2, w2⟩ := DataW.trod_int Try.underlying5 g2
    obtain ⟨x3, z3, u3, w3⟩ := DataW.trod_int Try.underlying62 g3
    obtain ⟨x4, z4, u4, w4⟩ := DataW.trod_int Try.underlying5 g4
    obtain ⟨x5, z5, u5, w5⟩ := DataW.trod_int Try.underlying5 g5
    obtain ⟨x6, z6, u6, w6⟩ := DataW.trod_int Try.underlying5 g6
    obtain ⟨x7, z7, u7, w7⟩ := DataW.trod_int Try.underlying5 g7
    obtain ⟨x8, z8, u8, w8⟩ := DataW.trod_int Try.underlying5 g8
    simp at z0 z1 z2 z3 z4 z5 z6 z7 z8
    subst z0 z1 z2 z3 z4 z5 z6 z7 z8
    exact ⟨⟨x0, x1, x2, x3, x4, x5, x6, x7, x8⟩, ⟨u16_of_wf w0, i16_of_wf w1, u8_of_wfP w2, u16_of_wf w3, u8_of_wfP w4, u8_of_wfP w5, u8_of_wfP w6, u8_of_wfP w7, u8_of_wfP w8⟩, by simpa using e0, by simpa using e1, by simpa using e2, by simpa using e3, by simpa using e4, by simpa using e5, by simpa using e6, by simpa using e7, by simpa using e8⟩
set_option maxRecDepth 100000 in
theorem open_pcs (hv : Value.okWide Try.prog W .any base 61 v) (h : DataW.Trod enc Try.prog W 0 (fun _ => true) true 61 v d p) : ∃ ps : List Pc, Pcs W.heap.size W v ps := by
  obtain ⟨a0, len0, cap0, rfl⟩ := okWide_slice Try.underlying61 hv
  obtain ⟨fuel, hf⟩ := h
  rcases Deep.open_slice Try.underlying61 hf with ⟨hcs, _⟩ | ⟨a, len, cap, m, n, D, Pl, hcs, _, hle, _, hm, _, hall⟩
  · simp [Value.cells] at hcs
    obtain ⟨rfl, rfl, rfl⟩ := hcs
    exact ⟨[], none, 0, rfl, Nat.le_refl _, fun k hk => by simp at hk⟩
  · simp [Value.cells] at hcs
    obtain ⟨rfl, rfl, rfl⟩ := hcs
    simp only [if_true] at hm
    subst hm
    rw [cells69] at hall
    by_cases h0 : len0 = 0
    · subst h0; exact ⟨[], some a, m, rfl, Nat.zero_le _, fun k hk => by simp at hk⟩
    · obtain ⟨c0, q1, q2⟩ := hall 0 (by omega)
      obtain ⟨_, hl0, hc0⟩ := World.cells?_some q1
      have hc00 := hc0 0 (by omega)
      obtain ⟨b, off, rfl, hb⟩ := spot_of (a := a) (u := c0.getD 0 default) (W := W) (by
        have e : ((a.add (0 * 9)).add 0) = a.add 0 := by simp [Addr.add]
        rw [e] at hc00
        rw [hc00]
        match c0, hl0 with
        | x :: _, _ => rfl)
      have hz : ∀ i, i < len0 → ∃ y : Pc, OkPc y ∧ W.cell? ⟨b, off + i * 9, none⟩ = some (.int .u16 y.len) ∧ W.cell? ⟨b, off + i * 9 + 1, none⟩ = some (.int .i16 y.lift) ∧ W.cell? ⟨b, off + i * 9 + 2, none⟩ = some (.int .u8 y.drag) ∧
              W.cell? ⟨b, off + i * 9 + 3, none⟩ = some (.int .u16 y.str) ∧ W.cell? ⟨b, off + i * 9 + 4, none⟩ = some (.int .u8 y.a) ∧ W.cell? ⟨b, off + i * 9 + 5, none⟩ = some (.int .u8 y.b) ∧
              W.cell? ⟨b, off + i * 9 + 6, none⟩ = some (.int .u8 y.at_) ∧ W.cell? ⟨b, off + i * 9 + 7, none⟩ = some (.int .u8 y.way) ∧ W.cell? ⟨b, off + i * 9 + 8, none⟩ = some (.int .u8 y.slk) := by
        intro i hi
        obtain ⟨cs', h1, h2⟩ := hall i (by omega)
        exact nine_of h1 h2
      obtain ⟨f, hf2⟩ := Deep.choose_lt hz
      refine ⟨(List.range len0).map f, some ⟨b, off, none⟩, m, by simp, by simpa using hle, fun k hk => ?_⟩
      simp at hk
      have eg : pc ((List.range len0).map f) k = f k := by unfold pc; simp [hk]
      rw [eg]
      obtain ⟨ho, hr⟩ := hf2 k hk
      exact ⟨ho, b, off, rfl, hb, hr⟩
end
end Go.Proofs.Ythogahdnidjelaa

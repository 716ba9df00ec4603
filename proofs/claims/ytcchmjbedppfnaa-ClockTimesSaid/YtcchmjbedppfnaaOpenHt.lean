/-
  Clock: openers of lists of clocks and of stamps.
-/
import Derived.Test.YtcchmjbedppfnaaOpenEv
import Derived.Test.YtcchmjbedppfnaaCkV
namespace Go.Proofs.Ytcchmjbedppfnaa
open Go.ChangeShapes Go.WideShapes Go.ChangeAt Go.RowKit Go.Joins
set_option linter.unusedSimpArgs false
section
variable {H : Type} {enc : TypeId × Value → H} {W : World} {base : Nat} {v : Value} {d : DataW H} {p : List MemPlace}
theorem cells3 : Try.prog.cellsOf 3 = 1 := by kernel_rfl
theorem cells26 : Try.prog.cellsOf 26 = 1 := by kernel_rfl
set_option maxRecDepth 100000 in
theorem clk_at {n b off i : Nat} {cs' : List Value} {x : DataW H × List MemPlace} (h1 : W.cells? 0 ((⟨b, off, none⟩ : Addr).add (i * 3)) 3 = some cs') (h2 : DataW.trod enc Try.prog W 0 (fun _ => true) true n 28 cs' = some x) :
    ∃ y : Cl, ∃ s, W.cell? ⟨b, off + i * 3, none⟩ = some (.int .i64 y.p) ∧ W.cell? ⟨b, off + i * 3 + 1, none⟩ = some (.int .i64 y.r) ∧ W.cell? ⟨b, off + i * 3 + 2, none⟩ = some s ∧ Xcs W.heap.size W s y.xs := by
  obtain ⟨_, hlen, hcell⟩ := World.cells?_some h1
  obtain ⟨xs, k, hk, hxy, _, hxl, hf⟩ := DataW.trod_struct Try.underlying28 h2
  match xs, hxl, cs', hlen with
  | [y0, y1, y2], _, [v0, v1, v2], _ =>
    have g0 := hf 0 _ rfl
    have g1 := hf 1 _ rfl
    have g2 := hf 2 _ rfl
    simp [cells2, cells3, cells26] at g0 g1 g2
    have e0 := hcell 0 (by omega)
    have e1 := hcell 1 (by omega)
    have e2 := hcell 2 (by omega)
    rw [add_plain, add_plain] at e0 e1 e2
    obtain ⟨x0, z0, -, -⟩ := DataW.trod_int Try.underlying3 g0
    obtain ⟨x1, z1, -, -⟩ := DataW.trod_int Try.underlying2 g1
    obtain ⟨zs, hE⟩ := xcs_of g2
    simp at z0 z1
    subst z0 z1
    exact ⟨⟨x0, x1, zs⟩, v2, by simpa using e0, by simpa using e1, by simpa using e2, hE⟩
set_option maxRecDepth 100000 in
theorem open_cls (hv : Value.okWide Try.prog W .any base 44 v) (h : DataW.Trod enc Try.prog W 0 (fun _ => true) true 44 v d p) : ∃ zs : List Cl, Cls W.heap.size W v zs := by
  obtain ⟨a0, len, cap, rfl⟩ := okWide_slice Try.underlying44 hv
  obtain ⟨fuel, hf⟩ := h
  rcases Deep.open_slice Try.underlying44 hf with ⟨hcs, _⟩ | ⟨a, len', cap', m, n, D, Pl, hcs, _, hle, _, hm, _, hall⟩
  · simp [Value.cells] at hcs
    obtain ⟨rfl, rfl, rfl⟩ := hcs
    exact ⟨[], none, 0, rfl, Nat.le_refl _, fun k hk => by simp at hk⟩
  · simp [Value.cells] at hcs
    obtain ⟨rfl, rfl, rfl⟩ := hcs
    simp only [if_true] at hm
    subst hm
    rw [cells28] at hall
    by_cases h0 : len = 0
    · subst h0; exact ⟨[], some a, m, rfl, Nat.zero_le _, fun k hk => by simp at hk⟩
    · obtain ⟨c0, q1, q2⟩ := hall 0 (by omega)
      obtain ⟨_, hl0, hc0⟩ := World.cells?_some q1
      have hc00 := hc0 0 (by omega)
      obtain ⟨b, off, rfl, hb⟩ := spot_of (a := a) (u := c0.getD 0 default) (W := W) (by
        have e : ((a.add (0 * 3)).add 0) = a.add 0 := by simp [Addr.add]
        rw [e] at hc00
        rw [hc00]
        match c0, hl0 with
        | x :: _, _ => rfl)
      have hz : ∀ i, i < len → ∃ y : Cl, ∃ s, W.cell? ⟨b, off + i * 3, none⟩ = some (.int .i64 y.p) ∧ W.cell? ⟨b, off + i * 3 + 1, none⟩ = some (.int .i64 y.r) ∧ W.cell? ⟨b, off + i * 3 + 2, none⟩ = some s ∧ Xcs W.heap.size W s y.xs := by
        intro i hi
        obtain ⟨cs', h1, h2⟩ := hall i (by omega)
        exact clk_at h1 h2
      obtain ⟨f, hf2⟩ := Deep.choose_lt hz
      refine ⟨(List.range len).map f, some ⟨b, off, none⟩, m, by simp, by simpa using hle, fun k hk => ?_⟩
      simp at hk
      obtain ⟨s, r0, r1, r2, r3⟩ := hf2 k hk
      have eg : cl ((List.range len).map f) k = f k := by unfold cl; simp [hk]
      rw [eg]
      exact ⟨b, off, s, rfl, hb, r0, r1, r2, r3⟩
set_option maxRecDepth 100000 in
theorem open_stamps (hv : Value.okWide Try.prog W .any base 45 v) (h : DataW.Trod enc Try.prog W 0 (fun _ => true) true 45 v d p) : ∃ zs : List (Int × Int), Sps W.heap.size W v zs := by
  obtain ⟨a0, len, cap, rfl⟩ := okWide_slice Try.underlying45 hv
  obtain ⟨fuel, hf⟩ := h
  rcases Deep.open_slice_pairs Try.underlying45 Try.underlying49 (by kernel_rfl) rfl rfl (by kernel_rfl) (by kernel_rfl) hf with ⟨hcs, hx⟩ | ⟨a, len', cap', m, n, V0, V1, D0, D1, P0, P1, hcs, _, hle, hmax, hm, hx, hall⟩
  · simp [Value.cells] at hcs
    obtain ⟨rfl, rfl, rfl⟩ := hcs
    exact ⟨[], none, 0, rfl, Nat.le_refl _, fun k hk => by simp at hk⟩
  · simp [Value.cells] at hcs
    obtain ⟨rfl, rfl, rfl⟩ := hcs
    simp only [if_true] at hm
    subst hm
    by_cases h0 : len = 0
    · subst h0; exact ⟨[], some a, m, rfl, Nat.zero_le _, fun k hk => by simp at hk⟩
    · obtain ⟨b, off, rfl, hb⟩ := spot_of (by simpa using (hall 0 (by omega)).1)
      have hz : ∀ i, i < len → ∃ y : Int × Int, W.cell? ⟨b, off + i * 2, none⟩ = some (.int .i64 y.1) ∧ W.cell? ⟨b, off + i * 2 + 1, none⟩ = some (.int .i64 y.2) := by
        intro i hi
        obtain ⟨c0, c1, t0, t1⟩ := hall i (by omega)
        obtain ⟨x, e0, -, -⟩ := DataW.trod_int Try.underlying3 t0
        obtain ⟨y, e1, -, -⟩ := DataW.trod_int Try.underlying2 t1
        simp at e0 e1
        rw [add_plain] at c0 c1
        exact ⟨(x, y), by rw [c0, e0], by rw [← e1]; simpa [Nat.add_assoc] using c1⟩
      obtain ⟨f, hf2⟩ := Deep.choose_lt hz
      refine ⟨(List.range len).map f, some ⟨b, off, none⟩, m, by simp, by simpa using hle, fun k hk => ⟨b, off, rfl, hb, ?_⟩⟩
      simp at hk
      have eg : sp ((List.range len).map f) k = f k := by unfold sp; simp [hk]
      rw [eg]
      exact hf2 k hk
end
end Go.Proofs.Ytcchmjbedppfnaa

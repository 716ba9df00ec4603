/-
  Clock: openers of spans and lists of spans.
-/
import Derived.Test.YtcchmjbedppfnaaFrame
import Derived.Test.YtcchmjbedppfnaaEvA
namespace Go.Proofs.Ytcchmjbedppfnaa
open Go.ChangeShapes Go.WideShapes Go.ChangeAt Go.RowKit Go.Joins
set_option linter.unusedSimpArgs false
section
variable {H : Type} {enc : TypeId × Value → H} {W : World} {base : Nat} {v : Value} {d : DataW H} {p : List MemPlace}
set_option maxRecDepth 100000 in
theorem open_spn (hv : Value.okWide Try.prog W .any base 23 v) (h : DataW.Trod enc Try.prog W 0 (fun _ => true) true 23 v d p) : ∃ z : Int × Int, v = spv z := by
  obtain ⟨c0, c1, y0, y1, m, rfl, rfl, rfl, h0, h1⟩ := open_agg2 Try.underlying23 (by kernel_rfl) cells23 hv h
  obtain ⟨x0, z0, -, -⟩ := DataW.trod_int Try.underlying2 h0
  obtain ⟨x1, z1, -, -⟩ := DataW.trod_int Try.underlying2 h1
  simp at z0 z1
  subst z0 z1
  exact ⟨(x0, x1), rfl⟩
set_option maxRecDepth 100000 in
theorem open_sps (hv : Value.okWide Try.prog W .any base 50 v) (h : DataW.Trod enc Try.prog W 0 (fun _ => true) true 50 v d p) : ∃ zs : List (Int × Int), Sps W.heap.size W v zs := by
  obtain ⟨a0, len, cap, rfl⟩ := okWide_slice Try.underlying50 hv
  obtain ⟨fuel, hf⟩ := h
  rcases Deep.open_slice_pairs Try.underlying50 Try.underlying23 (by kernel_rfl) rfl rfl (by kernel_rfl) (by kernel_rfl) hf with ⟨hcs, hx⟩ | ⟨a, len', cap', m, n, V0, V1, D0, D1, P0, P1, hcs, _, hle, hmax, hm, hx, hall⟩
  · simp [Value.cells] at hcs
    obtain ⟨rfl, rfl, rfl⟩ := hcs
    exact ⟨[], none, 0, rfl, Nat.le_refl _, fun k hk => by simp at hk⟩
  · simp [Value.cells] at hcs
    obtain ⟨rfl, rfl, rfl⟩ := hcs
    simp only [if_true] at hm
    subst hm
    by_cases h0 : len = 0
    · subst h0; exact ⟨[], some a, m, rfl, Nat.zero_le _, fun k hk => by simp at hk⟩
    · obtain ⟨b, off, rfl, hb⟩ := spot_of (by simpa using (hall 0 (by omega)).1)
      have hz : ∀ i, i < len → ∃ y : Int × Int, W.cell? ⟨b, off + i * 2, none⟩ = some (.int .i64 y.1) ∧ W.cell? ⟨b, off + i * 2 + 1, none⟩ = some (.int .i64 y.2) := by
        intro i hi
        obtain ⟨c0, c1, t0, t1⟩ := hall i (by omega)
        obtain ⟨x, e0, -, -⟩ := DataW.trod_int Try.underlying2 t0
        obtain ⟨y, e1, -, -⟩ := DataW.trod_int Try.underlying2 t1
        simp at e0 e1
        rw [add_plain] at c0 c1
        exact ⟨(x, y), by rw [c0, e0], by rw [← e1]; simpa [Nat.add_assoc] using c1⟩
      obtain ⟨f, hf2⟩ := Deep.choose_lt hz
      refine ⟨(List.range len).map f, some ⟨b, off, none⟩, m, by simp, by simpa using hle, fun k hk => ⟨b, off, rfl, hb, ?_⟩⟩
      simp at hk
      have eg : sp ((List.range len).map f) k = f k := by unfold sp; simp [hk]
      rw [eg]
      exact hf2 k hk
end
end Go.Proofs.Ytcchmjbedppfnaa

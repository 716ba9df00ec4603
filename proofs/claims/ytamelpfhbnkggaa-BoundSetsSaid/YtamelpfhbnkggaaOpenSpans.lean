/-
  The opener of a slice of spans.
-/
import Derived.Test.YtamelpfhbnkggaaFrame
import Derived.Test.YtamelpfhbnkggaaIter
import Derived.Deep.SlicePairs
namespace Go.Proofs.Ytamelpfhbnkggaa
open Go.ChangeShapes Go.WideShapes Go.ChangeAt Go.RowKit Go.Joins
section
variable {H : Type} {enc : TypeId × Value → H} {W : World} {base : Nat} {v : Value} {d : DataW H} {p : List MemPlace}
theorem shape_lt {w : World} {b : Nat} {x : TypeId × Nat} (h : w.shape? b = some x) : b < w.heap.size := by
  by_cases hb : b < w.heap.size
  · exact hb
  · exfalso
    unfold World.shape? at h
    rw [Array.getElem?_eq_none (by omega)] at h
    simp at h
set_option maxRecDepth 100000 in
theorem open_spans (hv : Value.okWide Try.prog W .any base 43 v) (h : DataW.Trod enc Try.prog W 0 (fun _ => true) true 43 v d p) : ∃ zs : List (Int × Int), Spans W.heap.size W v zs := by
  obtain ⟨a0, len, cap, rfl⟩ := okWide_slice Try.underlying43 hv
  obtain ⟨fuel, hf⟩ := h
  rcases Deep.open_slice_pairs Try.underlying43 Try.underlying23 (by kernel_rfl) rfl rfl (by kernel_rfl) (by kernel_rfl) hf with ⟨hcs, hx⟩ | ⟨a, len', cap', m, n, V0, V1, D0, D1, P0, P1, hcs, _, hle, hmax, hm, hx, hall⟩
  · simp [Value.cells] at hcs
    obtain ⟨rfl, rfl, rfl⟩ := hcs
    exact ⟨[], .inl ⟨rfl, rfl⟩⟩
  · simp [Value.cells] at hcs
    obtain ⟨rfl, rfl, rfl⟩ := hcs
    simp only [if_true] at hm
    have hhas : W.has Try.prog .any base a 23 cap := by
      simp only [Value.okWide, Try.underlying43, Cell.okWide, Cell.ok] at hv
      exact hv.2.2
    obtain ⟨_, hspot, row, cells, hsh, _⟩ := hhas
    obtain ⟨b, off, spot⟩ := a
    simp only at hspot hsh
    subst hspot
    have hb := shape_lt hsh
    subst hm
    have hz : ∀ i, i < len → ∃ z : Int × Int, V0 i = .int .i64 z.1 ∧ V1 i = .int .i64 z.2 := by
      intro i hi
      obtain ⟨c0, c1, t0, t1⟩ := hall i (by omega)
      obtain ⟨x, e0, -, -⟩ := DataW.trod_int Try.underlying2 t0
      obtain ⟨y, e1, -, -⟩ := DataW.trod_int Try.underlying2 t1
      simp at e0 e1
      exact ⟨(x, y), e0, e1⟩
    obtain ⟨f, hf2⟩ := Deep.choose_lt hz
    refine ⟨upto f len, .inr ⟨b, off, _, by rw [upto_length], hb, fun j hj => ?_⟩⟩
    rw [upto_length] at hj
    obtain ⟨c0, c1, -, -⟩ := hall j (by omega)
    obtain ⟨e0, e1⟩ := hf2 j hj
    have eg : (upto f len)[j]?.getD (0, 0) = f j := by simp [upto, hj]
    rw [eg]
    rw [Go.WideShapes.add_plain] at c0 c1
    exact ⟨by rw [← e0]; exact c0, by rw [← e1]; simpa [Nat.add_assoc] using c1⟩
end
end Go.Proofs.Ytamelpfhbnkggaa

/-
  Lists of 16-bit numbers opened.
-/
import Derived.Test.YthogahdnidjelaaFrame
import Derived.Test.YthogahdnidjelaaLawUniq
namespace Go.Proofs.Ythogahdnidjelaa
open Go.ChangeShapes Go.WideShapes Go.ChangeAt Go.RowKit Go.Joins
section
variable {H : Type} {enc : TypeId × Value → H} {W : World} {base : Nat} {v : Value} {d : DataW H} {p : List MemPlace}
set_option maxRecDepth 100000 in
theorem open_u16s (hv : Value.okWide Try.prog W .any base 76 v) (h : DataW.Trod enc Try.prog W 0 (fun _ => true) true 76 v d p) : ∃ zs : List Int, Us W.heap.size W v zs := by
  obtain ⟨a0, len, cap, rfl⟩ := okWide_slice Try.underlying76 hv
  have hlt := lt_of_trod h
  obtain ⟨fuel, hf⟩ := h
  rcases open_ints Try.underlying76 Try.underlying62 (by kernel_rfl) hf with ⟨hcs, hx⟩ | ⟨a, len', cap', zs, hcs, _, hle, hmax, hall, hx, cell, wf⟩
  · simp [Value.cells] at hcs
    obtain ⟨rfl, rfl, rfl⟩ := hcs
    exact ⟨[], ⟨none, 0, rfl, fun k hk => by simp at hk⟩, fun k hk => by simp at hk⟩
  · simp [Value.cells] at hcs
    obtain ⟨rfl, rfl, rfl⟩ := hcs
    simp only [if_true] at hall
    simp only [Prod.mk.injEq] at hx
    obtain ⟨rfl, rfl⟩ := hx
    by_cases h0 : len = 0
    · subst h0; exact ⟨[], ⟨some a, cap, rfl, fun k hk => by simp at hk⟩, fun k hk => by simp at hk⟩
    · obtain ⟨b, off, rfl, hc⟩ := ints_at cell (by omega)
      have hb : b < W.heap.size := by
        exact hlt (.cell b (off + 0)) (List.mem_map.2 ⟨0, List.mem_range.2 (by omega), rfl⟩)
      have e : (zs.take len).length = len := by rw [List.length_take]; omega
      refine ⟨zs.take len, ⟨some ⟨b, off, none⟩, cap, by rw [e], fun k hk => ⟨b, off, rfl, hb, ?_⟩⟩, fun k hk => ?_⟩
      · rw [e] at hk
        rw [hc k (by omega), List.getD_eq_getElem?_getD, List.getElem?_take]
        simp [hk]
      · have hk' := hk
        rw [e] at hk
        rw [List.getElem?_eq_getElem hk', Option.getD_some]
        exact u16_of_wf (wf _ (List.mem_of_mem_take (List.getElem_mem hk')))
end
theorem law_uniq_int (sv : Value) (zs : List Int) (h m f : Int) (hh : 0 ≤ h ∧ h ≤ 65535) (hm : 0 ≤ m ∧ m ≤ 65535) (hf : 0 ≤ f ∧ f ≤ 65535) (w : World) (hI : Us w.heap.size w sv zs) :
    Calls Try.prog 11 #[sv, .int .u16 h, .int .u16 m, .int .u16 f] w fun e w' => e = .returned (.bool true) ∧ Below w.heap.size w w' := by
  obtain ⟨h, rfl⟩ := Int.eq_ofNat_of_zero_le hh.1
  obtain ⟨m, rfl⟩ := Int.eq_ofNat_of_zero_le hm.1
  obtain ⟨f, rfl⟩ := Int.eq_ofNat_of_zero_le hf.1
  exact law_uniq sv zs h m f (by omega) (by omega) (by omega) w hI
end Go.Proofs.Ythogahdnidjelaa

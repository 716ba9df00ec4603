/-
  Clock: openers of lists of 16-bit numbers.
-/
import Derived.Test.YtcchmjbedppfnaaFrame
import Derived.Test.YtcchmjbedppfnaaOrdRow
import Derived.Laws.IdiomArrays
namespace Go.Proofs.Ytcchmjbedppfnaa
open Go.ChangeShapes Go.WideShapes Go.ChangeAt Go.RowKit Go.Joins
set_option linter.unusedSimpArgs false
section
variable {H : Type} {enc : TypeId × Value → H} {W : World} {base : Nat} {v : Value} {d : DataW H} {p : List MemPlace}
/-- a slice of numbers -/
theorem ints_of {t e : TypeId} {kk : IntKind} (ht : Try.prog.underlying t = some (.slice e)) (he : Try.prog.underlying e = some (.int kk)) (hc : Try.prog.cellsOf e = 1) {fuel : Nat} {u : Value} {x : DataW H × List MemPlace} (hf : DataW.trod enc Try.prog W 0 (fun _ => true) true fuel t [u] = some x) :
    ∃ zs : List Int, ∃ a cap, u = .slice a zs.length cap ∧ ∀ j, j < zs.length → (Lit.int kk (tt zs j)).wf = true ∧ ∃ b off, a = some ⟨b, off, none⟩ ∧ b < W.heap.size ∧ W.cell? ⟨b, off + j, none⟩ = some (.int kk (tt zs j)) := by
  rcases open_ints ht he hc hf with ⟨hcs, _⟩ | ⟨a, len, cap, zs, hcs, _, hle, hmax, hall, hx, cell, wf⟩
  · simp at hcs
    subst hcs
    exact ⟨[], none, 0, rfl, fun j hj => by simp at hj⟩
  · simp at hcs
    subst hcs
    simp only [if_true] at hall
    by_cases h0 : len = 0
    · subst h0; exact ⟨[], some a, cap, rfl, fun j hj => by simp at hj⟩
    · obtain ⟨b, off, rfl, hb⟩ := spot_of (cell 0 (by omega))
      have e2 : (zs.take len).length = len := by rw [List.length_take]; omega
      refine ⟨zs.take len, some ⟨b, off, none⟩, cap, by rw [e2], fun j hj => ?_⟩
      have hj' := hj
      rw [e2] at hj
      have ej : tt (zs.take len) j = zs.getD j 0 := by
        unfold tt
        rw [List.getD_eq_getElem?_getD, List.getElem?_take]
        simp [hj]
      have cj := cell j (by omega)
      rw [add_plain] at cj
      refine ⟨?_, b, off, rfl, hb, by rw [ej]; exact cj⟩
      unfold tt
      rw [List.getElem?_eq_getElem hj', Option.getD_some]
      exact wf _ (List.mem_of_mem_take (List.getElem_mem hj'))
theorem cells77 : Try.prog.cellsOf 77 = 1 := by kernel_rfl
theorem cells86 : Try.prog.cellsOf 86 = 2 := by kernel_rfl
theorem slice_cells {a : Option Addr} {n c : Nat} : (Value.slice a n c).cells.toList = [.slice a n c] := rfl
set_option maxRecDepth 100000 in
theorem open_u16l (hv : Value.okWide Try.prog W .any base 84 v) (h : DataW.Trod enc Try.prog W 0 (fun _ => true) true 84 v d p) : ∃ zs : List Int, U16 W.heap.size W v zs := by
  obtain ⟨a0, len, cap, rfl⟩ := okWide_slice Try.underlying84 hv
  obtain ⟨fuel, hf⟩ := h
  rw [slice_cells] at hf
  obtain ⟨zs, a, c, e, hz⟩ := ints_of Try.underlying84 Try.underlying77 cells77 hf
  exact ⟨zs, a, c, e, fun k hk => ⟨u16_of_wf (hz k hk).1, (hz k hk).2⟩⟩
theorem pair_of_arr {P : Program} {w : World} {spare : Nat → Bool} {held : Bool} {t e : TypeId} {fuel : Nat} {c0 c1 : Value} {x : DataW H × List MemPlace} (ht : P.underlying t = some (.array 2 e)) (hce : P.cellsOf e = 1)
    (h : DataW.trod enc P w base spare held fuel t [c0, c1] = some x) :
    ∃ n y0 y1, DataW.trod enc P w base spare held n e [c0] = some y0 ∧ DataW.trod enc P w base spare held n e [c1] = some y1 := by
  cases fuel with
  | zero => simp [DataW.trod] at h
  | succ n =>
    unfold DataW.trod at h
    rw [ht] at h
    have r2 : List.range 2 = [0, 1] := rfl
    simp [r2, hce] at h
    cases h0 : DataW.trod enc P w base spare held n e [c0] with
    | none => simp [h0] at h
    | some y0 =>
      cases h1 : DataW.trod enc P w base spare held n e [c1] with
      | none => simp [h0, h1] at h
      | some y1 => exact ⟨n, y0, y1, h0, h1⟩
/-- a slice of structs or arrays, element by element -/
theorem rows_of {α : Type} [Inhabited α] {t e : TypeId} {size : Nat} (Q : α → Nat → Nat → Prop) (ht : Try.prog.underlying t = some (.slice e)) (hc : Try.prog.cellsOf e = size) (hs : 0 < size)
    (he : ∀ b off n cs' (x : DataW H × List MemPlace), W.cells? 0 (⟨b, off, none⟩ : Addr) size = some cs' → DataW.trod enc Try.prog W 0 (fun _ => true) true n e cs' = some x → ∃ y, Q y b off)
    {fuel : Nat} {u : Value} {x : DataW H × List MemPlace} (hf : DataW.trod enc Try.prog W 0 (fun _ => true) true fuel t [u] = some x) :
    ∃ zs : List α, ∃ a cap, u = .slice a zs.length cap ∧ ∀ j, j < zs.length → ∃ b off, a = some ⟨b, off, none⟩ ∧ b < W.heap.size ∧ Q (zs[j]?.getD default) b (off + j * size) := by
  rcases Deep.open_slice ht hf with ⟨hcs, _⟩ | ⟨a, len, cap, m, n, D, Pl, hcs, _, hle, _, hm, _, hall⟩
  · simp at hcs
    subst hcs
    exact ⟨[], none, 0, rfl, fun k hk => by simp at hk⟩
  · simp at hcs
    subst hcs
    simp only [if_true] at hm
    subst hm
    rw [hc] at hall
    by_cases h0 : len = 0
    · subst h0; exact ⟨[], some a, m, rfl, fun k hk => by simp at hk⟩
    · obtain ⟨c0, q1, q2⟩ := hall 0 (by omega)
      obtain ⟨_, hl0, hc0⟩ := World.cells?_some q1
      have hc00 := hc0 0 (by omega)
      obtain ⟨b, off, rfl, hb⟩ := spot_of (a := a) (u := c0.getD 0 default) (W := W) (by
        have e : ((a.add (0 * size)).add 0) = a.add 0 := by simp [Addr.add]
        rw [e] at hc00
        rw [hc00]
        have : 0 < c0.length := by omega
        rw [List.getElem?_eq_getElem this, List.getD_eq_getElem?_getD, List.getElem?_eq_getElem this]
        rfl)
      have hz : ∀ i, i < len → ∃ y : α, Q y b (off + i * size) := by
        intro i hi
        obtain ⟨cs', h1, h2⟩ := hall i (by omega)
        rw [add_plain] at h1
        exact he b (off + i * size) n cs' _ h1 h2
      obtain ⟨f, hf2⟩ := Deep.choose_lt hz
      refine ⟨(List.range len).map f, some ⟨b, off, none⟩, m, by simp, fun k hk => ⟨b, off, rfl, hb, ?_⟩⟩
      simp at hk
      have eg : ((List.range len).map f)[k]?.getD default = f k := by simp [hk]
      rw [eg]
      exact hf2 k hk
theorem t16_of {b off n : Nat} {cs' : List Value} {x : DataW H × List MemPlace} (h1 : W.cells? 0 (⟨b, off, none⟩ : Addr) 2 = some cs') (h2 : DataW.trod enc Try.prog W 0 (fun _ => true) true n 86 cs' = some x) :
    ∃ y : Int × Int, ((0 ≤ y.1 ∧ y.1 ≤ 65535) ∧ (0 ≤ y.2 ∧ y.2 ≤ 65535)) ∧ W.cell? ⟨b, off, none⟩ = some (.int .u16 y.1) ∧ W.cell? ⟨b, off + 1, none⟩ = some (.int .u16 y.2) := by
  obtain ⟨_, hlen, hcell⟩ := World.cells?_some h1
  match cs', hlen with
  | [v0, v1], _ =>
    obtain ⟨m, y0, y1, g0, g1⟩ := pair_of_arr Try.underlying86 cells77 h2
    have e0 := hcell 0 (by omega)
    have e1 := hcell 1 (by omega)
    rw [add_plain] at e0 e1
    obtain ⟨x0, z0, _, w0⟩ := DataW.trod_int Try.underlying77 g0
    obtain ⟨x1, z1, _, w1⟩ := DataW.trod_int Try.underlying77 g1
    simp at z0 z1
    subst z0 z1
    exact ⟨(x0, x1), ⟨u16_of_wf w0, u16_of_wf w1⟩, by simpa using e0, by simpa using e1⟩
set_option maxRecDepth 100000 in
theorem open_t16s (hv : Value.okWide Try.prog W .any base 83 v) (h : DataW.Trod enc Try.prog W 0 (fun _ => true) true 83 v d p) : ∃ zs : List (Int × Int), T16 W.heap.size W v zs := by
  obtain ⟨a0, len, cap, rfl⟩ := okWide_slice Try.underlying83 hv
  obtain ⟨fuel, hf⟩ := h
  rw [slice_cells] at hf
  obtain ⟨zs, a, c, e, hz⟩ := rows_of (α := Int × Int) (fun y b off => ((0 ≤ y.1 ∧ y.1 ≤ 65535) ∧ (0 ≤ y.2 ∧ y.2 ≤ 65535)) ∧ W.cell? ⟨b, off, none⟩ = some (.int .u16 y.1) ∧ W.cell? ⟨b, off + 1, none⟩ = some (.int .u16 y.2)) Try.underlying83 cells86 (by decide) (fun b off n cs' x h1 h2 => t16_of h1 h2) hf
  refine ⟨zs, a, c, e, fun k hk => ?_⟩
  obtain ⟨b, off, e1, hb, hq, c0, c1⟩ := hz k hk
  exact ⟨hq, b, off, e1, hb, c0, c1⟩
end
end Go.Proofs.Ytcchmjbedppfnaa

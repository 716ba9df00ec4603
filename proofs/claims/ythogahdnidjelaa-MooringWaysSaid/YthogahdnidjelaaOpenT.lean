/-
  Lists of pairs of small numbers opened.
-/
import Derived.Test.YthogahdnidjelaaOpenH
import Derived.Laws.IdiomArrays
namespace Go.Proofs.Ythogahdnidjelaa
open Go.ChangeShapes Go.WideShapes Go.ChangeAt Go.RowKit Go.Joins
set_option linter.unusedSimpArgs false
def tw (zs : List (Int × Int)) (k : Nat) : Int × Int := zs[k]?.getD (0, 0)
def Twos (n₀ : Nat) (W : World) (sv : Value) (zs : List (Int × Int)) : Prop :=
  ∃ a cap, sv = .slice a zs.length cap ∧ ∀ k, k < zs.length → ((0 ≤ (tw zs k).1 ∧ (tw zs k).1 ≤ 255) ∧ (0 ≤ (tw zs k).2 ∧ (tw zs k).2 ≤ 255)) ∧ ∃ b off, a = some ⟨b, off, none⟩ ∧ b < n₀ ∧
    W.cell? ⟨b, off + k * 2, none⟩ = some (.int .u8 (tw zs k).1) ∧ W.cell? ⟨b, off + k * 2 + 1, none⟩ = some (.int .u8 (tw zs k).2)
theorem Twos.form {n₀ : Nat} {W : World} {sv : Value} {zs : List (Int × Int)} (h : Twos n₀ W sv zs) : ∃ a c, sv = .slice a zs.length c := by
  obtain ⟨a, c, rfl, -⟩ := h
  exact ⟨a, c, rfl⟩
section
variable {H : Type} {enc : TypeId × Value → H} {W : World} {base : Nat} {v : Value} {d : DataW H} {p : List MemPlace}
theorem pair_of_array {P : Program} {w : World} {spare : Nat → Bool} {held : Bool} {t e : TypeId} {fuel : Nat} {c0 c1 : Value} {x : DataW H × List MemPlace} (ht : P.underlying t = some (.array 2 e)) (hce : P.cellsOf e = 1)
    (h : DataW.trod enc P w base spare held fuel t [c0, c1] = some x) :
    ∃ n y0 y1, DataW.trod enc P w base spare held n e [c0] = some y0 ∧ DataW.trod enc P w base spare held n e [c1] = some y1 := by
  cases fuel with
  | zero => simp [DataW.trod] at h
  | succ n =>
    unfold DataW.trod at h
    rw [ht] at h
    have r2 : List.range 2 = [0, 1] := rfl
    simp [r2, hce] at h
    cases h0 : DataW.trod enc P w base spare held n e [c0] with
    | none => simp [h0] at h
    | some y0 =>
      cases h1 : DataW.trod enc P w base spare held n e [c1] with
      | none => simp [h0, h1] at h
      | some y1 => exact ⟨n, y0, y1, h0, h1⟩
theorem cells82 : Try.prog.cellsOf 82 = 2 := by kernel_rfl
theorem cells5' : Try.prog.cellsOf 5 = 1 := by kernel_rfl
theorem u8_of_wfT {a : Int} (h : (Lit.int .u8 a).wf = true) : 0 ≤ a ∧ a ≤ 255 := by
  have h1 : IntKind.u8.min = 0 := rfl
  have h2 : IntKind.u8.max = 255 := rfl
  simp [Lit.wf, h1, h2] at h
  exact ⟨by omega, by omega⟩
set_option maxRecDepth 100000 in
theorem two_of {n b off i : Nat} {cs' : List Value} {x : DataW H × List MemPlace} (h1 : W.cells? 0 ((⟨b, off, none⟩ : Addr).add (i * 2)) 2 = some cs') (h2 : DataW.trod enc Try.prog W 0 (fun _ => true) true n 82 cs' = some x) :
    ∃ y : Int × Int, ((0 ≤ y.1 ∧ y.1 ≤ 255) ∧ (0 ≤ y.2 ∧ y.2 ≤ 255)) ∧ W.cell? ⟨b, off + i * 2, none⟩ = some (.int .u8 y.1) ∧ W.cell? ⟨b, off + i * 2 + 1, none⟩ = some (.int .u8 y.2) := by
  obtain ⟨_, hlen, hcell⟩ := World.cells?_some h1
  match cs', hlen with
  | [v0, v1], _ =>
    obtain ⟨m, y0, y1, g0, g1⟩ := pair_of_array Try.underlying82 cells5' h2
    have e0 := hcell 0 (by omega)
    have e1 := hcell 1 (by omega)
    rw [add_plain, add_plain] at e0 e1
    obtain ⟨x0, z0, _, w0⟩ := DataW.trod_int Try.underlying5 g0
    obtain ⟨x1, z1, _, w1⟩ := DataW.trod_int Try.underlying5 g1
    simp at z0 z1
    subst z0 z1
    exact ⟨(x0, x1), ⟨u8_of_wfT w0, u8_of_wfT w1⟩, by simpa using e0, by simpa using e1⟩
set_option maxRecDepth 100000 in
theorem open_b2s (hv : Value.okWide Try.prog W .any base 79 v) (h : DataW.Trod enc Try.prog W 0 (fun _ => true) true 79 v d p) : ∃ zs : List (Int × Int), Twos W.heap.size W v zs := by
  obtain ⟨a0, len0, cap0, rfl⟩ := okWide_slice Try.underlying79 hv
  obtain ⟨fuel, hf⟩ := h
  rcases Deep.open_slice Try.underlying79 hf with ⟨hcs, _⟩ | ⟨a, len, cap, m, n, D, Pl, hcs, _, hle, _, hm, _, hall⟩
  · simp [Value.cells] at hcs
    obtain ⟨rfl, rfl, rfl⟩ := hcs
    exact ⟨[], none, 0, rfl, fun k hk => by simp at hk⟩
  · simp [Value.cells] at hcs
    obtain ⟨rfl, rfl, rfl⟩ := hcs
    simp only [if_true] at hm
    subst hm
    rw [cells82] at hall
    by_cases h0 : len0 = 0
    · subst h0; exact ⟨[], some a, m, rfl, fun k hk => by simp at hk⟩
    · obtain ⟨c0, q1, q2⟩ := hall 0 (by omega)
      obtain ⟨_, hl0, hc0⟩ := World.cells?_some q1
      have hc00 := hc0 0 (by omega)
      obtain ⟨b, off, rfl, hb⟩ := spot_of (a := a) (u := c0.getD 0 default) (W := W) (by
        have e : ((a.add (0 * 2)).add 0) = a.add 0 := by simp [Addr.add]
        rw [e] at hc00
        rw [hc00]
        match c0, hl0 with
        | x :: _, _ => rfl)
      have hz : ∀ i, i < len0 → ∃ y : Int × Int, ((0 ≤ y.1 ∧ y.1 ≤ 255) ∧ (0 ≤ y.2 ∧ y.2 ≤ 255)) ∧ W.cell? ⟨b, off + i * 2, none⟩ = some (.int .u8 y.1) ∧ W.cell? ⟨b, off + i * 2 + 1, none⟩ = some (.int .u8 y.2) := by
        intro i hi
        obtain ⟨cs', h1, h2⟩ := hall i (by omega)
        exact two_of h1 h2
      obtain ⟨f, hf2⟩ := Deep.choose_lt hz
      refine ⟨(List.range len0).map f, some ⟨b, off, none⟩, m, by simp, fun k hk => ?_⟩
      simp at hk
      have eg : tw ((List.range len0).map f) k = f k := by unfold tw; simp [hk]
      rw [eg]
      obtain ⟨h1, h2⟩ := hf2 k hk
      exact ⟨h1, b, off, rfl, hb, h2⟩
end
end Go.Proofs.Ythogahdnidjelaa

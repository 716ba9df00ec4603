/-
  The frame of the rows: arguments opened.
-/
import Derived.Test.YtbbaehmfadpgeaaRows
import Derived.Test.YtbbaehmfadpgeaaBfMath
import Derived.WalkKit
import Derived.ProofKit
import Derived.OpenShut
import Derived.ShutString
import Derived.ChangeOld
import Derived.Below
import Derived.Lib.SmallJoins
import Derived.Deep.SlicePairs
import Derived.Laws.IdiomArrays
namespace Go.Proofs.Ytbbaehmfadpgeaa
open Go.ChangeShapes Go.WideShapes Go.ChangeAt Go.RowKit Go.Joins
set_option linter.unusedSimpArgs false
theorem own : ownKnob Try.prog.godebug = none := by kernel_rfl
theorem laidOut : laidOutB Try.prog = true := by kernel_rfl
/-- a number of 64 bits -/
def I64 (a : Int) : Prop := -9223372036854775808 ≤ a ∧ a ≤ 9223372036854775807
theorem i64_of_wf {a : Int} (h : (Lit.int .i64 a).wf = true) : I64 a := by
  have h1 : IntKind.i64.min = -9223372036854775808 := rfl
  have h2 : IntKind.i64.max = 9223372036854775807 := rfl
  simp [Lit.wf, h1, h2] at h
  exact ⟨by omega, by omega⟩
theorem u16_of_wf {a : Int} (h : (Lit.int .u16 a).wf = true) : 0 ≤ a ∧ a ≤ 65535 := by
  have h1 : IntKind.u16.min = 0 := rfl
  have h2 : IntKind.u16.max = 65535 := rfl
  simp [Lit.wf, h1, h2] at h
  exact ⟨by omega, by omega⟩
theorem u8_of_wf {a : Int} (h : (Lit.int .u8 a).wf = true) : 0 ≤ a ∧ a ≤ 255 := by
  have h1 : IntKind.u8.min = 0 := rfl
  have h2 : IntKind.u8.max = 255 := rfl
  simp [Lit.wf, h1, h2] at h
  exact ⟨by omega, by omega⟩
section
variable {H : Type} {enc : TypeId × Value → H} {W : World} {base : Nat} {v : Value} {d : DataW H} {p : List MemPlace}
theorem lt_of_trod {t : TypeId} (h : DataW.Trod enc Try.prog W 0 (fun _ => true) true t v d p) : ∀ x ∈ p, x.block < W.heap.size := by
  obtain ⟨m, hm⟩ := h
  exact DataW.trod_lt m _ _ _ hm
set_option maxRecDepth 100000 in
theorem open_int3 (hv : Value.okWide Try.prog W .any base 3 v) (h : DataW.Trod enc Try.prog W 0 (fun _ => true) true 3 v d p) : ∃ a : Int, v = .int .i64 a ∧ I64 a := by
  obtain ⟨a, rfl, rfl, rfl, wa⟩ := open_int Try.underlying3 hv h
  exact ⟨a, rfl, i64_of_wf wa⟩
set_option maxRecDepth 100000 in
theorem open_i64 (hv : Value.okWide Try.prog W .any base 2 v) (h : DataW.Trod enc Try.prog W 0 (fun _ => true) true 2 v d p) : ∃ a : Int, v = .int .i64 a ∧ I64 a := by
  obtain ⟨a, rfl, rfl, rfl, wa⟩ := open_int Try.underlying2 hv h
  exact ⟨a, rfl, i64_of_wf wa⟩
theorem cells2 : Try.prog.cellsOf 2 = 1 := by kernel_rfl
theorem cells3 : Try.prog.cellsOf 3 = 1 := by kernel_rfl
theorem cells23 : Try.prog.cellsOf 23 = 5 := by kernel_rfl
theorem spot_of {a : Addr} {u : Value} (h : W.cell? (a.add 0) = some u) : ∃ b off, a = ⟨b, off, none⟩ ∧ b < W.heap.size := by
  have hb := World.block_lt_of_cell? W _ h
  obtain ⟨b, off, spot⟩ := a
  have hspot : spot = none := by simpa [Addr.add] using World.cell?_spot h
  subst hspot
  exact ⟨b, off, rfl, by simpa [Addr.add] using hb⟩
/-- a slice of structs or arrays, element by element -/
theorem rows_of {α : Type} [Inhabited α] {t e : TypeId} {size : Nat} (Q : α → Nat → Nat → Prop) (ht : Try.prog.underlying t = some (.slice e)) (hc : Try.prog.cellsOf e = size) (hs : 0 < size)
    (he : ∀ b off n cs' (x : DataW H × List MemPlace), W.cells? 0 (⟨b, off, none⟩ : Addr) size = some cs' → DataW.trod enc Try.prog W 0 (fun _ => true) true n e cs' = some x → ∃ y, Q y b off)
    {fuel : Nat} {u : Value} {x : DataW H × List MemPlace} (hf : DataW.trod enc Try.prog W 0 (fun _ => true) true fuel t [u] = some x) :
    ∃ zs : List α, ∃ a cap, u = .slice a zs.length cap ∧ zs.length ≤ cap ∧ ∀ j, j < zs.length → ∃ b off, a = some ⟨b, off, none⟩ ∧ b < W.heap.size ∧ Q (zs[j]?.getD default) b (off + j * size) := by
  rcases Deep.open_slice ht hf with ⟨hcs, _⟩ | ⟨a, len, cap, m, n, D, Pl, hcs, _, hle, _, hm, _, hall⟩
  · simp at hcs
    subst hcs
    exact ⟨[], none, 0, rfl, Nat.le_refl _, fun k hk => by simp at hk⟩
  · simp at hcs
    subst hcs
    simp only [if_true] at hm
    subst hm
    rw [hc] at hall
    by_cases h0 : len = 0
    · subst h0; exact ⟨[], some a, m, rfl, Nat.zero_le _, fun k hk => by simp at hk⟩
    · obtain ⟨c0, q1, q2⟩ := hall 0 (by omega)
      obtain ⟨_, hl0, hc0⟩ := World.cells?_some q1
      have hc00 := hc0 0 (by omega)
      obtain ⟨b, off, rfl, hb⟩ := spot_of (a := a) (u := c0.getD 0 default) (W := W) (by
        have e : ((a.add (0 * size)).add 0) = a.add 0 := by simp [Addr.add]
        rw [e] at hc00
        rw [hc00]
        have : 0 < c0.length := by omega
        rw [List.getElem?_eq_getElem this, List.getD_eq_getElem?_getD, List.getElem?_eq_getElem this]
        rfl)
      have hz : ∀ i, i < len → ∃ y : α, Q y b (off + i * size) := by
        intro i hi
        obtain ⟨cs', h1, h2⟩ := hall i (by omega)
        rw [add_plain] at h1
        exact he b (off + i * size) n cs' _ h1 h2
      obtain ⟨f, hf2⟩ := Deep.choose_lt hz
      refine ⟨(List.range len).map f, some ⟨b, off, none⟩, m, by simp, by simpa using hle, fun k hk => ⟨b, off, rfl, hb, ?_⟩⟩
      simp at hk
      have eg : ((List.range len).map f)[k]?.getD default = f k := by simp [hk]
      rw [eg]
      exact hf2 k hk
theorem arr5 {cs : Array Value} (h : cs.size = 5) : ∃ c0 c1 c2 c3 c4, cs = #[c0, c1, c2, c3, c4] := by
  obtain ⟨l⟩ := cs
  match l, h with
  | [c0, c1, c2, c3, c4], _ => exact ⟨c0, c1, c2, c3, c4, rfl⟩
set_option maxRecDepth 100000 in
theorem open_rec (hv : Value.okWide Try.prog W .any base 23 v) (h : DataW.Trod enc Try.prog W 0 (fun _ => true) true 23 v d p) : ∃ r : Rc, v = .agg #[.int .i64 r.id, .int .i64 r.cls, .int .i64 r.made, .int .i64 r.size, .int .i64 r.packed] := by
  obtain ⟨cs, rfl, hsz⟩ := okWide_struct Try.underlying23 hv
  obtain ⟨c0, c1, c2, c3, c4, rfl⟩ := arr5 (hsz.trans cells23)
  obtain ⟨fuel, hf⟩ := h
  obtain ⟨xs, k, hk, hxy, _, hxl, hf⟩ := DataW.trod_struct Try.underlying23 hf
  match xs, hxl with
  | [y0, y1, y2, y3, y4], _ =>
    have g0 := hf 0 _ rfl
    have g1 := hf 1 _ rfl
    have g2 := hf 2 _ rfl
    have g3 := hf 3 _ rfl
    have g4 := hf 4 _ rfl
    simp [cells2, cells3, Value.cells] at g0 g1 g2 g3 g4
    obtain ⟨x0, z0, -, -⟩ := DataW.trod_int Try.underlying2 g0
    obtain ⟨x1, z1, -, -⟩ := DataW.trod_int Try.underlying3 g1
    obtain ⟨x2, z2, -, -⟩ := DataW.trod_int Try.underlying2 g2
    obtain ⟨x3, z3, -, -⟩ := DataW.trod_int Try.underlying2 g3
    obtain ⟨x4, z4, -, -⟩ := DataW.trod_int Try.underlying2 g4
    simp at z0 z1 z2 z3 z4
    subst z0 z1 z2 z3 z4
    exact ⟨⟨x0, x1, x2, x3, x4⟩, rfl⟩
end
end Go.Proofs.Ytbbaehmfadpgeaa

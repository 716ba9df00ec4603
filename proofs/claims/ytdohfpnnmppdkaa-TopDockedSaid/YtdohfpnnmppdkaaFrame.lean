/-
  The frame of the laws' rows: arguments opened.
-/
import Derived.Test.YtdohfpnnmppdkaaRows
import Derived.Test.YtdohfpnnmppdkaaCbK
import Derived.WalkKit
import Derived.ProofKit
import Derived.OpenShut
import Derived.ShutString
import Derived.ChangeOld
import Derived.Below
import Derived.Lib.SmallJoins
import Derived.Deep.SlicePairs
import Derived.Laws.IdiomArrays
namespace Go.Proofs.Ytdohfpnnmppdkaa
open Go.ChangeShapes Go.WideShapes Go.ChangeAt Go.RowKit Go.Joins
set_option linter.unusedSimpArgs false
theorem own : ownKnob Try.prog.godebug = none := by kernel_rfl
theorem laidOut : laidOutB Try.prog = true := by kernel_rfl
/-- a number of 64 bits -/
def I64 (a : Int) : Prop := -9223372036854775808 ≤ a ∧ a ≤ 9223372036854775807
theorem i64_of_wf {a : Int} (h : (Lit.int .i64 a).wf = true) : I64 a := by
  have h1 : IntKind.i64.min = -9223372036854775808 := rfl
  have h2 : IntKind.i64.max = 9223372036854775807 := rfl
  simp [Lit.wf, h1, h2] at h
  exact ⟨by omega, by omega⟩
theorem u16_of_wf {a : Int} (h : (Lit.int .u16 a).wf = true) : 0 ≤ a ∧ a ≤ 65535 := by
  have h1 : IntKind.u16.min = 0 := rfl
  have h2 : IntKind.u16.max = 65535 := rfl
  simp [Lit.wf, h1, h2] at h
  exact ⟨by omega, by omega⟩
theorem u8_of_wf {a : Int} (h : (Lit.int .u8 a).wf = true) : 0 ≤ a ∧ a ≤ 255 := by
  have h1 : IntKind.u8.min = 0 := rfl
  have h2 : IntKind.u8.max = 255 := rfl
  simp [Lit.wf, h1, h2] at h
  exact ⟨by omega, by omega⟩
section
variable {H : Type} {enc : TypeId × Value → H} {W : World} {base : Nat} {v : Value} {d : DataW H} {p : List MemPlace}
theorem lt_of_trod {t : TypeId} (h : DataW.Trod enc Try.prog W 0 (fun _ => true) true t v d p) : ∀ x ∈ p, x.block < W.heap.size := by
  obtain ⟨m, hm⟩ := h
  exact DataW.trod_lt m _ _ _ hm
set_option maxRecDepth 100000 in
theorem open_int3 (hv : Value.okWide Try.prog W .any base 3 v) (h : DataW.Trod enc Try.prog W 0 (fun _ => true) true 3 v d p) : ∃ a : Int, v = .int .i64 a ∧ I64 a := by
  obtain ⟨a, rfl, rfl, rfl, wa⟩ := open_int Try.underlying3 hv h
  exact ⟨a, rfl, i64_of_wf wa⟩
set_option maxRecDepth 100000 in
theorem open_i64 (hv : Value.okWide Try.prog W .any base 2 v) (h : DataW.Trod enc Try.prog W 0 (fun _ => true) true 2 v d p) : ∃ a : Int, v = .int .i64 a ∧ I64 a := by
  obtain ⟨a, rfl, rfl, rfl, wa⟩ := open_int Try.underlying2 hv h
  exact ⟨a, rfl, i64_of_wf wa⟩
theorem cells2 : Try.prog.cellsOf 2 = 1 := by kernel_rfl
theorem cells3 : Try.prog.cellsOf 3 = 1 := by kernel_rfl
theorem cells5 : Try.prog.cellsOf 5 = 1 := by kernel_rfl
theorem cells70 : Try.prog.cellsOf 70 = 1 := by kernel_rfl
theorem cells23 : Try.prog.cellsOf 23 = 2 := by kernel_rfl
theorem cells62 : Try.prog.cellsOf 62 = 8 := by kernel_rfl
theorem cells24 : Try.prog.cellsOf 24 = 1 := by kernel_rfl
theorem cells26 : Try.prog.cellsOf 26 = 3 := by kernel_rfl
theorem cells52 : Try.prog.cellsOf 52 = 5 := by kernel_rfl
theorem spot_of {a : Addr} {u : Value} (h : W.cell? (a.add 0) = some u) : ∃ b off, a = ⟨b, off, none⟩ ∧ b < W.heap.size := by
  have hb := World.block_lt_of_cell? W _ h
  obtain ⟨b, off, spot⟩ := a
  have hspot : spot = none := by simpa [Addr.add] using World.cell?_spot h
  subst hspot
  exact ⟨b, off, rfl, by simpa [Addr.add] using hb⟩
set_option maxRecDepth 100000 in
theorem span_of {sp : Nat → Bool} {held : Bool} {n : Nat} {v0 v1 : Value} {x : DataW H × List MemPlace} (h : DataW.trod enc Try.prog W base sp held n 23 [v0, v1] = some x) : ∃ a b : Int, v0 = .int .i64 a ∧ v1 = .int .i64 b := by
  obtain ⟨xs, k, hk, hxy, _, hxl, hf⟩ := DataW.trod_struct Try.underlying23 h
  match xs, hxl with
  | [y0, y1], _ =>
    have g0 := hf 0 _ rfl
    have g1 := hf 1 _ rfl
    simp [cells2] at g0 g1
    obtain ⟨x0, z0, -, -⟩ := DataW.trod_int Try.underlying2 g0
    obtain ⟨x1, z1, -, -⟩ := DataW.trod_int Try.underlying2 g1
    simp at z0 z1
    exact ⟨x0, x1, z0, z1⟩
set_option maxRecDepth 100000 in
theorem node_of {b off n : Nat} {cs' : List Value} {x : DataW H × List MemPlace} (h1 : W.cells? 0 (⟨b, off, none⟩ : Addr) 8 = some cs') (h2 : DataW.trod enc Try.prog W 0 (fun _ => true) true n 62 cs' = some x) :
    ∃ y : Nd, W.cell? ⟨b, off, none⟩ = some (.int .i64 y.par) ∧ W.cell? ⟨b, off + 1, none⟩ = some (.int .i64 y.ol) ∧ W.cell? ⟨b, off + 2, none⟩ = some (.int .i64 y.oh) ∧ W.cell? ⟨b, off + 3, none⟩ = some (.int .i64 y.lim) ∧ W.cell? ⟨b, off + 4, none⟩ = some (.int .i64 y.ll) ∧ W.cell? ⟨b, off + 5, none⟩ = some (.int .i64 y.lh) ∧ W.cell? ⟨b, off + 6, none⟩ = some (.int .i64 y.lea) ∧ W.cell? ⟨b, off + 7, none⟩ = some (.int .i64 y.del) := by
  obtain ⟨_, hlen, hcell⟩ := World.cells?_some h1
  match cs', hlen with
  | [v0, v1, v2, v3, v4, v5, v6, v7], _ =>
    have e0 := hcell 0 (by omega)
    have e1 := hcell 1 (by omega)
    have e2 := hcell 2 (by omega)
    have e3 := hcell 3 (by omega)
    have e4 := hcell 4 (by omega)
    have e5 := hcell 5 (by omega)
    have e6 := hcell 6 (by omega)
    have e7 := hcell 7 (by omega)
    rw [add_plain] at e0 e1 e2 e3 e4 e5 e6 e7
    obtain ⟨xs, k, hk, hxy, _, hxl, hf⟩ := DataW.trod_struct Try.underlying62 h2
    match xs, hxl with
    | [y0, y1, y2, y3, y4, y5], _ =>
      have g0 := hf 0 _ rfl
      have g1 := hf 1 _ rfl
      have g2 := hf 2 _ rfl
      have g3 := hf 3 _ rfl
      have g4 := hf 4 _ rfl
      have g5 := hf 5 _ rfl
      simp [cells2, cells3, cells23] at g0 g1 g2 g3 g4 g5
      obtain ⟨x0, z0, -, -⟩ := DataW.trod_int Try.underlying3 g0
      obtain ⟨x1, x2, z1, z2⟩ := span_of g1
      obtain ⟨x3, z3, -, -⟩ := DataW.trod_int Try.underlying2 g2
      obtain ⟨x4, x5, z4, z5⟩ := span_of g3
      obtain ⟨x6, z6, -, -⟩ := DataW.trod_int Try.underlying2 g4
      obtain ⟨x7, z7, -, -⟩ := DataW.trod_int Try.underlying2 g5
      simp at z0 z3 z6 z7
      subst z0 z1 z2 z3 z4 z5 z6 z7
      exact ⟨⟨x0, x1, x2, x3, x4, x5, x6, x7⟩, by simpa using e0, by simpa using e1, by simpa using e2, by simpa using e3, by simpa using e4, by simpa using e5, by simpa using e6, by simpa using e7⟩
/-- a slice of structs or arrays, element by element -/
theorem rows_of {α : Type} [Inhabited α] {t e : TypeId} {size : Nat} (Q : α → Nat → Nat → Prop) (ht : Try.prog.underlying t = some (.slice e)) (hc : Try.prog.cellsOf e = size) (hs : 0 < size)
    (he : ∀ b off n cs' (x : DataW H × List MemPlace), W.cells? 0 (⟨b, off, none⟩ : Addr) size = some cs' → DataW.trod enc Try.prog W 0 (fun _ => true) true n e cs' = some x → ∃ y, Q y b off)
    {fuel : Nat} {u : Value} {x : DataW H × List MemPlace} (hf : DataW.trod enc Try.prog W 0 (fun _ => true) true fuel t [u] = some x) :
    ∃ zs : List α, ∃ a cap, u = .slice a zs.length cap ∧ zs.length ≤ cap ∧ ∀ j, j < zs.length → ∃ b off, a = some ⟨b, off, none⟩ ∧ b < W.heap.size ∧ Q (zs[j]?.getD default) b (off + j * size) := by
  rcases Deep.open_slice ht hf with ⟨hcs, _⟩ | ⟨a, len, cap, m, n, D, Pl, hcs, _, hle, _, hm, _, hall⟩
  · simp at hcs
    subst hcs
    exact ⟨[], none, 0, rfl, Nat.le_refl _, fun k hk => by simp at hk⟩
  · simp at hcs
    subst hcs
    simp only [if_true] at hm
    subst hm
    rw [hc] at hall
    by_cases h0 : len = 0
    · subst h0; exact ⟨[], some a, m, rfl, Nat.zero_le _, fun k hk => by simp at hk⟩
    · obtain ⟨c0, q1, q2⟩ := hall 0 (by omega)
      obtain ⟨_, hl0, hc0⟩ := World.cells?_some q1
      have hc00 := hc0 0 (by omega)
      obtain ⟨b, off, rfl, hb⟩ := spot_of (a := a) (u := c0.getD 0 default) (W := W) (by
        have e : ((a.add (0 * size)).add 0) = a.add 0 := by simp [Addr.add]
        rw [e] at hc00
        rw [hc00]
        have : 0 < c0.length := by omega
        rw [List.getElem?_eq_getElem this, List.getD_eq_getElem?_getD, List.getElem?_eq_getElem this]
        rfl)
      have hz : ∀ i, i < len → ∃ y : α, Q y b (off + i * size) := by
        intro i hi
        obtain ⟨cs', h1, h2⟩ := hall i (by omega)
        rw [add_plain] at h1
        exact he b (off + i * size) n cs' _ h1 h2
      obtain ⟨f, hf2⟩ := Deep.choose_lt hz
      refine ⟨(List.range len).map f, some ⟨b, off, none⟩, m, by simp, by simpa using hle, fun k hk => ⟨b, off, rfl, hb, ?_⟩⟩
      simp at hk
      have eg : ((List.range len).map f)[k]?.getD default = f k := by simp [hk]
      rw [eg]
      exact hf2 k hk
theorem nds_of {fuel : Nat} {u : Value} {x : DataW H × List MemPlace} (hf : DataW.trod enc Try.prog W 0 (fun _ => true) true fuel 24 [u] = some x) : ∃ ns : List Nd, Nds W.heap.size W u ns := by
  obtain ⟨zs, a, c, e, hle, hz⟩ := rows_of (α := Nd) (fun y b off => W.cell? ⟨b, off, none⟩ = some (.int .i64 y.par) ∧ W.cell? ⟨b, off + 1, none⟩ = some (.int .i64 y.ol) ∧ W.cell? ⟨b, off + 2, none⟩ = some (.int .i64 y.oh) ∧ W.cell? ⟨b, off + 3, none⟩ = some (.int .i64 y.lim) ∧ W.cell? ⟨b, off + 4, none⟩ = some (.int .i64 y.ll) ∧ W.cell? ⟨b, off + 5, none⟩ = some (.int .i64 y.lh) ∧ W.cell? ⟨b, off + 6, none⟩ = some (.int .i64 y.lea) ∧ W.cell? ⟨b, off + 7, none⟩ = some (.int .i64 y.del)) Try.underlying24 cells62 (by decide) (fun b off n cs' x h1 h2 => node_of h1 h2) hf
  refine ⟨zs, a, c, e, hle, fun k hk => ?_⟩
  obtain ⟨b, off, e1, hb, hq⟩ := hz k hk
  exact ⟨b, off, e1, hb, hq⟩
set_option maxRecDepth 100000 in
theorem open_cab (hv : Value.okWide Try.prog W .any base 26 v) (h : DataW.Trod enc Try.prog W 0 (fun _ => true) true 26 v d p) : ∃ (sl sh : Int) (sv : Value) (ns : List Nd), v = .agg #[.int .i64 sl, .int .i64 sh, sv] ∧ Nds W.heap.size W sv ns := by
  obtain ⟨cs, rfl, hsz⟩ := okWide_struct Try.underlying26 hv
  obtain ⟨c0, c1, c2, rfl⟩ := array3 (hsz.trans cells26)
  obtain ⟨fuel, hf⟩ := h
  obtain ⟨xs, k, hk, hxy, _, hxl, hf⟩ := DataW.trod_struct Try.underlying26 hf
  match xs, hxl with
  | [y0, y1], _ =>
    have g0 := hf 0 _ rfl
    have g1 := hf 1 _ rfl
    simp [cells23, cells24, Value.cells] at g0 g1
    obtain ⟨x0, x1, z0, z1⟩ := span_of g0
    obtain ⟨ns, hE⟩ := nds_of g1
    subst z0 z1
    exact ⟨x0, x1, c2, ns, rfl, hE⟩
/-- a slice of numbers -/
theorem ints_of {t e : TypeId} {kk : IntKind} (ht : Try.prog.underlying t = some (.slice e)) (he : Try.prog.underlying e = some (.int kk)) (hc : Try.prog.cellsOf e = 1) {fuel : Nat} {u : Value} {x : DataW H × List MemPlace} (hf : DataW.trod enc Try.prog W 0 (fun _ => true) true fuel t [u] = some x) :
    ∃ zs : List Int, ∃ a cap, u = .slice a zs.length cap ∧ zs.length ≤ cap ∧ ∀ j, j < zs.length → (Lit.int kk (ti zs j)).wf = true ∧ ∃ b off, a = some ⟨b, off, none⟩ ∧ b < W.heap.size ∧ W.cell? ⟨b, off + j, none⟩ = some (.int kk (ti zs j)) := by
  rcases open_ints ht he hc hf with ⟨hcs, _⟩ | ⟨a, len, cap, zs, hcs, _, hle, hmax, hall, hx, cell, wf⟩
  · simp at hcs
    subst hcs
    exact ⟨[], none, 0, rfl, Nat.le_refl _, fun j hj => by simp at hj⟩
  · simp at hcs
    subst hcs
    simp only [if_true] at hall
    by_cases h0 : len = 0
    · subst h0; exact ⟨[], some a, cap, rfl, Nat.zero_le _, fun j hj => by simp at hj⟩
    · obtain ⟨b, off, rfl, hb⟩ := spot_of (cell 0 (by omega))
      have e2 : (zs.take len).length = len := by rw [List.length_take]; omega
      refine ⟨zs.take len, some ⟨b, off, none⟩, cap, by rw [e2], by rw [e2]; omega, fun j hj => ?_⟩
      have hj' := hj
      rw [e2] at hj
      have ej : ti (zs.take len) j = zs.getD j 0 := by
        unfold ti
        rw [List.getD_eq_getElem?_getD, List.getElem?_take]
        simp [hj]
      have cj := cell j (by omega)
      rw [add_plain] at cj
      refine ⟨?_, b, off, rfl, hb, by rw [ej]; exact cj⟩
      unfold ti
      rw [List.getElem?_eq_getElem hj', Option.getD_some]
      exact wf _ (List.mem_of_mem_take (List.getElem_mem hj'))
theorem slice_cells {a : Option Addr} {n c : Nat} : (Value.slice a n c).cells.toList = [.slice a n c] := rfl
/-- a slice of numbers of a kind, in memory -/
def Sk (kk : IntKind) (n₀ : Nat) (W : World) (v : Value) (zs : List Int) : Prop :=
  ∃ a cap, v = .slice a zs.length cap ∧ zs.length ≤ cap ∧ ∀ j, j < zs.length → (Lit.int kk (ti zs j)).wf = true ∧ ∃ b off, a = some ⟨b, off, none⟩ ∧ b < n₀ ∧ W.cell? ⟨b, off + j, none⟩ = some (.int kk (ti zs j))
set_option maxRecDepth 100000 in
theorem open_il (hv : Value.okWide Try.prog W .any base 29 v) (h : DataW.Trod enc Try.prog W 0 (fun _ => true) true 29 v d p) : ∃ zs : List Int, Il W.heap.size W v zs := by
  obtain ⟨a0, len, cap, rfl⟩ := okWide_slice Try.underlying29 hv
  obtain ⟨fuel, hf⟩ := h
  rw [slice_cells] at hf
  obtain ⟨zs, a, c, e, hle, hz⟩ := ints_of Try.underlying29 Try.underlying3 cells3 hf
  exact ⟨zs, a, c, e, hle, fun k hk => (hz k hk).2⟩
set_option maxRecDepth 100000 in
theorem open_u8l (hv : Value.okWide Try.prog W .any base 59 v) (h : DataW.Trod enc Try.prog W 0 (fun _ => true) true 59 v d p) : ∃ zs : List Int, Sk .u8 W.heap.size W v zs := by
  obtain ⟨a0, len, cap, rfl⟩ := okWide_slice Try.underlying59 hv
  obtain ⟨fuel, hf⟩ := h
  rw [slice_cells] at hf
  obtain ⟨zs, a, c, e, hle, hz⟩ := ints_of Try.underlying59 Try.underlying5 cells5 hf
  exact ⟨zs, a, c, e, hle, fun k hk => hz k hk⟩
set_option maxRecDepth 100000 in
theorem open_u16l (hv : Value.okWide Try.prog W .any base 69 v) (h : DataW.Trod enc Try.prog W 0 (fun _ => true) true 69 v d p) : ∃ zs : List Int, Sk .u16 W.heap.size W v zs := by
  obtain ⟨a0, len, cap, rfl⟩ := okWide_slice Try.underlying69 hv
  obtain ⟨fuel, hf⟩ := h
  rw [slice_cells] at hf
  obtain ⟨zs, a, c, e, hle, hz⟩ := ints_of Try.underlying69 Try.underlying70 cells70 hf
  exact ⟨zs, a, c, e, hle, fun k hk => hz k hk⟩
set_option maxRecDepth 100000 in
theorem open_i64l (hv : Value.okWide Try.prog W .any base 50 v) (h : DataW.Trod enc Try.prog W 0 (fun _ => true) true 50 v d p) : ∃ zs : List Int, Sk .i64 W.heap.size W v zs := by
  obtain ⟨a0, len, cap, rfl⟩ := okWide_slice Try.underlying50 hv
  obtain ⟨fuel, hf⟩ := h
  rw [slice_cells] at hf
  obtain ⟨zs, a, c, e, hle, hz⟩ := ints_of Try.underlying50 Try.underlying2 cells2 hf
  exact ⟨zs, a, c, e, hle, fun k hk => hz k hk⟩
set_option maxRecDepth 100000 in
theorem open_u8 (hv : Value.okWide Try.prog W .any base 5 v) (h : DataW.Trod enc Try.prog W 0 (fun _ => true) true 5 v d p) : ∃ a : Int, v = .int .u8 a ∧ 0 ≤ a ∧ a ≤ 255 := by
  obtain ⟨a, rfl, rfl, rfl, wa⟩ := open_int Try.underlying5 hv h
  exact ⟨a, rfl, u8_of_wf wa⟩
set_option maxRecDepth 100000 in
theorem open_u16 (hv : Value.okWide Try.prog W .any base 70 v) (h : DataW.Trod enc Try.prog W 0 (fun _ => true) true 70 v d p) : ∃ a : Int, v = .int .u16 a ∧ 0 ≤ a ∧ a ≤ 65535 := by
  obtain ⟨a, rfl, rfl, rfl, wa⟩ := open_int Try.underlying70 hv h
  exact ⟨a, rfl, u16_of_wf wa⟩
theorem arr5 {cs : Array Value} (h : cs.size = 5) : ∃ c0 c1 c2 c3 c4, cs = #[c0, c1, c2, c3, c4] := by
  obtain ⟨l⟩ := cs
  match l, h with
  | [c0, c1, c2, c3, c4], _ => exact ⟨c0, c1, c2, c3, c4, rfl⟩
set_option maxRecDepth 100000 in
theorem open_msr (hv : Value.okWide Try.prog W .any base 52 v) (h : DataW.Trod enc Try.prog W 0 (fun _ => true) true 52 v d p) : ∃ k a b x y : Int, v = .agg #[.int .i64 k, .int .i64 a, .int .i64 b, .int .i64 x, .int .i64 y] ∧ I64 k := by
  obtain ⟨cs, rfl, hsz⟩ := okWide_struct Try.underlying52 hv
  obtain ⟨c0, c1, c2, c3, c4, rfl⟩ := arr5 (hsz.trans cells52)
  obtain ⟨fuel, hf⟩ := h
  obtain ⟨xs, k, hk, hxy, _, hxl, hf⟩ := DataW.trod_struct Try.underlying52 hf
  match xs, hxl with
  | [y0, y1, y2], _ =>
    have g0 := hf 0 _ rfl
    have g1 := hf 1 _ rfl
    have g2 := hf 2 _ rfl
    simp [cells3, cells23, Value.cells] at g0 g1 g2
    obtain ⟨x0, z0, -, w0⟩ := DataW.trod_int Try.underlying3 g0
    obtain ⟨x1, x2, z1, z2⟩ := span_of g1
    obtain ⟨x3, x4, z3, z4⟩ := span_of g2
    simp at z0
    subst z0 z1 z2 z3 z4
    exact ⟨x0, x1, x2, x3, x4, rfl, i64_of_wf w0⟩
end
end Go.Proofs.Ytdohfpnnmppdkaa

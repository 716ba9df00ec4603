/-
  Glider in this seat: arguments opened.
-/
import Derived.Test.YthegcbpmammokaaRows
import Derived.Test.YthegcbpmammokaaGlB
import Derived.WalkKit
import Derived.ProofKit
import Derived.OpenShut
import Derived.ShutString
import Derived.ChangeOld
import Derived.Below
import Derived.Lib.SmallJoins
import Derived.Deep.SlicePairs
namespace Go.Proofs.Ythegcbpmammokaa
open Go.ChangeShapes Go.WideShapes Go.ChangeAt Go.RowKit Go.Joins
set_option linter.unusedSimpArgs false
theorem own : ownKnob Try.prog.godebug = none := by kernel_rfl
theorem laidOut : laidOutB Try.prog = true := by kernel_rfl
section
variable {H : Type} {enc : TypeId × Value → H} {W : World} {base : Nat} {v : Value} {d : DataW H} {p : List MemPlace}
theorem lt_of_trod {t : TypeId} (h : DataW.Trod enc Try.prog W 0 (fun _ => true) true t v d p) : ∀ x ∈ p, x.block < W.heap.size := by
  obtain ⟨m, hm⟩ := h
  exact DataW.trod_lt m _ _ _ hm
set_option maxRecDepth 100000 in
theorem open_i64 (hv : Value.okWide Try.prog W .any base 2 v) (h : DataW.Trod enc Try.prog W 0 (fun _ => true) true 2 v d p) : ∃ a : Int, v = .int .i64 a := by
  obtain ⟨a, rfl, rfl, rfl, wa⟩ := open_int Try.underlying2 hv h
  exact ⟨a, rfl⟩
theorem cells2 : Try.prog.cellsOf 2 = 1 := by kernel_rfl
theorem cells3 : Try.prog.cellsOf 3 = 1 := by kernel_rfl
theorem cells22 : Try.prog.cellsOf 22 = 1 := by kernel_rfl
theorem cells23 : Try.prog.cellsOf 23 = 1 := by kernel_rfl
theorem cells25 : Try.prog.cellsOf 25 = 9 := by kernel_rfl
theorem cells27 : Try.prog.cellsOf 27 = 2 := by kernel_rfl
theorem cells29 : Try.prog.cellsOf 29 = 4 := by kernel_rfl
theorem cells33 : Try.prog.cellsOf 33 = 4 := by kernel_rfl
theorem cells41 : Try.prog.cellsOf 41 = 7 := by kernel_rfl
theorem cells44 : Try.prog.cellsOf 44 = 6 := by kernel_rfl
theorem cells45 : Try.prog.cellsOf 45 = 1 := by kernel_rfl
theorem spot_of {a : Addr} {u : Value} (h : W.cell? (a.add 0) = some u) : ∃ b off, a = ⟨b, off, none⟩ ∧ b < W.heap.size := by
  have hb := World.block_lt_of_cell? W _ h
  obtain ⟨b, off, spot⟩ := a
  have hspot : spot = none := by simpa [Addr.add] using World.cell?_spot h
  subst hspot
  exact ⟨b, off, rfl, by simpa [Addr.add] using hb⟩
theorem rows_of {α : Type} [Inhabited α] {t e : TypeId} {size : Nat} (Q : α → Nat → Nat → Prop) (ht : Try.prog.underlying t = some (.slice e)) (hc : Try.prog.cellsOf e = size) (hs : 0 < size)
    (he : ∀ b off n cs' (x : DataW H × List MemPlace), W.cells? 0 (⟨b, off, none⟩ : Addr) size = some cs' → DataW.trod enc Try.prog W 0 (fun _ => true) true n e cs' = some x → ∃ y, Q y b off)
    {fuel : Nat} {u : Value} {x : DataW H × List MemPlace} (hf : DataW.trod enc Try.prog W 0 (fun _ => true) true fuel t [u] = some x) :
    ∃ zs : List α, ∃ a cap, u = .slice a zs.length cap ∧ zs.length ≤ cap ∧ ∀ j, j < zs.length → ∃ b off, a = some ⟨b, off, none⟩ ∧ b < W.heap.size ∧ Q (zs[j]?.getD default) b (off + j * size) := by
  rcases Deep.open_slice ht hf with ⟨hcs, _⟩ | ⟨a, len, cap, m, n, D, Pl, hcs, _, hle, _, hm, _, hall⟩
  · simp at hcs
    subst hcs
    exact ⟨[], none, 0, rfl, Nat.le_refl _, fun k hk => by simp at hk⟩
  · simp at hcs
    subst hcs
    simp only [if_true] at hm
    subst hm
    rw [hc] at hall
    by_cases h0 : len = 0
    · subst h0; exact ⟨[], some a, m, rfl, Nat.zero_le _, fun k hk => by simp at hk⟩
    · obtain ⟨c0, q1, q2⟩ := hall 0 (by omega)
      obtain ⟨_, hl0, hc0⟩ := World.cells?_some q1
      have hc00 := hc0 0 (by omega)
      obtain ⟨b, off, rfl, hb⟩ := spot_of (a := a) (u := c0.getD 0 default) (W := W) (by
        have e : ((a.add (0 * size)).add 0) = a.add 0 := by simp [Addr.add]
        rw [e] at hc00
        rw [hc00]
        have : 0 < c0.length := by omega
        rw [List.getElem?_eq_getElem this, List.getD_eq_getElem?_getD, List.getElem?_eq_getElem this]
        rfl)
      have hz : ∀ i, i < len → ∃ y : α, Q y b (off + i * size) := by
        intro i hi
        obtain ⟨cs', h1, h2⟩ := hall i (by omega)
        rw [add_plain] at h1
        exact he b (off + i * size) n cs' _ h1 h2
      obtain ⟨f, hf2⟩ := Deep.choose_lt hz
      refine ⟨(List.range len).map f, some ⟨b, off, none⟩, m, by simp, by simpa using hle, fun k hk => ⟨b, off, rfl, hb, ?_⟩⟩
      simp at hk
      have eg : ((List.range len).map f)[k]?.getD default = f k := by simp [hk]
      rw [eg]
      exact hf2 k hk
set_option maxRecDepth 100000 in
theorem span_of {sp : Nat → Bool} {held : Bool} {n : Nat} {v0 v1 : Value} {x : DataW H × List MemPlace} (h : DataW.trod enc Try.prog W base sp held n 27 [v0, v1] = some x) : ∃ a b : Int, v0 = .int .i64 a ∧ v1 = .int .i64 b := by
  obtain ⟨xs, k, hk, hxy, _, hxl, hf⟩ := DataW.trod_struct Try.underlying27 h
  match xs, hxl with
  | [y0, y1], _ =>
    have g0 := hf 0 _ rfl
    have g1 := hf 1 _ rfl
    simp [cells2] at g0 g1
    obtain ⟨x0, z0, -, -⟩ := DataW.trod_int Try.underlying2 g0
    obtain ⟨x1, z1, -, -⟩ := DataW.trod_int Try.underlying2 g1
    simp at z0 z1
    exact ⟨x0, x1, z0, z1⟩
set_option maxRecDepth 100000 in
theorem box_of {sp : Nat → Bool} {held : Bool} {n : Nat} {v0 v1 v2 v3 : Value} {x : DataW H × List MemPlace} (h : DataW.trod enc Try.prog W base sp held n 29 [v0, v1, v2, v3] = some x) : ∃ y : Q4, v0 = .int .i64 y.a ∧ v1 = .int .i64 y.b ∧ v2 = .int .i64 y.c ∧ v3 = .int .i64 y.d := by
  obtain ⟨xs, k, hk, hxy, _, hxl, hf⟩ := DataW.trod_struct Try.underlying29 h
  match xs, hxl with
  | [y0, y1], _ =>
    have g0 := hf 0 _ rfl
    have g1 := hf 1 _ rfl
    simp [cells27] at g0 g1
    obtain ⟨x0, x1, z0, z1⟩ := span_of g0
    obtain ⟨x2, x3, z2, z3⟩ := span_of g1
    exact ⟨⟨x0, x1, x2, x3⟩, z0, z1, z2, z3⟩
set_option maxRecDepth 100000 in
theorem cur_of {sp : Nat → Bool} {held : Bool} {n : Nat} {v0 v1 v2 v3 : Value} {x : DataW H × List MemPlace} (h : DataW.trod enc Try.prog W base sp held n 33 [v0, v1, v2, v3] = some x) : ∃ y : Q4, v0 = .int .i64 y.a ∧ v1 = .int .i64 y.b ∧ v2 = .int .i64 y.c ∧ v3 = .int .i64 y.d := by
  obtain ⟨xs, k, hk, hxy, _, hxl, hf⟩ := DataW.trod_struct Try.underlying33 h
  match xs, hxl with
  | [y0, y1], _ =>
    have g0 := hf 0 _ rfl
    have g1 := hf 1 _ rfl
    simp [cells27] at g0 g1
    obtain ⟨x0, x1, z0, z1⟩ := span_of g0
    obtain ⟨x2, x3, z2, z3⟩ := span_of g1
    exact ⟨⟨x0, x1, x2, x3⟩, z0, z1, z2, z3⟩
/-- four numbers in memory -/
def Q4At (W : World) (y : Q4) (b off : Nat) : Prop := W.cell? ⟨b, off, none⟩ = some (.int .i64 y.a) ∧ W.cell? ⟨b, off + 1, none⟩ = some (.int .i64 y.b) ∧ W.cell? ⟨b, off + 2, none⟩ = some (.int .i64 y.c) ∧ W.cell? ⟨b, off + 3, none⟩ = some (.int .i64 y.d)
instance : Inhabited Q4 := ⟨⟨0, 0, 0, 0⟩⟩
theorem at_of {b off : Nat} {cs' : List Value} (h1 : W.cells? 0 (⟨b, off, none⟩ : Addr) 4 = some cs') (h2 : ∀ v0 v1 v2 v3, cs' = [v0, v1, v2, v3] → ∃ y : Q4, v0 = .int .i64 y.a ∧ v1 = .int .i64 y.b ∧ v2 = .int .i64 y.c ∧ v3 = .int .i64 y.d) : ∃ y : Q4, Q4At W y b off := by
  obtain ⟨_, hlen, hcell⟩ := World.cells?_some h1
  match cs', hlen with
  | [v0, v1, v2, v3], _ =>
    obtain ⟨y, z0, z1, z2, z3⟩ := h2 _ _ _ _ rfl
    have e0 := hcell 0 (by omega)
    have e1 := hcell 1 (by omega)
    have e2 := hcell 2 (by omega)
    have e3 := hcell 3 (by omega)
    rw [add_plain] at e0 e1 e2 e3
    subst z0 z1 z2 z3
    exact ⟨y, by simpa using e0, by simpa using e1, by simpa using e2, by simpa using e3⟩
theorem q4s_of {t e : TypeId} (ht : Try.prog.underlying t = some (.slice e)) (hc : Try.prog.cellsOf e = 4) (he : ∀ n v0 v1 v2 v3 (x : DataW H × List MemPlace), DataW.trod enc Try.prog W 0 (fun _ => true) true n e [v0, v1, v2, v3] = some x → ∃ y : Q4, v0 = .int .i64 y.a ∧ v1 = .int .i64 y.b ∧ v2 = .int .i64 y.c ∧ v3 = .int .i64 y.d)
    {fuel : Nat} {u : Value} {x : DataW H × List MemPlace} (hf : DataW.trod enc Try.prog W 0 (fun _ => true) true fuel t [u] = some x) : ∃ zs : List Q4, Q4s W.heap.size W u zs := by
  obtain ⟨zs, a, cap, e1, e2, hz⟩ := rows_of (Q4At W) ht hc (by decide) (fun b off n cs' x h1 h2 => at_of h1 (fun v0 v1 v2 v3 e => by subst e; exact he n v0 v1 v2 v3 x h2)) hf
  refine ⟨zs, a, cap, e1, e2, fun k hk => ?_⟩
  obtain ⟨b, off, h1, h2, h3⟩ := hz k hk
  exact ⟨b, off, h1, h2, h3⟩
theorem boxes_of {fuel : Nat} {u : Value} {x : DataW H × List MemPlace} (hf : DataW.trod enc Try.prog W 0 (fun _ => true) true fuel 45 [u] = some x) : ∃ zs : List Q4, Q4s W.heap.size W u zs :=
  q4s_of Try.underlying45 cells29 (fun _ _ _ _ _ _ h => box_of h) hf
theorem curs_of {fuel : Nat} {u : Value} {x : DataW H × List MemPlace} (hf : DataW.trod enc Try.prog W 0 (fun _ => true) true fuel 23 [u] = some x) : ∃ zs : List Q4, Q4s W.heap.size W u zs :=
  q4s_of Try.underlying23 cells33 (fun _ _ _ _ _ _ h => cur_of h) hf
theorem slice_cells {a : Option Addr} {n c : Nat} : (Value.slice a n c).cells.toList = [.slice a n c] := rfl
set_option maxRecDepth 100000 in
theorem open_runs (hv : Value.okWide Try.prog W .any base 42 v) (h : DataW.Trod enc Try.prog W 0 (fun _ => true) true 42 v d p) : ∃ rs : List (List Q4), Rns W.heap.size W v rs := by
  obtain ⟨a0, len, cap, rfl⟩ := okWide_slice Try.underlying42 hv
  obtain ⟨fuel, hf⟩ := h
  rw [slice_cells] at hf
  obtain ⟨rs, a, c, e1, e2, hz⟩ := rows_of (fun (y : List Q4) b off => ∃ s, W.cell? ⟨b, off, none⟩ = some s ∧ Q4s W.heap.size W s y) Try.underlying42 cells45 (by decide) (fun b off n cs' x h1 h2 => by
    obtain ⟨_, hlen, hcell⟩ := World.cells?_some h1
    match cs', hlen with
    | [v0], _ =>
      have e0 := hcell 0 (by omega)
      rw [add_plain] at e0
      obtain ⟨zs, hq⟩ := boxes_of h2
      exact ⟨zs, v0, by simpa using e0, hq⟩) hf
  refine ⟨rs, a, c, e1, fun k hk => ?_⟩
  obtain ⟨b, off, h1, h2, s, h3, h4⟩ := hz k hk
  exact ⟨b, off, s, h1, h2, by simpa using h3, h4⟩
set_option maxRecDepth 100000 in
theorem open_veh (hv : Value.okWide Try.prog W .any base 41 v) (h : DataW.Trod enc Try.prog W 0 (fun _ => true) true 41 v d p) : ∃ s d' u0 u1 t0 t1 r : Int, v = .agg #[.int .i64 s, .int .i64 d', .int .i64 u0, .int .i64 u1, .int .i64 t0, .int .i64 t1, .int .i64 r] := by
  obtain ⟨cs, rfl, hsz⟩ := okWide_struct Try.underlying41 hv
  obtain ⟨fuel, hf⟩ := h
  rw [cells41] at hsz
  obtain ⟨l⟩ := cs
  match l, hsz with
  | [w0, w1, w2, w3, w4, w5, w6], _ =>
    simp only [Value.cells] at hf
    obtain ⟨xs, k, hk, hxy, _, hxl, hg⟩ := DataW.trod_struct Try.underlying41 hf
    match xs, hxl with
    | [y0, y1, y2, y3, y4], _ =>
      have g0 := hg 0 _ rfl
      have g1 := hg 1 _ rfl
      have g2 := hg 2 _ rfl
      have g3 := hg 3 _ rfl
      have g4 := hg 4 _ rfl
      simp [cells2, cells27] at g0 g1 g2 g3 g4
      obtain ⟨x0, z0, -, -⟩ := DataW.trod_int Try.underlying2 g0
      obtain ⟨x1, z1, -, -⟩ := DataW.trod_int Try.underlying2 g1
      obtain ⟨x2, x3, z2, z3⟩ := span_of g2
      obtain ⟨x4, x5, z4, z5⟩ := span_of g3
      obtain ⟨x6, z6, -, -⟩ := DataW.trod_int Try.underlying2 g4
      simp at z0 z1 z6
      subst z0 z1 z2 z3 z4 z5 z6
      exact ⟨_, _, _, _, _, _, _, rfl⟩
set_option maxRecDepth 100000 in
theorem open_pick (hv : Value.okWide Try.prog W .any base 44 v) (h : DataW.Trod enc Try.prog W 0 (fun _ => true) true 44 v d p) : ∃ (y : Q4) (f t : Int), v = .agg #[.int .i64 y.a, .int .i64 y.b, .int .i64 y.c, .int .i64 y.d, .int .i64 f, .int .i64 t] := by
  obtain ⟨cs, rfl, hsz⟩ := okWide_struct Try.underlying44 hv
  obtain ⟨fuel, hf⟩ := h
  rw [cells44] at hsz
  obtain ⟨l⟩ := cs
  match l, hsz with
  | [w0, w1, w2, w3, w4, w5], _ =>
    simp only [Value.cells] at hf
    obtain ⟨xs, k, hk, hxy, _, hxl, hg⟩ := DataW.trod_struct Try.underlying44 hf
    match xs, hxl with
    | [y0, y1, y2], _ =>
      have g0 := hg 0 _ rfl
      have g1 := hg 1 _ rfl
      have g2 := hg 2 _ rfl
      simp [cells2, cells29] at g0 g1 g2
      obtain ⟨y, z0, z1, z2, z3⟩ := box_of g0
      obtain ⟨x4, z4, -, -⟩ := DataW.trod_int Try.underlying2 g1
      obtain ⟨x5, z5, -, -⟩ := DataW.trod_int Try.underlying2 g2
      simp at z4 z5
      subst z0 z1 z2 z3 z4 z5
      exact ⟨y, _, _, rfl⟩
end
end Go.Proofs.Ythegcbpmammokaa

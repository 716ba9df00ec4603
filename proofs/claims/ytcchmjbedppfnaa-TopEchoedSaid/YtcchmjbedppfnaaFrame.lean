/-
  The frame of the laws' rows: arguments opened.
-/
import Derived.Test.YtcchmjbedppfnaaRows
import Derived.Test.YtcchmjbedppfnaaCkE
import Derived.WalkKit
import Derived.ProofKit
import Derived.OpenShut
import Derived.ShutString
import Derived.ChangeOld
import Derived.Below
import Derived.Lib.SmallJoins
import Derived.Deep.SlicePairs
namespace Go.Proofs.Ytcchmjbedppfnaa
open Go.ChangeShapes Go.WideShapes Go.ChangeAt Go.RowKit Go.Joins
set_option linter.unusedSimpArgs false
theorem own : ownKnob Try.prog.godebug = none := by kernel_rfl
theorem laidOut : laidOutB Try.prog = true := by kernel_rfl
/-- a number of 64 bits -/
def I64 (a : Int) : Prop := -9223372036854775808 ≤ a ∧ a ≤ 9223372036854775807
theorem i64_of_wf {a : Int} (h : (Lit.int .i64 a).wf = true) : I64 a := by
  have h1 : IntKind.i64.min = -9223372036854775808 := rfl
  have h2 : IntKind.i64.max = 9223372036854775807 := rfl
  simp [Lit.wf, h1, h2] at h
  exact ⟨by omega, by omega⟩
theorem u16_of_wf {a : Int} (h : (Lit.int .u16 a).wf = true) : 0 ≤ a ∧ a ≤ 65535 := by
  have h1 : IntKind.u16.min = 0 := rfl
  have h2 : IntKind.u16.max = 65535 := rfl
  simp [Lit.wf, h1, h2] at h
  exact ⟨by omega, by omega⟩
theorem u32_of_wf {a : Int} (h : (Lit.int .u32 a).wf = true) : 0 ≤ a ∧ a ≤ 4294967295 := by
  have h1 : IntKind.u32.min = 0 := rfl
  have h2 : IntKind.u32.max = 4294967295 := rfl
  simp [Lit.wf, h1, h2] at h
  exact ⟨by omega, by omega⟩
section
variable {H : Type} {enc : TypeId × Value → H} {W : World} {base : Nat} {v : Value} {d : DataW H} {p : List MemPlace}
theorem lt_of_trod {t : TypeId} (h : DataW.Trod enc Try.prog W 0 (fun _ => true) true t v d p) : ∀ x ∈ p, x.block < W.heap.size := by
  obtain ⟨m, hm⟩ := h
  exact DataW.trod_lt m _ _ _ hm
set_option maxRecDepth 100000 in
theorem open_int3 (hv : Value.okWide Try.prog W .any base 3 v) (h : DataW.Trod enc Try.prog W 0 (fun _ => true) true 3 v d p) : ∃ a : Int, v = .int .i64 a ∧ I64 a := by
  obtain ⟨a, rfl, rfl, rfl, wa⟩ := open_int Try.underlying3 hv h
  exact ⟨a, rfl, i64_of_wf wa⟩
set_option maxRecDepth 100000 in
theorem open_i64 (hv : Value.okWide Try.prog W .any base 2 v) (h : DataW.Trod enc Try.prog W 0 (fun _ => true) true 2 v d p) : ∃ a : Int, v = .int .i64 a ∧ I64 a := by
  obtain ⟨a, rfl, rfl, rfl, wa⟩ := open_int Try.underlying2 hv h
  exact ⟨a, rfl, i64_of_wf wa⟩
theorem cells2 : Try.prog.cellsOf 2 = 1 := by kernel_rfl
theorem cells23 : Try.prog.cellsOf 23 = 2 := by kernel_rfl
theorem cells25 : Try.prog.cellsOf 25 = 8 := by kernel_rfl
theorem cells28 : Try.prog.cellsOf 28 = 3 := by kernel_rfl
theorem spot_of {a : Addr} {u : Value} (h : W.cell? (a.add 0) = some u) : ∃ b off, a = ⟨b, off, none⟩ ∧ b < W.heap.size := by
  have hb := World.block_lt_of_cell? W _ h
  obtain ⟨b, off, spot⟩ := a
  have hspot : spot = none := by simpa [Addr.add] using World.cell?_spot h
  subst hspot
  exact ⟨b, off, rfl, by simpa [Addr.add] using hb⟩
set_option maxRecDepth 100000 in
theorem span_of {sp : Nat → Bool} {held : Bool} {n : Nat} {v0 v1 : Value} {x : DataW H × List MemPlace} (h : DataW.trod enc Try.prog W base sp held n 23 [v0, v1] = some x) : ∃ a b : Int, v0 = .int .i64 a ∧ v1 = .int .i64 b := by
  obtain ⟨xs, k, hk, hxy, _, hxl, hf⟩ := DataW.trod_struct Try.underlying23 h
  match xs, hxl with
  | [y0, y1], _ =>
    have g0 := hf 0 _ rfl
    have g1 := hf 1 _ rfl
    simp [cells2] at g0 g1
    obtain ⟨x0, z0, -, -⟩ := DataW.trod_int Try.underlying2 g0
    obtain ⟨x1, z1, -, -⟩ := DataW.trod_int Try.underlying2 g1
    simp at z0 z1
    exact ⟨x0, x1, z0, z1⟩
set_option maxRecDepth 100000 in
theorem oct_of {sp : Nat → Bool} {held : Bool} {n : Nat} {v0 v1 v2 v3 v4 v5 v6 v7 : Value} {x : DataW H × List MemPlace} (h2 : DataW.trod enc Try.prog W base sp held n 25 [v0, v1, v2, v3, v4, v5, v6, v7] = some x) :
    ∃ y : Xc, v0 = .int .i64 y.se ∧ v1 = .int .i64 y.he ∧ v2 = .int .i64 y.an ∧ v3 = .int .i64 y.ba ∧ v4 = .int .i64 y.fLo ∧ v5 = .int .i64 y.fHi ∧ v6 = .int .i64 y.hLo ∧ v7 = .int .i64 y.hHi := by
  obtain ⟨xs, k, hk, hxy, _, hxl, hf⟩ := DataW.trod_struct Try.underlying25 h2
  match xs, hxl with
  | [y0, y1, y2, y3, y4, y5], _ =>
    have g0 := hf 0 _ rfl
    have g1 := hf 1 _ rfl
    have g2 := hf 2 _ rfl
    have g3 := hf 3 _ rfl
    have g4 := hf 4 _ rfl
    have g5 := hf 5 _ rfl
    simp [cells2, cells23] at g0 g1 g2 g3 g4 g5
    obtain ⟨x0, z0, -, -⟩ := DataW.trod_int Try.underlying2 g0
    obtain ⟨x1, z1, -, -⟩ := DataW.trod_int Try.underlying2 g1
    obtain ⟨x2, z2, -, -⟩ := DataW.trod_int Try.underlying2 g2
    obtain ⟨x3, z3, -, -⟩ := DataW.trod_int Try.underlying2 g3
    obtain ⟨x4, x5, z4, z5⟩ := span_of g4
    obtain ⟨x6, x7, z6, z7⟩ := span_of g5
    simp at z0 z1 z2 z3
    exact ⟨⟨x0, x1, x2, x3, x4, x5, x6, x7⟩, z0, z1, z2, z3, z4, z5, z6, z7⟩
theorem oct_at {sp : Nat → Bool} {held : Bool} {n b off i : Nat} {cs' : List Value} {x : DataW H × List MemPlace} (h1 : W.cells? base ((⟨b, off, none⟩ : Addr).add (i * 8)) 8 = some cs') (h2 : DataW.trod enc Try.prog W base sp held n 25 cs' = some x) :
    ∃ y : Xc, W.cell? ⟨b, off + i * 8, none⟩ = some (.int .i64 y.se) ∧ W.cell? ⟨b, off + i * 8 + 1, none⟩ = some (.int .i64 y.he) ∧ W.cell? ⟨b, off + i * 8 + 2, none⟩ = some (.int .i64 y.an) ∧ W.cell? ⟨b, off + i * 8 + 3, none⟩ = some (.int .i64 y.ba) ∧ W.cell? ⟨b, off + i * 8 + 4, none⟩ = some (.int .i64 y.fLo) ∧ W.cell? ⟨b, off + i * 8 + 5, none⟩ = some (.int .i64 y.fHi) ∧ W.cell? ⟨b, off + i * 8 + 6, none⟩ = some (.int .i64 y.hLo) ∧ W.cell? ⟨b, off + i * 8 + 7, none⟩ = some (.int .i64 y.hHi) := by
  obtain ⟨_, hlen, hcell⟩ := World.cells?_some h1
  match cs', hlen with
  | [v0, v1, v2, v3, v4, v5, v6, v7], _ =>
    have e0 := hcell 0 (by omega)
    have e1 := hcell 1 (by omega)
    have e2 := hcell 2 (by omega)
    have e3 := hcell 3 (by omega)
    have e4 := hcell 4 (by omega)
    have e5 := hcell 5 (by omega)
    have e6 := hcell 6 (by omega)
    have e7 := hcell 7 (by omega)
    rw [add_plain, add_plain] at e0 e1 e2 e3 e4 e5 e6 e7
    obtain ⟨y, z0, z1, z2, z3, z4, z5, z6, z7⟩ := oct_of h2
    subst z0 z1 z2 z3 z4 z5 z6 z7
    exact ⟨y, by simpa using e0, by simpa using e1, by simpa using e2, by simpa using e3, by simpa using e4, by simpa using e5, by simpa using e6, by simpa using e7⟩
theorem xcs_of {fuel : Nat} {u : Value} {x : DataW H × List MemPlace} (hf : DataW.trod enc Try.prog W 0 (fun _ => true) true fuel 26 [u] = some x) : ∃ zs : List Xc, Xcs W.heap.size W u zs := by
  rcases Deep.open_slice Try.underlying26 hf with ⟨hcs, _⟩ | ⟨a, len, cap, m, n, D, Pl, hcs, _, hle, _, hm, _, hall⟩
  · simp at hcs
    subst hcs
    exact ⟨[], none, 0, rfl, Nat.le_refl _, fun k hk => by simp at hk⟩
  · simp at hcs
    subst hcs
    simp only [if_true] at hm
    subst hm
    rw [cells25] at hall
    by_cases h0 : len = 0
    · subst h0; exact ⟨[], some a, m, rfl, Nat.zero_le _, fun k hk => by simp at hk⟩
    · obtain ⟨c0, q1, q2⟩ := hall 0 (by omega)
      obtain ⟨_, hl0, hc0⟩ := World.cells?_some q1
      have hc00 := hc0 0 (by omega)
      obtain ⟨b, off, rfl, hb⟩ := spot_of (a := a) (u := c0.getD 0 default) (W := W) (by
        have e : ((a.add (0 * 8)).add 0) = a.add 0 := by simp [Addr.add]
        rw [e] at hc00
        rw [hc00]
        match c0, hl0 with
        | x :: _, _ => rfl)
      have hz : ∀ i, i < len → ∃ y : Xc, W.cell? ⟨b, off + i * 8, none⟩ = some (.int .i64 y.se) ∧ W.cell? ⟨b, off + i * 8 + 1, none⟩ = some (.int .i64 y.he) ∧ W.cell? ⟨b, off + i * 8 + 2, none⟩ = some (.int .i64 y.an) ∧ W.cell? ⟨b, off + i * 8 + 3, none⟩ = some (.int .i64 y.ba) ∧ W.cell? ⟨b, off + i * 8 + 4, none⟩ = some (.int .i64 y.fLo) ∧ W.cell? ⟨b, off + i * 8 + 5, none⟩ = some (.int .i64 y.fHi) ∧ W.cell? ⟨b, off + i * 8 + 6, none⟩ = some (.int .i64 y.hLo) ∧ W.cell? ⟨b, off + i * 8 + 7, none⟩ = some (.int .i64 y.hHi) := by
        intro i hi
        obtain ⟨cs', h1, h2⟩ := hall i (by omega)
        exact oct_at h1 h2
      obtain ⟨f, hf2⟩ := Deep.choose_lt hz
      refine ⟨(List.range len).map f, some ⟨b, off, none⟩, m, by simp, by simpa using hle, fun k hk => ⟨b, off, rfl, hb, ?_⟩⟩
      simp at hk
      have eg : xc ((List.range len).map f) k = f k := by unfold xc; simp [hk]
      rw [eg]
      exact hf2 k hk
set_option maxRecDepth 100000 in
theorem open_clk (hv : Value.okWide Try.prog W .any base 28 v) (h : DataW.Trod enc Try.prog W 0 (fun _ => true) true 28 v d p) : ∃ (pp rr : Int) (sv : Value) (zs : List Xc), v = .agg #[.int .i64 pp, .int .i64 rr, sv] ∧ I64 pp ∧ I64 rr ∧ Xcs W.heap.size W sv zs := by
  obtain ⟨c0, c1, c2, y0, y1, y2, m, rfl, rfl, rfl, h0, h1, h2⟩ := open_agg3 Try.underlying28 (by kernel_rfl) cells28 hv h
  obtain ⟨x0, z0, -, w0⟩ := DataW.trod_int Try.underlying3 h0
  obtain ⟨x1, z1, -, w1⟩ := DataW.trod_int Try.underlying2 h1
  obtain ⟨zs, hE⟩ := xcs_of h2
  simp at z0 z1
  subst z0 z1
  exact ⟨x0, x1, c2, zs, rfl, i64_of_wf w0, i64_of_wf w1, hE⟩
end
end Go.Proofs.Ytcchmjbedppfnaa

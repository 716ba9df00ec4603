/-
  Openers of wires and of echoes (the Top rows of layer 4).
-/
import Derived.Test.YtdohfpnnmppdkaaFrame
import Derived.Test.YtdohfpnnmppdkaaWiMath
import Derived.Laws.IdiomArrays
namespace Go.Proofs.Ytdohfpnnmppdkaa
open Go.ChangeShapes Go.WideShapes Go.ChangeAt Go.RowKit Go.Joins
set_option linter.unusedSimpArgs false
/-- the cells of a wire -/
def WirC (W : World) (y : Wr) (b off : Nat) : Prop :=
  OkW y ∧ W.cell? ⟨b, off, none⟩ = some (.int .u8 y.par) ∧ W.cell? ⟨b, off + 1, none⟩ = some (.int .u8 y.o0) ∧ W.cell? ⟨b, off + 2, none⟩ = some (.int .u8 y.o1) ∧ W.cell? ⟨b, off + 3, none⟩ = some (.int .u8 y.l0) ∧ W.cell? ⟨b, off + 4, none⟩ = some (.int .u8 y.l1) ∧ W.cell? ⟨b, off + 5, none⟩ = some (.int .u8 y.dl) ∧ W.cell? ⟨b, off + 6, none⟩ = some (.int .u16 y.lim)
/-- wires in memory -/
def WirA (n₀ : Nat) (W : World) (v : Value) (l : List Wr) : Prop :=
  ∃ a cap, v = .slice a l.length cap ∧ l.length ≤ cap ∧ ∀ k, k < l.length → ∃ b off, a = some ⟨b, off, none⟩ ∧ b < n₀ ∧ WirC W (wr l k) b (off + k * 7)
/-- an echo: its kind, two values, two bounds of what it is by -/
structure Ec where
  kd : Int
  v0 : Int
  v1 : Int
  b0 : Int
  b1 : Int
instance : Inhabited Ec := ⟨⟨0, 0, 0, 0, 0⟩⟩
def ec (l : List Ec) (k : Nat) : Ec := l[k]?.getD default
def EchC (W : World) (y : Ec) (b off : Nat) : Prop :=
  ((0 ≤ y.kd ∧ y.kd ≤ 255) ∧ (0 ≤ y.v0 ∧ y.v0 ≤ 65535) ∧ (0 ≤ y.v1 ∧ y.v1 ≤ 65535) ∧ (0 ≤ y.b0 ∧ y.b0 ≤ 255) ∧ (0 ≤ y.b1 ∧ y.b1 ≤ 255)) ∧ W.cell? ⟨b, off, none⟩ = some (.int .u8 y.kd) ∧ W.cell? ⟨b, off + 1, none⟩ = some (.int .u16 y.v0) ∧ W.cell? ⟨b, off + 2, none⟩ = some (.int .u16 y.v1) ∧ W.cell? ⟨b, off + 3, none⟩ = some (.int .u8 y.b0) ∧ W.cell? ⟨b, off + 4, none⟩ = some (.int .u8 y.b1)
def EchA (n₀ : Nat) (W : World) (v : Value) (l : List Ec) : Prop :=
  ∃ a cap, v = .slice a l.length cap ∧ l.length ≤ cap ∧ ∀ k, k < l.length → ∃ b off, a = some ⟨b, off, none⟩ ∧ b < n₀ ∧ EchC W (ec l k) b (off + k * 5)
theorem cells167 : Try.prog.cellsOf 167 = 7 := by kernel_rfl
theorem cells119 : Try.prog.cellsOf 119 = 5 := by kernel_rfl
theorem cells108 : Try.prog.cellsOf 108 = 2 := by kernel_rfl
theorem cells117 : Try.prog.cellsOf 117 = 2 := by kernel_rfl
section
variable {H : Type} {enc : TypeId × Value → H} {W : World} {base : Nat} {v : Value} {d : DataW H} {p : List MemPlace}
theorem pair_of_arr {P : Program} {w : World} {spare : Nat → Bool} {held : Bool} {t e : TypeId} {fuel : Nat} {c0 c1 : Value} {x : DataW H × List MemPlace} (ht : P.underlying t = some (.array 2 e)) (hce : P.cellsOf e = 1)
    (h : DataW.trod enc P w base spare held fuel t [c0, c1] = some x) :
    ∃ n y0 y1, DataW.trod enc P w base spare held n e [c0] = some y0 ∧ DataW.trod enc P w base spare held n e [c1] = some y1 := by
  cases fuel with
  | zero => simp [DataW.trod] at h
  | succ n =>
    unfold DataW.trod at h
    rw [ht] at h
    have r2 : List.range 2 = [0, 1] := rfl
    simp [r2, hce] at h
    cases h0 : DataW.trod enc P w base spare held n e [c0] with
    | none => simp [h0] at h
    | some y0 =>
      cases h1 : DataW.trod enc P w base spare held n e [c1] with
      | none => simp [h0, h1] at h
      | some y1 => exact ⟨n, y0, y1, h0, h1⟩
set_option maxRecDepth 100000 in
theorem wir_of {b off n : Nat} {cs' : List Value} {x : DataW H × List MemPlace} (h1 : W.cells? 0 (⟨b, off, none⟩ : Addr) 7 = some cs') (h2 : DataW.trod enc Try.prog W 0 (fun _ => true) true n 167 cs' = some x) :
    ∃ y : Wr, WirC W y b off := by
  obtain ⟨_, hlen, hcell⟩ := World.cells?_some h1
  match cs', hlen with
  | [v0, v1, v2, v3, v4, v5, v6], _ =>
    have e0 := hcell 0 (by omega)
    have e1 := hcell 1 (by omega)
    have e2 := hcell 2 (by omega)
    have e3 := hcell 3 (by omega)
    have e4 := hcell 4 (by omega)
    have e5 := hcell 5 (by omega)
    have e6 := hcell 6 (by omega)
    rw [add_plain] at e0 e1 e2 e3 e4 e5 e6
    obtain ⟨xs, k, hk, hxy, _, hxl, hf⟩ := DataW.trod_struct Try.underlying167 h2
    match xs, hxl with
    | [y0, y1, y2, y3, y4], _ =>
      have g0 := hf 0 _ rfl
      have g1 := hf 1 _ rfl
      have g2 := hf 2 _ rfl
      have g3 := hf 3 _ rfl
      have g4 := hf 4 _ rfl
      simp [cells5, cells70, cells108] at g0 g1 g2 g3 g4
      obtain ⟨x0, z0, -, w0⟩ := DataW.trod_int Try.underlying5 g0
      obtain ⟨n', u0, u1, q0, q1⟩ := pair_of_arr Try.underlying108 cells5 g1
      obtain ⟨n'', u2, u3, q2, q3⟩ := pair_of_arr Try.underlying108 cells5 g2
      obtain ⟨x1, z1, -, w1⟩ := DataW.trod_int Try.underlying5 q0
      obtain ⟨x2, z2, -, w2⟩ := DataW.trod_int Try.underlying5 q1
      obtain ⟨x3, z3, -, w3⟩ := DataW.trod_int Try.underlying5 q2
      obtain ⟨x4, z4, -, w4⟩ := DataW.trod_int Try.underlying5 q3
      obtain ⟨x5, z5, -, w5⟩ := DataW.trod_int Try.underlying5 g3
      obtain ⟨x6, z6, -, w6⟩ := DataW.trod_int Try.underlying70 g4
      simp at z0 z1 z2 z3 z4 z5 z6
      subst z0 z1 z2 z3 z4 z5 z6
      exact ⟨⟨x0, x1, x2, x3, x4, x5, x6⟩, ⟨u8_of_wf w0, u8_of_wf w1, u8_of_wf w2, u8_of_wf w3, u8_of_wf w4, u8_of_wf w5, u16_of_wf w6⟩, by simpa using e0, by simpa using e1, by simpa using e2, by simpa using e3, by simpa using e4, by simpa using e5, by simpa using e6⟩
set_option maxRecDepth 100000 in
theorem ech_of {b off n : Nat} {cs' : List Value} {x : DataW H × List MemPlace} (h1 : W.cells? 0 (⟨b, off, none⟩ : Addr) 5 = some cs') (h2 : DataW.trod enc Try.prog W 0 (fun _ => true) true n 119 cs' = some x) :
    ∃ y : Ec, EchC W y b off := by
  obtain ⟨_, hlen, hcell⟩ := World.cells?_some h1
  match cs', hlen with
  | [v0, v1, v2, v3, v4], _ =>
    have e0 := hcell 0 (by omega)
    have e1 := hcell 1 (by omega)
    have e2 := hcell 2 (by omega)
    have e3 := hcell 3 (by omega)
    have e4 := hcell 4 (by omega)
    rw [add_plain] at e0 e1 e2 e3 e4
    obtain ⟨xs, k, hk, hxy, _, hxl, hf⟩ := DataW.trod_struct Try.underlying119 h2
    match xs, hxl with
    | [y0, y1, y2], _ =>
      have g0 := hf 0 _ rfl
      have g1 := hf 1 _ rfl
      have g2 := hf 2 _ rfl
      simp [cells5, cells117, cells108] at g0 g1 g2
      obtain ⟨x0, z0, -, w0⟩ := DataW.trod_int Try.underlying5 g0
      obtain ⟨n', u0, u1, q0, q1⟩ := pair_of_arr Try.underlying117 cells70 g1
      obtain ⟨n'', u2, u3, q2, q3⟩ := pair_of_arr Try.underlying108 cells5 g2
      obtain ⟨x1, z1, -, w1⟩ := DataW.trod_int Try.underlying70 q0
      obtain ⟨x2, z2, -, w2⟩ := DataW.trod_int Try.underlying70 q1
      obtain ⟨x3, z3, -, w3⟩ := DataW.trod_int Try.underlying5 q2
      obtain ⟨x4, z4, -, w4⟩ := DataW.trod_int Try.underlying5 q3
      simp at z0 z1 z2 z3 z4
      subst z0 z1 z2 z3 z4
      exact ⟨⟨x0, x1, x2, x3, x4⟩, ⟨u8_of_wf w0, u16_of_wf w1, u16_of_wf w2, u8_of_wf w3, u8_of_wf w4⟩, by simpa using e0, by simpa using e1, by simpa using e2, by simpa using e3, by simpa using e4⟩
set_option maxRecDepth 100000 in
theorem open_wirl (hv : Value.okWide Try.prog W .any base 88 v) (h : DataW.Trod enc Try.prog W 0 (fun _ => true) true 88 v d p) : ∃ l : List Wr, WirA W.heap.size W v l := by
  obtain ⟨a0, len, cap, rfl⟩ := okWide_slice Try.underlying88 hv
  obtain ⟨fuel, hf⟩ := h
  rw [slice_cells] at hf
  obtain ⟨zs, a, c, e, hle, hz⟩ := rows_of (α := Wr) (fun y b off => WirC W y b off) Try.underlying88 cells167 (by decide) (fun b off n cs' x h1 h2 => wir_of h1 h2) hf
  refine ⟨zs, a, c, e, hle, fun k hk => ?_⟩
  obtain ⟨b, off, e1, hb, hq⟩ := hz k hk
  exact ⟨b, off, e1, hb, hq⟩
set_option maxRecDepth 100000 in
theorem open_echl (hv : Value.okWide Try.prog W .any base 116 v) (h : DataW.Trod enc Try.prog W 0 (fun _ => true) true 116 v d p) : ∃ l : List Ec, EchA W.heap.size W v l := by
  obtain ⟨a0, len, cap, rfl⟩ := okWide_slice Try.underlying116 hv
  obtain ⟨fuel, hf⟩ := h
  rw [slice_cells] at hf
  obtain ⟨zs, a, c, e, hle, hz⟩ := rows_of (α := Ec) (fun y b off => EchC W y b off) Try.underlying116 cells119 (by decide) (fun b off n cs' x h1 h2 => ech_of h1 h2) hf
  refine ⟨zs, a, c, e, hle, fun k hk => ?_⟩
  obtain ⟨b, off, e1, hb, hq⟩ := hz k hk
  exact ⟨b, off, e1, hb, hq⟩
end
end Go.Proofs.Ytdohfpnnmppdkaa

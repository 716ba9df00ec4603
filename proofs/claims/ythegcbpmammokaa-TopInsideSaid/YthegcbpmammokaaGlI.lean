/-
  Glider in this seat: the box of a cell.
-/
import Derived.Test.YthegcbpmammokaaGlH
namespace Go.Proofs.Ythegcbpmammokaa
open Go.RowKit
set_option linter.unusedSimpArgs false
set_option maxHeartbeats 4000000
set_option maxRecDepth 100000
def cX (nx cell : Int) (c : Nat) : Int := (c : Int) % nx * cell
def cY (nx cell : Int) (c : Nat) : Int := (c : Int) / nx * cell
/-- the box of a cell -/
def cellQ (nx cell : Int) (c : Nat) : Q4 := ⟨cX nx cell c, cX nx cell c + cell, cY nx cell c, cY nx cell c + cell⟩
theorem cX_bd {nx cell : Int} (hn : 1 ≤ nx ∧ nx ≤ 12) (hc : 100 ≤ cell ∧ cell ≤ 65536) (c : Nat) : (0 ≤ (c : Int) % nx ∧ (c : Int) % nx ≤ 11) ∧ 0 ≤ cX nx cell c ∧ cX nx cell c ≤ 720896 := by
  have h1 : 0 ≤ (c : Int) % nx := Int.emod_nonneg _ (by omega)
  have h2 : (c : Int) % nx < nx := Int.emod_lt_of_pos _ (by omega)
  refine ⟨⟨h1, by omega⟩, Int.mul_nonneg h1 (by omega), ?_⟩
  have := Int.mul_le_mul (show (c : Int) % nx ≤ 11 by omega) hc.2 (by omega) (by omega)
  unfold cX
  omega
theorem cY_bd {nx cell : Int} (hn : 1 ≤ nx ∧ nx ≤ 12) (hc : 100 ≤ cell ∧ cell ≤ 65536) {c : Nat} (hl : c < 144) : (0 ≤ (c : Int) / nx ∧ (c : Int) / nx ≤ 143) ∧ 0 ≤ cY nx cell c ∧ cY nx cell c ≤ 9371648 := by
  have h1 : 0 ≤ (c : Int) / nx := Int.ediv_nonneg (by omega) (by omega)
  have h2 : (c : Int) / nx ≤ 143 := by
    have := Int.ediv_le_self nx (show (0 : Int) ≤ (c : Int) by omega)
    omega
  refine ⟨⟨h1, h2⟩, Int.mul_nonneg h1 (by omega), ?_⟩
  have := Int.mul_le_mul h2 hc.2 (by omega) (by omega)
  unfold cY
  omega
theorem cell_any (nx ny cell slot slots layers most vs vd v0 v1 v2 v3 vr : Int) (sa ca : Option Addr) (sl sc cl cc : Nat) (c : Nat) (hn : 1 ≤ nx ∧ nx ≤ 12) (hc : 100 ≤ cell ∧ cell ≤ 65536) (hl : c < 144) (w : World) :
    Calls Try.prog 42 #[.agg #[.int .i64 nx, .int .i64 ny, .int .i64 cell, .int .i64 slot, .int .i64 slots, .int .i64 layers, .int .i64 most, .slice sa sl sc, .slice ca cl cc, .int .i64 vs, .int .i64 vd, .int .i64 v0, .int .i64 v1, .int .i64 v2, .int .i64 v3, .int .i64 vr], .int .i64 c] w fun e w' => e = .returned (.agg #[.int .i64 (cellQ nx cell c).a, .int .i64 (cellQ nx cell c).b, .int .i64 (cellQ nx cell c).c, .int .i64 (cellQ nx cell c).d]) ∧ Below w.heap.size w w' := by
  obtain ⟨⟨a1, a2⟩, b1, b2⟩ := cX_bd hn hc c
  obtain ⟨⟨a3, a4⟩, b3, b4⟩ := cY_bd hn hc hl
  show Calls _ _ _ _ fun e w' => e = .returned (.agg #[.int .i64 (cX nx cell c), .int .i64 (cX nx cell c + cell), .int .i64 (cY nx cell c), .int .i64 (cY nx cell c + cell)]) ∧ _
  have t1 : ((c : Int).tmod nx) = (c : Int) % nx := Int.tmod_eq_emod_of_nonneg (by omega)
  have t2 : ((c : Int).tdiv nx) = (c : Int) / nx := Int.tdiv_eq_ediv_of_nonneg (by omega)
  have hx : cX nx cell c = (c : Int) % nx * cell := rfl
  have hy : cY nx cell c = (c : Int) / nx * cell := rfl
  generalize cX nx cell c = X at *
  generalize cY nx cell c = Y at *
  generalize hr : (c : Int) % nx = r at *
  generalize hq : (c : Int) / nx = q at *
  have hnz : ¬ nx = 0 := by omega
  have hnb : (nx == 0) = false := by simp; omega
  have w1 : IntKind.i64.wrap (r * cell) = X := by rw [← hx, IntKind.wrap_i64]; omega
  have w2 : IntKind.i64.wrap (q * cell) = Y := by rw [← hy, IntKind.wrap_i64]; omega
  have w3 : IntKind.i64.wrap r = r := by rw [IntKind.wrap_i64]; omega
  have w4 : IntKind.i64.wrap q = q := by rw [IntKind.wrap_i64]; omega
  obtain ⟨A, hA⟩ : ∃ A, A = (w.alloc (.cells #[.int .i64 nx, .int .i64 ny, .int .i64 cell, .int .i64 slot, .int .i64 slots, .int .i64 layers, .int .i64 most, .slice sa sl sc, .slice ca cl cc, .int .i64 vs, .int .i64 vd, .int .i64 v0, .int .i64 v1, .int .i64 v2, .int .i64 v3, .int .i64 vr] 64)).alloc (.cells #[.int .i64 0, .int .i64 0, .int .i64 0, .int .i64 0] 29) := ⟨_, rfl⟩
  obtain ⟨k, j, hzA, hBA⟩ := boxed_two w #[.int .i64 nx, .int .i64 ny, .int .i64 cell, .int .i64 slot, .int .i64 slots, .int .i64 layers, .int .i64 most, .slice sa sl sc, .slice ca cl cc, .int .i64 vs, .int .i64 vd, .int .i64 v0, .int .i64 v1, .int .i64 v2, .int .i64 v3, .int .i64 vr] #[.int .i64 0, .int .i64 0, .int .i64 0, .int .i64 0] 64 29
  rw [← hA] at k j hzA hBA
  have HBA := Lib.hid hBA
  have k0 : A.cell? ⟨w.heap.size, 0, none⟩ = some (.int .i64 nx) := k 0
  have k2 : A.cell? ⟨w.heap.size, 2, none⟩ = some (.int .i64 cell) := k 2
  have HJ := Lib.hid j
  clear hx hy hr hq k j hzA hBA
  go_enter Try.func42, Try.ntmps42
  go_upto_region 1 with fail
  rw [← hA]
  go_quiet (fail)
  obtain ⟨V, hV⟩ : ∃ V, V = A.drewN nq := ⟨_, rfl⟩
  rw [← hV]
  have e0 : V.cell? ⟨w.heap.size, 2, none⟩ = some (.int .i64 cell) := by rw [hV]; simpa using k2
  have HH : V.heap[w.heap.size + 1]? = some (.cells #[.int .i64 0, .int .i64 0, .int .i64 0, .int .i64 0] 29 (0, 0)) := by
    rw [hV, hA]
    have h := World.alloc_heap_new (w.alloc (.cells #[.int .i64 nx, .int .i64 ny, .int .i64 cell, .int .i64 slot, .int .i64 slots, .int .i64 layers, .int .i64 most, .slice sa sl sc, .slice ca cl cc, .int .i64 vs, .int .i64 vd, .int .i64 v0, .int .i64 v1, .int .i64 v2, .int .i64 v3, .int .i64 vr] 64)) (.cells #[.int .i64 0, .int .i64 0, .int .i64 0, .int .i64 0] 29)
    rw [show (w.alloc (.cells #[.int .i64 nx, .int .i64 ny, .int .i64 cell, .int .i64 slot, .int .i64 slots, .int .i64 layers, .int .i64 most, .slice sa sl sc, .slice ca cl cc, .int .i64 vs, .int .i64 vd, .int .i64 v0, .int .i64 v1, .int .i64 v2, .int .i64 v3, .int .i64 vr] 64)).heap.size = w.heap.size + 1 by simp] at h
    simpa using h
  have g0 : V.cell? ⟨w.heap.size + 1, 0, none⟩ = some (.int .i64 0) := cellHB HH 0
  have g1 : V.cell? ⟨w.heap.size + 1, 1, none⟩ = some (.int .i64 0) := cellHB HH 1
  have g2 : V.cell? ⟨w.heap.size + 1, 2, none⟩ = some (.int .i64 0) := cellHB HH 2
  have g3 : V.cell? ⟨w.heap.size + 1, 3, none⟩ = some (.int .i64 0) := cellHB HH 3
  have gf : ∀ o, V.frozen? ⟨w.heap.size + 1, o, none⟩ = false := fun o => by simp [World.frozen?, HH]
  have f0 := gf 0
  have f1 := gf 1
  have f2 := gf 2
  have f3 := gf 3
  have hBV : Below w.heap.size w V := by rw [hV]; exact below_drewN HBA.out _
  have HBV := Lib.hid hBV
  clear gf HH hV hA k0 k2 hBV w1 w2 w3 w4 t1 t2
  go_wp2_with fail
  exact bodyPost_ret (v := .agg #[.int .i64 X, .int .i64 (X + cell), .int .i64 Y, .int .i64 (Y + cell)]) (by simp [results, Try.results42, go_sem, *]) rfl ⟨rfl, (((HBV.out.setCell (by simp) _).setCell (by simp) _).setCell (by simp) _).setCell (by simp) _⟩
end Go.Proofs.Ythegcbpmammokaa

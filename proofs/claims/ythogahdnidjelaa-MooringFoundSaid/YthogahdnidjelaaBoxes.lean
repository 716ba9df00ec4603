/-
  Boxes: CheckBox, checkBoxes, apart.
-/
import Derived.Test.YthogahdnidjelaaRoot
import Derived.Test.YthogahdnidjelaaMinMax
namespace Go.Proofs.Ythogahdnidjelaa
open Go.RowKit Go.Shelf
set_option linter.unusedSimpArgs false
theorem chk_ok {lo hi : Int} (h : vB lo hi = true) : chk lo hi = 0 := if_pos h
theorem chk_bad {lo hi : Int} (h : ¬ vB lo hi = true) : chk lo hi = 2 := if_neg h
theorem check_any (a b : Int) (w : World) :
    Calls Try.prog 94 #[.agg #[.int .i64 a, .int .i64 b]] w fun e w' => e = .returned (.int .i64 (chk a b)) ∧ Below w.heap.size w w' := by
  by_cases h : vB a b = true
  · rw [chk_ok h]; exact bcheck_ok a b h w
  · rw [chk_bad h]; exact bcheck_bad a b h w
/-- how far two spans are apart: least, greatest -/
def gLo (a b c d : Int) : Int := max 0 (max (c - b) (a - d))
def gHi (a b c d : Int) : Int := max (d - a) (b - c)
set_option maxHeartbeats 1000000 in
theorem apart_any (a b c d : Int) (h1 : vB a b = true) (h2 : vB c d = true) (w : World) :
    Calls Try.prog 119 #[.agg #[.int .i64 a, .int .i64 b], .agg #[.int .i64 c, .int .i64 d]] w fun e w' => e = .returned (.agg #[.int .i64 (gLo a b c d), .int .i64 (gHi a b c d)]) ∧ Below w.heap.size w w' := by
  obtain ⟨g1, g2, g3⟩ := (vB_iff a b).1 h1
  obtain ⟨g4, g5, g6⟩ := (vB_iff c d).1 h2
  clear h1 h2
  have e1 : gLo a b c d = max 0 (max (c - b) (a - d)) := rfl
  have e2 : gHi a b c d = max (d - a) (b - c) := rfl
  rw [e1, e2]
  clear e1 e2
  go_enter Try.func119, Try.ntmps119
  go_wp2
  refine bodyPost_ret (v := .agg #[.int .i64 (max 0 (max (c - b) (a - d))), .int .i64 (max (d - a) (b - c))]) (by simp [results, Try.results119, go_sem]) rfl ⟨rfl, ?_⟩
  exact (((Below.refl _ _).alloc (Nat.le_refl _) _).alloc (by simp) _).alloc (by simp; omega) _
/-- a valid box -/
def vX (a b c d : Int) : Bool := vB a b && (vB c d && (decide (-268435456 ≤ a ∧ a ≤ 268435456) && (decide (-268435456 ≤ b ∧ b ≤ 268435456) && (decide (-268435456 ≤ c ∧ c ≤ 268435456) && decide (-268435456 ≤ d ∧ d ≤ 268435456)))))
def chkX (a b c d : Int) : Int := if vX a b c d = true then 0 else 2
theorem idx0 (a b c d : Int) (w : World) : (Instr.index 159 (.agg #[.int .i64 a, .int .i64 b, .int .i64 c, .int .i64 d]) (.int .i64 0)).run Try.prog w = .ok (.agg #[.int .i64 a, .int .i64 b]) w := by
  simp [Instr.index, go_sem]
theorem idx1 (a b c d : Int) (w : World) : (Instr.index 159 (.agg #[.int .i64 a, .int .i64 b, .int .i64 c, .int .i64 d]) (.int .i64 1)).run Try.prog w = .ok (.agg #[.int .i64 c, .int .i64 d]) w := by
  simp [Instr.index, go_sem]
def gX (a b : Int) : Prop := vB a b = true ∧ -268435456 ≤ a ∧ b ≤ 268435456
theorem vX_iff (a b c d : Int) : vX a b c d = true ↔ gX a b ∧ gX c d := by
  unfold vX gX
  simp only [Bool.and_eq_true, decide_eq_true_eq]
  constructor
  · rintro ⟨h1, h2, h3, h4, h5, h6⟩; exact ⟨⟨h1, h3.1, h4.2⟩, h2, h5.1, h6.2⟩
  · rintro ⟨⟨h1, h2, h3⟩, h4, h5, h6⟩
    obtain ⟨k1, _, _⟩ := (vB_iff a b).1 h1
    obtain ⟨k2, _, _⟩ := (vB_iff c d).1 h4
    exact ⟨h1, h4, by omega, by omega, by omega, by omega⟩
theorem chkX_bad {a b c d : Int} (h : ¬ (gX a b ∧ gX c d)) : chkX a b c d = 2 := if_neg fun k => h ((vX_iff a b c d).1 k)
theorem chkX_ok {a b c d : Int} (h : gX a b) (k : gX c d) : chkX a b c d = 0 := if_pos ((vX_iff a b c d).2 ⟨h, k⟩)
theorem gX_cases (a b : Int) : (chk a b = 0 ∧ -268435456 ≤ a ∧ b ≤ 268435456 ∧ gX a b) ∨ (¬ gX a b ∧ chk a b = 2) ∨ (¬ gX a b ∧ chk a b = 0 ∧ a < -268435456) ∨ (¬ gX a b ∧ chk a b = 0 ∧ -268435456 ≤ a ∧ 268435456 < b) := by
  by_cases h : vB a b = true
  · have e := chk_ok h
    by_cases h1 : -268435456 ≤ a
    · by_cases h2 : b ≤ 268435456
      · exact .inl ⟨e, h1, h2, h, h1, h2⟩
      · exact .inr (.inr (.inr ⟨fun k => h2 k.2.2, e, h1, by omega⟩))
    · exact .inr (.inr (.inl ⟨fun k => h1 k.2.1, e, by omega⟩))
  · exact .inr (.inl ⟨fun k => h k.1, chk_bad h⟩)
set_option maxRecDepth 100000 in
set_option maxHeartbeats 4000000 in
theorem checkBox_any (a b c d : Int) (w : World) :
    Calls Try.prog 123 #[.agg #[.int .i64 a, .int .i64 b, .int .i64 c, .int .i64 d]] w fun e w' => e = .returned (.int .i64 (chkX a b c d)) ∧ Below w.heap.size w w' := by
  have A0 := Lib.hid (fun h => chkX_bad (a := a) (b := b) (c := c) (d := d) h)
  have A1 := Lib.hid (fun h k => chkX_ok (a := a) (b := b) (c := c) (d := d) h k)
  generalize chkX a b c d = r at A0 A1 ⊢
  have c1 := fun w => check_any a b w
  have c2 := fun w => check_any c d w
  have s1 := gX_cases a b
  have s2 := gX_cases c d
  generalize chk a b = q1 at c1 s1
  generalize chk c d = q2 at c2 s2
  have S1 := Lib.hid s1
  have S2 := Lib.hid s2
  clear s1 s2
  have i0 := idx0 a b c d
  have i1 := idx1 a b c d
  go_enter Try.func123, Try.ntmps123
  go_wp2_with fail
  go_loopw [10] (fun i wr => ∃ k : Nat, k ≤ 2 ∧ i = .int .i64 k ∧ (1 ≤ k → gX a b) ∧ (2 ≤ k → gX c d) ∧ w.heap.size ≤ wr.heap.size ∧ Below w.heap.size w wr) (fun i _ => 2 - (intOf i).toNat)
  case atStart => exact ⟨0, by omega, rfl, fun h => absurd h (by decide), fun h => absurd h (by decide), by simp, (Below.refl _ _).alloc (Nat.le_refl _) _⟩
  case round =>
    obtain ⟨k, hk, rfl, G1, G2, hz, hB0⟩ := hrel
    have H1 := Lib.hid G1
    have H2 := Lib.hid G2
    clear G1 G2
    match k, hk with
    | 0, _ =>
      rcases S1.out with ⟨rfl, k1, k2, k3⟩ | ⟨k3, rfl⟩ | ⟨k3, rfl, k1⟩ | ⟨k3, rfl, k1, k2⟩
      · have K := Lib.hid k3
        clear k3
        go_wp2_with (go_at_call 94; refine (c1 _).mono ?_; rintro e w' ⟨rfl, hb⟩; have hcc := (bcell hb).1)
        refine ⟨⟨1, by omega, rfl, fun _ => K.out, fun h => absurd h (by decide), by have := hb.size; simp at this; omega, chainB hb (hB0.alloc hz _)⟩, by simp [intOf]⟩
      all_goals
        have K := Lib.hid k3
        clear k3
        go_wp2_with (go_at_call 94; refine (c1 _).mono ?_; rintro e w' ⟨rfl, hb⟩; have hcc := (bcell hb).1)
        go_ret
        exact ⟨ret_int (A0.out (fun h => K.out h.1)).symm, chainB hb (hB0.alloc hz _)⟩
    | 1, _ =>
      rcases S2.out with ⟨rfl, k1, k2, k3⟩ | ⟨k3, rfl⟩ | ⟨k3, rfl, k1⟩ | ⟨k3, rfl, k1, k2⟩
      · have K := Lib.hid k3
        clear k3
        go_wp2_with (go_at_call 94; refine (c2 _).mono ?_; rintro e w' ⟨rfl, hb⟩; have hcc := (bcell hb).1)
        refine ⟨⟨2, by omega, rfl, fun _ => H1.out (by decide), fun _ => K.out, by have := hb.size; simp at this; omega, chainB hb (hB0.alloc hz _)⟩, by simp [intOf]⟩
      all_goals
        have K := Lib.hid k3
        clear k3
        go_wp2_with (go_at_call 94; refine (c2 _).mono ?_; rintro e w' ⟨rfl, hb⟩; have hcc := (bcell hb).1)
        go_ret
        exact ⟨ret_int (A0.out (fun h => K.out h.2)).symm, chainB hb (hB0.alloc hz _)⟩
    | 2, _ =>
      go_wp2_with fail
      go_ret
      exact ⟨ret_int (A1.out (H1.out (by decide)) (H2.out (by decide))).symm, hB0⟩
structure T3 where
  l : Int
  h : Int
  e : Int
def sqLo (a b c d p q r s : Int) : Int := gLo a b p q * gLo a b p q + gLo c d r s * gLo c d r s
def sqHi (a b c d p q r s : Int) : Int := gHi a b p q * gHi a b p q + gHi c d r s * gHi c d r s
def squareS (a b c d p q r s : Int) : T3 := if vX a b c d = true ∧ vX p q r s = true then ⟨sqLo a b c d p q r s, sqHi a b c d p q r s, 0⟩ else ⟨0, 0, 2⟩
theorem sq_bd (x : Int) (h0 : 0 ≤ x) (h1 : x ≤ 536870912) : 0 ≤ x * x ∧ x * x ≤ 288230376151711744 := by
  have := sq_mono h0 h1
  exact ⟨Int.mul_nonneg h0 h0, by omega⟩
theorem g_bd (a b c d : Int) (h1 : gX a b) (h2 : gX c d) : 0 ≤ gLo a b c d ∧ gLo a b c d ≤ 536870912 ∧ 0 ≤ gHi a b c d ∧ gHi a b c d ≤ 536870912 ∧ gLo a b c d ≤ gHi a b c d := by
  obtain ⟨k1, k2, k3⟩ := (vB_iff a b).1 h1.1
  obtain ⟨k4, k5, k6⟩ := (vB_iff c d).1 h2.1
  obtain ⟨_, k7, k8⟩ := h1
  obtain ⟨_, k9, k10⟩ := h2
  unfold gLo gHi
  omega
theorem checkBoxes_any (a b c d p q r s : Int) (w : World) :
    Calls Try.prog 118 #[.agg #[.int .i64 a, .int .i64 b, .int .i64 c, .int .i64 d], .agg #[.int .i64 p, .int .i64 q, .int .i64 r, .int .i64 s]] w fun e w' => e = .returned (.int .i64 (squareS a b c d p q r s).e) ∧ Below w.heap.size w w' := by
  have c1 := fun w => checkBox_any a b c d w
  have c2 := fun w => checkBox_any p q r s w
  by_cases h1 : vX a b c d = true
  · rw [show chkX a b c d = 0 from if_pos h1] at c1
    have e : (squareS a b c d p q r s).e = chkX p q r s := by
      unfold squareS chkX
      by_cases h2 : vX p q r s = true
      · rw [if_pos ⟨h1, h2⟩, if_pos h2]
      · rw [if_neg (fun k => h2 k.2), if_neg h2]
    rw [e]
    generalize chkX p q r s = z at c2 ⊢
    clear h1 e
    go_enter Try.func118, Try.ntmps118
    go_wp2_with fail
    refine (c1 _).mono ?_
    rintro e w1 ⟨rfl, hb⟩
    obtain ⟨hc, hf⟩ := bcell hb
    have k1_00 : w1.cell? ⟨w.heap.size, 0, none⟩ = some (.int .i64 a) := by rw [hc _ _ (by first | omega | (simp; omega) | simp)]; simp [go_sem, *]
    have k1_01 : w1.cell? ⟨w.heap.size, 1, none⟩ = some (.int .i64 b) := by rw [hc _ _ (by first | omega | (simp; omega) | simp)]; simp [go_sem, *]
    have k1_02 : w1.cell? ⟨w.heap.size, 2, none⟩ = some (.int .i64 c) := by rw [hc _ _ (by first | omega | (simp; omega) | simp)]; simp [go_sem, *]
    have k1_03 : w1.cell? ⟨w.heap.size, 3, none⟩ = some (.int .i64 d) := by rw [hc _ _ (by first | omega | (simp; omega) | simp)]; simp [go_sem, *]
    have z1_0 : w.heap.size < w1.heap.size := by have := hb.size; (try simp at this); omega
    have k1_10 : w1.cell? ⟨(w.heap.size + 1), 0, none⟩ = some (.int .i64 p) := by rw [hc _ _ (by first | omega | (simp; omega) | simp)]; simp [go_sem, *]
    have k1_11 : w1.cell? ⟨(w.heap.size + 1), 1, none⟩ = some (.int .i64 q) := by rw [hc _ _ (by first | omega | (simp; omega) | simp)]; simp [go_sem, *]
    have k1_12 : w1.cell? ⟨(w.heap.size + 1), 2, none⟩ = some (.int .i64 r) := by rw [hc _ _ (by first | omega | (simp; omega) | simp)]; simp [go_sem, *]
    have k1_13 : w1.cell? ⟨(w.heap.size + 1), 3, none⟩ = some (.int .i64 s) := by rw [hc _ _ (by first | omega | (simp; omega) | simp)]; simp [go_sem, *]
    have z1_1 : (w.heap.size + 1) < w1.heap.size := by have := hb.size; (try simp at this); omega
    have hB1 : Below w.heap.size w w1 := by repeat (first | exact (Below.refl _ _) | refine Below.drew ?_ | refine below_drewN ?_ _ | refine Below.setCell ?_ (by first | omega | (simp; omega) | simp) _ | refine Below.alloc ?_ (by first | omega | (simp; omega) | simp) _ | refine chainB (by assumption) ?_)
    have hs1 : w.heap.size ≤ w1.heap.size := hB1.size
    clear hc hf hb 
    go_wp2_with fail
    refine (c2 _).mono ?_
    rintro e w2 ⟨rfl, hb⟩
    obtain ⟨hc, hf⟩ := bcell hb
    have k2_00 : w2.cell? ⟨w.heap.size, 0, none⟩ = some (.int .i64 a) := by rw [hc _ _ (by first | omega | (simp; omega) | simp)]; simp [go_sem, *]
    have k2_01 : w2.cell? ⟨w.heap.size, 1, none⟩ = some (.int .i64 b) := by rw [hc _ _ (by first | omega | (simp; omega) | simp)]; simp [go_sem, *]
    have k2_02 : w2.cell? ⟨w.heap.size, 2, none⟩ = some (.int .i64 c) := by rw [hc _ _ (by first | omega | (simp; omega) | simp)]; simp [go_sem, *]
    have k2_03 : w2.cell? ⟨w.heap.size, 3, none⟩ = some (.int .i64 d) := by rw [hc _ _ (by first | omega | (simp; omega) | simp)]; simp [go_sem, *]
    have z2_0 : w.heap.size < w2.heap.size := by have := hb.size; (try simp at this); omega
    have k2_10 : w2.cell? ⟨(w.heap.size + 1), 0, none⟩ = some (.int .i64 p) := by rw [hc _ _ (by first | omega | (simp; omega) | simp)]; simp [go_sem, *]
    have k2_11 : w2.cell? ⟨(w.heap.size + 1), 1, none⟩ = some (.int .i64 q) := by rw [hc _ _ (by first | omega | (simp; omega) | simp)]; simp [go_sem, *]
    have k2_12 : w2.cell? ⟨(w.heap.size + 1), 2, none⟩ = some (.int .i64 r) := by rw [hc _ _ (by first | omega | (simp; omega) | simp)]; simp [go_sem, *]
    have k2_13 : w2.cell? ⟨(w.heap.size + 1), 3, none⟩ = some (.int .i64 s) := by rw [hc _ _ (by first | omega | (simp; omega) | simp)]; simp [go_sem, *]
    have z2_1 : (w.heap.size + 1) < w2.heap.size := by have := hb.size; (try simp at this); omega
    have hB2 : Below w.heap.size w w2 := by repeat (first | exact hB1 | refine Below.drew ?_ | refine below_drewN ?_ _ | refine Below.setCell ?_ (by first | omega | (simp; omega) | simp) _ | refine Below.alloc ?_ (by first | omega | (simp; omega) | simp) _ | refine chainB (by assumption) ?_)
    have hs2 : w.heap.size ≤ w2.heap.size := hB2.size
    clear hc hf hb k1_00 k1_01 k1_02 k1_03 z1_0 k1_10 k1_11 k1_12 k1_13 z1_1 hB1 hs1
    go_wp2_with fail
    go_ret
    exact ⟨rfl, by repeat (first | exact hB2 | refine Below.drew ?_ | refine below_drewN ?_ _ | refine Below.setCell ?_ (by first | omega | (simp; omega) | simp) _ | refine Below.alloc ?_ (by first | omega | (simp; omega) | simp) _ | refine chainB (by assumption) ?_)⟩
  · rw [show chkX a b c d = 2 from if_neg h1] at c1
    rw [show (squareS a b c d p q r s).e = 2 by unfold squareS; rw [if_neg (fun k => h1 k.1)]]
    clear h1
    go_enter Try.func118, Try.ntmps118
    go_wp2_with fail
    refine (c1 _).mono ?_
    rintro e w1 ⟨rfl, hb⟩
    obtain ⟨hc, hf⟩ := bcell hb
    have k1_00 : w1.cell? ⟨w.heap.size, 0, none⟩ = some (.int .i64 a) := by rw [hc _ _ (by first | omega | (simp; omega) | simp)]; simp [go_sem, *]
    have k1_01 : w1.cell? ⟨w.heap.size, 1, none⟩ = some (.int .i64 b) := by rw [hc _ _ (by first | omega | (simp; omega) | simp)]; simp [go_sem, *]
    have k1_02 : w1.cell? ⟨w.heap.size, 2, none⟩ = some (.int .i64 c) := by rw [hc _ _ (by first | omega | (simp; omega) | simp)]; simp [go_sem, *]
    have k1_03 : w1.cell? ⟨w.heap.size, 3, none⟩ = some (.int .i64 d) := by rw [hc _ _ (by first | omega | (simp; omega) | simp)]; simp [go_sem, *]
    have z1_0 : w.heap.size < w1.heap.size := by have := hb.size; (try simp at this); omega
    have k1_10 : w1.cell? ⟨(w.heap.size + 1), 0, none⟩ = some (.int .i64 p) := by rw [hc _ _ (by first | omega | (simp; omega) | simp)]; simp [go_sem, *]
    have k1_11 : w1.cell? ⟨(w.heap.size + 1), 1, none⟩ = some (.int .i64 q) := by rw [hc _ _ (by first | omega | (simp; omega) | simp)]; simp [go_sem, *]
    have k1_12 : w1.cell? ⟨(w.heap.size + 1), 2, none⟩ = some (.int .i64 r) := by rw [hc _ _ (by first | omega | (simp; omega) | simp)]; simp [go_sem, *]
    have k1_13 : w1.cell? ⟨(w.heap.size + 1), 3, none⟩ = some (.int .i64 s) := by rw [hc _ _ (by first | omega | (simp; omega) | simp)]; simp [go_sem, *]
    have z1_1 : (w.heap.size + 1) < w1.heap.size := by have := hb.size; (try simp at this); omega
    have hB1 : Below w.heap.size w w1 := by repeat (first | exact (Below.refl _ _) | refine Below.drew ?_ | refine below_drewN ?_ _ | refine Below.setCell ?_ (by first | omega | (simp; omega) | simp) _ | refine Below.alloc ?_ (by first | omega | (simp; omega) | simp) _ | refine chainB (by assumption) ?_)
    have hs1 : w.heap.size ≤ w1.heap.size := hB1.size
    clear hc hf hb 
    go_wp2_with fail
    go_ret
    exact ⟨rfl, by repeat (first | exact hB1 | refine Below.drew ?_ | refine below_drewN ?_ _ | refine Below.setCell ?_ (by first | omega | (simp; omega) | simp) _ | refine Below.alloc ?_ (by first | omega | (simp; omega) | simp) _ | refine chainB (by assumption) ?_)⟩
end Go.Proofs.Ythogahdnidjelaa

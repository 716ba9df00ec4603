/-
  MoD: the watch circle's top (layer 2), ported from its own seat, in the cable seat (MinMax, Boxes, Square, Distance, Sub).
-/
import Derived.Test.YtdohfpnnmppdkaaMoC
import Derived.Lib.MinMax
import Derived.Lib.Hide
import Derived.Deep.CutRange
namespace Go.Proofs.Ytdohfpnnmppdkaa.Moo
open Go.RowKit Go.Shelf
theorem min2_run {P : Program} (w : World) (k k' : IntKind) (x y : Int) : (Builtin.min2 (.int k x) (.int k' y)).run P w = .ok (.int k (min x y)) w := by
  have e : (if y < x then y else x) = min x y := by rw [Int.min_def]; split <;> split <;> omega
  simp [Builtin.min2, e]
theorem max2_run {P : Program} (w : World) (k k' : IntKind) (x y : Int) : (Builtin.max2 (.int k x) (.int k' y)).run P w = .ok (.int k (max x y)) w := by
  have e : (if y > x then y else x) = max x y := by rw [Int.max_def]; split <;> split <;> omega
  simp [Builtin.max2, e]
@[go_sem high] theorem run_min3 {P : Program} (w : World) (ts : Array TypeId) (t : TypeId) (k k' k'' : IntKind) (x y z : Int) :
    (Builtin.min_ ts t #[.int k x, .int k' y, .int k'' z]).run P w = .ok (.int k (min (min x y) z)) w := by
  simp [Builtin.min_, min2_run]
@[go_sem high] theorem run_min4 {P : Program} (w : World) (ts : Array TypeId) (t : TypeId) (k k' k'' k3 : IntKind) (x y z u : Int) :
    (Builtin.min_ ts t #[.int k x, .int k' y, .int k'' z, .int k3 u]).run P w = .ok (.int k (min (min (min x y) z) u)) w := by
  simp [Builtin.min_, min2_run]
@[go_sem high] theorem run_max3 {P : Program} (w : World) (ts : Array TypeId) (t : TypeId) (k k' k'' : IntKind) (x y z : Int) :
    (Builtin.max_ ts t #[.int k x, .int k' y, .int k'' z]).run P w = .ok (.int k (max (max x y) z)) w := by
  simp [Builtin.max_, max2_run]
@[go_sem high] theorem run_max4 {P : Program} (w : World) (ts : Array TypeId) (t : TypeId) (k k' k'' k3 : IntKind) (x y z u : Int) :
    (Builtin.max_ ts t #[.int k x, .int k' y, .int k'' z, .int k3 u]).run P w = .ok (.int k (max (max (max x y) z) u)) w := by
  simp [Builtin.max_, max2_run]
end Go.Proofs.Ytdohfpnnmppdkaa.Moo
namespace Go.Proofs.Ytdohfpnnmppdkaa.Moo
open Go.RowKit Go.Shelf
set_option linter.unusedSimpArgs false
theorem chk_ok {lo hi : Int} (h : vB lo hi = true) : chk lo hi = 0 := if_pos h
theorem chk_bad {lo hi : Int} (h : ¬ vB lo hi = true) : chk lo hi = 2 := if_neg h
theorem check_any (a b : Int) (w : World) :
    Calls Try.prog 110 #[.agg #[.int .i64 a, .int .i64 b]] w fun e w' => e = .returned (.int .i64 (chk a b)) ∧ Below w.heap.size w w' := by
  by_cases h : vB a b = true
  · rw [chk_ok h]; exact bcheck_ok a b h w
  · rw [chk_bad h]; exact bcheck_bad a b h w
/-- how far two spans are apart: least, greatest -/
def gLo (a b c d : Int) : Int := max 0 (max (c - b) (a - d))
def gHi (a b c d : Int) : Int := max (d - a) (b - c)
set_option maxHeartbeats 1000000 in
theorem apart_any (a b c d : Int) (h1 : vB a b = true) (h2 : vB c d = true) (w : World) :
    Calls Try.prog 171 #[.agg #[.int .i64 a, .int .i64 b], .agg #[.int .i64 c, .int .i64 d]] w fun e w' => e = .returned (.agg #[.int .i64 (gLo a b c d), .int .i64 (gHi a b c d)]) ∧ Below w.heap.size w w' := by
  obtain ⟨g1, g2, g3⟩ := (vB_iff a b).1 h1
  obtain ⟨g4, g5, g6⟩ := (vB_iff c d).1 h2
  clear h1 h2
  have e1 : gLo a b c d = max 0 (max (c - b) (a - d)) := rfl
  have e2 : gHi a b c d = max (d - a) (b - c) := rfl
  rw [e1, e2]
  clear e1 e2
  go_enter Try.func171, Try.ntmps171
  go_wp2
  refine bodyPost_ret (v := .agg #[.int .i64 (max 0 (max (c - b) (a - d))), .int .i64 (max (d - a) (b - c))]) (by simp [results, Try.results171, go_sem]) rfl ⟨rfl, ?_⟩
  exact (((Below.refl _ _).alloc (Nat.le_refl _) _).alloc (by simp) _).alloc (by simp; omega) _
/-- a valid box -/
def vX (a b c d : Int) : Bool := vB a b && (vB c d && (decide (-268435456 ≤ a ∧ a ≤ 268435456) && (decide (-268435456 ≤ b ∧ b ≤ 268435456) && (decide (-268435456 ≤ c ∧ c ≤ 268435456) && decide (-268435456 ≤ d ∧ d ≤ 268435456)))))
def chkX (a b c d : Int) : Int := if vX a b c d = true then 0 else 2
theorem idx0 (a b c d : Int) (w : World) : (Instr.index 254 (.agg #[.int .i64 a, .int .i64 b, .int .i64 c, .int .i64 d]) (.int .i64 0)).run Try.prog w = .ok (.agg #[.int .i64 a, .int .i64 b]) w := by
  simp [Instr.index, go_sem]
theorem idx1 (a b c d : Int) (w : World) : (Instr.index 254 (.agg #[.int .i64 a, .int .i64 b, .int .i64 c, .int .i64 d]) (.int .i64 1)).run Try.prog w = .ok (.agg #[.int .i64 c, .int .i64 d]) w := by
  simp [Instr.index, go_sem]
def gX (a b : Int) : Prop := vB a b = true ∧ -268435456 ≤ a ∧ b ≤ 268435456
theorem vX_iff (a b c d : Int) : vX a b c d = true ↔ gX a b ∧ gX c d := by
  unfold vX gX
  simp only [Bool.and_eq_true, decide_eq_true_eq]
  constructor
  · rintro ⟨h1, h2, h3, h4, h5, h6⟩; exact ⟨⟨h1, h3.1, h4.2⟩, h2, h5.1, h6.2⟩
  · rintro ⟨⟨h1, h2, h3⟩, h4, h5, h6⟩
    obtain ⟨k1, _, _⟩ := (vB_iff a b).1 h1
    obtain ⟨k2, _, _⟩ := (vB_iff c d).1 h4
    exact ⟨h1, h4, by omega, by omega, by omega, by omega⟩
theorem chkX_bad {a b c d : Int} (h : ¬ (gX a b ∧ gX c d)) : chkX a b c d = 2 := if_neg fun k => h ((vX_iff a b c d).1 k)
theorem chkX_ok {a b c d : Int} (h : gX a b) (k : gX c d) : chkX a b c d = 0 := if_pos ((vX_iff a b c d).2 ⟨h, k⟩)
theorem gX_cases (a b : Int) : (chk a b = 0 ∧ -268435456 ≤ a ∧ b ≤ 268435456 ∧ gX a b) ∨ (¬ gX a b ∧ chk a b = 2) ∨ (¬ gX a b ∧ chk a b = 0 ∧ a < -268435456) ∨ (¬ gX a b ∧ chk a b = 0 ∧ -268435456 ≤ a ∧ 268435456 < b) := by
  by_cases h : vB a b = true
  · have e := chk_ok h
    by_cases h1 : -268435456 ≤ a
    · by_cases h2 : b ≤ 268435456
      · exact .inl ⟨e, h1, h2, h, h1, h2⟩
      · exact .inr (.inr (.inr ⟨fun k => h2 k.2.2, e, h1, by omega⟩))
    · exact .inr (.inr (.inl ⟨fun k => h1 k.2.1, e, by omega⟩))
  · exact .inr (.inl ⟨fun k => h k.1, chk_bad h⟩)
set_option maxRecDepth 100000 in
set_option maxHeartbeats 4000000 in
theorem checkBox_any (a b c d : Int) (w : World) :
    Calls Try.prog 205 #[.agg #[.int .i64 a, .int .i64 b, .int .i64 c, .int .i64 d]] w fun e w' => e = .returned (.int .i64 (chkX a b c d)) ∧ Below w.heap.size w w' := by
  have A0 := Lib.hid (fun h => chkX_bad (a := a) (b := b) (c := c) (d := d) h)
  have A1 := Lib.hid (fun h k => chkX_ok (a := a) (b := b) (c := c) (d := d) h k)
  generalize chkX a b c d = r at A0 A1 ⊢
  have c1 := fun w => check_any a b w
  have c2 := fun w => check_any c d w
  have s1 := gX_cases a b
  have s2 := gX_cases c d
  generalize chk a b = q1 at c1 s1
  generalize chk c d = q2 at c2 s2
  have S1 := Lib.hid s1
  have S2 := Lib.hid s2
  clear s1 s2
  have i0 := idx0 a b c d
  have i1 := idx1 a b c d
  go_enter Try.func205, Try.ntmps205
  go_wp2_with fail
  go_loopw [10] (fun i wr => ∃ k : Nat, k ≤ 2 ∧ i = .int .i64 k ∧ (1 ≤ k → gX a b) ∧ (2 ≤ k → gX c d) ∧ w.heap.size ≤ wr.heap.size ∧ Below w.heap.size w wr) (fun i _ => 2 - (intOf i).toNat)
  case atStart => exact ⟨0, by omega, rfl, fun h => absurd h (by decide), fun h => absurd h (by decide), by simp, (Below.refl _ _).alloc (Nat.le_refl _) _⟩
  case round =>
    obtain ⟨k, hk, rfl, G1, G2, hz, hB0⟩ := hrel
    have H1 := Lib.hid G1
    have H2 := Lib.hid G2
    clear G1 G2
    match k, hk with
    | 0, _ =>
      rcases S1.out with ⟨rfl, k1, k2, k3⟩ | ⟨k3, rfl⟩ | ⟨k3, rfl, k1⟩ | ⟨k3, rfl, k1, k2⟩
      · have K := Lib.hid k3
        clear k3
        go_wp2_with (go_at_call 110; refine (c1 _).mono ?_; rintro e w' ⟨rfl, hb⟩; have hcc := (bcell hb).1)
        refine ⟨⟨1, by omega, rfl, fun _ => K.out, fun h => absurd h (by decide), by have := hb.size; simp at this; omega, chainB hb (hB0.alloc hz _)⟩, by simp [intOf]⟩
      all_goals
        have K := Lib.hid k3
        clear k3
        go_wp2_with (go_at_call 110; refine (c1 _).mono ?_; rintro e w' ⟨rfl, hb⟩; have hcc := (bcell hb).1)
        go_ret
        exact ⟨ret_int (A0.out (fun h => K.out h.1)).symm, chainB hb (hB0.alloc hz _)⟩
    | 1, _ =>
      rcases S2.out with ⟨rfl, k1, k2, k3⟩ | ⟨k3, rfl⟩ | ⟨k3, rfl, k1⟩ | ⟨k3, rfl, k1, k2⟩
      · have K := Lib.hid k3
        clear k3
        go_wp2_with (go_at_call 110; refine (c2 _).mono ?_; rintro e w' ⟨rfl, hb⟩; have hcc := (bcell hb).1)
        refine ⟨⟨2, by omega, rfl, fun _ => H1.out (by decide), fun _ => K.out, by have := hb.size; simp at this; omega, chainB hb (hB0.alloc hz _)⟩, by simp [intOf]⟩
      all_goals
        have K := Lib.hid k3
        clear k3
        go_wp2_with (go_at_call 110; refine (c2 _).mono ?_; rintro e w' ⟨rfl, hb⟩; have hcc := (bcell hb).1)
        go_ret
        exact ⟨ret_int (A0.out (fun h => K.out h.2)).symm, chainB hb (hB0.alloc hz _)⟩
    | 2, _ =>
      go_wp2_with fail
      go_ret
      exact ⟨ret_int (A1.out (H1.out (by decide)) (H2.out (by decide))).symm, hB0⟩
structure T3 where
  l : Int
  h : Int
  e : Int
def sqLo (a b c d p q r s : Int) : Int := gLo a b p q * gLo a b p q + gLo c d r s * gLo c d r s
def sqHi (a b c d p q r s : Int) : Int := gHi a b p q * gHi a b p q + gHi c d r s * gHi c d r s
def squareS (a b c d p q r s : Int) : T3 := if vX a b c d = true ∧ vX p q r s = true then ⟨sqLo a b c d p q r s, sqHi a b c d p q r s, 0⟩ else ⟨0, 0, 2⟩
theorem sq_bd (x : Int) (h0 : 0 ≤ x) (h1 : x ≤ 536870912) : 0 ≤ x * x ∧ x * x ≤ 288230376151711744 := by
  have := sq_mono h0 h1
  exact ⟨Int.mul_nonneg h0 h0, by omega⟩
theorem g_bd (a b c d : Int) (h1 : gX a b) (h2 : gX c d) : 0 ≤ gLo a b c d ∧ gLo a b c d ≤ 536870912 ∧ 0 ≤ gHi a b c d ∧ gHi a b c d ≤ 536870912 ∧ gLo a b c d ≤ gHi a b c d := by
  obtain ⟨k1, k2, k3⟩ := (vB_iff a b).1 h1.1
  obtain ⟨k4, k5, k6⟩ := (vB_iff c d).1 h2.1
  obtain ⟨_, k7, k8⟩ := h1
  obtain ⟨_, k9, k10⟩ := h2
  unfold gLo gHi
  omega
theorem checkBoxes_any (a b c d p q r s : Int) (w : World) :
    Calls Try.prog 170 #[.agg #[.int .i64 a, .int .i64 b, .int .i64 c, .int .i64 d], .agg #[.int .i64 p, .int .i64 q, .int .i64 r, .int .i64 s]] w fun e w' => e = .returned (.int .i64 (squareS a b c d p q r s).e) ∧ Below w.heap.size w w' := by
  have c1 := fun w => checkBox_any a b c d w
  have c2 := fun w => checkBox_any p q r s w
  by_cases h1 : vX a b c d = true
  · rw [show chkX a b c d = 0 from if_pos h1] at c1
    have e : (squareS a b c d p q r s).e = chkX p q r s := by
      unfold squareS chkX
      by_cases h2 : vX p q r s = true
      · rw [if_pos ⟨h1, h2⟩, if_pos h2]
      · rw [if_neg (fun k => h2 k.2), if_neg h2]
    rw [e]
    generalize chkX p q r s = z at c2 ⊢
    clear h1 e
    go_enter Try.func170, Try.ntmps170
    go_wp2_with fail
    refine (c1 _).mono ?_
    rintro e w1 ⟨rfl, hb⟩
    obtain ⟨hc, hf⟩ := bcell hb
    have k1_00 : w1.cell? ⟨w.heap.size, 0, none⟩ = some (.int .i64 a) := by rw [hc _ _ (by first | omega | (simp; omega) | simp)]; simp [go_sem, *]
    have k1_01 : w1.cell? ⟨w.heap.size, 1, none⟩ = some (.int .i64 b) := by rw [hc _ _ (by first | omega | (simp; omega) | simp)]; simp [go_sem, *]
    have k1_02 : w1.cell? ⟨w.heap.size, 2, none⟩ = some (.int .i64 c) := by rw [hc _ _ (by first | omega | (simp; omega) | simp)]; simp [go_sem, *]
    have k1_03 : w1.cell? ⟨w.heap.size, 3, none⟩ = some (.int .i64 d) := by rw [hc _ _ (by first | omega | (simp; omega) | simp)]; simp [go_sem, *]
    have z1_0 : w.heap.size < w1.heap.size := by have := hb.size; (try simp at this); omega
    have k1_10 : w1.cell? ⟨(w.heap.size + 1), 0, none⟩ = some (.int .i64 p) := by rw [hc _ _ (by first | omega | (simp; omega) | simp)]; simp [go_sem, *]
    have k1_11 : w1.cell? ⟨(w.heap.size + 1), 1, none⟩ = some (.int .i64 q) := by rw [hc _ _ (by first | omega | (simp; omega) | simp)]; simp [go_sem, *]
    have k1_12 : w1.cell? ⟨(w.heap.size + 1), 2, none⟩ = some (.int .i64 r) := by rw [hc _ _ (by first | omega | (simp; omega) | simp)]; simp [go_sem, *]
    have k1_13 : w1.cell? ⟨(w.heap.size + 1), 3, none⟩ = some (.int .i64 s) := by rw [hc _ _ (by first | omega | (simp; omega) | simp)]; simp [go_sem, *]
    have z1_1 : (w.heap.size + 1) < w1.heap.size := by have := hb.size; (try simp at this); omega
    have hB1 : Below w.heap.size w w1 := by repeat (first | exact (Below.refl _ _) | refine Below.drew ?_ | refine below_drewN ?_ _ | refine Below.setCell ?_ (by first | omega | (simp; omega) | simp) _ | refine Below.alloc ?_ (by first | omega | (simp; omega) | simp) _ | refine chainB (by assumption) ?_)
    have hs1 : w.heap.size ≤ w1.heap.size := hB1.size
    clear hc hf hb 
    go_wp2_with fail
    refine (c2 _).mono ?_
    rintro e w2 ⟨rfl, hb⟩
    obtain ⟨hc, hf⟩ := bcell hb
    have k2_00 : w2.cell? ⟨w.heap.size, 0, none⟩ = some (.int .i64 a) := by rw [hc _ _ (by first | omega | (simp; omega) | simp)]; simp [go_sem, *]
    have k2_01 : w2.cell? ⟨w.heap.size, 1, none⟩ = some (.int .i64 b) := by rw [hc _ _ (by first | omega | (simp; omega) | simp)]; simp [go_sem, *]
    have k2_02 : w2.cell? ⟨w.heap.size, 2, none⟩ = some (.int .i64 c) := by rw [hc _ _ (by first | omega | (simp; omega) | simp)]; simp [go_sem, *]
    have k2_03 : w2.cell? ⟨w.heap.size, 3, none⟩ = some (.int .i64 d) := by rw [hc _ _ (by first | omega | (simp; omega) | simp)]; simp [go_sem, *]
    have z2_0 : w.heap.size < w2.heap.size := by have := hb.size; (try simp at this); omega
    have k2_10 : w2.cell? ⟨(w.heap.size + 1), 0, none⟩ = some (.int .i64 p) := by rw [hc _ _ (by first | omega | (simp; omega) | simp)]; simp [go_sem, *]
    have k2_11 : w2.cell? ⟨(w.heap.size + 1), 1, none⟩ = some (.int .i64 q) := by rw [hc _ _ (by first | omega | (simp; omega) | simp)]; simp [go_sem, *]
    have k2_12 : w2.cell? ⟨(w.heap.size + 1), 2, none⟩ = some (.int .i64 r) := by rw [hc _ _ (by first | omega | (simp; omega) | simp)]; simp [go_sem, *]
    have k2_13 : w2.cell? ⟨(w.heap.size + 1), 3, none⟩ = some (.int .i64 s) := by rw [hc _ _ (by first | omega | (simp; omega) | simp)]; simp [go_sem, *]
    have z2_1 : (w.heap.size + 1) < w2.heap.size := by have := hb.size; (try simp at this); omega
    have hB2 : Below w.heap.size w w2 := by repeat (first | exact hB1 | refine Below.drew ?_ | refine below_drewN ?_ _ | refine Below.setCell ?_ (by first | omega | (simp; omega) | simp) _ | refine Below.alloc ?_ (by first | omega | (simp; omega) | simp) _ | refine chainB (by assumption) ?_)
    have hs2 : w.heap.size ≤ w2.heap.size := hB2.size
    clear hc hf hb k1_00 k1_01 k1_02 k1_03 z1_0 k1_10 k1_11 k1_12 k1_13 z1_1 hB1 hs1
    go_wp2_with fail
    go_ret
    exact ⟨rfl, by repeat (first | exact hB2 | refine Below.drew ?_ | refine below_drewN ?_ _ | refine Below.setCell ?_ (by first | omega | (simp; omega) | simp) _ | refine Below.alloc ?_ (by first | omega | (simp; omega) | simp) _ | refine chainB (by assumption) ?_)⟩
  · rw [show chkX a b c d = 2 from if_neg h1] at c1
    rw [show (squareS a b c d p q r s).e = 2 by unfold squareS; rw [if_neg (fun k => h1 k.1)]]
    clear h1
    go_enter Try.func170, Try.ntmps170
    go_wp2_with fail
    refine (c1 _).mono ?_
    rintro e w1 ⟨rfl, hb⟩
    obtain ⟨hc, hf⟩ := bcell hb
    have k1_00 : w1.cell? ⟨w.heap.size, 0, none⟩ = some (.int .i64 a) := by rw [hc _ _ (by first | omega | (simp; omega) | simp)]; simp [go_sem, *]
    have k1_01 : w1.cell? ⟨w.heap.size, 1, none⟩ = some (.int .i64 b) := by rw [hc _ _ (by first | omega | (simp; omega) | simp)]; simp [go_sem, *]
    have k1_02 : w1.cell? ⟨w.heap.size, 2, none⟩ = some (.int .i64 c) := by rw [hc _ _ (by first | omega | (simp; omega) | simp)]; simp [go_sem, *]
    have k1_03 : w1.cell? ⟨w.heap.size, 3, none⟩ = some (.int .i64 d) := by rw [hc _ _ (by first | omega | (simp; omega) | simp)]; simp [go_sem, *]
    have z1_0 : w.heap.size < w1.heap.size := by have := hb.size; (try simp at this); omega
    have k1_10 : w1.cell? ⟨(w.heap.size + 1), 0, none⟩ = some (.int .i64 p) := by rw [hc _ _ (by first | omega | (simp; omega) | simp)]; simp [go_sem, *]
    have k1_11 : w1.cell? ⟨(w.heap.size + 1), 1, none⟩ = some (.int .i64 q) := by rw [hc _ _ (by first | omega | (simp; omega) | simp)]; simp [go_sem, *]
    have k1_12 : w1.cell? ⟨(w.heap.size + 1), 2, none⟩ = some (.int .i64 r) := by rw [hc _ _ (by first | omega | (simp; omega) | simp)]; simp [go_sem, *]
    have k1_13 : w1.cell? ⟨(w.heap.size + 1), 3, none⟩ = some (.int .i64 s) := by rw [hc _ _ (by first | omega | (simp; omega) | simp)]; simp [go_sem, *]
    have z1_1 : (w.heap.size + 1) < w1.heap.size := by have := hb.size; (try simp at this); omega
    have hB1 : Below w.heap.size w w1 := by repeat (first | exact (Below.refl _ _) | refine Below.drew ?_ | refine below_drewN ?_ _ | refine Below.setCell ?_ (by first | omega | (simp; omega) | simp) _ | refine Below.alloc ?_ (by first | omega | (simp; omega) | simp) _ | refine chainB (by assumption) ?_)
    have hs1 : w.heap.size ≤ w1.heap.size := hB1.size
    clear hc hf hb 
    go_wp2_with fail
    go_ret
    exact ⟨rfl, by repeat (first | exact hB1 | refine Below.drew ?_ | refine below_drewN ?_ _ | refine Below.setCell ?_ (by first | omega | (simp; omega) | simp) _ | refine Below.alloc ?_ (by first | omega | (simp; omega) | simp) _ | refine chainB (by assumption) ?_)⟩
end Go.Proofs.Ytdohfpnnmppdkaa.Moo
namespace Go.Proofs.Ytdohfpnnmppdkaa.Moo
open Go.RowKit Go.Shelf
set_option linter.unusedSimpArgs false
set_option maxRecDepth 100000 in
set_option maxHeartbeats 8000000 in
theorem square_any (a b c d p q r s : Int) (w : World) :
    Calls Try.prog 134 #[.agg #[.int .i64 a, .int .i64 b, .int .i64 c, .int .i64 d], .agg #[.int .i64 p, .int .i64 q, .int .i64 r, .int .i64 s]] w fun e w' => e = .returned (.tuple #[.int .i64 (squareS a b c d p q r s).l, .int .i64 (squareS a b c d p q r s).h, .int .i64 (squareS a b c d p q r s).e]) ∧ Below w.heap.size w w' := by
  have c1 := fun w => checkBoxes_any a b c d p q r s w
  by_cases h : vX a b c d = true ∧ vX p q r s = true
  · have k : squareS a b c d p q r s = ⟨sqLo a b c d p q r s, sqHi a b c d p q r s, 0⟩ := if_pos h
    obtain ⟨⟨gA1, gA2⟩, ⟨gB1, gB2⟩⟩ := And.intro ((vX_iff a b c d).1 h.1) ((vX_iff p q r s).1 h.2)
    obtain ⟨x1, x2, x3, x4, x5⟩ := g_bd a b p q gA1 gB1
    obtain ⟨y1, y2, y3, y4, y5⟩ := g_bd c d r s gA2 gB2
    have d1 : ∀ u v, u = Value.agg #[.int .i64 a, .int .i64 b] → v = Value.agg #[.int .i64 p, .int .i64 q] → ∀ w, Calls Try.prog 171 #[u, v] w fun e w' => e = .returned (.agg #[.int .i64 (gLo a b p q), .int .i64 (gHi a b p q)]) ∧ Below w.heap.size w w' := by
      rintro u v rfl rfl w
      exact apart_any a b p q gA1.1 gB1.1 w
    have d2 : ∀ u v, u = Value.agg #[.int .i64 c, .int .i64 d] → v = Value.agg #[.int .i64 r, .int .i64 s] → ∀ w, Calls Try.prog 171 #[u, v] w fun e w' => e = .returned (.agg #[.int .i64 (gLo c d r s), .int .i64 (gHi c d r s)]) ∧ Below w.heap.size w w' := by
      rintro u v rfl rfl w
      exact apart_any c d r s gA2.1 gB2.1 w
    rw [k] at c1 ⊢
    obtain ⟨b1, b2⟩ := sq_bd _ x1 x2
    obtain ⟨b3, b4⟩ := sq_bd _ x3 x4
    obtain ⟨b5, b6⟩ := sq_bd _ y1 y2
    obtain ⟨b7, b8⟩ := sq_bd _ y3 y4
    unfold sqLo sqHi at c1 ⊢
    generalize gLo a b p q = xl at d1 b1 b2 x1 x2 x5 c1 ⊢
    generalize gHi a b p q = xh at d1 b3 b4 x3 x4 x5 c1 ⊢
    generalize gLo c d r s = yl at d2 b5 b6 y1 y2 y5 c1 ⊢
    generalize gHi c d r s = yh at d2 b7 b8 y3 y4 y5 c1 ⊢
    have W1 : IntKind.i64.wrap (xl * xl) = xl * xl := by rw [IntKind.wrap_i64]; omega
    have W2 : IntKind.i64.wrap (xh * xh) = xh * xh := by rw [IntKind.wrap_i64]; omega
    have W3 : IntKind.i64.wrap (yl * yl) = yl * yl := by rw [IntKind.wrap_i64]; omega
    have W4 : IntKind.i64.wrap (yh * yh) = yh * yh := by rw [IntKind.wrap_i64]; omega
    have W5 : IntKind.i64.wrap (xl * xl + yl * yl) = xl * xl + yl * yl := by rw [IntKind.wrap_i64]; omega
    have W6 : IntKind.i64.wrap (xh * xh + yh * yh) = xh * xh + yh * yh := by rw [IntKind.wrap_i64]; omega
    clear b1 b2 b3 b4 b5 b6 b7 b8 x1 x2 x3 x4 x5 y1 y2 y3 y4 y5 gA1 gA2 gB1 gB2 h k
    dsimp only at c1
    go_enter Try.func134, Try.ntmps134
    go_wp2_with fail
    refine (c1 _).mono ?_
    rintro e w1 ⟨rfl, hb⟩
    obtain ⟨hc, hf⟩ := bcell hb
    have k1_00 : w1.cell? ⟨w.heap.size, 0, none⟩ = some (.int .i64 a) := by rw [hc _ _ (by first | omega | (simp; omega) | simp)]; simp [go_sem, *]
    have k1_01 : w1.cell? ⟨w.heap.size, 1, none⟩ = some (.int .i64 b) := by rw [hc _ _ (by first | omega | (simp; omega) | simp)]; simp [go_sem, *]
    have k1_02 : w1.cell? ⟨w.heap.size, 2, none⟩ = some (.int .i64 c) := by rw [hc _ _ (by first | omega | (simp; omega) | simp)]; simp [go_sem, *]
    have k1_03 : w1.cell? ⟨w.heap.size, 3, none⟩ = some (.int .i64 d) := by rw [hc _ _ (by first | omega | (simp; omega) | simp)]; simp [go_sem, *]
    have z1_0 : w.heap.size < w1.heap.size := by have := hb.size; (try simp at this); omega
    have k1_10 : w1.cell? ⟨(w.heap.size + 1), 0, none⟩ = some (.int .i64 p) := by rw [hc _ _ (by first | omega | (simp; omega) | simp)]; simp [go_sem, *]
    have k1_11 : w1.cell? ⟨(w.heap.size + 1), 1, none⟩ = some (.int .i64 q) := by rw [hc _ _ (by first | omega | (simp; omega) | simp)]; simp [go_sem, *]
    have k1_12 : w1.cell? ⟨(w.heap.size + 1), 2, none⟩ = some (.int .i64 r) := by rw [hc _ _ (by first | omega | (simp; omega) | simp)]; simp [go_sem, *]
    have k1_13 : w1.cell? ⟨(w.heap.size + 1), 3, none⟩ = some (.int .i64 s) := by rw [hc _ _ (by first | omega | (simp; omega) | simp)]; simp [go_sem, *]
    have z1_1 : (w.heap.size + 1) < w1.heap.size := by have := hb.size; (try simp at this); omega
    have hB1 : Below w.heap.size w w1 := by repeat (first | exact (Below.refl _ _) | refine Below.drew ?_ | refine below_drewN ?_ _ | refine Below.setCell ?_ (by first | omega | (simp; omega) | simp) _ | refine Below.alloc ?_ (by first | omega | (simp; omega) | simp) _ | refine chainB (by assumption) ?_)
    have hs1 : w.heap.size ≤ w1.heap.size := hB1.size
    clear hc hf hb 
    go_upto_region 4 with fail
    have e1 : ¬ w.heap.size = w1.heap.size := by omega
    have e2 : ¬ w1.heap.size = w.heap.size := by omega
    have e3 : ¬ w.heap.size = w1.heap.size + 1 := by omega
    have e4 : ¬ w1.heap.size + 1 = w.heap.size := by omega
    have e5 : ¬ w.heap.size + 1 = w1.heap.size := by omega
    have e6 : ¬ w1.heap.size = w.heap.size + 1 := by omega
    go_cut [8, 9] from 10 (fun s8 s9 wc => ∃ B C, s8 = Value.pointer (some ⟨B, 0, none⟩) ∧ s9 = Value.pointer (some ⟨C, 0, none⟩) ∧ wc.cell? ⟨B, 0, none⟩ = some (.int .i64 xl) ∧ wc.cell? ⟨B, 1, none⟩ = some (.int .i64 xh) ∧ wc.cell? ⟨C, 0, none⟩ = some (.int .i64 yl) ∧ wc.cell? ⟨C, 1, none⟩ = some (.int .i64 yh) ∧ Below w.heap.size w wc)
    case first => as_aux_lemma =>
      go_region_held3 (fun w' => w'.cell? ⟨w.heap.size, 0, none⟩ = some (.int .i64 a) ∧ w'.cell? ⟨w.heap.size, 1, none⟩ = some (.int .i64 b) ∧ w'.cell? ⟨w.heap.size, 2, none⟩ = some (.int .i64 c) ∧ w'.cell? ⟨w.heap.size, 3, none⟩ = some (.int .i64 d) ∧ w'.cell? ⟨(w.heap.size + 1), 0, none⟩ = some (.int .i64 p) ∧ w'.cell? ⟨(w.heap.size + 1), 1, none⟩ = some (.int .i64 q) ∧ w'.cell? ⟨(w.heap.size + 1), 2, none⟩ = some (.int .i64 r) ∧ w'.cell? ⟨(w.heap.size + 1), 3, none⟩ = some (.int .i64 s)) ((first | (refine ⟨?_, ?_, ?_, ?_, ?_, ?_, ?_, ?_⟩ <;> (rw [hcc.out _ _ (by first | omega | (simp; omega) | simp)]; simp [go_sem, *])) | (simp [go_sem, *]; done) | (go_keep; done) | (trace_state; simp [go_sem, *]; trace_state; fail)))
        (first | (go_at_call 171; refine (d1 _ _ ?_ ?_ _).mono ?_; with_reducible rfl; with_reducible rfl; clear d1; rintro e w2 ⟨rfl, hb⟩; have hcc := Lib.hid (fun b o (h : b < _) => hb.cell (p := ⟨b, o, none⟩) h); have hff := Lib.hid (fun b o (h : b < _) => hb.frozen (p := ⟨b, o, none⟩) h); have hzw2 : w.heap.size + 2 ≤ w2.heap.size := Nat.le_trans (by first | assumption | (simp; omega)) hb.size; have hyw2 := hb.size; (try simp at hyw2); have k1w2 : w2.cell? ⟨w.heap.size, 0, none⟩ = some (.int .i64 a) := (hcc.out _ _ (by first | omega | (simp; omega))).trans (by first | (simp [go_sem, *]; done) | (go_keep; done)); have k2w2 : w2.cell? ⟨w.heap.size, 1, none⟩ = some (.int .i64 b) := (hcc.out _ _ (by first | omega | (simp; omega))).trans (by first | (simp [go_sem, *]; done) | (go_keep; done)); have k3w2 : w2.cell? ⟨w.heap.size, 2, none⟩ = some (.int .i64 c) := (hcc.out _ _ (by first | omega | (simp; omega))).trans (by first | (simp [go_sem, *]; done) | (go_keep; done)); have k4w2 : w2.cell? ⟨w.heap.size, 3, none⟩ = some (.int .i64 d) := (hcc.out _ _ (by first | omega | (simp; omega))).trans (by first | (simp [go_sem, *]; done) | (go_keep; done)); have k5w2 : w2.cell? ⟨(w.heap.size + 1), 0, none⟩ = some (.int .i64 p) := (hcc.out _ _ (by first | omega | (simp; omega))).trans (by first | (simp [go_sem, *]; done) | (go_keep; done)); have k6w2 : w2.cell? ⟨(w.heap.size + 1), 1, none⟩ = some (.int .i64 q) := (hcc.out _ _ (by first | omega | (simp; omega))).trans (by first | (simp [go_sem, *]; done) | (go_keep; done)); have k7w2 : w2.cell? ⟨(w.heap.size + 1), 2, none⟩ = some (.int .i64 r) := (hcc.out _ _ (by first | omega | (simp; omega))).trans (by first | (simp [go_sem, *]; done) | (go_keep; done)); have k8w2 : w2.cell? ⟨(w.heap.size + 1), 3, none⟩ = some (.int .i64 s) := (hcc.out _ _ (by first | omega | (simp; omega))).trans (by first | (simp [go_sem, *]; done) | (go_keep; done)); (try have g1w2 : ¬ w.heap.size = w2.heap.size := by omega); (try have g2w2 : ¬ w2.heap.size = w.heap.size := by omega); (try have g3w2 : ¬ w.heap.size + 1 = w2.heap.size := by omega); (try have g4w2 : ¬ w2.heap.size = w.heap.size + 1 := by omega); (try have g5w2 : ¬ w.heap.size = w2.heap.size + 1 := by omega); (try have g6w2 : ¬ w2.heap.size + 1 = w.heap.size := by omega); (try have l7w2 : w.heap.size < w2.heap.size := by omega); (try have l8w2 : w.heap.size + 1 < w2.heap.size := by omega); (try have l9w2 : w.heap.size < w2.heap.size + 1 := by omega); (try have l10w2 : w.heap.size + 1 < w2.heap.size + 1 := by omega); (try have g11w2 : ¬ w1.heap.size = w2.heap.size := by omega); (try have g12w2 : ¬ w2.heap.size = w1.heap.size := by omega); (try have g13w2 : ¬ w1.heap.size + 1 = w2.heap.size := by omega); (try have g14w2 : ¬ w2.heap.size = w1.heap.size + 1 := by omega); (try have g15w2 : ¬ w1.heap.size = w2.heap.size + 1 := by omega); (try have g16w2 : ¬ w2.heap.size + 1 = w1.heap.size := by omega); (try have l17w2 : w1.heap.size < w2.heap.size := by omega); (try have l18w2 : w1.heap.size + 1 < w2.heap.size := by omega); (try have l19w2 : w1.heap.size < w2.heap.size + 1 := by omega); (try have l20w2 : w1.heap.size + 1 < w2.heap.size + 1 := by omega); have u1w2 := hcc.out w1.heap.size 0; (try simp [go_sem] at u1w2); have v1w2 := hff.out w1.heap.size 0; (try simp [go_sem] at v1w2); have u2w2 := hcc.out w1.heap.size 1; (try simp [go_sem] at u2w2); have v2w2 := hff.out w1.heap.size 1; (try simp [go_sem] at v2w2); have u3w2 := hcc.out (w1.heap.size + 1) 0; (try simp [go_sem] at u3w2); have v3w2 := hff.out (w1.heap.size + 1) 0; (try simp [go_sem] at v3w2); have u4w2 := hcc.out (w1.heap.size + 1) 1; (try simp [go_sem] at u4w2); have v4w2 := hff.out (w1.heap.size + 1) 1; (try simp [go_sem] at v4w2)) | (go_at_call 171; refine (d2 _ _ ?_ ?_ _).mono ?_; with_reducible rfl; with_reducible rfl; clear d2; rintro e w3 ⟨rfl, hb⟩; have hcc := Lib.hid (fun b o (h : b < _) => hb.cell (p := ⟨b, o, none⟩) h); have hff := Lib.hid (fun b o (h : b < _) => hb.frozen (p := ⟨b, o, none⟩) h); have hzw3 : w.heap.size + 2 ≤ w3.heap.size := Nat.le_trans (by first | assumption | (simp; omega)) hb.size; have hyw3 := hb.size; (try simp at hyw3); have k1w3 : w3.cell? ⟨w.heap.size, 0, none⟩ = some (.int .i64 a) := (hcc.out _ _ (by first | omega | (simp; omega))).trans (by first | (simp [go_sem, *]; done) | (go_keep; done)); have k2w3 : w3.cell? ⟨w.heap.size, 1, none⟩ = some (.int .i64 b) := (hcc.out _ _ (by first | omega | (simp; omega))).trans (by first | (simp [go_sem, *]; done) | (go_keep; done)); have k3w3 : w3.cell? ⟨w.heap.size, 2, none⟩ = some (.int .i64 c) := (hcc.out _ _ (by first | omega | (simp; omega))).trans (by first | (simp [go_sem, *]; done) | (go_keep; done)); have k4w3 : w3.cell? ⟨w.heap.size, 3, none⟩ = some (.int .i64 d) := (hcc.out _ _ (by first | omega | (simp; omega))).trans (by first | (simp [go_sem, *]; done) | (go_keep; done)); have k5w3 : w3.cell? ⟨(w.heap.size + 1), 0, none⟩ = some (.int .i64 p) := (hcc.out _ _ (by first | omega | (simp; omega))).trans (by first | (simp [go_sem, *]; done) | (go_keep; done)); have k6w3 : w3.cell? ⟨(w.heap.size + 1), 1, none⟩ = some (.int .i64 q) := (hcc.out _ _ (by first | omega | (simp; omega))).trans (by first | (simp [go_sem, *]; done) | (go_keep; done)); have k7w3 : w3.cell? ⟨(w.heap.size + 1), 2, none⟩ = some (.int .i64 r) := (hcc.out _ _ (by first | omega | (simp; omega))).trans (by first | (simp [go_sem, *]; done) | (go_keep; done)); have k8w3 : w3.cell? ⟨(w.heap.size + 1), 3, none⟩ = some (.int .i64 s) := (hcc.out _ _ (by first | omega | (simp; omega))).trans (by first | (simp [go_sem, *]; done) | (go_keep; done)); (try have g1w3 : ¬ w.heap.size = w3.heap.size := by omega); (try have g2w3 : ¬ w3.heap.size = w.heap.size := by omega); (try have g3w3 : ¬ w.heap.size + 1 = w3.heap.size := by omega); (try have g4w3 : ¬ w3.heap.size = w.heap.size + 1 := by omega); (try have g5w3 : ¬ w.heap.size = w3.heap.size + 1 := by omega); (try have g6w3 : ¬ w3.heap.size + 1 = w.heap.size := by omega); (try have l7w3 : w.heap.size < w3.heap.size := by omega); (try have l8w3 : w.heap.size + 1 < w3.heap.size := by omega); (try have l9w3 : w.heap.size < w3.heap.size + 1 := by omega); (try have l10w3 : w.heap.size + 1 < w3.heap.size + 1 := by omega); (try have g11w3 : ¬ w1.heap.size = w3.heap.size := by omega); (try have g12w3 : ¬ w3.heap.size = w1.heap.size := by omega); (try have g13w3 : ¬ w1.heap.size + 1 = w3.heap.size := by omega); (try have g14w3 : ¬ w3.heap.size = w1.heap.size + 1 := by omega); (try have g15w3 : ¬ w1.heap.size = w3.heap.size + 1 := by omega); (try have g16w3 : ¬ w3.heap.size + 1 = w1.heap.size := by omega); (try have l17w3 : w1.heap.size < w3.heap.size := by omega); (try have l18w3 : w1.heap.size + 1 < w3.heap.size := by omega); (try have l19w3 : w1.heap.size < w3.heap.size + 1 := by omega); (try have l20w3 : w1.heap.size + 1 < w3.heap.size + 1 := by omega); (try have g21w3 : ¬ w2.heap.size = w3.heap.size := by omega); (try have g22w3 : ¬ w3.heap.size = w2.heap.size := by omega); (try have g23w3 : ¬ w2.heap.size + 1 = w3.heap.size := by omega); (try have g24w3 : ¬ w3.heap.size = w2.heap.size + 1 := by omega); (try have g25w3 : ¬ w2.heap.size = w3.heap.size + 1 := by omega); (try have g26w3 : ¬ w3.heap.size + 1 = w2.heap.size := by omega); (try have l27w3 : w2.heap.size < w3.heap.size := by omega); (try have l28w3 : w2.heap.size + 1 < w3.heap.size := by omega); (try have l29w3 : w2.heap.size < w3.heap.size + 1 := by omega); (try have l30w3 : w2.heap.size + 1 < w3.heap.size + 1 := by omega); have u1w3 := hcc.out w1.heap.size 0; (try simp [go_sem] at u1w3); have v1w3 := hff.out w1.heap.size 0; (try simp [go_sem] at v1w3); have u2w3 := hcc.out w1.heap.size 1; (try simp [go_sem] at u2w3); have v2w3 := hff.out w1.heap.size 1; (try simp [go_sem] at v2w3); have u3w3 := hcc.out (w1.heap.size + 1) 0; (try simp [go_sem] at u3w3); have v3w3 := hff.out (w1.heap.size + 1) 0; (try simp [go_sem] at v3w3); have u4w3 := hcc.out (w1.heap.size + 1) 1; (try simp [go_sem] at u4w3); have v4w3 := hff.out (w1.heap.size + 1) 1; (try simp [go_sem] at v4w3); have u5w3 := hcc.out w2.heap.size 0; (try simp [go_sem] at u5w3); have v5w3 := hff.out w2.heap.size 0; (try simp [go_sem] at v5w3); have u6w3 := hcc.out w2.heap.size 1; (try simp [go_sem] at u6w3); have v6w3 := hff.out w2.heap.size 1; (try simp [go_sem] at v6w3); have u7w3 := hcc.out (w2.heap.size + 1) 0; (try simp [go_sem] at u7w3); have v7w3 := hff.out (w2.heap.size + 1) 0; (try simp [go_sem] at v7w3); have u8w3 := hcc.out (w2.heap.size + 1) 1; (try simp [go_sem] at u8w3); have v8w3 := hff.out (w2.heap.size + 1) 1; (try simp [go_sem] at v8w3)))
      all_goals
        go_wp2_with fail
        go_meet
        case rel => exact ⟨_, _, rfl, rfl, by simp [go_sem, *], by simp [go_sem, *], by simp [go_sem, *], by simp [go_sem, *], by repeat (first | exact hB1 | refine Below.drew ?_ | refine below_drewN ?_ _ | refine Below.setCell ?_ (by first | omega | (simp; omega) | simp) _ | refine Below.alloc ?_ (by first | omega | (simp; omega) | simp) _ | refine chainB (by assumption) ?_)⟩
    case rest => as_aux_lemma =>
      obtain ⟨B, C, rfl, rfl, m1, m2, m3, m4, hB2⟩ := hcut
      go_wp2_with fail
      go_quiet (fail)
      go_wp2_with fail
      go_ret3
      exact ⟨rfl, by repeat (first | exact hB2 | refine Below.drew ?_ | refine below_drewN ?_ _ | refine Below.setCell ?_ (by first | omega | (simp; omega) | simp) _ | refine Below.alloc ?_ (by first | omega | (simp; omega) | simp) _ | refine chainB (by assumption) ?_)⟩
  · rw [show squareS a b c d p q r s = ⟨0, 0, 2⟩ from if_neg h] at c1 ⊢
    dsimp only at c1
    clear h
    go_enter Try.func134, Try.ntmps134
    go_wp2_with fail
    refine (c1 _).mono ?_
    rintro e w1 ⟨rfl, hb⟩
    obtain ⟨hc, hf⟩ := bcell hb
    have k1_00 : w1.cell? ⟨w.heap.size, 0, none⟩ = some (.int .i64 a) := by rw [hc _ _ (by first | omega | (simp; omega) | simp)]; simp [go_sem, *]
    have k1_01 : w1.cell? ⟨w.heap.size, 1, none⟩ = some (.int .i64 b) := by rw [hc _ _ (by first | omega | (simp; omega) | simp)]; simp [go_sem, *]
    have k1_02 : w1.cell? ⟨w.heap.size, 2, none⟩ = some (.int .i64 c) := by rw [hc _ _ (by first | omega | (simp; omega) | simp)]; simp [go_sem, *]
    have k1_03 : w1.cell? ⟨w.heap.size, 3, none⟩ = some (.int .i64 d) := by rw [hc _ _ (by first | omega | (simp; omega) | simp)]; simp [go_sem, *]
    have z1_0 : w.heap.size < w1.heap.size := by have := hb.size; (try simp at this); omega
    have k1_10 : w1.cell? ⟨(w.heap.size + 1), 0, none⟩ = some (.int .i64 p) := by rw [hc _ _ (by first | omega | (simp; omega) | simp)]; simp [go_sem, *]
    have k1_11 : w1.cell? ⟨(w.heap.size + 1), 1, none⟩ = some (.int .i64 q) := by rw [hc _ _ (by first | omega | (simp; omega) | simp)]; simp [go_sem, *]
    have k1_12 : w1.cell? ⟨(w.heap.size + 1), 2, none⟩ = some (.int .i64 r) := by rw [hc _ _ (by first | omega | (simp; omega) | simp)]; simp [go_sem, *]
    have k1_13 : w1.cell? ⟨(w.heap.size + 1), 3, none⟩ = some (.int .i64 s) := by rw [hc _ _ (by first | omega | (simp; omega) | simp)]; simp [go_sem, *]
    have z1_1 : (w.heap.size + 1) < w1.heap.size := by have := hb.size; (try simp at this); omega
    have hB1 : Below w.heap.size w w1 := by repeat (first | exact (Below.refl _ _) | refine Below.drew ?_ | refine below_drewN ?_ _ | refine Below.setCell ?_ (by first | omega | (simp; omega) | simp) _ | refine Below.alloc ?_ (by first | omega | (simp; omega) | simp) _ | refine chainB (by assumption) ?_)
    have hs1 : w.heap.size ≤ w1.heap.size := hB1.size
    clear hc hf hb 
    go_wp2_with fail
    go_ret3
    exact ⟨rfl, by repeat (first | exact hB1 | refine Below.drew ?_ | refine below_drewN ?_ _ | refine Below.setCell ?_ (by first | omega | (simp; omega) | simp) _ | refine Below.alloc ?_ (by first | omega | (simp; omega) | simp) _ | refine chainB (by assumption) ?_)⟩
end Go.Proofs.Ytdohfpnnmppdkaa.Moo
namespace Go.Proofs.Ytdohfpnnmppdkaa.Moo
open Go.RowKit Go.Shelf
set_option linter.unusedSimpArgs false
/-- a span and an error -/
structure R3 where
  lo : Int
  hi : Int
  e : Int
noncomputable def distS (a b c d p q r s : Int) : R3 := if vX a b c d = true ∧ vX p q r s = true then ⟨isq (sqLo a b c d p q r s), isqUp (sqHi a b c d p q r s), 0⟩ else ⟨0, 0, 2⟩
theorem sqLo_bd {a b c d p q r s : Int} (h : vX a b c d = true ∧ vX p q r s = true) : 0 ≤ sqLo a b c d p q r s ∧ sqLo a b c d p q r s ≤ sqHi a b c d p q r s ∧ sqHi a b c d p q r s ≤ 1152921504606846976 := by
  obtain ⟨⟨gA1, gA2⟩, ⟨gB1, gB2⟩⟩ := And.intro ((vX_iff a b c d).1 h.1) ((vX_iff p q r s).1 h.2)
  obtain ⟨x1, x2, x3, x4, x5⟩ := g_bd a b p q gA1 gB1
  obtain ⟨y1, y2, y3, y4, y5⟩ := g_bd c d r s gA2 gB2
  unfold sqLo sqHi
  have e1 := sq_mono x1 x5
  have e2 := sq_mono y1 y5
  have e3 := (sq_bd _ x1 x2).1
  have e4 := (sq_bd _ y1 y2).1
  have e5 := (sq_bd _ x3 x4).2
  have e6 := (sq_bd _ y3 y4).2
  omega
set_option maxRecDepth 100000 in
set_option maxHeartbeats 4000000 in
theorem bdistance_any (a b c d p q r s : Int) (w : World) :
    Calls Try.prog 73 #[.agg #[.int .i64 a, .int .i64 b, .int .i64 c, .int .i64 d], .agg #[.int .i64 p, .int .i64 q, .int .i64 r, .int .i64 s]] w fun e w' => e = .returned (.tuple #[.agg #[.int .i64 (distS a b c d p q r s).lo, .int .i64 (distS a b c d p q r s).hi], .int .i64 (distS a b c d p q r s).e]) ∧ Below w.heap.size w w' := by
  have c1 := fun w => square_any a b c d p q r s w
  by_cases h : vX a b c d = true ∧ vX p q r s = true
  · rw [show squareS a b c d p q r s = ⟨sqLo a b c d p q r s, sqHi a b c d p q r s, 0⟩ from if_pos h] at c1
    rw [show distS a b c d p q r s = ⟨isq (sqLo a b c d p q r s), isqUp (sqHi a b c d p q r s), 0⟩ from if_pos h]
    obtain ⟨b1, b2, b3⟩ := sqLo_bd h
    dsimp only at c1
    have c2 := fun w => rootS_any (sqLo a b c d p q r s) (sqHi a b c d p q r s) b1 (by omega) (by omega) b3 w
    generalize sqLo a b c d p q r s = lo at c1 c2 b1 b2 b3 ⊢
    generalize sqHi a b c d p q r s = hi at c1 c2 b2 b3 ⊢
    generalize isq lo = x at c2 ⊢
    generalize isqUp hi = y at c2 ⊢
    clear b1 b2 b3 h
    go_enter Try.func73, Try.ntmps73
    go_wp2_with fail
    refine (c1 _).mono ?_
    rintro e w1 ⟨rfl, hb⟩
    obtain ⟨hc, hf⟩ := bcell hb
    have k1_00 : w1.cell? ⟨w.heap.size, 0, none⟩ = some (.int .i64 a) := by rw [hc _ _ (by first | omega | (simp; omega) | simp)]; simp [go_sem, *]
    have k1_01 : w1.cell? ⟨w.heap.size, 1, none⟩ = some (.int .i64 b) := by rw [hc _ _ (by first | omega | (simp; omega) | simp)]; simp [go_sem, *]
    have k1_02 : w1.cell? ⟨w.heap.size, 2, none⟩ = some (.int .i64 c) := by rw [hc _ _ (by first | omega | (simp; omega) | simp)]; simp [go_sem, *]
    have k1_03 : w1.cell? ⟨w.heap.size, 3, none⟩ = some (.int .i64 d) := by rw [hc _ _ (by first | omega | (simp; omega) | simp)]; simp [go_sem, *]
    have z1_0 : w.heap.size < w1.heap.size := by have := hb.size; (try simp at this); omega
    have k1_10 : w1.cell? ⟨(w.heap.size + 1), 0, none⟩ = some (.int .i64 p) := by rw [hc _ _ (by first | omega | (simp; omega) | simp)]; simp [go_sem, *]
    have k1_11 : w1.cell? ⟨(w.heap.size + 1), 1, none⟩ = some (.int .i64 q) := by rw [hc _ _ (by first | omega | (simp; omega) | simp)]; simp [go_sem, *]
    have k1_12 : w1.cell? ⟨(w.heap.size + 1), 2, none⟩ = some (.int .i64 r) := by rw [hc _ _ (by first | omega | (simp; omega) | simp)]; simp [go_sem, *]
    have k1_13 : w1.cell? ⟨(w.heap.size + 1), 3, none⟩ = some (.int .i64 s) := by rw [hc _ _ (by first | omega | (simp; omega) | simp)]; simp [go_sem, *]
    have z1_1 : (w.heap.size + 1) < w1.heap.size := by have := hb.size; (try simp at this); omega
    have k1_20 : w1.cell? ⟨(w.heap.size + 2), 0, none⟩ = some (.int .i64 0) := by rw [hc _ _ (by first | omega | (simp; omega) | simp)]; simp [go_sem, *]
    have f1_20 : w1.frozen? ⟨(w.heap.size + 2), 0, none⟩ = false := by rw [hf _ _ (by first | omega | (simp; omega) | simp)]; simp [go_sem, *]
    have k1_21 : w1.cell? ⟨(w.heap.size + 2), 1, none⟩ = some (.int .i64 0) := by rw [hc _ _ (by first | omega | (simp; omega) | simp)]; simp [go_sem, *]
    have f1_21 : w1.frozen? ⟨(w.heap.size + 2), 1, none⟩ = false := by rw [hf _ _ (by first | omega | (simp; omega) | simp)]; simp [go_sem, *]
    have z1_2 : (w.heap.size + 2) < w1.heap.size := by have := hb.size; (try simp at this); omega
    have hB1 : Below w.heap.size w w1 := by repeat (first | exact (Below.refl _ _) | refine Below.drew ?_ | refine below_drewN ?_ _ | refine Below.setCell ?_ (by first | omega | (simp; omega) | simp) _ | refine Below.alloc ?_ (by first | omega | (simp; omega) | simp) _ | refine chainB (by assumption) ?_)
    have hs1 : w.heap.size ≤ w1.heap.size := hB1.size
    clear hc hf hb 
    go_wp2_with fail
    refine (c2 _).mono ?_
    rintro e w2 ⟨rfl, hb⟩
    obtain ⟨hc, hf⟩ := bcell hb
    have k2_00 : w2.cell? ⟨w.heap.size, 0, none⟩ = some (.int .i64 a) := by rw [hc _ _ (by first | omega | (simp; omega) | simp)]; simp [go_sem, *]
    have k2_01 : w2.cell? ⟨w.heap.size, 1, none⟩ = some (.int .i64 b) := by rw [hc _ _ (by first | omega | (simp; omega) | simp)]; simp [go_sem, *]
    have k2_02 : w2.cell? ⟨w.heap.size, 2, none⟩ = some (.int .i64 c) := by rw [hc _ _ (by first | omega | (simp; omega) | simp)]; simp [go_sem, *]
    have k2_03 : w2.cell? ⟨w.heap.size, 3, none⟩ = some (.int .i64 d) := by rw [hc _ _ (by first | omega | (simp; omega) | simp)]; simp [go_sem, *]
    have z2_0 : w.heap.size < w2.heap.size := by have := hb.size; (try simp at this); omega
    have k2_10 : w2.cell? ⟨(w.heap.size + 1), 0, none⟩ = some (.int .i64 p) := by rw [hc _ _ (by first | omega | (simp; omega) | simp)]; simp [go_sem, *]
    have k2_11 : w2.cell? ⟨(w.heap.size + 1), 1, none⟩ = some (.int .i64 q) := by rw [hc _ _ (by first | omega | (simp; omega) | simp)]; simp [go_sem, *]
    have k2_12 : w2.cell? ⟨(w.heap.size + 1), 2, none⟩ = some (.int .i64 r) := by rw [hc _ _ (by first | omega | (simp; omega) | simp)]; simp [go_sem, *]
    have k2_13 : w2.cell? ⟨(w.heap.size + 1), 3, none⟩ = some (.int .i64 s) := by rw [hc _ _ (by first | omega | (simp; omega) | simp)]; simp [go_sem, *]
    have z2_1 : (w.heap.size + 1) < w2.heap.size := by have := hb.size; (try simp at this); omega
    have k2_20 : w2.cell? ⟨(w.heap.size + 2), 0, none⟩ = some (.int .i64 0) := by rw [hc _ _ (by first | omega | (simp; omega) | simp)]; simp [go_sem, *]
    have f2_20 : w2.frozen? ⟨(w.heap.size + 2), 0, none⟩ = false := by rw [hf _ _ (by first | omega | (simp; omega) | simp)]; simp [go_sem, *]
    have k2_21 : w2.cell? ⟨(w.heap.size + 2), 1, none⟩ = some (.int .i64 0) := by rw [hc _ _ (by first | omega | (simp; omega) | simp)]; simp [go_sem, *]
    have f2_21 : w2.frozen? ⟨(w.heap.size + 2), 1, none⟩ = false := by rw [hf _ _ (by first | omega | (simp; omega) | simp)]; simp [go_sem, *]
    have z2_2 : (w.heap.size + 2) < w2.heap.size := by have := hb.size; (try simp at this); omega
    have hB2 : Below w.heap.size w w2 := by repeat (first | exact hB1 | refine Below.drew ?_ | refine below_drewN ?_ _ | refine Below.setCell ?_ (by first | omega | (simp; omega) | simp) _ | refine Below.alloc ?_ (by first | omega | (simp; omega) | simp) _ | refine chainB (by assumption) ?_)
    have hs2 : w.heap.size ≤ w2.heap.size := hB2.size
    clear hc hf hb k1_00 k1_01 k1_02 k1_03 z1_0 k1_10 k1_11 k1_12 k1_13 z1_1 k1_20 f1_20 k1_21 f1_21 z1_2 hB1 hs1
    go_wp2_with fail
    refine bodyPost_ret (v := .tuple #[.agg #[.int .i64 x, .int .i64 y], .int .i64 0]) (by simp [results, Try.results73, go_sem, *]) rfl ⟨rfl, ?_⟩
    repeat (first | exact hB2 | refine Below.drew ?_ | refine below_drewN ?_ _ | refine Below.setCell ?_ (by first | omega | (simp; omega) | simp) _ | refine Below.alloc ?_ (by first | omega | (simp; omega) | simp) _ | refine chainB (by assumption) ?_)
  · rw [show squareS a b c d p q r s = ⟨0, 0, 2⟩ from if_neg h] at c1
    rw [show distS a b c d p q r s = ⟨0, 0, 2⟩ from if_neg h]
    dsimp only at c1
    clear h
    go_enter Try.func73, Try.ntmps73
    go_wp2_with fail
    refine (c1 _).mono ?_
    rintro e w1 ⟨rfl, hb⟩
    obtain ⟨hc, hf⟩ := bcell hb
    have k1_00 : w1.cell? ⟨w.heap.size, 0, none⟩ = some (.int .i64 a) := by rw [hc _ _ (by first | omega | (simp; omega) | simp)]; simp [go_sem, *]
    have k1_01 : w1.cell? ⟨w.heap.size, 1, none⟩ = some (.int .i64 b) := by rw [hc _ _ (by first | omega | (simp; omega) | simp)]; simp [go_sem, *]
    have k1_02 : w1.cell? ⟨w.heap.size, 2, none⟩ = some (.int .i64 c) := by rw [hc _ _ (by first | omega | (simp; omega) | simp)]; simp [go_sem, *]
    have k1_03 : w1.cell? ⟨w.heap.size, 3, none⟩ = some (.int .i64 d) := by rw [hc _ _ (by first | omega | (simp; omega) | simp)]; simp [go_sem, *]
    have z1_0 : w.heap.size < w1.heap.size := by have := hb.size; (try simp at this); omega
    have k1_10 : w1.cell? ⟨(w.heap.size + 1), 0, none⟩ = some (.int .i64 p) := by rw [hc _ _ (by first | omega | (simp; omega) | simp)]; simp [go_sem, *]
    have k1_11 : w1.cell? ⟨(w.heap.size + 1), 1, none⟩ = some (.int .i64 q) := by rw [hc _ _ (by first | omega | (simp; omega) | simp)]; simp [go_sem, *]
    have k1_12 : w1.cell? ⟨(w.heap.size + 1), 2, none⟩ = some (.int .i64 r) := by rw [hc _ _ (by first | omega | (simp; omega) | simp)]; simp [go_sem, *]
    have k1_13 : w1.cell? ⟨(w.heap.size + 1), 3, none⟩ = some (.int .i64 s) := by rw [hc _ _ (by first | omega | (simp; omega) | simp)]; simp [go_sem, *]
    have z1_1 : (w.heap.size + 1) < w1.heap.size := by have := hb.size; (try simp at this); omega
    have k1_20 : w1.cell? ⟨(w.heap.size + 2), 0, none⟩ = some (.int .i64 0) := by rw [hc _ _ (by first | omega | (simp; omega) | simp)]; simp [go_sem, *]
    have f1_20 : w1.frozen? ⟨(w.heap.size + 2), 0, none⟩ = false := by rw [hf _ _ (by first | omega | (simp; omega) | simp)]; simp [go_sem, *]
    have k1_21 : w1.cell? ⟨(w.heap.size + 2), 1, none⟩ = some (.int .i64 0) := by rw [hc _ _ (by first | omega | (simp; omega) | simp)]; simp [go_sem, *]
    have f1_21 : w1.frozen? ⟨(w.heap.size + 2), 1, none⟩ = false := by rw [hf _ _ (by first | omega | (simp; omega) | simp)]; simp [go_sem, *]
    have z1_2 : (w.heap.size + 2) < w1.heap.size := by have := hb.size; (try simp at this); omega
    have hB1 : Below w.heap.size w w1 := by repeat (first | exact (Below.refl _ _) | refine Below.drew ?_ | refine below_drewN ?_ _ | refine Below.setCell ?_ (by first | omega | (simp; omega) | simp) _ | refine Below.alloc ?_ (by first | omega | (simp; omega) | simp) _ | refine chainB (by assumption) ?_)
    have hs1 : w.heap.size ≤ w1.heap.size := hB1.size
    clear hc hf hb 
    go_wp2_with fail
    refine bodyPost_ret (v := .tuple #[.agg #[.int .i64 0, .int .i64 0], .int .i64 2]) (by simp [results, Try.results73, go_sem, *]) rfl ⟨rfl, ?_⟩
    repeat (first | exact hB1 | refine Below.drew ?_ | refine below_drewN ?_ _ | refine Below.setCell ?_ (by first | omega | (simp; omega) | simp) _ | refine Below.alloc ?_ (by first | omega | (simp; omega) | simp) _ | refine chainB (by assumption) ?_)
end Go.Proofs.Ytdohfpnnmppdkaa.Moo
namespace Go.Proofs.Ytdohfpnnmppdkaa.Moo
open Go.RowKit Go.Shelf
set_option linter.unusedSimpArgs false
set_option maxHeartbeats 400000 in
theorem checkBoth_ok (a b c d : Int) (h1 : vB a b = true) (h2 : vB c d = true) (w : World) :
    Calls Try.prog 119 #[.agg #[.int .i64 a, .int .i64 b], .agg #[.int .i64 c, .int .i64 d]] w fun e w' => e = .returned (.int .i64 0) ∧ Below w.heap.size w w' := by
  have c1 := fun w => bcheck_ok a b h1 w
  have c2 := fun w => bcheck_ok c d h2 w
  go_enter Try.func119, Try.ntmps119
  go_wp2_with fail
  refine (c1 _).mono ?_
  rintro e w1 ⟨rfl, hb⟩
  obtain ⟨hc, hf⟩ := bcell hb
  go_wp2_with fail
  refine (c2 _).mono ?_
  rintro e w2 ⟨rfl, hb2⟩
  go_wp2_with fail
  go_ret
  exact ⟨rfl, ((((Below.refl _ _).alloc (Nat.le_refl _) _).alloc (by simp) _).trans (hb.mono (by simp; omega))).trans (hb2.mono (by have := hb.size; simp at this; omega))⟩
set_option maxHeartbeats 400000 in
theorem checkBoth_bad (a b c d : Int) (h : ¬ (vB a b = true ∧ vB c d = true)) (w : World) :
    Calls Try.prog 119 #[.agg #[.int .i64 a, .int .i64 b], .agg #[.int .i64 c, .int .i64 d]] w fun e w' => e = .returned (.int .i64 2) ∧ Below w.heap.size w w' := by
  by_cases h1 : vB a b = true
  · have c1 := fun w => bcheck_ok a b h1 w
    have c2 := fun w => bcheck_bad c d (fun h2 => h ⟨h1, h2⟩) w
    clear h
    go_enter Try.func119, Try.ntmps119
    go_wp2_with fail
    refine (c1 _).mono ?_
    rintro e w1 ⟨rfl, hb⟩
    obtain ⟨hc, hf⟩ := bcell hb
    go_wp2_with fail
    refine (c2 _).mono ?_
    rintro e w2 ⟨rfl, hb2⟩
    go_wp2_with fail
    go_ret
    exact ⟨rfl, ((((Below.refl _ _).alloc (Nat.le_refl _) _).alloc (by simp) _).trans (hb.mono (by simp; omega))).trans (hb2.mono (by have := hb.size; simp at this; omega))⟩
  · have c1 := fun w => bcheck_bad a b h1 w
    clear h
    go_enter Try.func119, Try.ntmps119
    go_wp2_with fail
    refine (c1 _).mono ?_
    rintro e w1 ⟨rfl, hb⟩
    go_wp2_with fail
    go_ret
    exact ⟨rfl, (((Below.refl _ _).alloc (Nat.le_refl _) _).alloc (by simp) _).trans (hb.mono (by simp; omega))⟩
def fit (lo hi : Int) : R3 := if vB lo hi = true then ⟨lo, hi, 0⟩ else ⟨0, 0, 4⟩
def subS (a b c d : Int) : R3 := if vB a b = true ∧ vB c d = true then fit (a - d) (b - c) else ⟨0, 0, 2⟩
set_option maxHeartbeats 400000 in
theorem fitting_any (lo hi : Int) (w : World) :
    Calls Try.prog 120 #[.agg #[.int .i64 lo, .int .i64 hi]] w fun e w' => e = .returned (.tuple #[.agg #[.int .i64 (fit lo hi).lo, .int .i64 (fit lo hi).hi], .int .i64 (fit lo hi).e]) ∧ Below w.heap.size w w' := by
  by_cases h1 : vB lo hi = true
  · have k : fit lo hi = ⟨lo, hi, 0⟩ := if_pos h1
    rw [k]
    have c1 := fun w => bcheck_ok lo hi h1 w
    clear h1 k
    go_enter Try.func120, Try.ntmps120
    go_wp2_with fail
    refine (c1 _).mono ?_
    rintro e w1 ⟨rfl, hb⟩
    obtain ⟨hc, hf⟩ := bcell hb
    go_wp2_with fail
    refine bodyPost_ret (v := .tuple #[.agg #[.int .i64 lo, .int .i64 hi], .int .i64 0]) (by simp [results, Try.results120, go_sem, hc]) rfl ⟨rfl, ?_⟩
    exact ((((((Below.refl _ _).alloc (Nat.le_refl _) _).alloc (by simp) _).trans (hb.mono (by simp; omega))).setCell (by simp) _).setCell (by simp) _)
  · have k : fit lo hi = ⟨0, 0, 4⟩ := if_neg h1
    rw [k]
    have c1 := fun w => bcheck_bad lo hi h1 w
    clear h1 k
    go_enter Try.func120, Try.ntmps120
    go_wp2_with fail
    refine (c1 _).mono ?_
    rintro e w1 ⟨rfl, hb⟩
    obtain ⟨hc, hf⟩ := bcell hb
    go_wp2_with fail
    refine bodyPost_ret (v := .tuple #[.agg #[.int .i64 0, .int .i64 0], .int .i64 4]) (by simp [results, Try.results120, go_sem, hc]) rfl ⟨rfl, ?_⟩
    exact ((((((Below.refl _ _).alloc (Nat.le_refl _) _).alloc (by simp) _).trans (hb.mono (by simp; omega))).setCell (by simp) _).setCell (by simp) _)
set_option maxHeartbeats 1000000 in
theorem sub_any (a b c d : Int) (w : World) :
    Calls Try.prog 64 #[.agg #[.int .i64 a, .int .i64 b], .agg #[.int .i64 c, .int .i64 d]] w fun e w' => e = .returned (.tuple #[.agg #[.int .i64 (subS a b c d).lo, .int .i64 (subS a b c d).hi], .int .i64 (subS a b c d).e]) ∧ Below w.heap.size w w' := by
  by_cases h : vB a b = true ∧ vB c d = true
  · have k : subS a b c d = fit (a - d) (b - c) := if_pos h
    rw [k]
    have c1 := fun w => checkBoth_ok a b c d h.1 h.2 w
    have c2 := fun w => fitting_any (a - d) (b - c) w
    generalize fit (a - d) (b - c) = r at c2 ⊢
    obtain ⟨h1, h2⟩ := h
    obtain ⟨h3, h4, h5⟩ := (vB_iff a b).1 h1
    obtain ⟨h6, h7, h8⟩ := (vB_iff c d).1 h2
    clear h1 h2 k
    go_enter Try.func64, Try.ntmps64
    go_wp2_with fail
    refine (c1 _).mono ?_
    rintro e w1 ⟨rfl, hb⟩
    obtain ⟨hc, hf⟩ := bcell hb
    go_wp2_with fail
    refine (c2 _).mono ?_
    rintro e w2 ⟨rfl, hb2⟩
    replace hb := hb.trans (hb2.mono hb.size)
    clear hc hf hb2
    obtain ⟨hc, hf⟩ := bcell hb
    go_wp2_with fail
    refine bodyPost_ret (v := .tuple #[.agg #[.int .i64 r.lo, .int .i64 r.hi], .int .i64 r.e]) (by simp [results, Try.results64, go_sem, hc]) rfl ⟨rfl, ?_⟩
    exact (((((((Below.refl _ _).alloc (Nat.le_refl _) _).alloc (by simp) _).alloc (by simp; omega) _).trans (hb.mono (by simp; omega)))).setCell (by simp; omega) _).setCell (by simp; omega) _
  · have k : subS a b c d = ⟨0, 0, 2⟩ := if_neg h
    rw [k]
    have c1 := fun w => checkBoth_bad a b c d h w
    clear h k
    go_enter Try.func64, Try.ntmps64
    go_wp2_with fail
    refine (c1 _).mono ?_
    rintro e w1 ⟨rfl, hb⟩
    obtain ⟨hc, hf⟩ := bcell hb
    go_wp2_with fail
    refine bodyPost_ret (v := .tuple #[.agg #[.int .i64 0, .int .i64 0], .int .i64 2]) (by simp [results, Try.results64, go_sem, hc]) rfl ⟨rfl, ?_⟩
    exact (((((((Below.refl _ _).alloc (Nat.le_refl _) _).alloc (by simp) _).alloc (by simp; omega) _).trans (hb.mono (by simp; omega)))).setCell (by simp; omega) _).setCell (by simp; omega) _
end Go.Proofs.Ytdohfpnnmppdkaa.Moo

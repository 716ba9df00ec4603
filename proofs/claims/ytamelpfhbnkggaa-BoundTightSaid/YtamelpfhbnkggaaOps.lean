/-
  Sums, differences, hulls, common parts, wider spans.
-/
import Derived.Test.YtamelpfhbnkggaaDiv
namespace Go.Proofs.Ytamelpfhbnkggaa
open Go.RowKit Go.Shelf
theorem Boxed2.res {W : World} {B : Nat} {t : TypeId} {u v : Value} (h : Boxed2 W B t u v) (p q : Value) (o : Obj) : Boxed2 (((W.setCell ⟨B, 0, none⟩ p).setCell ⟨B, 1, none⟩ q).alloc o) B t p q :=
  (h.set2 p q).kept (World.grownBy_alloc _ o none) (by simp)
def hullS (a b c d : Int) : R3 := if vB a b = true ∧ vB c d = true then ⟨min a c, max b d, 0⟩ else ⟨0, 0, 2⟩
def meetS (a b c d : Int) : R3 := if vB a b = true ∧ vB c d = true then (if min b d < max a c then ⟨0, 0, 5⟩ else ⟨max a c, min b d, 0⟩) else ⟨0, 0, 2⟩
def growS (a b n : Int) : R3 := if vB a b = true then (if 0 ≤ n ∧ n ≤ 1073741824 then fit (a - n) (b + n) else ⟨0, 0, 3⟩) else ⟨0, 0, 2⟩

set_option maxHeartbeats 1000000 in
theorem add_any (a b c d : Int) (w : World) :
    Calls Try.prog 64 #[.agg #[.int .i64 a, .int .i64 b], .agg #[.int .i64 c, .int .i64 d]] w fun e w' => e = .returned (.tuple #[.agg #[.int .i64 (addS a b c d).lo, .int .i64 (addS a b c d).hi], .int .i64 (addS a b c d).e]) ∧ Below w.heap.size w w' := by
  by_cases h : vB a b = true ∧ vB c d = true
  · have k : addS a b c d = fit (a + c) (b + d) := if_pos h
    rw [k]
    have c1 := fun w => checkBoth_ok a b c d h.1 h.2 w
    have c2 := fun w => fitting_any (a + c) (b + d) w
    generalize fit (a + c) (b + d) = r at c2 ⊢
    obtain ⟨h1, h2⟩ := h
    obtain ⟨h3, h4, h5⟩ := (vB_iff a b).1 h1
    obtain ⟨h6, h7, h8⟩ := (vB_iff c d).1 h2
    clear h1 h2 k
    go_enter Try.func64, Try.ntmps64
    go_wp2_with fail
    refine (c1 _).mono ?_
    rintro e w1 ⟨rfl, hb⟩
    obtain ⟨hc, hf⟩ := bcell hb
    go_wp2_with fail
    refine (c2 _).mono ?_
    rintro e w2 ⟨rfl, hb2⟩
    replace hb := hb.trans (hb2.mono hb.size)
    clear hc hf hb2
    obtain ⟨hc, hf⟩ := bcell hb
    go_wp2_with fail
    refine bodyPost_ret (v := .tuple #[.agg #[.int .i64 r.lo, .int .i64 r.hi], .int .i64 r.e]) (by simp [results, Try.results64, go_sem, hc]) rfl ⟨rfl, ?_⟩
    exact (((((((Below.refl _ _).alloc (Nat.le_refl _) _).alloc (by simp) _).alloc (by simp; omega) _).trans (hb.mono (by simp; omega)))).setCell (by simp; omega) _).setCell (by simp; omega) _
  · have k : addS a b c d = ⟨0, 0, 2⟩ := if_neg h
    rw [k]
    have c1 := fun w => checkBoth_bad a b c d h w
    clear h k
    go_enter Try.func64, Try.ntmps64
    go_wp2_with fail
    refine (c1 _).mono ?_
    rintro e w1 ⟨rfl, hb⟩
    obtain ⟨hc, hf⟩ := bcell hb
    go_wp2_with fail
    refine bodyPost_ret (v := .tuple #[.agg #[.int .i64 0, .int .i64 0], .int .i64 2]) (by simp [results, Try.results64, go_sem, hc]) rfl ⟨rfl, ?_⟩
    exact (((((((Below.refl _ _).alloc (Nat.le_refl _) _).alloc (by simp) _).alloc (by simp; omega) _).trans (hb.mono (by simp; omega)))).setCell (by simp; omega) _).setCell (by simp; omega) _

set_option maxHeartbeats 1000000 in
theorem sub_any (a b c d : Int) (w : World) :
    Calls Try.prog 66 #[.agg #[.int .i64 a, .int .i64 b], .agg #[.int .i64 c, .int .i64 d]] w fun e w' => e = .returned (.tuple #[.agg #[.int .i64 (subS a b c d).lo, .int .i64 (subS a b c d).hi], .int .i64 (subS a b c d).e]) ∧ Below w.heap.size w w' := by
  by_cases h : vB a b = true ∧ vB c d = true
  · have k : subS a b c d = fit (a - d) (b - c) := if_pos h
    rw [k]
    have c1 := fun w => checkBoth_ok a b c d h.1 h.2 w
    have c2 := fun w => fitting_any (a - d) (b - c) w
    generalize fit (a - d) (b - c) = r at c2 ⊢
    obtain ⟨h1, h2⟩ := h
    obtain ⟨h3, h4, h5⟩ := (vB_iff a b).1 h1
    obtain ⟨h6, h7, h8⟩ := (vB_iff c d).1 h2
    clear h1 h2 k
    go_enter Try.func66, Try.ntmps66
    go_wp2_with fail
    refine (c1 _).mono ?_
    rintro e w1 ⟨rfl, hb⟩
    obtain ⟨hc, hf⟩ := bcell hb
    go_wp2_with fail
    refine (c2 _).mono ?_
    rintro e w2 ⟨rfl, hb2⟩
    replace hb := hb.trans (hb2.mono hb.size)
    clear hc hf hb2
    obtain ⟨hc, hf⟩ := bcell hb
    go_wp2_with fail
    refine bodyPost_ret (v := .tuple #[.agg #[.int .i64 r.lo, .int .i64 r.hi], .int .i64 r.e]) (by simp [results, Try.results66, go_sem, hc]) rfl ⟨rfl, ?_⟩
    exact (((((((Below.refl _ _).alloc (Nat.le_refl _) _).alloc (by simp) _).alloc (by simp; omega) _).trans (hb.mono (by simp; omega)))).setCell (by simp; omega) _).setCell (by simp; omega) _
  · have k : subS a b c d = ⟨0, 0, 2⟩ := if_neg h
    rw [k]
    have c1 := fun w => checkBoth_bad a b c d h w
    clear h k
    go_enter Try.func66, Try.ntmps66
    go_wp2_with fail
    refine (c1 _).mono ?_
    rintro e w1 ⟨rfl, hb⟩
    obtain ⟨hc, hf⟩ := bcell hb
    go_wp2_with fail
    refine bodyPost_ret (v := .tuple #[.agg #[.int .i64 0, .int .i64 0], .int .i64 2]) (by simp [results, Try.results66, go_sem, hc]) rfl ⟨rfl, ?_⟩
    exact (((((((Below.refl _ _).alloc (Nat.le_refl _) _).alloc (by simp) _).alloc (by simp; omega) _).trans (hb.mono (by simp; omega)))).setCell (by simp; omega) _).setCell (by simp; omega) _

set_option maxHeartbeats 1000000 in
theorem hullF_any (a b c d : Int) (w : World) :
    Calls Try.prog 73 #[.agg #[.int .i64 a, .int .i64 b], .agg #[.int .i64 c, .int .i64 d]] w fun e w' => e = .returned (.tuple #[.agg #[.int .i64 (hullS a b c d).lo, .int .i64 (hullS a b c d).hi], .int .i64 (hullS a b c d).e]) ∧ Below w.heap.size w w' := by
  by_cases h : vB a b = true ∧ vB c d = true
  · have k : hullS a b c d = ⟨min a c, max b d, 0⟩ := if_pos h
    rw [k]
    have c1 := fun w => checkBoth_ok a b c d h.1 h.2 w
    have c2 := fun w => hull_any a b c d w
    generalize min a c = m at c2 ⊢
    generalize max b d = x at c2 ⊢
    clear h k
    go_enter Try.func73, Try.ntmps73
    go_wp2_with fail
    refine (c1 _).mono ?_
    rintro e w1 ⟨rfl, hb⟩
    obtain ⟨hc, hf⟩ := bcell hb
    go_wp2_with fail
    refine (c2 _).mono ?_
    rintro e w2 ⟨rfl, hb2⟩
    replace hb := hb.trans (hb2.mono hb.size)
    clear hc hf hb2
    obtain ⟨hc, hf⟩ := bcell hb
    go_wp2_with fail
    refine bodyPost_ret (v := .tuple #[.agg #[.int .i64 m, .int .i64 x], .int .i64 0]) (by simp [results, Try.results73, go_sem, hc]) rfl ⟨rfl, ?_⟩
    exact (((((((Below.refl _ _).alloc (Nat.le_refl _) _).alloc (by simp) _).alloc (by simp; omega) _).trans (hb.mono (by simp; omega)))).setCell (by simp; omega) _).setCell (by simp; omega) _
  · have k : hullS a b c d = ⟨0, 0, 2⟩ := if_neg h
    rw [k]
    have c1 := fun w => checkBoth_bad a b c d h w
    clear h k
    go_enter Try.func73, Try.ntmps73
    go_wp2_with fail
    refine (c1 _).mono ?_
    rintro e w1 ⟨rfl, hb⟩
    obtain ⟨hc, hf⟩ := bcell hb
    go_wp2_with fail
    refine bodyPost_ret (v := .tuple #[.agg #[.int .i64 0, .int .i64 0], .int .i64 2]) (by simp [results, Try.results73, go_sem, hc]) rfl ⟨rfl, ?_⟩
    exact (((((((Below.refl _ _).alloc (Nat.le_refl _) _).alloc (by simp) _).alloc (by simp; omega) _).trans (hb.mono (by simp; omega)))).setCell (by simp; omega) _).setCell (by simp; omega) _

set_option maxHeartbeats 1000000 in
theorem meet_any (a b c d : Int) (w : World) :
    Calls Try.prog 74 #[.agg #[.int .i64 a, .int .i64 b], .agg #[.int .i64 c, .int .i64 d]] w fun e w' => e = .returned (.tuple #[.agg #[.int .i64 (meetS a b c d).lo, .int .i64 (meetS a b c d).hi], .int .i64 (meetS a b c d).e]) ∧ Below w.heap.size w w' := by
  by_cases h : vB a b = true ∧ vB c d = true
  · have k : meetS a b c d = (if min b d < max a c then ⟨0, 0, 5⟩ else ⟨max a c, min b d, 0⟩) := if_pos h
    have K := Lib.hid k
    have c1 := fun w => checkBoth_ok a b c d h.1 h.2 w
    clear h k
    have h0 : (min b d < max a c) ∨ ¬ (min b d < max a c) := Classical.em _
    have H0 := Lib.hid h0
    clear h0
    go_enter Try.func74, Try.ntmps74
    go_wp2_with fail
    refine (c1 _).mono ?_
    rintro e w1 ⟨rfl, hb⟩
    obtain ⟨hc, hf⟩ := bcell hb
    have k4 : w1.cell? ⟨w.heap.size + 1 + 1, 0, none⟩ = some (.int .i64 0) := by rw [hc _ _ (by simp)]; simp [go_sem]
    have k5 : w1.cell? ⟨w.heap.size + 1 + 1, 1, none⟩ = some (.int .i64 0) := by rw [hc _ _ (by simp)]; simp [go_sem]
    have f4 : w1.frozen? ⟨w.heap.size + 1 + 1, 0, none⟩ = false := by rw [hf _ _ (by simp)]; simp [go_sem]
    have f5 : w1.frozen? ⟨w.heap.size + 1 + 1, 1, none⟩ = false := by rw [hf _ _ (by simp)]; simp [go_sem]
    have hz : w.heap.size + 1 + 1 < w1.heap.size := by have := hb.size; simp at this; omega
    have hB1 := ((((Below.refl _ _).alloc (Nat.le_refl _) _).alloc (by simp) _).alloc (by simp; omega) _).trans (hb.mono (B' := w.heap.size) (by simp; omega))
    have bR : Boxed2 w1 (w.heap.size + 1 + 1) 23 (.int .i64 0) (.int .i64 0) := (hb.block (w.heap.size + 1 + 1) (by simp)).trans (by have := Boxed2.new ((w.alloc (Obj.cells #[Value.int IntKind.i64 a, Value.int IntKind.i64 b] 23)).alloc (Obj.cells #[Value.int IntKind.i64 c, Value.int IntKind.i64 d] 23)) 23 (.int .i64 0) (.int .i64 0); rw [World.size_alloc, World.size_alloc] at this; exact this)
    have r0 := fun p q o => (bR.res p q o).c0
    have r1 := fun p q o => (bR.res p q o).c1
    clear bR
    have g4 : ∀ o, (w1.alloc o).frozen? ⟨w.heap.size + 1 + 1, 0, none⟩ = false := fun o => (((Below.refl _ w1).alloc (Nat.le_refl _) o).frozen (p := ⟨w.heap.size + 1 + 1, 0, none⟩) hz).trans f4
    have g5 : ∀ o, (w1.alloc o).frozen? ⟨w.heap.size + 1 + 1, 1, none⟩ = false := fun o => (((Below.refl _ w1).alloc (Nat.le_refl _) o).frozen (p := ⟨w.heap.size + 1 + 1, 1, none⟩) hz).trans f5
    go_wp2_with fail
    all_goals
      first
        | (have hz : ¬ (min b d < max a c) := by omega
           refine bodyPost_ret (v := .tuple #[.agg #[.int .i64 (max a c), .int .i64 (min b d)], .int .i64 0]) (by simp [results, Try.results74, go_sem, r0, r1]; omega) rfl ⟨by rw [K.out, if_neg hz], ?_⟩
           repeat (first | exact hB1 | refine Below.alloc ?_ (by have := hb.size; simp at this; simp; omega) _ | refine Below.setCell ?_ (by simp; omega) _))
        | (have hz : min b d < max a c := by omega
           refine bodyPost_ret (v := .tuple #[.agg #[.int .i64 0, .int .i64 0], .int .i64 5]) (by simp [results, Try.results74, go_sem, r0, r1]) rfl ⟨by rw [K.out, if_pos hz], ?_⟩
           repeat (first | exact hB1 | refine Below.alloc ?_ (by have := hb.size; simp at this; simp; omega) _ | refine Below.setCell ?_ (by simp; omega) _))
  · have k : meetS a b c d = ⟨0, 0, 2⟩ := if_neg h
    rw [k]
    have c1 := fun w => checkBoth_bad a b c d h w
    clear h k
    go_enter Try.func74, Try.ntmps74
    go_wp2_with fail
    refine (c1 _).mono ?_
    rintro e w1 ⟨rfl, hb⟩
    obtain ⟨hc, hf⟩ := bcell hb
    go_wp2_with fail
    refine bodyPost_ret (v := .tuple #[.agg #[.int .i64 0, .int .i64 0], .int .i64 2]) (by simp [results, Try.results74, go_sem, hc]) rfl ⟨rfl, ?_⟩
    exact (((((((Below.refl _ _).alloc (Nat.le_refl _) _).alloc (by simp) _).alloc (by simp; omega) _).trans (hb.mono (by simp; omega)))).setCell (by simp; omega) _).setCell (by simp; omega) _

set_option maxHeartbeats 1000000 in
theorem grow_any (a b n : Int) (w : World) :
    Calls Try.prog 27 #[.agg #[.int .i64 a, .int .i64 b], .int .i64 n] w fun e w' => e = .returned (.tuple #[.agg #[.int .i64 (growS a b n).lo, .int .i64 (growS a b n).hi], .int .i64 (growS a b n).e]) ∧ Below w.heap.size w w' := by
  by_cases h : vB a b = true
  · have c1 := fun w => check_ok a b h w
    obtain ⟨h3, h4, h5⟩ := (vB_iff a b).1 h
    by_cases hn : 0 ≤ n ∧ n ≤ 1073741824
    · have k : growS a b n = fit (a - n) (b + n) := by unfold growS; rw [if_pos h, if_pos hn]
      rw [k]
      have c2 := fun w => fitting_any (a - n) (b + n) w
      generalize fit (a - n) (b + n) = r at c2 ⊢
      obtain ⟨hn1, hn2⟩ := hn
      clear h k
      go_enter Try.func27, Try.ntmps27
      go_wp2_with fail
      refine (c1 _).mono ?_
      rintro e w1 ⟨rfl, hb⟩
      obtain ⟨hc, hf⟩ := bcell hb
      go_wp2_with fail
      refine (c2 _).mono ?_
      rintro e w2 ⟨rfl, hb2⟩
      replace hb := hb.trans (hb2.mono hb.size)
      clear hc hf hb2
      obtain ⟨hc, hf⟩ := bcell hb
      go_wp2_with fail
      refine bodyPost_ret (v := .tuple #[.agg #[.int .i64 r.lo, .int .i64 r.hi], .int .i64 r.e]) (by simp [results, Try.results27, go_sem, hc]) rfl ⟨rfl, ?_⟩
      exact ((((((Below.refl _ _).alloc (Nat.le_refl _) _).alloc (by simp) _).trans (hb.mono (by simp; omega)))).setCell (by simp) _).setCell (by simp) _
    · have k : growS a b n = ⟨0, 0, 3⟩ := by unfold growS; rw [if_pos h, if_neg hn]
      rw [k]
      have hn' : n < 0 ∨ (0 ≤ n ∧ 1073741824 < n) := by omega
      clear h k hn
      rcases hn' with hn | ⟨hn, hn'⟩
      all_goals
        go_enter Try.func27, Try.ntmps27
        go_wp2_with fail
        refine (c1 _).mono ?_
        rintro e w1 ⟨rfl, hb⟩
        obtain ⟨hc, hf⟩ := bcell hb
        go_wp2_with fail
        refine bodyPost_ret (v := .tuple #[.agg #[.int .i64 0, .int .i64 0], .int .i64 3]) (by simp [results, Try.results27, go_sem, hc]) rfl ⟨rfl, ?_⟩
        exact ((((((Below.refl _ _).alloc (Nat.le_refl _) _).alloc (by simp) _).trans (hb.mono (by simp; omega)))).setCell (by simp) _).setCell (by simp) _
  · have k : growS a b n = ⟨0, 0, 2⟩ := if_neg h
    rw [k]
    have c1 := fun w => check_bad a b h w
    clear h k
    go_enter Try.func27, Try.ntmps27
    go_wp2_with fail
    refine (c1 _).mono ?_
    rintro e w1 ⟨rfl, hb⟩
    obtain ⟨hc, hf⟩ := bcell hb
    go_wp2_with fail
    refine bodyPost_ret (v := .tuple #[.agg #[.int .i64 0, .int .i64 0], .int .i64 2]) (by simp [results, Try.results27, go_sem, hc]) rfl ⟨rfl, ?_⟩
    exact ((((((Below.refl _ _).alloc (Nat.le_refl _) _).alloc (by simp) _).trans (hb.mono (by simp; omega)))).setCell (by simp) _).setCell (by simp) _
end Go.Proofs.Ytamelpfhbnkggaa

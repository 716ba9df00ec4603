/-
  Quotients.
-/
import Derived.Test.YtamelpfhbnkggaaMul
import Derived.Test.YtamelpfhbnkggaaSmall
namespace Go.Proofs.Ytamelpfhbnkggaa
open Go.RowKit Go.Shelf

def divS (a b c d : Int) : R3 :=
  if vB a b = true ∧ vB c d = true then
    if c ≤ 0 ∧ 0 ≤ d then ⟨0, 0, 9⟩ else ⟨min (qLo a b c) (qLo a b d), max (qHi a b c) (qHi a b d), 0⟩
  else ⟨0, 0, 2⟩

set_option maxHeartbeats 2000000 in
theorem div_good (a b c d : Int) (h1 : vB a b = true) (h2 : vB c d = true) (hz : ¬ (c ≤ 0 ∧ 0 ≤ d)) (w : World) :
    Calls Try.prog 68 #[.agg #[.int .i64 a, .int .i64 b], .agg #[.int .i64 c, .int .i64 d]] w fun e w' => e = .returned (.tuple #[.agg #[.int .i64 (min (qLo a b c) (qLo a b d)), .int .i64 (max (qHi a b c) (qHi a b d))], .int .i64 0]) ∧ Below w.heap.size w w' := by
  have c1 := fun w => checkBoth_ok a b c d h1 h2 w
  obtain ⟨h3, h4, h5⟩ := (vB_iff a b).1 h1
  obtain ⟨h6, h7, h8⟩ := (vB_iff c d).1 h2
  have q1 := fun w => quotient_any a b c (by omega) (by omega) (by omega) (by omega) (by omega) (by omega) (by omega) w
  have q2 := fun w => quotient_any a b d (by omega) (by omega) (by omega) (by omega) (by omega) (by omega) (by omega) w
  have q3 := fun w => hull_any (qLo a b c) (qHi a b c) (qLo a b d) (qHi a b d) w
  generalize min (qLo a b c) (qLo a b d) = lo at q3 ⊢
  generalize max (qHi a b c) (qHi a b d) = hi at q3 ⊢
  generalize qLo a b c = x1 at q1 q3
  generalize qHi a b c = x2 at q1 q3
  generalize qLo a b d = y1 at q2 q3
  generalize qHi a b d = y2 at q2 q3
  clear h1 h2
  have hcase : 0 < c ∨ (c ≤ 0 ∧ d < 0) := by omega
  clear hz
  rcases hcase with hz | ⟨hz, hz'⟩
  all_goals
    go_enter Try.func68, Try.ntmps68
    go_wp2_with fail
    refine (c1 _).mono ?_
    rintro e w1 ⟨rfl, hb⟩
    obtain ⟨hc, hf⟩ := bcell hb
    have k0 : w1.cell? ⟨w.heap.size, 0, none⟩ = some (.int .i64 a) := by rw [hc _ _ (by simp; omega)]; simp [go_sem]
    have k1 : w1.cell? ⟨w.heap.size, 1, none⟩ = some (.int .i64 b) := by rw [hc _ _ (by simp; omega)]; simp [go_sem]
    have k2 : w1.cell? ⟨w.heap.size + 1, 0, none⟩ = some (.int .i64 c) := by rw [hc _ _ (by simp)]; simp [go_sem]
    have k3 : w1.cell? ⟨w.heap.size + 1, 1, none⟩ = some (.int .i64 d) := by rw [hc _ _ (by simp)]; simp [go_sem]
    have k4 : w1.cell? ⟨w.heap.size + 2, 0, none⟩ = some (.int .i64 0) := by rw [hc _ _ (by simp)]; simp [go_sem]
    have k5 : w1.cell? ⟨w.heap.size + 2, 1, none⟩ = some (.int .i64 0) := by rw [hc _ _ (by simp)]; simp [go_sem]
    have f4 : w1.frozen? ⟨w.heap.size + 2, 0, none⟩ = false := by rw [hf _ _ (by simp)]; simp [go_sem]
    have f5 : w1.frozen? ⟨w.heap.size + 2, 1, none⟩ = false := by rw [hf _ _ (by simp)]; simp [go_sem]
    have hz0 : w.heap.size + 3 ≤ w1.heap.size := by have := hb.size; simp at this; omega
    have hB1 : Below w.heap.size w w1 := ((((Below.refl _ _).alloc (Nat.le_refl _) _).alloc (by simp) _).alloc (by simp; omega) _).trans (hb.mono (by simp; omega))
    clear hc hf hb
    go_wp2_with fail
    go_region_held3 (fun w' => w'.cell? ⟨w.heap.size, 0, none⟩ = some (.int .i64 a) ∧ w'.cell? ⟨w.heap.size, 1, none⟩ = some (.int .i64 b) ∧ w'.cell? ⟨w.heap.size + 1, 0, none⟩ = some (.int .i64 c) ∧ w'.cell? ⟨w.heap.size + 1, 1, none⟩ = some (.int .i64 d)) (simp [go_sem, *])
      (first
        | (go_at_call 113; refine (q1 _).mono ?_; clear q1; rintro e w' ⟨rfl, hb⟩; have hcc := (fun b o (h : b < w.heap.size + 3) => hb.cell (p := ⟨b, o, none⟩) (Nat.lt_of_lt_of_le h (by assumption))); have hff := (fun b o (h : b < w.heap.size + 3) => hb.frozen (p := ⟨b, o, none⟩) (Nat.lt_of_lt_of_le h (by assumption))); have hz1 : w.heap.size + 3 ≤ w'.heap.size := (Nat.le_trans (by assumption) hb.size))
        | (go_at_call 113; refine (q2 _).mono ?_; clear q2; rintro e w' ⟨rfl, hb⟩; have hcc := (fun b o (h : b < w.heap.size + 3) => hb.cell (p := ⟨b, o, none⟩) (Nat.lt_of_lt_of_le h (by assumption))); have hff := (fun b o (h : b < w.heap.size + 3) => hb.frozen (p := ⟨b, o, none⟩) (Nat.lt_of_lt_of_le h (by assumption))); have hz1 : w.heap.size + 3 ≤ w'.heap.size := (Nat.le_trans (by assumption) hb.size))
        | (go_at_call 112; refine (q3 _).mono ?_; clear q3; rintro e w' ⟨rfl, hb⟩; have hcc := (fun b o (h : b < w.heap.size + 3) => hb.cell (p := ⟨b, o, none⟩) (Nat.lt_of_lt_of_le h (by assumption))); have hff := (fun b o (h : b < w.heap.size + 3) => hb.frozen (p := ⟨b, o, none⟩) (Nat.lt_of_lt_of_le h (by assumption))); have hz1 : w.heap.size + 3 ≤ w'.heap.size := (Nat.le_trans (by assumption) hb.size)))
    all_goals
      go_wp2
      refine bodyPost_ret (v := .tuple #[.agg #[.int .i64 lo, .int .i64 hi], .int .i64 0]) (by simp [results, Try.results68, go_sem, *]) rfl ⟨rfl, ?_⟩
      repeat (first | exact hB1 | refine Below.drew ?_ | refine Below.setCell ?_ (by simp; omega) _ | refine chainB (by assumption) ?_)

theorem ret_r3 {p q : R3} (h : p = q) : Ending.returned (.tuple #[.agg #[.int .i64 p.lo, .int .i64 p.hi], .int .i64 p.e]) = Ending.returned (.tuple #[.agg #[.int .i64 q.lo, .int .i64 q.hi], .int .i64 q.e]) := by rw [h]

set_option maxHeartbeats 1000000 in
theorem div_any (a b c d : Int) (w : World) :
    Calls Try.prog 68 #[.agg #[.int .i64 a, .int .i64 b], .agg #[.int .i64 c, .int .i64 d]] w fun e w' => e = .returned (.tuple #[.agg #[.int .i64 (divS a b c d).lo, .int .i64 (divS a b c d).hi], .int .i64 (divS a b c d).e]) ∧ Below w.heap.size w w' := by
  by_cases h : vB a b = true ∧ vB c d = true
  · by_cases hz : c ≤ 0 ∧ 0 ≤ d
    · have k : divS a b c d = ⟨0, 0, 9⟩ := by unfold divS; rw [if_pos h, if_pos hz]
      rw [k]
      have c1 := fun w => checkBoth_ok a b c d h.1 h.2 w
      obtain ⟨hz1, hz2⟩ := hz
      clear h k
      go_enter Try.func68, Try.ntmps68
      go_wp2_with fail
      refine (c1 _).mono ?_
      rintro e w1 ⟨rfl, hb⟩
      obtain ⟨hc, hf⟩ := bcell hb
      go_wp2_with fail
      refine bodyPost_ret (v := .tuple #[.agg #[.int .i64 0, .int .i64 0], .int .i64 9]) (by simp [results, Try.results68, go_sem, hc]) rfl ⟨rfl, ?_⟩
      exact ((((((Below.refl _ _).alloc (Nat.le_refl _) _).alloc (by simp) _).alloc (by simp; omega) _).trans (hb.mono (by simp; omega))).setCell (by simp; omega) _).setCell (by simp; omega) _
    · exact (div_good a b c d h.1 h.2 hz w).mono fun e w' ⟨he, hb⟩ => ⟨by rw [he]; unfold divS; rw [if_pos h, if_neg hz], hb⟩
  · have k : divS a b c d = ⟨0, 0, 2⟩ := if_neg h
    rw [k]
    have c1 := fun w => checkBoth_bad a b c d h w
    clear h k
    go_enter Try.func68, Try.ntmps68
    go_wp2_with fail
    refine (c1 _).mono ?_
    rintro e w1 ⟨rfl, hb⟩
    obtain ⟨hc, hf⟩ := bcell hb
    go_wp2_with fail
    refine bodyPost_ret (v := .tuple #[.agg #[.int .i64 0, .int .i64 0], .int .i64 2]) (by simp [results, Try.results68, go_sem, hc]) rfl ⟨rfl, ?_⟩
    exact ((((((Below.refl _ _).alloc (Nat.le_refl _) _).alloc (by simp) _).alloc (by simp; omega) _).trans (hb.mono (by simp; omega))).setCell (by simp; omega) _).setCell (by simp; omega) _
end Go.Proofs.Ytamelpfhbnkggaa

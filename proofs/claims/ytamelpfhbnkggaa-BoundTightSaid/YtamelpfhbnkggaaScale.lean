/-
  A span times n / d, a line, roots.
-/
import Derived.Test.YtamelpfhbnkggaaDiv
namespace Go.Proofs.Ytamelpfhbnkggaa
open Go.RowKit Go.Shelf
def scaleS (a b n d : Int) : R3 :=
  if vB a b = true then
    if (-1073741824 ≤ n ∧ n ≤ 1073741824) ∧ 1 ≤ d ∧ d ≤ 1073741824 then fit (min (a * n) (b * n) / d) (up (max (a * n) (b * n)) d) else ⟨0, 0, 3⟩
  else ⟨0, 0, 2⟩

set_option maxHeartbeats 1000000 in
theorem scale_any (a b n d : Int) (w : World) :
    Calls Try.prog 23 #[.agg #[.int .i64 a, .int .i64 b], .int .i64 n, .int .i64 d] w fun e w' => e = .returned (.tuple #[.agg #[.int .i64 (scaleS a b n d).lo, .int .i64 (scaleS a b n d).hi], .int .i64 (scaleS a b n d).e]) ∧ Below w.heap.size w w' := by
  by_cases h : vB a b = true
  · have c1 := fun w => check_ok a b h w
    obtain ⟨h3, h4, h5⟩ := (vB_iff a b).1 h
    by_cases hn : (-1073741824 ≤ n ∧ n ≤ 1073741824) ∧ 1 ≤ d ∧ d ≤ 1073741824
    · have k : scaleS a b n d = fit (min (a * n) (b * n) / d) (up (max (a * n) (b * n)) d) := by unfold scaleS; rw [if_pos h, if_pos hn]
      rw [k]
      obtain ⟨⟨hn1, hn2⟩, hn3, hn4⟩ := hn
      obtain ⟨p1, p2⟩ := prod_bd a n (by omega) (by omega) (by omega) (by omega)
      obtain ⟨p3, p4⟩ := prod_bd b n (by omega) (by omega) (by omega) (by omega)
      have c2 := fun bl W hbl hcl => ends_any (a * n) [b * n] bl 0 1 (by simp) W hbl hcl
      change ∀ bl W, _ → _ → Calls Try.prog 85 #[.int .i64 (a * n), .slice (some ⟨bl, 0, none⟩) 1 1] W fun e w' => e = .returned (.agg #[.int .i64 (min (a * n) (b * n)), .int .i64 (max (a * n) (b * n))]) ∧ Below W.heap.size W w' at c2
      have c3 := fun w => outward_div d (min (a * n) (b * n)) (max (a * n) (b * n)) hn3 (by omega) (by omega) (by omega) (by omega) (by omega) w
      have c4 := fun w => fitting_any (min (a * n) (b * n) / d) (up (max (a * n) (b * n)) d) w
      generalize fit (min (a * n) (b * n) / d) (up (max (a * n) (b * n)) d) = r at c4 ⊢
      generalize min (a * n) (b * n) / d = x1 at c3 c4
      generalize up (max (a * n) (b * n)) d = x2 at c3 c4
      generalize min (a * n) (b * n) = y1 at c2 c3
      generalize max (a * n) (b * n) = y2 at c2 c3
      clear h k
      go_enter Try.func23, Try.ntmps23
      go_wp2_with fail
      refine (c1 _).mono ?_
      rintro e w1 ⟨rfl, hb⟩
      obtain ⟨hc, hf⟩ := bcell hb
      go_wp2_with fail
      refine (c2 _ _ ?h1 ?h2).mono ?_
      case h1 => simp
      case h2 =>
        intro k hk
        match k, hk with
        | 0, _ => simp
      rintro e w2 ⟨rfl, hb2⟩
      replace hb := hb.trans (((Below.refl _ _).alloc (Nat.le_refl _) _).trans (hb2.mono (by simp)) |>.mono hb.size)
      clear hc hf hb2
      obtain ⟨hc, hf⟩ := bcell hb
      go_wp2_with fail
      refine (c3 _).mono ?_
      rintro e w3 ⟨rfl, hb2⟩
      replace hb := hb.trans (hb2.mono hb.size)
      clear hc hf hb2
      obtain ⟨hc, hf⟩ := bcell hb
      go_wp2_with fail
      refine (c4 _).mono ?_
      rintro e w4 ⟨rfl, hb2⟩
      replace hb := hb.trans (hb2.mono hb.size)
      clear hc hf hb2
      obtain ⟨hc, hf⟩ := bcell hb
      go_wp2_with fail
      refine bodyPost_ret (v := .tuple #[.agg #[.int .i64 r.lo, .int .i64 r.hi], .int .i64 r.e]) (by simp [results, Try.results23, go_sem, hc]) rfl ⟨rfl, ?_⟩
      exact ((((((Below.refl _ _).alloc (Nat.le_refl _) _).alloc (by simp) _).trans (hb.mono (by simp; omega))).setCell (by simp) _).setCell (by simp) _)
    · have k : scaleS a b n d = ⟨0, 0, 3⟩ := by unfold scaleS; rw [if_pos h, if_neg hn]
      rw [k]
      have hn' : n < -1073741824 ∨ (-1073741824 ≤ n ∧ 1073741824 < n) ∨ (-1073741824 ≤ n ∧ n ≤ 1073741824 ∧ d < 1) ∨ (-1073741824 ≤ n ∧ n ≤ 1073741824 ∧ 1 ≤ d ∧ 1073741824 < d) := by omega
      clear h k hn
      rcases hn' with hn | ⟨hn, hn'⟩ | ⟨hn, hn', hn''⟩ | ⟨hn, hn', hn'', hn3⟩
      all_goals
        go_enter Try.func23, Try.ntmps23
        go_wp2_with fail
        refine (c1 _).mono ?_
        rintro e w1 ⟨rfl, hb⟩
        obtain ⟨hc, hf⟩ := bcell hb
        go_wp2_with fail
        refine bodyPost_ret (v := .tuple #[.agg #[.int .i64 0, .int .i64 0], .int .i64 3]) (by simp [results, Try.results23, go_sem, hc]) rfl ⟨rfl, ?_⟩
        exact ((((((Below.refl _ _).alloc (Nat.le_refl _) _).alloc (by simp) _).trans (hb.mono (by simp; omega))).setCell (by simp) _).setCell (by simp) _)
  · have k : scaleS a b n d = ⟨0, 0, 2⟩ := if_neg h
    rw [k]
    have c1 := fun w => check_bad a b h w
    clear h k
    go_enter Try.func23, Try.ntmps23
    go_wp2_with fail
    refine (c1 _).mono ?_
    rintro e w1 ⟨rfl, hb⟩
    obtain ⟨hc, hf⟩ := bcell hb
    go_wp2_with fail
    refine bodyPost_ret (v := .tuple #[.agg #[.int .i64 0, .int .i64 0], .int .i64 2]) (by simp [results, Try.results23, go_sem, hc]) rfl ⟨rfl, ?_⟩
    exact ((((((Below.refl _ _).alloc (Nat.le_refl _) _).alloc (by simp) _).trans (hb.mono (by simp; omega))).setCell (by simp) _).setCell (by simp) _)

/-- the ends of a line -/
def lLo (t0 a t1 c t : Int) : Int := (a * (t1 - t) + c * (t - t0)) / (t1 - t0)
def lHi (t0 b t1 d t : Int) : Int := up (b * (t1 - t) + d * (t - t0)) (t1 - t0)
def lineS (t0 a b t1 c d t : Int) : R3 :=
  if vB a b = true ∧ vB c d = true then
    if 0 ≤ t0 ∧ t1 ≤ 1073741824 ∧ t0 < t1 ∧ t0 ≤ t ∧ t ≤ t1 then ⟨lLo t0 a t1 c t, lHi t0 b t1 d t, 0⟩ else ⟨0, 0, 3⟩
  else ⟨0, 0, 2⟩

set_option maxRecDepth 100000 in
set_option maxHeartbeats 1000000 in
theorem line_any (t0 a b t1 c d t : Int) (w : World) :
    Calls Try.prog 29 #[.int .i64 t0, .agg #[.int .i64 a, .int .i64 b], .int .i64 t1, .agg #[.int .i64 c, .int .i64 d], .int .i64 t] w fun e w' => e = .returned (.tuple #[.agg #[.int .i64 (lineS t0 a b t1 c d t).lo, .int .i64 (lineS t0 a b t1 c d t).hi], .int .i64 (lineS t0 a b t1 c d t).e]) ∧ Below w.heap.size w w' := by

  by_cases h : vB a b = true ∧ vB c d = true
  · have c1 := fun w => checkBoth_ok a b c d h.1 h.2 w
    obtain ⟨h3, h4, h5⟩ := (vB_iff a b).1 h.1
    obtain ⟨h6, h7, h8⟩ := (vB_iff c d).1 h.2
    by_cases hn : 0 ≤ t0 ∧ t1 ≤ 1073741824 ∧ t0 < t1 ∧ t0 ≤ t ∧ t ≤ t1
    · have k : lineS t0 a b t1 c d t = ⟨lLo t0 a t1 c t, lHi t0 b t1 d t, 0⟩ := by unfold lineS; rw [if_pos h, if_pos hn]
      rw [k]
      obtain ⟨hn1, hn2, hn3, hn4, hn5⟩ := hn
      obtain ⟨p1, p2⟩ := prod_bd a (t1 - t) (by omega) (by omega) (by omega) (by omega)
      obtain ⟨p3, p4⟩ := prod_bd c (t - t0) (by omega) (by omega) (by omega) (by omega)
      obtain ⟨p5, p6⟩ := prod_bd b (t1 - t) (by omega) (by omega) (by omega) (by omega)
      obtain ⟨p7, p8⟩ := prod_bd d (t - t0) (by omega) (by omega) (by omega) (by omega)
      have c3 := fun w => outward_div (t1 - t0) (a * (t1 - t) + c * (t - t0)) (b * (t1 - t) + d * (t - t0)) (by omega) (by omega) (by omega) (by omega) (by omega) (by omega) w
      change ∀ w, Calls Try.prog 82 _ w fun e w' => e = .returned (.agg #[.int .i64 (lLo t0 a t1 c t), .int .i64 (lHi t0 b t1 d t)]) ∧ Below w.heap.size w w' at c3
      generalize lLo t0 a t1 c t = x1 at c3 ⊢
      generalize lHi t0 b t1 d t = x2 at c3 ⊢
      clear h k
      go_enter Try.func29, Try.ntmps29
      go_wp2_with fail
      refine (c1 _).mono ?_
      rintro e w1 ⟨rfl, hb⟩
      obtain ⟨hc, hf⟩ := bcell hb
      go_wp2_with fail
      refine (c3 _).mono ?_
      rintro e w3 ⟨rfl, hb2⟩
      replace hb := hb.trans (hb2.mono hb.size)
      clear hc hf hb2
      obtain ⟨hc, hf⟩ := bcell hb
      go_wp2_with fail
      refine bodyPost_ret (v := .tuple #[.agg #[.int .i64 x1, .int .i64 x2], .int .i64 0]) (by simp [results, Try.results29, go_sem, hc]) rfl ⟨rfl, ?_⟩
      exact ((((((Below.refl _ _).alloc (Nat.le_refl _) _).alloc (by simp) _).alloc (by simp; omega) _).trans (hb.mono (by simp; omega))).setCell (by simp; omega) _).setCell (by simp; omega) _
    · have k : lineS t0 a b t1 c d t = ⟨0, 0, 3⟩ := by unfold lineS; rw [if_pos h, if_neg hn]
      rw [k]
      have hn' : t0 < 0 ∨ (0 ≤ t0 ∧ 1073741824 < t1) ∨ (0 ≤ t0 ∧ t1 ≤ 1073741824 ∧ t1 ≤ t0) ∨ (0 ≤ t0 ∧ t1 ≤ 1073741824 ∧ t0 < t1 ∧ t < t0) ∨ (0 ≤ t0 ∧ t1 ≤ 1073741824 ∧ t0 < t1 ∧ t0 ≤ t ∧ t1 < t) := by omega
      clear h k hn
      rcases hn' with hn | ⟨hn, hn'⟩ | ⟨hn, hn', hn''⟩ | ⟨hn, hn', hn'', hn3⟩ | ⟨hn, hn', hn'', hn3, hn4⟩
      all_goals
        go_enter Try.func29, Try.ntmps29
        go_wp2_with fail
        refine (c1 _).mono ?_
        rintro e w1 ⟨rfl, hb⟩
        obtain ⟨hc, hf⟩ := bcell hb
        go_wp2_with fail
        refine bodyPost_ret (v := .tuple #[.agg #[.int .i64 0, .int .i64 0], .int .i64 3]) (by simp [results, Try.results29, go_sem, hc]) rfl ⟨rfl, ?_⟩
        exact ((((((Below.refl _ _).alloc (Nat.le_refl _) _).alloc (by simp) _).alloc (by simp; omega) _).trans (hb.mono (by simp; omega))).setCell (by simp; omega) _).setCell (by simp; omega) _
  · have k : lineS t0 a b t1 c d t = ⟨0, 0, 2⟩ := if_neg h
    rw [k]
    have c1 := fun w => checkBoth_bad a b c d h w
    clear h k
    go_enter Try.func29, Try.ntmps29
    go_wp2_with fail
    refine (c1 _).mono ?_
    rintro e w1 ⟨rfl, hb⟩
    obtain ⟨hc, hf⟩ := bcell hb
    go_wp2_with fail
    refine bodyPost_ret (v := .tuple #[.agg #[.int .i64 0, .int .i64 0], .int .i64 2]) (by simp [results, Try.results29, go_sem, hc]) rfl ⟨rfl, ?_⟩
    exact ((((((Below.refl _ _).alloc (Nat.le_refl _) _).alloc (by simp) _).alloc (by simp; omega) _).trans (hb.mono (by simp; omega))).setCell (by simp; omega) _).setCell (by simp; omega) _
end Go.Proofs.Ytamelpfhbnkggaa

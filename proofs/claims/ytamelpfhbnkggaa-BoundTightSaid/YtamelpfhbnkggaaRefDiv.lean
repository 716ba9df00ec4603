/-
  The reference: quotients.
-/
import Derived.Test.YtamelpfhbnkggaaRefMath
namespace Go.Proofs.Ytamelpfhbnkggaa
open Go.RowKit Go.Shelf

set_option maxRecDepth 100000 in
set_option maxHeartbeats 8000000 in
theorem rdiv_any (a b c d : Int) (w : World) :
    Calls Try.prog 78 #[.agg #[.int .i64 a, .int .i64 b], .agg #[.int .i64 c, .int .i64 d]] w fun e w' => e = .returned (.tuple #[.agg #[.int .i64 (divS a b c d).lo, .int .i64 (divS a b c d).hi], .int .i64 (divS a b c d).e]) ∧ Below w.heap.size w w' := by
  by_cases h : vB a b = true ∧ vB c d = true
  · obtain ⟨h3, h4, h5⟩ := (vB_iff a b).1 h.1
    obtain ⟨h6, h7, h8⟩ := (vB_iff c d).1 h.2
    have v1 := fun w => valid_yes a b h.1 w
    have v2 := fun w => valid_yes c d h.2 w
    by_cases hz : c ≤ 0 ∧ 0 ≤ d
    · have k : divS a b c d = ⟨0, 0, 9⟩ := by unfold divS; rw [if_pos h, if_pos hz]
      rw [k]
      obtain ⟨hz1, hz2⟩ := hz
      clear h k
      go_enter Try.func78, Try.ntmps78
      go_wp2_with fail
      refine (v1 _).mono ?_
      rintro e w1 ⟨rfl, hb⟩
      obtain ⟨hc, hf⟩ := bcell hb
      have k1_0a : w1.cell? ⟨w.heap.size, 0, none⟩ = some (.int .i64 a) := by rw [hc _ _ (by first | omega | (simp; omega) | simp)]; simp [go_sem, *]
      have k1_0b : w1.cell? ⟨w.heap.size, 1, none⟩ = some (.int .i64 b) := by rw [hc _ _ (by first | omega | (simp; omega) | simp)]; simp [go_sem, *]
      have z1_0 : w.heap.size < w1.heap.size := by have := hb.size; (try simp at this); omega
      have k1_1a : w1.cell? ⟨(w.heap.size + 1), 0, none⟩ = some (.int .i64 c) := by rw [hc _ _ (by first | omega | (simp; omega) | simp)]; simp [go_sem, *]
      have k1_1b : w1.cell? ⟨(w.heap.size + 1), 1, none⟩ = some (.int .i64 d) := by rw [hc _ _ (by first | omega | (simp; omega) | simp)]; simp [go_sem, *]
      have z1_1 : (w.heap.size + 1) < w1.heap.size := by have := hb.size; (try simp at this); omega
      have k1_2a : w1.cell? ⟨(w.heap.size + 2), 0, none⟩ = some (.int .i64 0) := by rw [hc _ _ (by first | omega | (simp; omega) | simp)]; simp [go_sem, *]
      have k1_2b : w1.cell? ⟨(w.heap.size + 2), 1, none⟩ = some (.int .i64 0) := by rw [hc _ _ (by first | omega | (simp; omega) | simp)]; simp [go_sem, *]
      have z1_2 : (w.heap.size + 2) < w1.heap.size := by have := hb.size; (try simp at this); omega
      have f1_2a : w1.frozen? ⟨(w.heap.size + 2), 0, none⟩ = false := by rw [hf _ _ (by first | omega | (simp; omega) | simp)]; simp [go_sem, *]
      have f1_2b : w1.frozen? ⟨(w.heap.size + 2), 1, none⟩ = false := by rw [hf _ _ (by first | omega | (simp; omega) | simp)]; simp [go_sem, *]
      have hB1 : Below w.heap.size w w1 := by repeat (first | exact (Below.refl _ _) | refine Below.drew ?_ | refine below_drewN ?_ _ | refine Below.setCell ?_ (by first | omega | (simp; omega) | simp) _ | refine Below.alloc ?_ (by first | omega | (simp; omega) | simp) _ | refine chainB (by assumption) ?_)
      have hs1 : w.heap.size ≤ w1.heap.size := hB1.size
      clear hc hf hb 
      go_wp2_with fail
      refine (v2 _).mono ?_
      rintro e w2 ⟨rfl, hb⟩
      obtain ⟨hc, hf⟩ := bcell hb
      have k2_0a : w2.cell? ⟨w.heap.size, 0, none⟩ = some (.int .i64 a) := by rw [hc _ _ (by first | omega | (simp; omega) | simp)]; simp [go_sem, *]
      have k2_0b : w2.cell? ⟨w.heap.size, 1, none⟩ = some (.int .i64 b) := by rw [hc _ _ (by first | omega | (simp; omega) | simp)]; simp [go_sem, *]
      have z2_0 : w.heap.size < w2.heap.size := by have := hb.size; (try simp at this); omega
      have k2_1a : w2.cell? ⟨(w.heap.size + 1), 0, none⟩ = some (.int .i64 c) := by rw [hc _ _ (by first | omega | (simp; omega) | simp)]; simp [go_sem, *]
      have k2_1b : w2.cell? ⟨(w.heap.size + 1), 1, none⟩ = some (.int .i64 d) := by rw [hc _ _ (by first | omega | (simp; omega) | simp)]; simp [go_sem, *]
      have z2_1 : (w.heap.size + 1) < w2.heap.size := by have := hb.size; (try simp at this); omega
      have k2_2a : w2.cell? ⟨(w.heap.size + 2), 0, none⟩ = some (.int .i64 0) := by rw [hc _ _ (by first | omega | (simp; omega) | simp)]; simp [go_sem, *]
      have k2_2b : w2.cell? ⟨(w.heap.size + 2), 1, none⟩ = some (.int .i64 0) := by rw [hc _ _ (by first | omega | (simp; omega) | simp)]; simp [go_sem, *]
      have z2_2 : (w.heap.size + 2) < w2.heap.size := by have := hb.size; (try simp at this); omega
      have f2_2a : w2.frozen? ⟨(w.heap.size + 2), 0, none⟩ = false := by rw [hf _ _ (by first | omega | (simp; omega) | simp)]; simp [go_sem, *]
      have f2_2b : w2.frozen? ⟨(w.heap.size + 2), 1, none⟩ = false := by rw [hf _ _ (by first | omega | (simp; omega) | simp)]; simp [go_sem, *]
      have hB2 : Below w.heap.size w w2 := by repeat (first | exact hB1 | refine Below.drew ?_ | refine below_drewN ?_ _ | refine Below.setCell ?_ (by first | omega | (simp; omega) | simp) _ | refine Below.alloc ?_ (by first | omega | (simp; omega) | simp) _ | refine chainB (by assumption) ?_)
      have hs2 : w.heap.size ≤ w2.heap.size := hB2.size
      clear hc hf hb k1_0a k1_0b z1_0 k1_1a k1_1b z1_1 k1_2a k1_2b z1_2 f1_2a f1_2b hB1 hs1
      go_wp2_with fail
      refine bodyPost_ret (v := .tuple #[.agg #[.int .i64 0, .int .i64 0], .int .i64 9]) (by simp [results, Try.results78, go_sem, *]) rfl ⟨rfl, ?_⟩
      repeat (first | exact hB2 | refine Below.drew ?_ | refine below_drewN ?_ _ | refine Below.setCell ?_ (by first | omega | (simp; omega) | simp) _ | refine Below.alloc ?_ (by first | omega | (simp; omega) | simp) _ | refine chainB (by assumption) ?_)
    · rw [div_eq a b c d h hz]
      have d0 := fun w => rdown_any a c (by omega) (by omega) (by omega) (by omega) (by omega) w
      have u0 := fun w => rup_any a c (by omega) (by omega) (by omega) (by omega) (by omega) w
      have d1 := fun w => rdown_any a d (by omega) (by omega) (by omega) (by omega) (by omega) w
      have u1 := fun w => rup_any a d (by omega) (by omega) (by omega) (by omega) (by omega) w
      have d2 := fun w => rdown_any b c (by omega) (by omega) (by omega) (by omega) (by omega) w
      have u2 := fun w => rup_any b c (by omega) (by omega) (by omega) (by omega) (by omega) w
      have d3 := fun w => rdown_any b d (by omega) (by omega) (by omega) (by omega) (by omega) w
      have u3 := fun w => rup_any b d (by omega) (by omega) (by omega) (by omega) (by omega) w
      have c4 := fun w => result_any (min (rD a c) (min (rD a d) (min (rD b c) (rD b d)))) (max (rU a c) (max (rU a d) (max (rU b c) (rU b d)))) w
      generalize fit (min (rD a c) (min (rD a d) (min (rD b c) (rD b d)))) (max (rU a c) (max (rU a d) (max (rU b c) (rU b d)))) = r at c4 ⊢
      generalize rD a c = x0 at d0 c4
      generalize rU a c = y0 at u0 c4
      generalize rD a d = x1 at d1 c4
      generalize rU a d = y1 at u1 c4
      generalize rD b c = x2 at d2 c4
      generalize rU b c = y2 at u2 c4
      generalize rD b d = x3 at d3 c4
      generalize rU b d = y3 at u3 c4
      have hcase : 0 < c ∨ (c ≤ 0 ∧ d < 0) := by omega
      clear h hz
      rcases hcase with hz | ⟨hz, hz'⟩
      all_goals
        go_enter Try.func78, Try.ntmps78
        go_wp2_with fail
        refine (v1 _).mono ?_
        rintro e w1 ⟨rfl, hb⟩
        obtain ⟨hc, hf⟩ := bcell hb
        have k1_0a : w1.cell? ⟨w.heap.size, 0, none⟩ = some (.int .i64 a) := by rw [hc _ _ (by first | omega | (simp; omega) | simp)]; simp [go_sem, *]
        have k1_0b : w1.cell? ⟨w.heap.size, 1, none⟩ = some (.int .i64 b) := by rw [hc _ _ (by first | omega | (simp; omega) | simp)]; simp [go_sem, *]
        have z1_0 : w.heap.size < w1.heap.size := by have := hb.size; (try simp at this); omega
        have k1_1a : w1.cell? ⟨(w.heap.size + 1), 0, none⟩ = some (.int .i64 c) := by rw [hc _ _ (by first | omega | (simp; omega) | simp)]; simp [go_sem, *]
        have k1_1b : w1.cell? ⟨(w.heap.size + 1), 1, none⟩ = some (.int .i64 d) := by rw [hc _ _ (by first | omega | (simp; omega) | simp)]; simp [go_sem, *]
        have z1_1 : (w.heap.size + 1) < w1.heap.size := by have := hb.size; (try simp at this); omega
        have k1_2a : w1.cell? ⟨(w.heap.size + 2), 0, none⟩ = some (.int .i64 0) := by rw [hc _ _ (by first | omega | (simp; omega) | simp)]; simp [go_sem, *]
        have k1_2b : w1.cell? ⟨(w.heap.size + 2), 1, none⟩ = some (.int .i64 0) := by rw [hc _ _ (by first | omega | (simp; omega) | simp)]; simp [go_sem, *]
        have z1_2 : (w.heap.size + 2) < w1.heap.size := by have := hb.size; (try simp at this); omega
        have f1_2a : w1.frozen? ⟨(w.heap.size + 2), 0, none⟩ = false := by rw [hf _ _ (by first | omega | (simp; omega) | simp)]; simp [go_sem, *]
        have f1_2b : w1.frozen? ⟨(w.heap.size + 2), 1, none⟩ = false := by rw [hf _ _ (by first | omega | (simp; omega) | simp)]; simp [go_sem, *]
        have hB1 : Below w.heap.size w w1 := by repeat (first | exact (Below.refl _ _) | refine Below.drew ?_ | refine below_drewN ?_ _ | refine Below.setCell ?_ (by first | omega | (simp; omega) | simp) _ | refine Below.alloc ?_ (by first | omega | (simp; omega) | simp) _ | refine chainB (by assumption) ?_)
        have hs1 : w.heap.size ≤ w1.heap.size := hB1.size
        clear hc hf hb 
        go_wp2_with fail
        refine (v2 _).mono ?_
        rintro e w2 ⟨rfl, hb⟩
        obtain ⟨hc, hf⟩ := bcell hb
        have k2_0a : w2.cell? ⟨w.heap.size, 0, none⟩ = some (.int .i64 a) := by rw [hc _ _ (by first | omega | (simp; omega) | simp)]; simp [go_sem, *]
        have k2_0b : w2.cell? ⟨w.heap.size, 1, none⟩ = some (.int .i64 b) := by rw [hc _ _ (by first | omega | (simp; omega) | simp)]; simp [go_sem, *]
        have z2_0 : w.heap.size < w2.heap.size := by have := hb.size; (try simp at this); omega
        have k2_1a : w2.cell? ⟨(w.heap.size + 1), 0, none⟩ = some (.int .i64 c) := by rw [hc _ _ (by first | omega | (simp; omega) | simp)]; simp [go_sem, *]
        have k2_1b : w2.cell? ⟨(w.heap.size + 1), 1, none⟩ = some (.int .i64 d) := by rw [hc _ _ (by first | omega | (simp; omega) | simp)]; simp [go_sem, *]
        have z2_1 : (w.heap.size + 1) < w2.heap.size := by have := hb.size; (try simp at this); omega
        have k2_2a : w2.cell? ⟨(w.heap.size + 2), 0, none⟩ = some (.int .i64 0) := by rw [hc _ _ (by first | omega | (simp; omega) | simp)]; simp [go_sem, *]
        have k2_2b : w2.cell? ⟨(w.heap.size + 2), 1, none⟩ = some (.int .i64 0) := by rw [hc _ _ (by first | omega | (simp; omega) | simp)]; simp [go_sem, *]
        have z2_2 : (w.heap.size + 2) < w2.heap.size := by have := hb.size; (try simp at this); omega
        have f2_2a : w2.frozen? ⟨(w.heap.size + 2), 0, none⟩ = false := by rw [hf _ _ (by first | omega | (simp; omega) | simp)]; simp [go_sem, *]
        have f2_2b : w2.frozen? ⟨(w.heap.size + 2), 1, none⟩ = false := by rw [hf _ _ (by first | omega | (simp; omega) | simp)]; simp [go_sem, *]
        have hB2 : Below w.heap.size w w2 := by repeat (first | exact hB1 | refine Below.drew ?_ | refine below_drewN ?_ _ | refine Below.setCell ?_ (by first | omega | (simp; omega) | simp) _ | refine Below.alloc ?_ (by first | omega | (simp; omega) | simp) _ | refine chainB (by assumption) ?_)
        have hs2 : w.heap.size ≤ w2.heap.size := hB2.size
        clear hc hf hb k1_0a k1_0b z1_0 k1_1a k1_1b z1_1 k1_2a k1_2b z1_2 f1_2a f1_2b hB1 hs1
        go_wp2_with fail
        have hz0 : w.heap.size + 3 ≤ w2.heap.size := by omega
        go_region_held3 (fun w' => w'.cell? ⟨w.heap.size, 0, none⟩ = some (.int .i64 a) ∧ w'.cell? ⟨w.heap.size, 1, none⟩ = some (.int .i64 b) ∧ w'.cell? ⟨(w.heap.size + 1), 0, none⟩ = some (.int .i64 c) ∧ w'.cell? ⟨(w.heap.size + 1), 1, none⟩ = some (.int .i64 d)) (simp [go_sem, *])
          (first
            | (go_at_call 88; refine (d0 _).mono ?_; clear d0; rintro e w' ⟨rfl, rfl⟩)
            | (go_at_call 88; refine (d1 _).mono ?_; clear d1; rintro e w' ⟨rfl, rfl⟩)
            | (go_at_call 88; refine (d2 _).mono ?_; clear d2; rintro e w' ⟨rfl, rfl⟩)
            | (go_at_call 88; refine (d3 _).mono ?_; clear d3; rintro e w' ⟨rfl, rfl⟩))
        go_wp2_with fail
        go_region_held3 (fun w' => w'.cell? ⟨w.heap.size, 0, none⟩ = some (.int .i64 a) ∧ w'.cell? ⟨w.heap.size, 1, none⟩ = some (.int .i64 b) ∧ w'.cell? ⟨(w.heap.size + 1), 0, none⟩ = some (.int .i64 c) ∧ w'.cell? ⟨(w.heap.size + 1), 1, none⟩ = some (.int .i64 d)) (simp [go_sem, *])
          (first
            | (go_at_call 89; refine (u0 _).mono ?_; clear u0; rintro e w' ⟨rfl, rfl⟩)
            | (go_at_call 89; refine (u1 _).mono ?_; clear u1; rintro e w' ⟨rfl, rfl⟩)
            | (go_at_call 89; refine (u2 _).mono ?_; clear u2; rintro e w' ⟨rfl, rfl⟩)
            | (go_at_call 89; refine (u3 _).mono ?_; clear u3; rintro e w' ⟨rfl, rfl⟩))
        go_wp2_with fail
        refine (c4 _).mono ?_
        rintro e w3 ⟨rfl, hb⟩
        obtain ⟨hc, hf⟩ := bcell hb
        have k3_0a : w3.cell? ⟨w.heap.size, 0, none⟩ = some (.int .i64 a) := by rw [hc _ _ (by first | omega | (simp; omega) | simp)]; simp [go_sem, *]
        have k3_0b : w3.cell? ⟨w.heap.size, 1, none⟩ = some (.int .i64 b) := by rw [hc _ _ (by first | omega | (simp; omega) | simp)]; simp [go_sem, *]
        have z3_0 : w.heap.size < w3.heap.size := by have := hb.size; (try simp at this); omega
        have k3_1a : w3.cell? ⟨(w.heap.size + 1), 0, none⟩ = some (.int .i64 c) := by rw [hc _ _ (by first | omega | (simp; omega) | simp)]; simp [go_sem, *]
        have k3_1b : w3.cell? ⟨(w.heap.size + 1), 1, none⟩ = some (.int .i64 d) := by rw [hc _ _ (by first | omega | (simp; omega) | simp)]; simp [go_sem, *]
        have z3_1 : (w.heap.size + 1) < w3.heap.size := by have := hb.size; (try simp at this); omega
        have k3_2a : w3.cell? ⟨(w.heap.size + 2), 0, none⟩ = some (.int .i64 0) := by rw [hc _ _ (by first | omega | (simp; omega) | simp)]; simp [go_sem, *]
        have k3_2b : w3.cell? ⟨(w.heap.size + 2), 1, none⟩ = some (.int .i64 0) := by rw [hc _ _ (by first | omega | (simp; omega) | simp)]; simp [go_sem, *]
        have z3_2 : (w.heap.size + 2) < w3.heap.size := by have := hb.size; (try simp at this); omega
        have f3_2a : w3.frozen? ⟨(w.heap.size + 2), 0, none⟩ = false := by rw [hf _ _ (by first | omega | (simp; omega) | simp)]; simp [go_sem, *]
        have f3_2b : w3.frozen? ⟨(w.heap.size + 2), 1, none⟩ = false := by rw [hf _ _ (by first | omega | (simp; omega) | simp)]; simp [go_sem, *]
        have hB3 : Below w.heap.size w w3 := by repeat (first | exact hB2 | refine Below.drew ?_ | refine below_drewN ?_ _ | refine Below.setCell ?_ (by first | omega | (simp; omega) | simp) _ | refine Below.alloc ?_ (by first | omega | (simp; omega) | simp) _ | refine chainB (by assumption) ?_)
        have hs3 : w.heap.size ≤ w3.heap.size := hB3.size
        clear hc hf hb k2_0a k2_0b z2_0 k2_1a k2_1b z2_1 k2_2a k2_2b z2_2 f2_2a f2_2b hB2 hs2
        go_wp2_with fail
        refine bodyPost_ret (v := .tuple #[.agg #[.int .i64 r.lo, .int .i64 r.hi], .int .i64 r.e]) (by simp [results, Try.results78, go_sem, *]) rfl ⟨rfl, ?_⟩
        repeat (first | exact hB3 | refine Below.drew ?_ | refine below_drewN ?_ _ | refine Below.setCell ?_ (by first | omega | (simp; omega) | simp) _ | refine Below.alloc ?_ (by first | omega | (simp; omega) | simp) _ | refine chainB (by assumption) ?_)
  · have k : divS a b c d = ⟨0, 0, 2⟩ := if_neg h
    rw [k]
    by_cases h1 : vB a b = true
    · have v1 := fun w => valid_yes a b h1 w
      have v2 := fun w => valid_no c d (fun h2 => h ⟨h1, h2⟩) w
      clear h h1 k
      go_enter Try.func78, Try.ntmps78
      go_wp2_with fail
      refine (v1 _).mono ?_
      rintro e w1 ⟨rfl, hb⟩
      obtain ⟨hc, hf⟩ := bcell hb
      have k1_0a : w1.cell? ⟨w.heap.size, 0, none⟩ = some (.int .i64 a) := by rw [hc _ _ (by first | omega | (simp; omega) | simp)]; simp [go_sem, *]
      have k1_0b : w1.cell? ⟨w.heap.size, 1, none⟩ = some (.int .i64 b) := by rw [hc _ _ (by first | omega | (simp; omega) | simp)]; simp [go_sem, *]
      have z1_0 : w.heap.size < w1.heap.size := by have := hb.size; (try simp at this); omega
      have k1_1a : w1.cell? ⟨(w.heap.size + 1), 0, none⟩ = some (.int .i64 c) := by rw [hc _ _ (by first | omega | (simp; omega) | simp)]; simp [go_sem, *]
      have k1_1b : w1.cell? ⟨(w.heap.size + 1), 1, none⟩ = some (.int .i64 d) := by rw [hc _ _ (by first | omega | (simp; omega) | simp)]; simp [go_sem, *]
      have z1_1 : (w.heap.size + 1) < w1.heap.size := by have := hb.size; (try simp at this); omega
      have k1_2a : w1.cell? ⟨(w.heap.size + 2), 0, none⟩ = some (.int .i64 0) := by rw [hc _ _ (by first | omega | (simp; omega) | simp)]; simp [go_sem, *]
      have k1_2b : w1.cell? ⟨(w.heap.size + 2), 1, none⟩ = some (.int .i64 0) := by rw [hc _ _ (by first | omega | (simp; omega) | simp)]; simp [go_sem, *]
      have z1_2 : (w.heap.size + 2) < w1.heap.size := by have := hb.size; (try simp at this); omega
      have f1_2a : w1.frozen? ⟨(w.heap.size + 2), 0, none⟩ = false := by rw [hf _ _ (by first | omega | (simp; omega) | simp)]; simp [go_sem, *]
      have f1_2b : w1.frozen? ⟨(w.heap.size + 2), 1, none⟩ = false := by rw [hf _ _ (by first | omega | (simp; omega) | simp)]; simp [go_sem, *]
      have hB1 : Below w.heap.size w w1 := by repeat (first | exact (Below.refl _ _) | refine Below.drew ?_ | refine below_drewN ?_ _ | refine Below.setCell ?_ (by first | omega | (simp; omega) | simp) _ | refine Below.alloc ?_ (by first | omega | (simp; omega) | simp) _ | refine chainB (by assumption) ?_)
      have hs1 : w.heap.size ≤ w1.heap.size := hB1.size
      clear hc hf hb 
      go_wp2_with fail
      refine (v2 _).mono ?_
      rintro e w2 ⟨rfl, hb⟩
      obtain ⟨hc, hf⟩ := bcell hb
      have k2_0a : w2.cell? ⟨w.heap.size, 0, none⟩ = some (.int .i64 a) := by rw [hc _ _ (by first | omega | (simp; omega) | simp)]; simp [go_sem, *]
      have k2_0b : w2.cell? ⟨w.heap.size, 1, none⟩ = some (.int .i64 b) := by rw [hc _ _ (by first | omega | (simp; omega) | simp)]; simp [go_sem, *]
      have z2_0 : w.heap.size < w2.heap.size := by have := hb.size; (try simp at this); omega
      have k2_1a : w2.cell? ⟨(w.heap.size + 1), 0, none⟩ = some (.int .i64 c) := by rw [hc _ _ (by first | omega | (simp; omega) | simp)]; simp [go_sem, *]
      have k2_1b : w2.cell? ⟨(w.heap.size + 1), 1, none⟩ = some (.int .i64 d) := by rw [hc _ _ (by first | omega | (simp; omega) | simp)]; simp [go_sem, *]
      have z2_1 : (w.heap.size + 1) < w2.heap.size := by have := hb.size; (try simp at this); omega
      have k2_2a : w2.cell? ⟨(w.heap.size + 2), 0, none⟩ = some (.int .i64 0) := by rw [hc _ _ (by first | omega | (simp; omega) | simp)]; simp [go_sem, *]
      have k2_2b : w2.cell? ⟨(w.heap.size + 2), 1, none⟩ = some (.int .i64 0) := by rw [hc _ _ (by first | omega | (simp; omega) | simp)]; simp [go_sem, *]
      have z2_2 : (w.heap.size + 2) < w2.heap.size := by have := hb.size; (try simp at this); omega
      have f2_2a : w2.frozen? ⟨(w.heap.size + 2), 0, none⟩ = false := by rw [hf _ _ (by first | omega | (simp; omega) | simp)]; simp [go_sem, *]
      have f2_2b : w2.frozen? ⟨(w.heap.size + 2), 1, none⟩ = false := by rw [hf _ _ (by first | omega | (simp; omega) | simp)]; simp [go_sem, *]
      have hB2 : Below w.heap.size w w2 := by repeat (first | exact hB1 | refine Below.drew ?_ | refine below_drewN ?_ _ | refine Below.setCell ?_ (by first | omega | (simp; omega) | simp) _ | refine Below.alloc ?_ (by first | omega | (simp; omega) | simp) _ | refine chainB (by assumption) ?_)
      have hs2 : w.heap.size ≤ w2.heap.size := hB2.size
      clear hc hf hb k1_0a k1_0b z1_0 k1_1a k1_1b z1_1 k1_2a k1_2b z1_2 f1_2a f1_2b hB1 hs1
      go_wp2_with fail
      refine bodyPost_ret (v := .tuple #[.agg #[.int .i64 0, .int .i64 0], .int .i64 2]) (by simp [results, Try.results78, go_sem, *]) rfl ⟨rfl, ?_⟩
      repeat (first | exact hB2 | refine Below.drew ?_ | refine below_drewN ?_ _ | refine Below.setCell ?_ (by first | omega | (simp; omega) | simp) _ | refine Below.alloc ?_ (by first | omega | (simp; omega) | simp) _ | refine chainB (by assumption) ?_)
    · have v1 := fun w => valid_no a b h1 w
      clear h h1 k
      go_enter Try.func78, Try.ntmps78
      go_wp2_with fail
      refine (v1 _).mono ?_
      rintro e w1 ⟨rfl, hb⟩
      obtain ⟨hc, hf⟩ := bcell hb
      have k1_0a : w1.cell? ⟨w.heap.size, 0, none⟩ = some (.int .i64 a) := by rw [hc _ _ (by first | omega | (simp; omega) | simp)]; simp [go_sem, *]
      have k1_0b : w1.cell? ⟨w.heap.size, 1, none⟩ = some (.int .i64 b) := by rw [hc _ _ (by first | omega | (simp; omega) | simp)]; simp [go_sem, *]
      have z1_0 : w.heap.size < w1.heap.size := by have := hb.size; (try simp at this); omega
      have k1_1a : w1.cell? ⟨(w.heap.size + 1), 0, none⟩ = some (.int .i64 c) := by rw [hc _ _ (by first | omega | (simp; omega) | simp)]; simp [go_sem, *]
      have k1_1b : w1.cell? ⟨(w.heap.size + 1), 1, none⟩ = some (.int .i64 d) := by rw [hc _ _ (by first | omega | (simp; omega) | simp)]; simp [go_sem, *]
      have z1_1 : (w.heap.size + 1) < w1.heap.size := by have := hb.size; (try simp at this); omega
      have k1_2a : w1.cell? ⟨(w.heap.size + 2), 0, none⟩ = some (.int .i64 0) := by rw [hc _ _ (by first | omega | (simp; omega) | simp)]; simp [go_sem, *]
      have k1_2b : w1.cell? ⟨(w.heap.size + 2), 1, none⟩ = some (.int .i64 0) := by rw [hc _ _ (by first | omega | (simp; omega) | simp)]; simp [go_sem, *]
      have z1_2 : (w.heap.size + 2) < w1.heap.size := by have := hb.size; (try simp at this); omega
      have f1_2a : w1.frozen? ⟨(w.heap.size + 2), 0, none⟩ = false := by rw [hf _ _ (by first | omega | (simp; omega) | simp)]; simp [go_sem, *]
      have f1_2b : w1.frozen? ⟨(w.heap.size + 2), 1, none⟩ = false := by rw [hf _ _ (by first | omega | (simp; omega) | simp)]; simp [go_sem, *]
      have hB1 : Below w.heap.size w w1 := by repeat (first | exact (Below.refl _ _) | refine Below.drew ?_ | refine below_drewN ?_ _ | refine Below.setCell ?_ (by first | omega | (simp; omega) | simp) _ | refine Below.alloc ?_ (by first | omega | (simp; omega) | simp) _ | refine chainB (by assumption) ?_)
      have hs1 : w.heap.size ≤ w1.heap.size := hB1.size
      clear hc hf hb 
      go_wp2_with fail
      refine bodyPost_ret (v := .tuple #[.agg #[.int .i64 0, .int .i64 0], .int .i64 2]) (by simp [results, Try.results78, go_sem, *]) rfl ⟨rfl, ?_⟩
      repeat (first | exact hB1 | refine Below.drew ?_ | refine below_drewN ?_ _ | refine Below.setCell ?_ (by first | omega | (simp; omega) | simp) _ | refine Below.alloc ?_ (by first | omega | (simp; omega) | simp) _ | refine chainB (by assumption) ?_)
end Go.Proofs.Ytamelpfhbnkggaa

/-
  The reference: a line.
-/
import Derived.Test.YtamelpfhbnkggaaRefMath
namespace Go.Proofs.Ytamelpfhbnkggaa
open Go.RowKit Go.Shelf

set_option maxRecDepth 100000 in
set_option maxHeartbeats 8000000 in
theorem rline_any (t0 a b t1 c d t : Int) (w : World) :
    Calls Try.prog 30 #[.int .i64 t0, .agg #[.int .i64 a, .int .i64 b], .int .i64 t1, .agg #[.int .i64 c, .int .i64 d], .int .i64 t] w fun e w' => e = .returned (.tuple #[.agg #[.int .i64 (lineS t0 a b t1 c d t).lo, .int .i64 (lineS t0 a b t1 c d t).hi], .int .i64 (lineS t0 a b t1 c d t).e]) ∧ Below w.heap.size w w' := by
  by_cases h : vB a b = true ∧ vB c d = true
  · obtain ⟨h3, h4, h5⟩ := (vB_iff a b).1 h.1
    obtain ⟨h6, h7, h8⟩ := (vB_iff c d).1 h.2
    have v1 := fun w => valid_yes a b h.1 w
    have v2 := fun w => valid_yes c d h.2 w
    by_cases hn : 0 ≤ t0 ∧ t1 ≤ 1073741824 ∧ t0 < t1 ∧ t0 ≤ t ∧ t ≤ t1
    · obtain ⟨hn1, hn2, hn3, hn4, hn5⟩ := hn
      have k : lineS t0 a b t1 c d t = fit (lLo t0 a t1 c t) (lHi t0 b t1 d t) := by unfold lineS fit; rw [if_pos h, if_pos ⟨hn1, hn2, hn3, hn4, hn5⟩, if_pos (line_fit t0 a b t1 c d t h3 h4 h5 h6 h7 h8 hn3 hn4 hn5)]
      rw [k]
      have v3 := fun w => within_yes t t0 t1 hn4 hn5 w
      obtain ⟨p1, p2⟩ := prod_bd a (t1 - t) (by omega) (by omega) (by omega) (by omega)
      obtain ⟨p3, p4⟩ := prod_bd c (t - t0) (by omega) (by omega) (by omega) (by omega)
      obtain ⟨p5, p6⟩ := prod_bd b (t1 - t) (by omega) (by omega) (by omega) (by omega)
      obtain ⟨p7, p8⟩ := prod_bd d (t - t0) (by omega) (by omega) (by omega) (by omega)
      have d1 : ∀ v u, v = a * (t1 - t) + c * (t - t0) → u = t1 - t0 → ∀ w, Calls Try.prog 88 #[.int .i64 v, .int .i64 u] w fun e w' => e = .returned (.int .i64 (lLo t0 a t1 c t)) ∧ w' = w := fun v u hv hu w => by subst hv; subst hu; exact rdown_pos _ _ (by omega) (by omega) (by omega) (by omega) w
      have d2 : ∀ v u, v = b * (t1 - t) + d * (t - t0) → u = t1 - t0 → ∀ w, Calls Try.prog 89 #[.int .i64 v, .int .i64 u] w fun e w' => e = .returned (.int .i64 (lHi t0 b t1 d t)) ∧ w' = w := fun v u hv hu w => by subst hv; subst hu; have := rup_any (b * (t1 - t) + d * (t - t0)) (t1 - t0) (by omega) (by omega) (by omega) (by omega) (by omega) w; rw [rU_pos _ _ (by omega)] at this; exact this
      have c4 := fun w => result_any (lLo t0 a t1 c t) (lHi t0 b t1 d t) w
      generalize fit (lLo t0 a t1 c t) (lHi t0 b t1 d t) = r at c4 ⊢
      generalize lLo t0 a t1 c t = x1 at d1 c4
      generalize lHi t0 b t1 d t = x2 at d2 c4
      clear h k
      go_enter Try.func30, Try.ntmps30
      go_wp2_with fail
      refine (v1 _).mono ?_
      rintro e w1 ⟨rfl, hb⟩
      obtain ⟨hc, hf⟩ := bcell hb
      have k1_0a : w1.cell? ⟨w.heap.size, 0, none⟩ = some (.int .i64 a) := by rw [hc _ _ (by first | omega | (simp; omega) | simp)]; simp [go_sem, *]
      have k1_0b : w1.cell? ⟨w.heap.size, 1, none⟩ = some (.int .i64 b) := by rw [hc _ _ (by first | omega | (simp; omega) | simp)]; simp [go_sem, *]
      have z1_0 : w.heap.size < w1.heap.size := by have := hb.size; (try simp at this); omega
      have k1_1a : w1.cell? ⟨(w.heap.size + 1), 0, none⟩ = some (.int .i64 c) := by rw [hc _ _ (by first | omega | (simp; omega) | simp)]; simp [go_sem, *]
      have k1_1b : w1.cell? ⟨(w.heap.size + 1), 1, none⟩ = some (.int .i64 d) := by rw [hc _ _ (by first | omega | (simp; omega) | simp)]; simp [go_sem, *]
      have z1_1 : (w.heap.size + 1) < w1.heap.size := by have := hb.size; (try simp at this); omega
      have k1_2a : w1.cell? ⟨(w.heap.size + 2), 0, none⟩ = some (.int .i64 0) := by rw [hc _ _ (by first | omega | (simp; omega) | simp)]; simp [go_sem, *]
      have k1_2b : w1.cell? ⟨(w.heap.size + 2), 1, none⟩ = some (.int .i64 0) := by rw [hc _ _ (by first | omega | (simp; omega) | simp)]; simp [go_sem, *]
      have z1_2 : (w.heap.size + 2) < w1.heap.size := by have := hb.size; (try simp at this); omega
      have f1_2a : w1.frozen? ⟨(w.heap.size + 2), 0, none⟩ = false := by rw [hf _ _ (by first | omega | (simp; omega) | simp)]; simp [go_sem, *]
      have f1_2b : w1.frozen? ⟨(w.heap.size + 2), 1, none⟩ = false := by rw [hf _ _ (by first | omega | (simp; omega) | simp)]; simp [go_sem, *]
      have hB1 : Below w.heap.size w w1 := by repeat (first | exact (Below.refl _ _) | refine Below.drew ?_ | refine below_drewN ?_ _ | refine Below.setCell ?_ (by first | omega | (simp; omega) | simp) _ | refine Below.alloc ?_ (by first | omega | (simp; omega) | simp) _ | refine chainB (by assumption) ?_)
      have hs1 : w.heap.size ≤ w1.heap.size := hB1.size
      clear hc hf hb 
      go_wp2_with fail
      refine (v2 _).mono ?_
      rintro e w2 ⟨rfl, hb⟩
      obtain ⟨hc, hf⟩ := bcell hb
      have k2_0a : w2.cell? ⟨w.heap.size, 0, none⟩ = some (.int .i64 a) := by rw [hc _ _ (by first | omega | (simp; omega) | simp)]; simp [go_sem, *]
      have k2_0b : w2.cell? ⟨w.heap.size, 1, none⟩ = some (.int .i64 b) := by rw [hc _ _ (by first | omega | (simp; omega) | simp)]; simp [go_sem, *]
      have z2_0 : w.heap.size < w2.heap.size := by have := hb.size; (try simp at this); omega
      have k2_1a : w2.cell? ⟨(w.heap.size + 1), 0, none⟩ = some (.int .i64 c) := by rw [hc _ _ (by first | omega | (simp; omega) | simp)]; simp [go_sem, *]
      have k2_1b : w2.cell? ⟨(w.heap.size + 1), 1, none⟩ = some (.int .i64 d) := by rw [hc _ _ (by first | omega | (simp; omega) | simp)]; simp [go_sem, *]
      have z2_1 : (w.heap.size + 1) < w2.heap.size := by have := hb.size; (try simp at this); omega
      have k2_2a : w2.cell? ⟨(w.heap.size + 2), 0, none⟩ = some (.int .i64 0) := by rw [hc _ _ (by first | omega | (simp; omega) | simp)]; simp [go_sem, *]
      have k2_2b : w2.cell? ⟨(w.heap.size + 2), 1, none⟩ = some (.int .i64 0) := by rw [hc _ _ (by first | omega | (simp; omega) | simp)]; simp [go_sem, *]
      have z2_2 : (w.heap.size + 2) < w2.heap.size := by have := hb.size; (try simp at this); omega
      have f2_2a : w2.frozen? ⟨(w.heap.size + 2), 0, none⟩ = false := by rw [hf _ _ (by first | omega | (simp; omega) | simp)]; simp [go_sem, *]
      have f2_2b : w2.frozen? ⟨(w.heap.size + 2), 1, none⟩ = false := by rw [hf _ _ (by first | omega | (simp; omega) | simp)]; simp [go_sem, *]
      have hB2 : Below w.heap.size w w2 := by repeat (first | exact hB1 | refine Below.drew ?_ | refine below_drewN ?_ _ | refine Below.setCell ?_ (by first | omega | (simp; omega) | simp) _ | refine Below.alloc ?_ (by first | omega | (simp; omega) | simp) _ | refine chainB (by assumption) ?_)
      have hs2 : w.heap.size ≤ w2.heap.size := hB2.size
      clear hc hf hb k1_0a k1_0b z1_0 k1_1a k1_1b z1_1 k1_2a k1_2b z1_2 f1_2a f1_2b hB1 hs1
      go_wp2_with fail
      refine (v3 _).mono ?_
      rintro e w3 ⟨rfl, hb⟩
      obtain ⟨hc, hf⟩ := bcell hb
      have k3_0a : w3.cell? ⟨w.heap.size, 0, none⟩ = some (.int .i64 a) := by rw [hc _ _ (by first | omega | (simp; omega) | simp)]; simp [go_sem, *]
      have k3_0b : w3.cell? ⟨w.heap.size, 1, none⟩ = some (.int .i64 b) := by rw [hc _ _ (by first | omega | (simp; omega) | simp)]; simp [go_sem, *]
      have z3_0 : w.heap.size < w3.heap.size := by have := hb.size; (try simp at this); omega
      have k3_1a : w3.cell? ⟨(w.heap.size + 1), 0, none⟩ = some (.int .i64 c) := by rw [hc _ _ (by first | omega | (simp; omega) | simp)]; simp [go_sem, *]
      have k3_1b : w3.cell? ⟨(w.heap.size + 1), 1, none⟩ = some (.int .i64 d) := by rw [hc _ _ (by first | omega | (simp; omega) | simp)]; simp [go_sem, *]
      have z3_1 : (w.heap.size + 1) < w3.heap.size := by have := hb.size; (try simp at this); omega
      have k3_2a : w3.cell? ⟨(w.heap.size + 2), 0, none⟩ = some (.int .i64 0) := by rw [hc _ _ (by first | omega | (simp; omega) | simp)]; simp [go_sem, *]
      have k3_2b : w3.cell? ⟨(w.heap.size + 2), 1, none⟩ = some (.int .i64 0) := by rw [hc _ _ (by first | omega | (simp; omega) | simp)]; simp [go_sem, *]
      have z3_2 : (w.heap.size + 2) < w3.heap.size := by have := hb.size; (try simp at this); omega
      have f3_2a : w3.frozen? ⟨(w.heap.size + 2), 0, none⟩ = false := by rw [hf _ _ (by first | omega | (simp; omega) | simp)]; simp [go_sem, *]
      have f3_2b : w3.frozen? ⟨(w.heap.size + 2), 1, none⟩ = false := by rw [hf _ _ (by first | omega | (simp; omega) | simp)]; simp [go_sem, *]
      have hB3 : Below w.heap.size w w3 := by repeat (first | exact hB2 | refine Below.drew ?_ | refine below_drewN ?_ _ | refine Below.setCell ?_ (by first | omega | (simp; omega) | simp) _ | refine Below.alloc ?_ (by first | omega | (simp; omega) | simp) _ | refine chainB (by assumption) ?_)
      have hs3 : w.heap.size ≤ w3.heap.size := hB3.size
      clear hc hf hb k2_0a k2_0b z2_0 k2_1a k2_1b z2_1 k2_2a k2_2b z2_2 f2_2a f2_2b hB2 hs2
      go_wp2_with fail
      have hz0 : w.heap.size + 3 ≤ w3.heap.size := by omega
      have hw0 : IntKind.i64.wrap (t1 - t) = t1 - t := by rw [IntKind.wrap_i64]; omega
      have hw1 : IntKind.i64.wrap (t - t0) = t - t0 := by rw [IntKind.wrap_i64]; omega
      have hw2 : IntKind.i64.wrap (t1 - t0) = t1 - t0 := by rw [IntKind.wrap_i64]; omega
      have hw3 : IntKind.i64.wrap (a * (t1 - t)) = a * (t1 - t) := by rw [IntKind.wrap_i64]; omega
      have hw4 : IntKind.i64.wrap (c * (t - t0)) = c * (t - t0) := by rw [IntKind.wrap_i64]; omega
      have hw5 : IntKind.i64.wrap (b * (t1 - t)) = b * (t1 - t) := by rw [IntKind.wrap_i64]; omega
      have hw6 : IntKind.i64.wrap (d * (t - t0)) = d * (t - t0) := by rw [IntKind.wrap_i64]; omega
      have hw7 : IntKind.i64.wrap (a * (t1 - t) + c * (t - t0)) = a * (t1 - t) + c * (t - t0) := by rw [IntKind.wrap_i64]; omega
      have hw8 : IntKind.i64.wrap (b * (t1 - t) + d * (t - t0)) = b * (t1 - t) + d * (t - t0) := by rw [IntKind.wrap_i64]; omega
      clear v1 v2 v3 h3 h4 h5 h6 h7 h8 z3_0 z3_1 z3_2 hs3
      go_region_held3 (fun w' => w'.cell? ⟨w.heap.size, 0, none⟩ = some (.int .i64 a) ∧ w'.cell? ⟨w.heap.size, 1, none⟩ = some (.int .i64 b) ∧ w'.cell? ⟨(w.heap.size + 1), 0, none⟩ = some (.int .i64 c) ∧ w'.cell? ⟨(w.heap.size + 1), 1, none⟩ = some (.int .i64 d)) (simp [go_sem, *])
        (first
          | (go_at_call 88; refine (d1 _ _ ?_ ?_ _).mono ?_; with_reducible rfl; with_reducible rfl; clear d1; rintro e w' ⟨rfl, rfl⟩)
          | (go_at_call 89; refine (d2 _ _ ?_ ?_ _).mono ?_; with_reducible rfl; with_reducible rfl; clear d2; rintro e w' ⟨rfl, rfl⟩)
          | (go_at_call 87; refine (c4 _).mono ?_; clear c4; rintro e w' ⟨rfl, hb⟩; have hcc := (fun b o (h : b < w.heap.size + 3) => hb.cell (p := ⟨b, o, none⟩) (Nat.lt_of_lt_of_le h (by assumption))); have hff := (fun b o (h : b < w.heap.size + 3) => hb.frozen (p := ⟨b, o, none⟩) (Nat.lt_of_lt_of_le h (by assumption))); have hz1 : w.heap.size + 3 ≤ w'.heap.size := (Nat.le_trans (by assumption) hb.size)))
      all_goals
        go_wp2
        refine bodyPost_ret (v := .tuple #[.agg #[.int .i64 r.lo, .int .i64 r.hi], .int .i64 r.e]) (by simp [results, Try.results30, go_sem, *]) rfl ⟨rfl, ?_⟩
        repeat (first | exact hB3 | refine Below.drew ?_ | refine below_drewN ?_ _ | refine Below.setCell ?_ (by first | omega | (simp; omega) | simp) _ | refine Below.alloc ?_ (by first | omega | (simp; omega) | simp) _ | refine chainB (by assumption) ?_)
    · have k : lineS t0 a b t1 c d t = ⟨0, 0, 3⟩ := by unfold lineS; rw [if_pos h, if_neg hn]
      rw [k]
      have hcase : t0 < 0 ∨ (0 ≤ t0 ∧ 1073741824 < t1) ∨ (0 ≤ t0 ∧ t1 ≤ 1073741824 ∧ t1 ≤ t0) ∨ (0 ≤ t0 ∧ t1 ≤ 1073741824 ∧ t0 < t1 ∧ ¬ (t0 ≤ t ∧ t ≤ t1)) := by omega
      clear h k hn
      rcases hcase with hn | ⟨hn, hn'⟩ | ⟨hn, hn', hn''⟩ | ⟨hn, hn', hn'', hn3⟩
      · go_enter Try.func30, Try.ntmps30
        go_wp2_with fail
        refine (v1 _).mono ?_
        rintro e w1 ⟨rfl, hb⟩
        obtain ⟨hc, hf⟩ := bcell hb
        have k1_0a : w1.cell? ⟨w.heap.size, 0, none⟩ = some (.int .i64 a) := by rw [hc _ _ (by first | omega | (simp; omega) | simp)]; simp [go_sem, *]
        have k1_0b : w1.cell? ⟨w.heap.size, 1, none⟩ = some (.int .i64 b) := by rw [hc _ _ (by first | omega | (simp; omega) | simp)]; simp [go_sem, *]
        have z1_0 : w.heap.size < w1.heap.size := by have := hb.size; (try simp at this); omega
        have k1_1a : w1.cell? ⟨(w.heap.size + 1), 0, none⟩ = some (.int .i64 c) := by rw [hc _ _ (by first | omega | (simp; omega) | simp)]; simp [go_sem, *]
        have k1_1b : w1.cell? ⟨(w.heap.size + 1), 1, none⟩ = some (.int .i64 d) := by rw [hc _ _ (by first | omega | (simp; omega) | simp)]; simp [go_sem, *]
        have z1_1 : (w.heap.size + 1) < w1.heap.size := by have := hb.size; (try simp at this); omega
        have k1_2a : w1.cell? ⟨(w.heap.size + 2), 0, none⟩ = some (.int .i64 0) := by rw [hc _ _ (by first | omega | (simp; omega) | simp)]; simp [go_sem, *]
        have k1_2b : w1.cell? ⟨(w.heap.size + 2), 1, none⟩ = some (.int .i64 0) := by rw [hc _ _ (by first | omega | (simp; omega) | simp)]; simp [go_sem, *]
        have z1_2 : (w.heap.size + 2) < w1.heap.size := by have := hb.size; (try simp at this); omega
        have f1_2a : w1.frozen? ⟨(w.heap.size + 2), 0, none⟩ = false := by rw [hf _ _ (by first | omega | (simp; omega) | simp)]; simp [go_sem, *]
        have f1_2b : w1.frozen? ⟨(w.heap.size + 2), 1, none⟩ = false := by rw [hf _ _ (by first | omega | (simp; omega) | simp)]; simp [go_sem, *]
        have hB1 : Below w.heap.size w w1 := by repeat (first | exact (Below.refl _ _) | refine Below.drew ?_ | refine below_drewN ?_ _ | refine Below.setCell ?_ (by first | omega | (simp; omega) | simp) _ | refine Below.alloc ?_ (by first | omega | (simp; omega) | simp) _ | refine chainB (by assumption) ?_)
        have hs1 : w.heap.size ≤ w1.heap.size := hB1.size
        clear hc hf hb 
        go_wp2_with fail
        refine (v2 _).mono ?_
        rintro e w2 ⟨rfl, hb⟩
        obtain ⟨hc, hf⟩ := bcell hb
        have k2_0a : w2.cell? ⟨w.heap.size, 0, none⟩ = some (.int .i64 a) := by rw [hc _ _ (by first | omega | (simp; omega) | simp)]; simp [go_sem, *]
        have k2_0b : w2.cell? ⟨w.heap.size, 1, none⟩ = some (.int .i64 b) := by rw [hc _ _ (by first | omega | (simp; omega) | simp)]; simp [go_sem, *]
        have z2_0 : w.heap.size < w2.heap.size := by have := hb.size; (try simp at this); omega
        have k2_1a : w2.cell? ⟨(w.heap.size + 1), 0, none⟩ = some (.int .i64 c) := by rw [hc _ _ (by first | omega | (simp; omega) | simp)]; simp [go_sem, *]
        have k2_1b : w2.cell? ⟨(w.heap.size + 1), 1, none⟩ = some (.int .i64 d) := by rw [hc _ _ (by first | omega | (simp; omega) | simp)]; simp [go_sem, *]
        have z2_1 : (w.heap.size + 1) < w2.heap.size := by have := hb.size; (try simp at this); omega
        have k2_2a : w2.cell? ⟨(w.heap.size + 2), 0, none⟩ = some (.int .i64 0) := by rw [hc _ _ (by first | omega | (simp; omega) | simp)]; simp [go_sem, *]
        have k2_2b : w2.cell? ⟨(w.heap.size + 2), 1, none⟩ = some (.int .i64 0) := by rw [hc _ _ (by first | omega | (simp; omega) | simp)]; simp [go_sem, *]
        have z2_2 : (w.heap.size + 2) < w2.heap.size := by have := hb.size; (try simp at this); omega
        have f2_2a : w2.frozen? ⟨(w.heap.size + 2), 0, none⟩ = false := by rw [hf _ _ (by first | omega | (simp; omega) | simp)]; simp [go_sem, *]
        have f2_2b : w2.frozen? ⟨(w.heap.size + 2), 1, none⟩ = false := by rw [hf _ _ (by first | omega | (simp; omega) | simp)]; simp [go_sem, *]
        have hB2 : Below w.heap.size w w2 := by repeat (first | exact hB1 | refine Below.drew ?_ | refine below_drewN ?_ _ | refine Below.setCell ?_ (by first | omega | (simp; omega) | simp) _ | refine Below.alloc ?_ (by first | omega | (simp; omega) | simp) _ | refine chainB (by assumption) ?_)
        have hs2 : w.heap.size ≤ w2.heap.size := hB2.size
        clear hc hf hb k1_0a k1_0b z1_0 k1_1a k1_1b z1_1 k1_2a k1_2b z1_2 f1_2a f1_2b hB1 hs1
        go_wp2_with fail
        refine bodyPost_ret (v := .tuple #[.agg #[.int .i64 0, .int .i64 0], .int .i64 3]) (by simp [results, Try.results30, go_sem, *]) rfl ⟨rfl, ?_⟩
        repeat (first | exact hB2 | refine Below.drew ?_ | refine below_drewN ?_ _ | refine Below.setCell ?_ (by first | omega | (simp; omega) | simp) _ | refine Below.alloc ?_ (by first | omega | (simp; omega) | simp) _ | refine chainB (by assumption) ?_)
      · go_enter Try.func30, Try.ntmps30
        go_wp2_with fail
        refine (v1 _).mono ?_
        rintro e w1 ⟨rfl, hb⟩
        obtain ⟨hc, hf⟩ := bcell hb
        have k1_0a : w1.cell? ⟨w.heap.size, 0, none⟩ = some (.int .i64 a) := by rw [hc _ _ (by first | omega | (simp; omega) | simp)]; simp [go_sem, *]
        have k1_0b : w1.cell? ⟨w.heap.size, 1, none⟩ = some (.int .i64 b) := by rw [hc _ _ (by first | omega | (simp; omega) | simp)]; simp [go_sem, *]
        have z1_0 : w.heap.size < w1.heap.size := by have := hb.size; (try simp at this); omega
        have k1_1a : w1.cell? ⟨(w.heap.size + 1), 0, none⟩ = some (.int .i64 c) := by rw [hc _ _ (by first | omega | (simp; omega) | simp)]; simp [go_sem, *]
        have k1_1b : w1.cell? ⟨(w.heap.size + 1), 1, none⟩ = some (.int .i64 d) := by rw [hc _ _ (by first | omega | (simp; omega) | simp)]; simp [go_sem, *]
        have z1_1 : (w.heap.size + 1) < w1.heap.size := by have := hb.size; (try simp at this); omega
        have k1_2a : w1.cell? ⟨(w.heap.size + 2), 0, none⟩ = some (.int .i64 0) := by rw [hc _ _ (by first | omega | (simp; omega) | simp)]; simp [go_sem, *]
        have k1_2b : w1.cell? ⟨(w.heap.size + 2), 1, none⟩ = some (.int .i64 0) := by rw [hc _ _ (by first | omega | (simp; omega) | simp)]; simp [go_sem, *]
        have z1_2 : (w.heap.size + 2) < w1.heap.size := by have := hb.size; (try simp at this); omega
        have f1_2a : w1.frozen? ⟨(w.heap.size + 2), 0, none⟩ = false := by rw [hf _ _ (by first | omega | (simp; omega) | simp)]; simp [go_sem, *]
        have f1_2b : w1.frozen? ⟨(w.heap.size + 2), 1, none⟩ = false := by rw [hf _ _ (by first | omega | (simp; omega) | simp)]; simp [go_sem, *]
        have hB1 : Below w.heap.size w w1 := by repeat (first | exact (Below.refl _ _) | refine Below.drew ?_ | refine below_drewN ?_ _ | refine Below.setCell ?_ (by first | omega | (simp; omega) | simp) _ | refine Below.alloc ?_ (by first | omega | (simp; omega) | simp) _ | refine chainB (by assumption) ?_)
        have hs1 : w.heap.size ≤ w1.heap.size := hB1.size
        clear hc hf hb 
        go_wp2_with fail
        refine (v2 _).mono ?_
        rintro e w2 ⟨rfl, hb⟩
        obtain ⟨hc, hf⟩ := bcell hb
        have k2_0a : w2.cell? ⟨w.heap.size, 0, none⟩ = some (.int .i64 a) := by rw [hc _ _ (by first | omega | (simp; omega) | simp)]; simp [go_sem, *]
        have k2_0b : w2.cell? ⟨w.heap.size, 1, none⟩ = some (.int .i64 b) := by rw [hc _ _ (by first | omega | (simp; omega) | simp)]; simp [go_sem, *]
        have z2_0 : w.heap.size < w2.heap.size := by have := hb.size; (try simp at this); omega
        have k2_1a : w2.cell? ⟨(w.heap.size + 1), 0, none⟩ = some (.int .i64 c) := by rw [hc _ _ (by first | omega | (simp; omega) | simp)]; simp [go_sem, *]
        have k2_1b : w2.cell? ⟨(w.heap.size + 1), 1, none⟩ = some (.int .i64 d) := by rw [hc _ _ (by first | omega | (simp; omega) | simp)]; simp [go_sem, *]
        have z2_1 : (w.heap.size + 1) < w2.heap.size := by have := hb.size; (try simp at this); omega
        have k2_2a : w2.cell? ⟨(w.heap.size + 2), 0, none⟩ = some (.int .i64 0) := by rw [hc _ _ (by first | omega | (simp; omega) | simp)]; simp [go_sem, *]
        have k2_2b : w2.cell? ⟨(w.heap.size + 2), 1, none⟩ = some (.int .i64 0) := by rw [hc _ _ (by first | omega | (simp; omega) | simp)]; simp [go_sem, *]
        have z2_2 : (w.heap.size + 2) < w2.heap.size := by have := hb.size; (try simp at this); omega
        have f2_2a : w2.frozen? ⟨(w.heap.size + 2), 0, none⟩ = false := by rw [hf _ _ (by first | omega | (simp; omega) | simp)]; simp [go_sem, *]
        have f2_2b : w2.frozen? ⟨(w.heap.size + 2), 1, none⟩ = false := by rw [hf _ _ (by first | omega | (simp; omega) | simp)]; simp [go_sem, *]
        have hB2 : Below w.heap.size w w2 := by repeat (first | exact hB1 | refine Below.drew ?_ | refine below_drewN ?_ _ | refine Below.setCell ?_ (by first | omega | (simp; omega) | simp) _ | refine Below.alloc ?_ (by first | omega | (simp; omega) | simp) _ | refine chainB (by assumption) ?_)
        have hs2 : w.heap.size ≤ w2.heap.size := hB2.size
        clear hc hf hb k1_0a k1_0b z1_0 k1_1a k1_1b z1_1 k1_2a k1_2b z1_2 f1_2a f1_2b hB1 hs1
        go_wp2_with fail
        refine bodyPost_ret (v := .tuple #[.agg #[.int .i64 0, .int .i64 0], .int .i64 3]) (by simp [results, Try.results30, go_sem, *]) rfl ⟨rfl, ?_⟩
        repeat (first | exact hB2 | refine Below.drew ?_ | refine below_drewN ?_ _ | refine Below.setCell ?_ (by first | omega | (simp; omega) | simp) _ | refine Below.alloc ?_ (by first | omega | (simp; omega) | simp) _ | refine chainB (by assumption) ?_)
      · go_enter Try.func30, Try.ntmps30
        go_wp2_with fail
        refine (v1 _).mono ?_
        rintro e w1 ⟨rfl, hb⟩
        obtain ⟨hc, hf⟩ := bcell hb
        have k1_0a : w1.cell? ⟨w.heap.size, 0, none⟩ = some (.int .i64 a) := by rw [hc _ _ (by first | omega | (simp; omega) | simp)]; simp [go_sem, *]
        have k1_0b : w1.cell? ⟨w.heap.size, 1, none⟩ = some (.int .i64 b) := by rw [hc _ _ (by first | omega | (simp; omega) | simp)]; simp [go_sem, *]
        have z1_0 : w.heap.size < w1.heap.size := by have := hb.size; (try simp at this); omega
        have k1_1a : w1.cell? ⟨(w.heap.size + 1), 0, none⟩ = some (.int .i64 c) := by rw [hc _ _ (by first | omega | (simp; omega) | simp)]; simp [go_sem, *]
        have k1_1b : w1.cell? ⟨(w.heap.size + 1), 1, none⟩ = some (.int .i64 d) := by rw [hc _ _ (by first | omega | (simp; omega) | simp)]; simp [go_sem, *]
        have z1_1 : (w.heap.size + 1) < w1.heap.size := by have := hb.size; (try simp at this); omega
        have k1_2a : w1.cell? ⟨(w.heap.size + 2), 0, none⟩ = some (.int .i64 0) := by rw [hc _ _ (by first | omega | (simp; omega) | simp)]; simp [go_sem, *]
        have k1_2b : w1.cell? ⟨(w.heap.size + 2), 1, none⟩ = some (.int .i64 0) := by rw [hc _ _ (by first | omega | (simp; omega) | simp)]; simp [go_sem, *]
        have z1_2 : (w.heap.size + 2) < w1.heap.size := by have := hb.size; (try simp at this); omega
        have f1_2a : w1.frozen? ⟨(w.heap.size + 2), 0, none⟩ = false := by rw [hf _ _ (by first | omega | (simp; omega) | simp)]; simp [go_sem, *]
        have f1_2b : w1.frozen? ⟨(w.heap.size + 2), 1, none⟩ = false := by rw [hf _ _ (by first | omega | (simp; omega) | simp)]; simp [go_sem, *]
        have hB1 : Below w.heap.size w w1 := by repeat (first | exact (Below.refl _ _) | refine Below.drew ?_ | refine below_drewN ?_ _ | refine Below.setCell ?_ (by first | omega | (simp; omega) | simp) _ | refine Below.alloc ?_ (by first | omega | (simp; omega) | simp) _ | refine chainB (by assumption) ?_)
        have hs1 : w.heap.size ≤ w1.heap.size := hB1.size
        clear hc hf hb 
        go_wp2_with fail
        refine (v2 _).mono ?_
        rintro e w2 ⟨rfl, hb⟩
        obtain ⟨hc, hf⟩ := bcell hb
        have k2_0a : w2.cell? ⟨w.heap.size, 0, none⟩ = some (.int .i64 a) := by rw [hc _ _ (by first | omega | (simp; omega) | simp)]; simp [go_sem, *]
        have k2_0b : w2.cell? ⟨w.heap.size, 1, none⟩ = some (.int .i64 b) := by rw [hc _ _ (by first | omega | (simp; omega) | simp)]; simp [go_sem, *]
        have z2_0 : w.heap.size < w2.heap.size := by have := hb.size; (try simp at this); omega
        have k2_1a : w2.cell? ⟨(w.heap.size + 1), 0, none⟩ = some (.int .i64 c) := by rw [hc _ _ (by first | omega | (simp; omega) | simp)]; simp [go_sem, *]
        have k2_1b : w2.cell? ⟨(w.heap.size + 1), 1, none⟩ = some (.int .i64 d) := by rw [hc _ _ (by first | omega | (simp; omega) | simp)]; simp [go_sem, *]
        have z2_1 : (w.heap.size + 1) < w2.heap.size := by have := hb.size; (try simp at this); omega
        have k2_2a : w2.cell? ⟨(w.heap.size + 2), 0, none⟩ = some (.int .i64 0) := by rw [hc _ _ (by first | omega | (simp; omega) | simp)]; simp [go_sem, *]
        have k2_2b : w2.cell? ⟨(w.heap.size + 2), 1, none⟩ = some (.int .i64 0) := by rw [hc _ _ (by first | omega | (simp; omega) | simp)]; simp [go_sem, *]
        have z2_2 : (w.heap.size + 2) < w2.heap.size := by have := hb.size; (try simp at this); omega
        have f2_2a : w2.frozen? ⟨(w.heap.size + 2), 0, none⟩ = false := by rw [hf _ _ (by first | omega | (simp; omega) | simp)]; simp [go_sem, *]
        have f2_2b : w2.frozen? ⟨(w.heap.size + 2), 1, none⟩ = false := by rw [hf _ _ (by first | omega | (simp; omega) | simp)]; simp [go_sem, *]
        have hB2 : Below w.heap.size w w2 := by repeat (first | exact hB1 | refine Below.drew ?_ | refine below_drewN ?_ _ | refine Below.setCell ?_ (by first | omega | (simp; omega) | simp) _ | refine Below.alloc ?_ (by first | omega | (simp; omega) | simp) _ | refine chainB (by assumption) ?_)
        have hs2 : w.heap.size ≤ w2.heap.size := hB2.size
        clear hc hf hb k1_0a k1_0b z1_0 k1_1a k1_1b z1_1 k1_2a k1_2b z1_2 f1_2a f1_2b hB1 hs1
        go_wp2_with fail
        refine bodyPost_ret (v := .tuple #[.agg #[.int .i64 0, .int .i64 0], .int .i64 3]) (by simp [results, Try.results30, go_sem, *]) rfl ⟨rfl, ?_⟩
        repeat (first | exact hB2 | refine Below.drew ?_ | refine below_drewN ?_ _ | refine Below.setCell ?_ (by first | omega | (simp; omega) | simp) _ | refine Below.alloc ?_ (by first | omega | (simp; omega) | simp) _ | refine chainB (by assumption) ?_)
      · have v3 := fun w => within_no t t0 t1 hn3 w
        clear hn3
        go_enter Try.func30, Try.ntmps30
        go_wp2_with fail
        refine (v1 _).mono ?_
        rintro e w1 ⟨rfl, hb⟩
        obtain ⟨hc, hf⟩ := bcell hb
        have k1_0a : w1.cell? ⟨w.heap.size, 0, none⟩ = some (.int .i64 a) := by rw [hc _ _ (by first | omega | (simp; omega) | simp)]; simp [go_sem, *]
        have k1_0b : w1.cell? ⟨w.heap.size, 1, none⟩ = some (.int .i64 b) := by rw [hc _ _ (by first | omega | (simp; omega) | simp)]; simp [go_sem, *]
        have z1_0 : w.heap.size < w1.heap.size := by have := hb.size; (try simp at this); omega
        have k1_1a : w1.cell? ⟨(w.heap.size + 1), 0, none⟩ = some (.int .i64 c) := by rw [hc _ _ (by first | omega | (simp; omega) | simp)]; simp [go_sem, *]
        have k1_1b : w1.cell? ⟨(w.heap.size + 1), 1, none⟩ = some (.int .i64 d) := by rw [hc _ _ (by first | omega | (simp; omega) | simp)]; simp [go_sem, *]
        have z1_1 : (w.heap.size + 1) < w1.heap.size := by have := hb.size; (try simp at this); omega
        have k1_2a : w1.cell? ⟨(w.heap.size + 2), 0, none⟩ = some (.int .i64 0) := by rw [hc _ _ (by first | omega | (simp; omega) | simp)]; simp [go_sem, *]
        have k1_2b : w1.cell? ⟨(w.heap.size + 2), 1, none⟩ = some (.int .i64 0) := by rw [hc _ _ (by first | omega | (simp; omega) | simp)]; simp [go_sem, *]
        have z1_2 : (w.heap.size + 2) < w1.heap.size := by have := hb.size; (try simp at this); omega
        have f1_2a : w1.frozen? ⟨(w.heap.size + 2), 0, none⟩ = false := by rw [hf _ _ (by first | omega | (simp; omega) | simp)]; simp [go_sem, *]
        have f1_2b : w1.frozen? ⟨(w.heap.size + 2), 1, none⟩ = false := by rw [hf _ _ (by first | omega | (simp; omega) | simp)]; simp [go_sem, *]
        have hB1 : Below w.heap.size w w1 := by repeat (first | exact (Below.refl _ _) | refine Below.drew ?_ | refine below_drewN ?_ _ | refine Below.setCell ?_ (by first | omega | (simp; omega) | simp) _ | refine Below.alloc ?_ (by first | omega | (simp; omega) | simp) _ | refine chainB (by assumption) ?_)
        have hs1 : w.heap.size ≤ w1.heap.size := hB1.size
        clear hc hf hb 
        go_wp2_with fail
        refine (v2 _).mono ?_
        rintro e w2 ⟨rfl, hb⟩
        obtain ⟨hc, hf⟩ := bcell hb
        have k2_0a : w2.cell? ⟨w.heap.size, 0, none⟩ = some (.int .i64 a) := by rw [hc _ _ (by first | omega | (simp; omega) | simp)]; simp [go_sem, *]
        have k2_0b : w2.cell? ⟨w.heap.size, 1, none⟩ = some (.int .i64 b) := by rw [hc _ _ (by first | omega | (simp; omega) | simp)]; simp [go_sem, *]
        have z2_0 : w.heap.size < w2.heap.size := by have := hb.size; (try simp at this); omega
        have k2_1a : w2.cell? ⟨(w.heap.size + 1), 0, none⟩ = some (.int .i64 c) := by rw [hc _ _ (by first | omega | (simp; omega) | simp)]; simp [go_sem, *]
        have k2_1b : w2.cell? ⟨(w.heap.size + 1), 1, none⟩ = some (.int .i64 d) := by rw [hc _ _ (by first | omega | (simp; omega) | simp)]; simp [go_sem, *]
        have z2_1 : (w.heap.size + 1) < w2.heap.size := by have := hb.size; (try simp at this); omega
        have k2_2a : w2.cell? ⟨(w.heap.size + 2), 0, none⟩ = some (.int .i64 0) := by rw [hc _ _ (by first | omega | (simp; omega) | simp)]; simp [go_sem, *]
        have k2_2b : w2.cell? ⟨(w.heap.size + 2), 1, none⟩ = some (.int .i64 0) := by rw [hc _ _ (by first | omega | (simp; omega) | simp)]; simp [go_sem, *]
        have z2_2 : (w.heap.size + 2) < w2.heap.size := by have := hb.size; (try simp at this); omega
        have f2_2a : w2.frozen? ⟨(w.heap.size + 2), 0, none⟩ = false := by rw [hf _ _ (by first | omega | (simp; omega) | simp)]; simp [go_sem, *]
        have f2_2b : w2.frozen? ⟨(w.heap.size + 2), 1, none⟩ = false := by rw [hf _ _ (by first | omega | (simp; omega) | simp)]; simp [go_sem, *]
        have hB2 : Below w.heap.size w w2 := by repeat (first | exact hB1 | refine Below.drew ?_ | refine below_drewN ?_ _ | refine Below.setCell ?_ (by first | omega | (simp; omega) | simp) _ | refine Below.alloc ?_ (by first | omega | (simp; omega) | simp) _ | refine chainB (by assumption) ?_)
        have hs2 : w.heap.size ≤ w2.heap.size := hB2.size
        clear hc hf hb k1_0a k1_0b z1_0 k1_1a k1_1b z1_1 k1_2a k1_2b z1_2 f1_2a f1_2b hB1 hs1
        go_wp2_with fail
        refine (v3 _).mono ?_
        rintro e w3 ⟨rfl, hb⟩
        obtain ⟨hc, hf⟩ := bcell hb
        have k3_0a : w3.cell? ⟨w.heap.size, 0, none⟩ = some (.int .i64 a) := by rw [hc _ _ (by first | omega | (simp; omega) | simp)]; simp [go_sem, *]
        have k3_0b : w3.cell? ⟨w.heap.size, 1, none⟩ = some (.int .i64 b) := by rw [hc _ _ (by first | omega | (simp; omega) | simp)]; simp [go_sem, *]
        have z3_0 : w.heap.size < w3.heap.size := by have := hb.size; (try simp at this); omega
        have k3_1a : w3.cell? ⟨(w.heap.size + 1), 0, none⟩ = some (.int .i64 c) := by rw [hc _ _ (by first | omega | (simp; omega) | simp)]; simp [go_sem, *]
        have k3_1b : w3.cell? ⟨(w.heap.size + 1), 1, none⟩ = some (.int .i64 d) := by rw [hc _ _ (by first | omega | (simp; omega) | simp)]; simp [go_sem, *]
        have z3_1 : (w.heap.size + 1) < w3.heap.size := by have := hb.size; (try simp at this); omega
        have k3_2a : w3.cell? ⟨(w.heap.size + 2), 0, none⟩ = some (.int .i64 0) := by rw [hc _ _ (by first | omega | (simp; omega) | simp)]; simp [go_sem, *]
        have k3_2b : w3.cell? ⟨(w.heap.size + 2), 1, none⟩ = some (.int .i64 0) := by rw [hc _ _ (by first | omega | (simp; omega) | simp)]; simp [go_sem, *]
        have z3_2 : (w.heap.size + 2) < w3.heap.size := by have := hb.size; (try simp at this); omega
        have f3_2a : w3.frozen? ⟨(w.heap.size + 2), 0, none⟩ = false := by rw [hf _ _ (by first | omega | (simp; omega) | simp)]; simp [go_sem, *]
        have f3_2b : w3.frozen? ⟨(w.heap.size + 2), 1, none⟩ = false := by rw [hf _ _ (by first | omega | (simp; omega) | simp)]; simp [go_sem, *]
        have hB3 : Below w.heap.size w w3 := by repeat (first | exact hB2 | refine Below.drew ?_ | refine below_drewN ?_ _ | refine Below.setCell ?_ (by first | omega | (simp; omega) | simp) _ | refine Below.alloc ?_ (by first | omega | (simp; omega) | simp) _ | refine chainB (by assumption) ?_)
        have hs3 : w.heap.size ≤ w3.heap.size := hB3.size
        clear hc hf hb k2_0a k2_0b z2_0 k2_1a k2_1b z2_1 k2_2a k2_2b z2_2 f2_2a f2_2b hB2 hs2
        go_wp2_with fail
        refine bodyPost_ret (v := .tuple #[.agg #[.int .i64 0, .int .i64 0], .int .i64 3]) (by simp [results, Try.results30, go_sem, *]) rfl ⟨rfl, ?_⟩
        repeat (first | exact hB3 | refine Below.drew ?_ | refine below_drewN ?_ _ | refine Below.setCell ?_ (by first | omega | (simp; omega) | simp) _ | refine Below.alloc ?_ (by first | omega | (simp; omega) | simp) _ | refine chainB (by assumption) ?_)
  · have k : lineS t0 a b t1 c d t = ⟨0, 0, 2⟩ := if_neg h
    rw [k]
    by_cases h1 : vB a b = true
    · have v1 := fun w => valid_yes a b h1 w
      have v2 := fun w => valid_no c d (fun h2 => h ⟨h1, h2⟩) w
      clear h h1 k
      go_enter Try.func30, Try.ntmps30
      go_wp2_with fail
      refine (v1 _).mono ?_
      rintro e w1 ⟨rfl, hb⟩
      obtain ⟨hc, hf⟩ := bcell hb
      have k1_0a : w1.cell? ⟨w.heap.size, 0, none⟩ = some (.int .i64 a) := by rw [hc _ _ (by first | omega | (simp; omega) | simp)]; simp [go_sem, *]
      have k1_0b : w1.cell? ⟨w.heap.size, 1, none⟩ = some (.int .i64 b) := by rw [hc _ _ (by first | omega | (simp; omega) | simp)]; simp [go_sem, *]
      have z1_0 : w.heap.size < w1.heap.size := by have := hb.size; (try simp at this); omega
      have k1_1a : w1.cell? ⟨(w.heap.size + 1), 0, none⟩ = some (.int .i64 c) := by rw [hc _ _ (by first | omega | (simp; omega) | simp)]; simp [go_sem, *]
      have k1_1b : w1.cell? ⟨(w.heap.size + 1), 1, none⟩ = some (.int .i64 d) := by rw [hc _ _ (by first | omega | (simp; omega) | simp)]; simp [go_sem, *]
      have z1_1 : (w.heap.size + 1) < w1.heap.size := by have := hb.size; (try simp at this); omega
      have k1_2a : w1.cell? ⟨(w.heap.size + 2), 0, none⟩ = some (.int .i64 0) := by rw [hc _ _ (by first | omega | (simp; omega) | simp)]; simp [go_sem, *]
      have k1_2b : w1.cell? ⟨(w.heap.size + 2), 1, none⟩ = some (.int .i64 0) := by rw [hc _ _ (by first | omega | (simp; omega) | simp)]; simp [go_sem, *]
      have z1_2 : (w.heap.size + 2) < w1.heap.size := by have := hb.size; (try simp at this); omega
      have f1_2a : w1.frozen? ⟨(w.heap.size + 2), 0, none⟩ = false := by rw [hf _ _ (by first | omega | (simp; omega) | simp)]; simp [go_sem, *]
      have f1_2b : w1.frozen? ⟨(w.heap.size + 2), 1, none⟩ = false := by rw [hf _ _ (by first | omega | (simp; omega) | simp)]; simp [go_sem, *]
      have hB1 : Below w.heap.size w w1 := by repeat (first | exact (Below.refl _ _) | refine Below.drew ?_ | refine below_drewN ?_ _ | refine Below.setCell ?_ (by first | omega | (simp; omega) | simp) _ | refine Below.alloc ?_ (by first | omega | (simp; omega) | simp) _ | refine chainB (by assumption) ?_)
      have hs1 : w.heap.size ≤ w1.heap.size := hB1.size
      clear hc hf hb 
      go_wp2_with fail
      refine (v2 _).mono ?_
      rintro e w2 ⟨rfl, hb⟩
      obtain ⟨hc, hf⟩ := bcell hb
      have k2_0a : w2.cell? ⟨w.heap.size, 0, none⟩ = some (.int .i64 a) := by rw [hc _ _ (by first | omega | (simp; omega) | simp)]; simp [go_sem, *]
      have k2_0b : w2.cell? ⟨w.heap.size, 1, none⟩ = some (.int .i64 b) := by rw [hc _ _ (by first | omega | (simp; omega) | simp)]; simp [go_sem, *]
      have z2_0 : w.heap.size < w2.heap.size := by have := hb.size; (try simp at this); omega
      have k2_1a : w2.cell? ⟨(w.heap.size + 1), 0, none⟩ = some (.int .i64 c) := by rw [hc _ _ (by first | omega | (simp; omega) | simp)]; simp [go_sem, *]
      have k2_1b : w2.cell? ⟨(w.heap.size + 1), 1, none⟩ = some (.int .i64 d) := by rw [hc _ _ (by first | omega | (simp; omega) | simp)]; simp [go_sem, *]
      have z2_1 : (w.heap.size + 1) < w2.heap.size := by have := hb.size; (try simp at this); omega
      have k2_2a : w2.cell? ⟨(w.heap.size + 2), 0, none⟩ = some (.int .i64 0) := by rw [hc _ _ (by first | omega | (simp; omega) | simp)]; simp [go_sem, *]
      have k2_2b : w2.cell? ⟨(w.heap.size + 2), 1, none⟩ = some (.int .i64 0) := by rw [hc _ _ (by first | omega | (simp; omega) | simp)]; simp [go_sem, *]
      have z2_2 : (w.heap.size + 2) < w2.heap.size := by have := hb.size; (try simp at this); omega
      have f2_2a : w2.frozen? ⟨(w.heap.size + 2), 0, none⟩ = false := by rw [hf _ _ (by first | omega | (simp; omega) | simp)]; simp [go_sem, *]
      have f2_2b : w2.frozen? ⟨(w.heap.size + 2), 1, none⟩ = false := by rw [hf _ _ (by first | omega | (simp; omega) | simp)]; simp [go_sem, *]
      have hB2 : Below w.heap.size w w2 := by repeat (first | exact hB1 | refine Below.drew ?_ | refine below_drewN ?_ _ | refine Below.setCell ?_ (by first | omega | (simp; omega) | simp) _ | refine Below.alloc ?_ (by first | omega | (simp; omega) | simp) _ | refine chainB (by assumption) ?_)
      have hs2 : w.heap.size ≤ w2.heap.size := hB2.size
      clear hc hf hb k1_0a k1_0b z1_0 k1_1a k1_1b z1_1 k1_2a k1_2b z1_2 f1_2a f1_2b hB1 hs1
      go_wp2_with fail
      refine bodyPost_ret (v := .tuple #[.agg #[.int .i64 0, .int .i64 0], .int .i64 2]) (by simp [results, Try.results30, go_sem, *]) rfl ⟨rfl, ?_⟩
      repeat (first | exact hB2 | refine Below.drew ?_ | refine below_drewN ?_ _ | refine Below.setCell ?_ (by first | omega | (simp; omega) | simp) _ | refine Below.alloc ?_ (by first | omega | (simp; omega) | simp) _ | refine chainB (by assumption) ?_)
    · have v1 := fun w => valid_no a b h1 w
      clear h h1 k
      go_enter Try.func30, Try.ntmps30
      go_wp2_with fail
      refine (v1 _).mono ?_
      rintro e w1 ⟨rfl, hb⟩
      obtain ⟨hc, hf⟩ := bcell hb
      have k1_0a : w1.cell? ⟨w.heap.size, 0, none⟩ = some (.int .i64 a) := by rw [hc _ _ (by first | omega | (simp; omega) | simp)]; simp [go_sem, *]
      have k1_0b : w1.cell? ⟨w.heap.size, 1, none⟩ = some (.int .i64 b) := by rw [hc _ _ (by first | omega | (simp; omega) | simp)]; simp [go_sem, *]
      have z1_0 : w.heap.size < w1.heap.size := by have := hb.size; (try simp at this); omega
      have k1_1a : w1.cell? ⟨(w.heap.size + 1), 0, none⟩ = some (.int .i64 c) := by rw [hc _ _ (by first | omega | (simp; omega) | simp)]; simp [go_sem, *]
      have k1_1b : w1.cell? ⟨(w.heap.size + 1), 1, none⟩ = some (.int .i64 d) := by rw [hc _ _ (by first | omega | (simp; omega) | simp)]; simp [go_sem, *]
      have z1_1 : (w.heap.size + 1) < w1.heap.size := by have := hb.size; (try simp at this); omega
      have k1_2a : w1.cell? ⟨(w.heap.size + 2), 0, none⟩ = some (.int .i64 0) := by rw [hc _ _ (by first | omega | (simp; omega) | simp)]; simp [go_sem, *]
      have k1_2b : w1.cell? ⟨(w.heap.size + 2), 1, none⟩ = some (.int .i64 0) := by rw [hc _ _ (by first | omega | (simp; omega) | simp)]; simp [go_sem, *]
      have z1_2 : (w.heap.size + 2) < w1.heap.size := by have := hb.size; (try simp at this); omega
      have f1_2a : w1.frozen? ⟨(w.heap.size + 2), 0, none⟩ = false := by rw [hf _ _ (by first | omega | (simp; omega) | simp)]; simp [go_sem, *]
      have f1_2b : w1.frozen? ⟨(w.heap.size + 2), 1, none⟩ = false := by rw [hf _ _ (by first | omega | (simp; omega) | simp)]; simp [go_sem, *]
      have hB1 : Below w.heap.size w w1 := by repeat (first | exact (Below.refl _ _) | refine Below.drew ?_ | refine below_drewN ?_ _ | refine Below.setCell ?_ (by first | omega | (simp; omega) | simp) _ | refine Below.alloc ?_ (by first | omega | (simp; omega) | simp) _ | refine chainB (by assumption) ?_)
      have hs1 : w.heap.size ≤ w1.heap.size := hB1.size
      clear hc hf hb 
      go_wp2_with fail
      refine bodyPost_ret (v := .tuple #[.agg #[.int .i64 0, .int .i64 0], .int .i64 2]) (by simp [results, Try.results30, go_sem, *]) rfl ⟨rfl, ?_⟩
      repeat (first | exact hB1 | refine Below.drew ?_ | refine below_drewN ?_ _ | refine Below.setCell ?_ (by first | omega | (simp; omega) | simp) _ | refine Below.alloc ?_ (by first | omega | (simp; omega) | simp) _ | refine chainB (by assumption) ?_)
end Go.Proofs.Ytamelpfhbnkggaa

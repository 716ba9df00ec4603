import Derived.Test.YtamelpfhbnkggaaRef2
namespace Go.Proofs.Ytamelpfhbnkggaa
open Go.RowKit Go.Shelf

set_option maxRecDepth 100000 in
set_option maxHeartbeats 100000000 in
theorem rscale_any (a b n d : Int) (w : World) :
    Calls Try.prog 24 #[.agg #[.int .i64 a, .int .i64 b], .int .i64 n, .int .i64 d] w fun e w' => e = .returned (.tuple #[.agg #[.int .i64 (scaleS a b n d).lo, .int .i64 (scaleS a b n d).hi], .int .i64 (scaleS a b n d).e]) ∧ Below w.heap.size w w' := by
  by_cases h : vB a b = true
  · obtain ⟨h3, h4, h5⟩ := (vB_iff a b).1 h
    have v1 := fun w => valid_yes a b h w
    by_cases hn0 : -1073741824 ≤ n ∧ n ≤ 1073741824
    · have v2 := fun w => within_yes n (-1073741824) 1073741824 hn0.1 hn0.2 w
      by_cases hd0 : 1 ≤ d ∧ d ≤ 1073741824
      · have v3 := fun w => within_yes d 1 1073741824 hd0.1 hd0.2 w
        have k : scaleS a b n d = fit (min (a * n) (b * n) / d) (up (max (a * n) (b * n)) d) := by unfold scaleS; rw [if_pos h, if_pos ⟨hn0, hd0⟩]
        obtain ⟨hn1, hn2⟩ := hn0
        obtain ⟨hn3, hn4⟩ := hd0
        obtain ⟨p1, p2⟩ := prod_bd a n (by omega) (by omega) (by omega) (by omega)
        obtain ⟨p3, p4⟩ := prod_bd b n (by omega) (by omega) (by omega) (by omega)
        rw [k, min_div _ _ _ hn3, up_max _ _ _ hn3]
        have d1 : ∀ v, v = a * n → ∀ w, Calls Try.prog 88 #[.int .i64 v, .int .i64 d] w fun e w' => e = .returned (.int .i64 (a * n / d)) ∧ w' = w := by
          rintro v rfl w
          exact rdown_pos (a * n) d hn3 (by omega) (by omega) (by omega) w
        have d2 : ∀ v, v = b * n → ∀ w, Calls Try.prog 88 #[.int .i64 v, .int .i64 d] w fun e w' => e = .returned (.int .i64 (b * n / d)) ∧ w' = w := by
          rintro v rfl w
          exact rdown_pos (b * n) d hn3 (by omega) (by omega) (by omega) w
        have d3 : ∀ v, v = a * n → ∀ w, Calls Try.prog 89 #[.int .i64 v, .int .i64 d] w fun e w' => e = .returned (.int .i64 (rU (a * n) d)) ∧ w' = w := by
          rintro v rfl w
          exact rup_any (a * n) d (by omega) (by omega) (by omega) (by omega) (by omega) w
        have d4 : ∀ v, v = b * n → ∀ w, Calls Try.prog 89 #[.int .i64 v, .int .i64 d] w fun e w' => e = .returned (.int .i64 (rU (b * n) d)) ∧ w' = w := by
          rintro v rfl w
          exact rup_any (b * n) d (by omega) (by omega) (by omega) (by omega) (by omega) w
        rw [rU_pos _ _ hn3] at d3 d4
        have c4 := fun w => result_any (min (a * n / d) (b * n / d)) (max (up (a * n) d) (up (b * n) d)) w
        generalize fit (min (a * n / d) (b * n / d)) (max (up (a * n) d) (up (b * n) d)) = r at c4 ⊢
        generalize a * n / d = x1 at d1 c4
        generalize b * n / d = x2 at d2 c4
        generalize up (a * n) d = y1 at d3 c4
        generalize up (b * n) d = y2 at d4 c4
        clear h k
        go_enter Try.func24, Try.ntmps24
        go_wp2_with fail
        refine (v1 _).mono ?_
        rintro e w1 ⟨rfl, hb⟩
        obtain ⟨hc, hf⟩ := bcell hb
        have k1_0a : w1.cell? ⟨w.heap.size, 0, none⟩ = some (.int .i64 a) := by rw [hc _ _ (by first | omega | (simp; omega) | simp)]; simp [go_sem, *]
        have k1_0b : w1.cell? ⟨w.heap.size, 1, none⟩ = some (.int .i64 b) := by rw [hc _ _ (by first | omega | (simp; omega) | simp)]; simp [go_sem, *]
        have z1_0 : w.heap.size < w1.heap.size := by have := hb.size; (try simp at this); omega
        have k1_1a : w1.cell? ⟨(w.heap.size + 1), 0, none⟩ = some (.int .i64 0) := by rw [hc _ _ (by first | omega | (simp; omega) | simp)]; simp [go_sem, *]
        have k1_1b : w1.cell? ⟨(w.heap.size + 1), 1, none⟩ = some (.int .i64 0) := by rw [hc _ _ (by first | omega | (simp; omega) | simp)]; simp [go_sem, *]
        have z1_1 : (w.heap.size + 1) < w1.heap.size := by have := hb.size; (try simp at this); omega
        have f1_1a : w1.frozen? ⟨(w.heap.size + 1), 0, none⟩ = false := by rw [hf _ _ (by first | omega | (simp; omega) | simp)]; simp [go_sem, *]
        have f1_1b : w1.frozen? ⟨(w.heap.size + 1), 1, none⟩ = false := by rw [hf _ _ (by first | omega | (simp; omega) | simp)]; simp [go_sem, *]
        have hB1 : Below w.heap.size w w1 := by repeat (first | exact (Below.refl _ _) | refine Below.drew ?_ | refine below_drewN ?_ _ | refine Below.setCell ?_ (by first | omega | (simp; omega) | simp) _ | refine Below.alloc ?_ (by first | omega | (simp; omega) | simp) _ | refine chainB (by assumption) ?_)
        have hs1 : w.heap.size ≤ w1.heap.size := hB1.size
        clear hc hf hb 
        go_wp2_with fail
        refine (v2 _).mono ?_
        rintro e w2 ⟨rfl, hb⟩
        obtain ⟨hc, hf⟩ := bcell hb
        have k2_0a : w2.cell? ⟨w.heap.size, 0, none⟩ = some (.int .i64 a) := by rw [hc _ _ (by first | omega | (simp; omega) | simp)]; simp [go_sem, *]
        have k2_0b : w2.cell? ⟨w.heap.size, 1, none⟩ = some (.int .i64 b) := by rw [hc _ _ (by first | omega | (simp; omega) | simp)]; simp [go_sem, *]
        have z2_0 : w.heap.size < w2.heap.size := by have := hb.size; (try simp at this); omega
        have k2_1a : w2.cell? ⟨(w.heap.size + 1), 0, none⟩ = some (.int .i64 0) := by rw [hc _ _ (by first | omega | (simp; omega) | simp)]; simp [go_sem, *]
        have k2_1b : w2.cell? ⟨(w.heap.size + 1), 1, none⟩ = some (.int .i64 0) := by rw [hc _ _ (by first | omega | (simp; omega) | simp)]; simp [go_sem, *]
        have z2_1 : (w.heap.size + 1) < w2.heap.size := by have := hb.size; (try simp at this); omega
        have f2_1a : w2.frozen? ⟨(w.heap.size + 1), 0, none⟩ = false := by rw [hf _ _ (by first | omega | (simp; omega) | simp)]; simp [go_sem, *]
        have f2_1b : w2.frozen? ⟨(w.heap.size + 1), 1, none⟩ = false := by rw [hf _ _ (by first | omega | (simp; omega) | simp)]; simp [go_sem, *]
        have hB2 : Below w.heap.size w w2 := by repeat (first | exact hB1 | refine Below.drew ?_ | refine below_drewN ?_ _ | refine Below.setCell ?_ (by first | omega | (simp; omega) | simp) _ | refine Below.alloc ?_ (by first | omega | (simp; omega) | simp) _ | refine chainB (by assumption) ?_)
        have hs2 : w.heap.size ≤ w2.heap.size := hB2.size
        clear hc hf hb k1_0a k1_0b z1_0 k1_1a k1_1b z1_1 f1_1a f1_1b hB1 hs1
        go_wp2_with fail
        refine (v3 _).mono ?_
        rintro e w3 ⟨rfl, hb⟩
        obtain ⟨hc, hf⟩ := bcell hb
        have k3_0a : w3.cell? ⟨w.heap.size, 0, none⟩ = some (.int .i64 a) := by rw [hc _ _ (by first | omega | (simp; omega) | simp)]; simp [go_sem, *]
        have k3_0b : w3.cell? ⟨w.heap.size, 1, none⟩ = some (.int .i64 b) := by rw [hc _ _ (by first | omega | (simp; omega) | simp)]; simp [go_sem, *]
        have z3_0 : w.heap.size < w3.heap.size := by have := hb.size; (try simp at this); omega
        have k3_1a : w3.cell? ⟨(w.heap.size + 1), 0, none⟩ = some (.int .i64 0) := by rw [hc _ _ (by first | omega | (simp; omega) | simp)]; simp [go_sem, *]
        have k3_1b : w3.cell? ⟨(w.heap.size + 1), 1, none⟩ = some (.int .i64 0) := by rw [hc _ _ (by first | omega | (simp; omega) | simp)]; simp [go_sem, *]
        have z3_1 : (w.heap.size + 1) < w3.heap.size := by have := hb.size; (try simp at this); omega
        have f3_1a : w3.frozen? ⟨(w.heap.size + 1), 0, none⟩ = false := by rw [hf _ _ (by first | omega | (simp; omega) | simp)]; simp [go_sem, *]
        have f3_1b : w3.frozen? ⟨(w.heap.size + 1), 1, none⟩ = false := by rw [hf _ _ (by first | omega | (simp; omega) | simp)]; simp [go_sem, *]
        have hB3 : Below w.heap.size w w3 := by repeat (first | exact hB2 | refine Below.drew ?_ | refine below_drewN ?_ _ | refine Below.setCell ?_ (by first | omega | (simp; omega) | simp) _ | refine Below.alloc ?_ (by first | omega | (simp; omega) | simp) _ | refine chainB (by assumption) ?_)
        have hs3 : w.heap.size ≤ w3.heap.size := hB3.size
        clear hc hf hb k2_0a k2_0b z2_0 k2_1a k2_1b z2_1 f2_1a f2_1b hB2 hs2
        go_wp2_with fail
        have hz0 : w.heap.size + 2 ≤ w3.heap.size := by omega
        have hw0 : IntKind.i64.wrap (a * n) = a * n := by rw [IntKind.wrap_i64]; omega
        have hw1 : IntKind.i64.wrap (b * n) = b * n := by rw [IntKind.wrap_i64]; omega
        clear v1 v2 v3 h3 h4 h5 hn1 hn2 hn3 hn4 z3_0 z3_1 hs3
        go_region_held3 (fun w' => w'.cell? ⟨w.heap.size, 0, none⟩ = some (.int .i64 a) ∧ w'.cell? ⟨w.heap.size, 1, none⟩ = some (.int .i64 b)) (simp [go_sem, *])
          (first
            | (go_at_call 88; refine (d1 _ ?_ _).mono ?_; with_reducible rfl; clear d1; rintro e w' ⟨rfl, rfl⟩)
            | (go_at_call 88; refine (d2 _ ?_ _).mono ?_; with_reducible rfl; clear d2; rintro e w' ⟨rfl, rfl⟩)
            | (go_at_call 89; refine (d3 _ ?_ _).mono ?_; with_reducible rfl; clear d3; rintro e w' ⟨rfl, rfl⟩)
            | (go_at_call 89; refine (d4 _ ?_ _).mono ?_; with_reducible rfl; clear d4; rintro e w' ⟨rfl, rfl⟩)
            | (go_at_call 87; refine (c4 _).mono ?_; clear c4; rintro e w' ⟨rfl, hb⟩; have hcc := (fun b o (h : b < w.heap.size + 2) => hb.cell (p := ⟨b, o, none⟩) (Nat.lt_of_lt_of_le h (by assumption))); have hff := (fun b o (h : b < w.heap.size + 2) => hb.frozen (p := ⟨b, o, none⟩) (Nat.lt_of_lt_of_le h (by assumption))); have hz1 : w.heap.size + 2 ≤ w'.heap.size := (Nat.le_trans (by assumption) hb.size)))
        all_goals
          go_wp2
          refine bodyPost_ret (v := .tuple #[.agg #[.int .i64 r.lo, .int .i64 r.hi], .int .i64 r.e]) (by simp [results, Try.results24, go_sem, *]) rfl ⟨rfl, ?_⟩
          repeat (first | exact hB3 | refine Below.drew ?_ | refine below_drewN ?_ _ | refine Below.setCell ?_ (by first | omega | (simp; omega) | simp) _ | refine Below.alloc ?_ (by first | omega | (simp; omega) | simp) _ | refine chainB (by assumption) ?_)
      · have k : scaleS a b n d = ⟨0, 0, 3⟩ := by unfold scaleS; rw [if_pos h, if_neg (fun h => hd0 h.2)]
        rw [k]
        have v3 := fun w => within_no d 1 1073741824 hd0 w
        clear h k hd0 hn0
        go_enter Try.func24, Try.ntmps24
        go_wp2_with fail
        refine (v1 _).mono ?_
        rintro e w1 ⟨rfl, hb⟩
        obtain ⟨hc, hf⟩ := bcell hb
        have k1_0a : w1.cell? ⟨w.heap.size, 0, none⟩ = some (.int .i64 a) := by rw [hc _ _ (by first | omega | (simp; omega) | simp)]; simp [go_sem, *]
        have k1_0b : w1.cell? ⟨w.heap.size, 1, none⟩ = some (.int .i64 b) := by rw [hc _ _ (by first | omega | (simp; omega) | simp)]; simp [go_sem, *]
        have z1_0 : w.heap.size < w1.heap.size := by have := hb.size; (try simp at this); omega
        have k1_1a : w1.cell? ⟨(w.heap.size + 1), 0, none⟩ = some (.int .i64 0) := by rw [hc _ _ (by first | omega | (simp; omega) | simp)]; simp [go_sem, *]
        have k1_1b : w1.cell? ⟨(w.heap.size + 1), 1, none⟩ = some (.int .i64 0) := by rw [hc _ _ (by first | omega | (simp; omega) | simp)]; simp [go_sem, *]
        have z1_1 : (w.heap.size + 1) < w1.heap.size := by have := hb.size; (try simp at this); omega
        have f1_1a : w1.frozen? ⟨(w.heap.size + 1), 0, none⟩ = false := by rw [hf _ _ (by first | omega | (simp; omega) | simp)]; simp [go_sem, *]
        have f1_1b : w1.frozen? ⟨(w.heap.size + 1), 1, none⟩ = false := by rw [hf _ _ (by first | omega | (simp; omega) | simp)]; simp [go_sem, *]
        have hB1 : Below w.heap.size w w1 := by repeat (first | exact (Below.refl _ _) | refine Below.drew ?_ | refine below_drewN ?_ _ | refine Below.setCell ?_ (by first | omega | (simp; omega) | simp) _ | refine Below.alloc ?_ (by first | omega | (simp; omega) | simp) _ | refine chainB (by assumption) ?_)
        have hs1 : w.heap.size ≤ w1.heap.size := hB1.size
        clear hc hf hb 
        go_wp2_with fail
        refine (v2 _).mono ?_
        rintro e w2 ⟨rfl, hb⟩
        obtain ⟨hc, hf⟩ := bcell hb
        have k2_0a : w2.cell? ⟨w.heap.size, 0, none⟩ = some (.int .i64 a) := by rw [hc _ _ (by first | omega | (simp; omega) | simp)]; simp [go_sem, *]
        have k2_0b : w2.cell? ⟨w.heap.size, 1, none⟩ = some (.int .i64 b) := by rw [hc _ _ (by first | omega | (simp; omega) | simp)]; simp [go_sem, *]
        have z2_0 : w.heap.size < w2.heap.size := by have := hb.size; (try simp at this); omega
        have k2_1a : w2.cell? ⟨(w.heap.size + 1), 0, none⟩ = some (.int .i64 0) := by rw [hc _ _ (by first | omega | (simp; omega) | simp)]; simp [go_sem, *]
        have k2_1b : w2.cell? ⟨(w.heap.size + 1), 1, none⟩ = some (.int .i64 0) := by rw [hc _ _ (by first | omega | (simp; omega) | simp)]; simp [go_sem, *]
        have z2_1 : (w.heap.size + 1) < w2.heap.size := by have := hb.size; (try simp at this); omega
        have f2_1a : w2.frozen? ⟨(w.heap.size + 1), 0, none⟩ = false := by rw [hf _ _ (by first | omega | (simp; omega) | simp)]; simp [go_sem, *]
        have f2_1b : w2.frozen? ⟨(w.heap.size + 1), 1, none⟩ = false := by rw [hf _ _ (by first | omega | (simp; omega) | simp)]; simp [go_sem, *]
        have hB2 : Below w.heap.size w w2 := by repeat (first | exact hB1 | refine Below.drew ?_ | refine below_drewN ?_ _ | refine Below.setCell ?_ (by first | omega | (simp; omega) | simp) _ | refine Below.alloc ?_ (by first | omega | (simp; omega) | simp) _ | refine chainB (by assumption) ?_)
        have hs2 : w.heap.size ≤ w2.heap.size := hB2.size
        clear hc hf hb k1_0a k1_0b z1_0 k1_1a k1_1b z1_1 f1_1a f1_1b hB1 hs1
        go_wp2_with fail
        refine (v3 _).mono ?_
        rintro e w3 ⟨rfl, hb⟩
        obtain ⟨hc, hf⟩ := bcell hb
        have k3_0a : w3.cell? ⟨w.heap.size, 0, none⟩ = some (.int .i64 a) := by rw [hc _ _ (by first | omega | (simp; omega) | simp)]; simp [go_sem, *]
        have k3_0b : w3.cell? ⟨w.heap.size, 1, none⟩ = some (.int .i64 b) := by rw [hc _ _ (by first | omega | (simp; omega) | simp)]; simp [go_sem, *]
        have z3_0 : w.heap.size < w3.heap.size := by have := hb.size; (try simp at this); omega
        have k3_1a : w3.cell? ⟨(w.heap.size + 1), 0, none⟩ = some (.int .i64 0) := by rw [hc _ _ (by first | omega | (simp; omega) | simp)]; simp [go_sem, *]
        have k3_1b : w3.cell? ⟨(w.heap.size + 1), 1, none⟩ = some (.int .i64 0) := by rw [hc _ _ (by first | omega | (simp; omega) | simp)]; simp [go_sem, *]
        have z3_1 : (w.heap.size + 1) < w3.heap.size := by have := hb.size; (try simp at this); omega
        have f3_1a : w3.frozen? ⟨(w.heap.size + 1), 0, none⟩ = false := by rw [hf _ _ (by first | omega | (simp; omega) | simp)]; simp [go_sem, *]
        have f3_1b : w3.frozen? ⟨(w.heap.size + 1), 1, none⟩ = false := by rw [hf _ _ (by first | omega | (simp; omega) | simp)]; simp [go_sem, *]
        have hB3 : Below w.heap.size w w3 := by repeat (first | exact hB2 | refine Below.drew ?_ | refine below_drewN ?_ _ | refine Below.setCell ?_ (by first | omega | (simp; omega) | simp) _ | refine Below.alloc ?_ (by first | omega | (simp; omega) | simp) _ | refine chainB (by assumption) ?_)
        have hs3 : w.heap.size ≤ w3.heap.size := hB3.size
        clear hc hf hb k2_0a k2_0b z2_0 k2_1a k2_1b z2_1 f2_1a f2_1b hB2 hs2
        go_wp2_with fail
        refine bodyPost_ret (v := .tuple #[.agg #[.int .i64 0, .int .i64 0], .int .i64 3]) (by simp [results, Try.results24, go_sem, *]) rfl ⟨rfl, ?_⟩
        repeat (first | exact hB3 | refine Below.drew ?_ | refine below_drewN ?_ _ | refine Below.setCell ?_ (by first | omega | (simp; omega) | simp) _ | refine Below.alloc ?_ (by first | omega | (simp; omega) | simp) _ | refine chainB (by assumption) ?_)
    · have k : scaleS a b n d = ⟨0, 0, 3⟩ := by unfold scaleS; rw [if_pos h, if_neg (fun h => hn0 h.1)]
      rw [k]
      have v2 := fun w => within_no n (-1073741824) 1073741824 hn0 w
      clear h k hn0
      go_enter Try.func24, Try.ntmps24
      go_wp2_with fail
      refine (v1 _).mono ?_
      rintro e w1 ⟨rfl, hb⟩
      obtain ⟨hc, hf⟩ := bcell hb
      have k1_0a : w1.cell? ⟨w.heap.size, 0, none⟩ = some (.int .i64 a) := by rw [hc _ _ (by first | omega | (simp; omega) | simp)]; simp [go_sem, *]
      have k1_0b : w1.cell? ⟨w.heap.size, 1, none⟩ = some (.int .i64 b) := by rw [hc _ _ (by first | omega | (simp; omega) | simp)]; simp [go_sem, *]
      have z1_0 : w.heap.size < w1.heap.size := by have := hb.size; (try simp at this); omega
      have k1_1a : w1.cell? ⟨(w.heap.size + 1), 0, none⟩ = some (.int .i64 0) := by rw [hc _ _ (by first | omega | (simp; omega) | simp)]; simp [go_sem, *]
      have k1_1b : w1.cell? ⟨(w.heap.size + 1), 1, none⟩ = some (.int .i64 0) := by rw [hc _ _ (by first | omega | (simp; omega) | simp)]; simp [go_sem, *]
      have z1_1 : (w.heap.size + 1) < w1.heap.size := by have := hb.size; (try simp at this); omega
      have f1_1a : w1.frozen? ⟨(w.heap.size + 1), 0, none⟩ = false := by rw [hf _ _ (by first | omega | (simp; omega) | simp)]; simp [go_sem, *]
      have f1_1b : w1.frozen? ⟨(w.heap.size + 1), 1, none⟩ = false := by rw [hf _ _ (by first | omega | (simp; omega) | simp)]; simp [go_sem, *]
      have hB1 : Below w.heap.size w w1 := by repeat (first | exact (Below.refl _ _) | refine Below.drew ?_ | refine below_drewN ?_ _ | refine Below.setCell ?_ (by first | omega | (simp; omega) | simp) _ | refine Below.alloc ?_ (by first | omega | (simp; omega) | simp) _ | refine chainB (by assumption) ?_)
      have hs1 : w.heap.size ≤ w1.heap.size := hB1.size
      clear hc hf hb 
      go_wp2_with fail
      refine (v2 _).mono ?_
      rintro e w2 ⟨rfl, hb⟩
      obtain ⟨hc, hf⟩ := bcell hb
      have k2_0a : w2.cell? ⟨w.heap.size, 0, none⟩ = some (.int .i64 a) := by rw [hc _ _ (by first | omega | (simp; omega) | simp)]; simp [go_sem, *]
      have k2_0b : w2.cell? ⟨w.heap.size, 1, none⟩ = some (.int .i64 b) := by rw [hc _ _ (by first | omega | (simp; omega) | simp)]; simp [go_sem, *]
      have z2_0 : w.heap.size < w2.heap.size := by have := hb.size; (try simp at this); omega
      have k2_1a : w2.cell? ⟨(w.heap.size + 1), 0, none⟩ = some (.int .i64 0) := by rw [hc _ _ (by first | omega | (simp; omega) | simp)]; simp [go_sem, *]
      have k2_1b : w2.cell? ⟨(w.heap.size + 1), 1, none⟩ = some (.int .i64 0) := by rw [hc _ _ (by first | omega | (simp; omega) | simp)]; simp [go_sem, *]
      have z2_1 : (w.heap.size + 1) < w2.heap.size := by have := hb.size; (try simp at this); omega
      have f2_1a : w2.frozen? ⟨(w.heap.size + 1), 0, none⟩ = false := by rw [hf _ _ (by first | omega | (simp; omega) | simp)]; simp [go_sem, *]
      have f2_1b : w2.frozen? ⟨(w.heap.size + 1), 1, none⟩ = false := by rw [hf _ _ (by first | omega | (simp; omega) | simp)]; simp [go_sem, *]
      have hB2 : Below w.heap.size w w2 := by repeat (first | exact hB1 | refine Below.drew ?_ | refine below_drewN ?_ _ | refine Below.setCell ?_ (by first | omega | (simp; omega) | simp) _ | refine Below.alloc ?_ (by first | omega | (simp; omega) | simp) _ | refine chainB (by assumption) ?_)
      have hs2 : w.heap.size ≤ w2.heap.size := hB2.size
      clear hc hf hb k1_0a k1_0b z1_0 k1_1a k1_1b z1_1 f1_1a f1_1b hB1 hs1
      go_wp2_with fail
      refine bodyPost_ret (v := .tuple #[.agg #[.int .i64 0, .int .i64 0], .int .i64 3]) (by simp [results, Try.results24, go_sem, *]) rfl ⟨rfl, ?_⟩
      repeat (first | exact hB2 | refine Below.drew ?_ | refine below_drewN ?_ _ | refine Below.setCell ?_ (by first | omega | (simp; omega) | simp) _ | refine Below.alloc ?_ (by first | omega | (simp; omega) | simp) _ | refine chainB (by assumption) ?_)
  · have k : scaleS a b n d = ⟨0, 0, 2⟩ := if_neg h
    rw [k]
    have v1 := fun w => valid_no a b h w
    clear h k
    go_enter Try.func24, Try.ntmps24
    go_wp2_with fail
    refine (v1 _).mono ?_
    rintro e w1 ⟨rfl, hb⟩
    obtain ⟨hc, hf⟩ := bcell hb
    have k1_0a : w1.cell? ⟨w.heap.size, 0, none⟩ = some (.int .i64 a) := by rw [hc _ _ (by first | omega | (simp; omega) | simp)]; simp [go_sem, *]
    have k1_0b : w1.cell? ⟨w.heap.size, 1, none⟩ = some (.int .i64 b) := by rw [hc _ _ (by first | omega | (simp; omega) | simp)]; simp [go_sem, *]
    have z1_0 : w.heap.size < w1.heap.size := by have := hb.size; (try simp at this); omega
    have k1_1a : w1.cell? ⟨(w.heap.size + 1), 0, none⟩ = some (.int .i64 0) := by rw [hc _ _ (by first | omega | (simp; omega) | simp)]; simp [go_sem, *]
    have k1_1b : w1.cell? ⟨(w.heap.size + 1), 1, none⟩ = some (.int .i64 0) := by rw [hc _ _ (by first | omega | (simp; omega) | simp)]; simp [go_sem, *]
    have z1_1 : (w.heap.size + 1) < w1.heap.size := by have := hb.size; (try simp at this); omega
    have f1_1a : w1.frozen? ⟨(w.heap.size + 1), 0, none⟩ = false := by rw [hf _ _ (by first | omega | (simp; omega) | simp)]; simp [go_sem, *]
    have f1_1b : w1.frozen? ⟨(w.heap.size + 1), 1, none⟩ = false := by rw [hf _ _ (by first | omega | (simp; omega) | simp)]; simp [go_sem, *]
    have hB1 : Below w.heap.size w w1 := by repeat (first | exact (Below.refl _ _) | refine Below.drew ?_ | refine below_drewN ?_ _ | refine Below.setCell ?_ (by first | omega | (simp; omega) | simp) _ | refine Below.alloc ?_ (by first | omega | (simp; omega) | simp) _ | refine chainB (by assumption) ?_)
    have hs1 : w.heap.size ≤ w1.heap.size := hB1.size
    clear hc hf hb 
    go_wp2_with fail
    refine bodyPost_ret (v := .tuple #[.agg #[.int .i64 0, .int .i64 0], .int .i64 2]) (by simp [results, Try.results24, go_sem, *]) rfl ⟨rfl, ?_⟩
    repeat (first | exact hB1 | refine Below.drew ?_ | refine below_drewN ?_ _ | refine Below.setCell ?_ (by first | omega | (simp; omega) | simp) _ | refine Below.alloc ?_ (by first | omega | (simp; omega) | simp) _ | refine chainB (by assumption) ?_)
end Go.Proofs.Ytamelpfhbnkggaa

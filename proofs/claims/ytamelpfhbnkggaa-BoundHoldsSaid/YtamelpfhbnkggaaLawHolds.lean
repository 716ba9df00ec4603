/-
  The walk of BoundHolds.
-/
import Derived.Test.YtamelpfhbnkggaaHold
import Derived.Test.YtamelpfhbnkggaaLawThree
import Derived.Deep.Cut
namespace Go.Proofs.Ytamelpfhbnkggaa
open Go.RowKit Go.Shelf
set_option maxRecDepth 100000 in
set_option maxHeartbeats 16000000 in
theorem law_holds (a b c d p q n m t0 t1 t : Int) (hp0 : 0 ≤ p) (hp1 : p ≤ 65535) (hq0 : 0 ≤ q) (hq1 : q ≤ 65535) (w : World) :
    Calls Try.prog 8 #[.agg #[.int .i64 a, .int .i64 b], .agg #[.int .i64 c, .int .i64 d], .int .u16 p, .int .u16 q, .int .i64 n, .int .i64 m, .int .i64 t0, .int .i64 t1, .int .i64 t] w fun e w' => e = .returned (.bool true) ∧ Below w.heap.size w w' := by
  have cW := fun w => works_any w
  by_cases h1 : vB a b = true
  · by_cases h2 : vB c d = true
    · have v1 := fun w => valid_yes a b h1 w
      have v2 := fun w => valid_yes c d h2 w
      have p1 := fun w => part_any a b p h1 hp0 hp1 w
      have p2 := fun w => part_any c d q h2 hq0 hq1 w
      obtain ⟨g1, g2, g3⟩ := (vB_iff a b).1 h1
      obtain ⟨g4, g5, g6⟩ := (vB_iff c d).1 h2
      obtain ⟨x1, x2⟩ := prt_in a b p g1 hp0 hp1
      obtain ⟨y1, y2⟩ := prt_in c d q g4 hq0 hq1
      generalize prt a b p = x at p1 x1 x2
      generalize prt c d q = y at p2 y1 y2
      have m0 := prod_bd x y (by omega) (by omega) (by omega) (by omega)
      have r1 := add_h a b c d x y ⟨h1, h2⟩ x1 x2 y1 y2
      have r2 := sub_h a b c d x y ⟨h1, h2⟩ x1 x2 y1 y2
      have r3 := mul_h a b c d x y ⟨h1, h2⟩ x1 x2 y1 y2
      have r4 := div_h a b c d x y ⟨h1, h2⟩ x1 x2 y1 y2
      have r5 := root_h a b x h1 x1 x2
      have r6 := scale_h a b n m x h1 x1 x2
      have r7 := line_h t0 a b t1 c d t x y ⟨h1, h2⟩ x1 x2 y1 y2
      have c1 := fun w => add_any a b c d w
      have c2 := fun w => sub_any a b c d w
      have c3 := fun w => mul_any a b c d w
      have c4 := fun w => div_any a b c d w
      have c5 := fun w => root_any a b w
      have c6 := fun w => scale_any a b n m w
      have c7 := fun w => line_any t0 a b t1 c d t w
      generalize addS a b c d = k1 at r1 c1
      generalize subS a b c d = k2 at r2 c2
      generalize mulS a b c d = k3 at r3 c3
      generalize divS a b c d = k4 at r4 c4
      generalize rootR a b = k5 at r5 c5
      generalize scaleS a b n m = k6 at r6 c6
      generalize lineS t0 a b t1 c d t = k7 at r7 c7
      have R1 := Lib.hid r1
      have R2 := Lib.hid r2
      have R3 := Lib.hid r3
      have R4 := Lib.hid r4
      have R5 := Lib.hid r5
      have R6 := Lib.hid r6
      have R7 := Lib.hid r7
      clear h1 h2 r1 r2 r3 r4 r5 r6 r7
      go_enter Try.func8, Try.ntmps8
      go_wp2_with fail
      refine (v1 _).mono ?_
      rintro e w1 ⟨rfl, hb⟩
      obtain ⟨hc, hf⟩ := bcell hb
      have k1_0a : w1.cell? ⟨w.heap.size, 0, none⟩ = some (.int .i64 a) := by rw [hc _ _ (by first | omega | (simp; omega) | simp)]; simp [go_sem, *]
      have k1_0b : w1.cell? ⟨w.heap.size, 1, none⟩ = some (.int .i64 b) := by rw [hc _ _ (by first | omega | (simp; omega) | simp)]; simp [go_sem, *]
      have z1_0 : w.heap.size < w1.heap.size := by have := hb.size; (try simp at this); omega
      have k1_1a : w1.cell? ⟨(w.heap.size + 1), 0, none⟩ = some (.int .i64 c) := by rw [hc _ _ (by first | omega | (simp; omega) | simp)]; simp [go_sem, *]
      have k1_1b : w1.cell? ⟨(w.heap.size + 1), 1, none⟩ = some (.int .i64 d) := by rw [hc _ _ (by first | omega | (simp; omega) | simp)]; simp [go_sem, *]
      have z1_1 : (w.heap.size + 1) < w1.heap.size := by have := hb.size; (try simp at this); omega
      have hB1 : Below w.heap.size w w1 := by repeat (first | exact (Below.refl _ _) | refine Below.drew ?_ | refine below_drewN ?_ _ | refine Below.setCell ?_ (by first | omega | (simp; omega) | simp) _ | refine Below.alloc ?_ (by first | omega | (simp; omega) | simp) _ | refine chainB (by assumption) ?_)
      have hs1 : w.heap.size ≤ w1.heap.size := hB1.size
      clear hc hf hb 
      go_wp2_with fail
      refine (v2 _).mono ?_
      rintro e w2 ⟨rfl, hb⟩
      obtain ⟨hc, hf⟩ := bcell hb
      have k2_0a : w2.cell? ⟨w.heap.size, 0, none⟩ = some (.int .i64 a) := by rw [hc _ _ (by first | omega | (simp; omega) | simp)]; simp [go_sem, *]
      have k2_0b : w2.cell? ⟨w.heap.size, 1, none⟩ = some (.int .i64 b) := by rw [hc _ _ (by first | omega | (simp; omega) | simp)]; simp [go_sem, *]
      have z2_0 : w.heap.size < w2.heap.size := by have := hb.size; (try simp at this); omega
      have k2_1a : w2.cell? ⟨(w.heap.size + 1), 0, none⟩ = some (.int .i64 c) := by rw [hc _ _ (by first | omega | (simp; omega) | simp)]; simp [go_sem, *]
      have k2_1b : w2.cell? ⟨(w.heap.size + 1), 1, none⟩ = some (.int .i64 d) := by rw [hc _ _ (by first | omega | (simp; omega) | simp)]; simp [go_sem, *]
      have z2_1 : (w.heap.size + 1) < w2.heap.size := by have := hb.size; (try simp at this); omega
      have hB2 : Below w.heap.size w w2 := by repeat (first | exact hB1 | refine Below.drew ?_ | refine below_drewN ?_ _ | refine Below.setCell ?_ (by first | omega | (simp; omega) | simp) _ | refine Below.alloc ?_ (by first | omega | (simp; omega) | simp) _ | refine chainB (by assumption) ?_)
      have hs2 : w.heap.size ≤ w2.heap.size := hB2.size
      clear hc hf hb k1_0a k1_0b z1_0 k1_1a k1_1b z1_1 hB1 hs1
      go_upto_region 3 with fail
      go_cut [19, 20] from 23 (fun s19 s20 wc => s19 = Value.int .i64 x ∧ s20 = Value.int .i64 y ∧ wc.cell? ⟨w.heap.size, 0, none⟩ = some (.int .i64 a) ∧ wc.cell? ⟨w.heap.size, 1, none⟩ = some (.int .i64 b) ∧ wc.cell? ⟨(w.heap.size + 1), 0, none⟩ = some (.int .i64 c) ∧ wc.cell? ⟨(w.heap.size + 1), 1, none⟩ = some (.int .i64 d) ∧ w.heap.size + 2 ≤ wc.heap.size ∧ Below w.heap.size w wc)
      case first => as_aux_lemma =>
        have hz0 : w.heap.size + 2 ≤ w2.heap.size := by omega
        go_region_held3 (fun w' => w'.cell? ⟨w.heap.size, 0, none⟩ = some (.int .i64 a) ∧ w'.cell? ⟨w.heap.size, 1, none⟩ = some (.int .i64 b) ∧ w'.cell? ⟨(w.heap.size + 1), 0, none⟩ = some (.int .i64 c) ∧ w'.cell? ⟨(w.heap.size + 1), 1, none⟩ = some (.int .i64 d)) (simp [go_sem, *])
          (first
            | (go_at_call 63; refine (p1 _).mono ?_; clear p1; rintro e w' ⟨rfl, hb⟩; have hcc := (fun b o (h : b < w.heap.size + 2) => hb.cell (p := ⟨b, o, none⟩) (Nat.lt_of_lt_of_le h (by assumption))); have hz1 : w.heap.size + 2 ≤ w'.heap.size := (Nat.le_trans (by assumption) hb.size))
            | (go_at_call 63; refine (p2 _).mono ?_; clear p2; rintro e w' ⟨rfl, hb⟩; have hcc := (fun b o (h : b < w.heap.size + 2) => hb.cell (p := ⟨b, o, none⟩) (Nat.lt_of_lt_of_le h (by assumption))); have hz1 : w.heap.size + 2 ≤ w'.heap.size := (Nat.le_trans (by assumption) hb.size)))
        all_goals
          have hBw : Below w.heap.size w w' := by repeat (first | exact hB2 | refine Below.drew ?_ | refine chainB (by assumption) ?_)
          go_wp2_with fail
          go_meet
          case rel => exact ⟨rfl, rfl, by simp [go_sem, *], by simp [go_sem, *], by simp [go_sem, *], by simp [go_sem, *], by (try simp); omega, by repeat (first | exact hBw | refine Below.drew ?_)⟩
      case rest => as_aux_lemma =>
        obtain ⟨rfl, rfl, k3_0a, k3_0b, k3_1a, k3_1b, z3, hB3⟩ := hcut
        have hs3 : w.heap.size ≤ wc.heap.size := hB3.size
        have z3b : w.heap.size + 1 < wc.heap.size := by omega
        have z3c : w.heap.size < wc.heap.size := by omega
        clear k2_0a k2_0b z2_0 k2_1a k2_1b z2_1 hB2 hs2
        go_wp2_with fail
        refine (c1 _).mono ?_
        rintro e w4 ⟨rfl, hb⟩
        obtain ⟨hc, hf⟩ := bcell hb
        have k4_0a : w4.cell? ⟨w.heap.size, 0, none⟩ = some (.int .i64 a) := by rw [hc _ _ (by first | omega | (simp; omega) | simp)]; simp [go_sem, *]
        have k4_0b : w4.cell? ⟨w.heap.size, 1, none⟩ = some (.int .i64 b) := by rw [hc _ _ (by first | omega | (simp; omega) | simp)]; simp [go_sem, *]
        have z4_0 : w.heap.size < w4.heap.size := by have := hb.size; (try simp at this); omega
        have k4_1a : w4.cell? ⟨(w.heap.size + 1), 0, none⟩ = some (.int .i64 c) := by rw [hc _ _ (by first | omega | (simp; omega) | simp)]; simp [go_sem, *]
        have k4_1b : w4.cell? ⟨(w.heap.size + 1), 1, none⟩ = some (.int .i64 d) := by rw [hc _ _ (by first | omega | (simp; omega) | simp)]; simp [go_sem, *]
        have z4_1 : (w.heap.size + 1) < w4.heap.size := by have := hb.size; (try simp at this); omega
        have hB4 : Below w.heap.size w w4 := by repeat (first | exact hB3 | refine Below.drew ?_ | refine below_drewN ?_ _ | refine Below.setCell ?_ (by first | omega | (simp; omega) | simp) _ | refine Below.alloc ?_ (by first | omega | (simp; omega) | simp) _ | refine chainB (by assumption) ?_)
        have hs4 : w.heap.size ≤ w4.heap.size := hB4.size
        clear hc hf hb k3_0a k3_0b k3_1a k3_1b z3 z3b z3c hB3 hs3
        have dB1 : ¬ w.heap.size = w4.heap.size := by omega
        have dB2 : ¬ w.heap.size + 1 = w4.heap.size := by omega
        have dB3 : ¬ w4.heap.size = w.heap.size := by omega
        have dB4 : ¬ w4.heap.size = w.heap.size + 1 := by omega
        have dB5 : w.heap.size ≤ w4.heap.size := by omega
        go_upto_region 5 with fail
        go_cut [22, 61] from 23 (fun s22 s61 wc => s61 = Value.bool false ∧ wc.cell? ⟨w.heap.size, 0, none⟩ = some (.int .i64 a) ∧ wc.cell? ⟨w.heap.size, 1, none⟩ = some (.int .i64 b) ∧ wc.cell? ⟨(w.heap.size + 1), 0, none⟩ = some (.int .i64 c) ∧ wc.cell? ⟨(w.heap.size + 1), 1, none⟩ = some (.int .i64 d) ∧ wc.cell? ⟨w4.heap.size, 0, none⟩ = some (.int .i64 k1.lo) ∧ wc.cell? ⟨w4.heap.size, 1, none⟩ = some (.int .i64 k1.hi) ∧ wc.frozen? ⟨w4.heap.size, 0, none⟩ = false ∧ wc.frozen? ⟨w4.heap.size, 1, none⟩ = false ∧ w4.heap.size < wc.heap.size ∧ Below w.heap.size w wc)
        case first => as_aux_lemma =>
          rcases R1.out with ⟨l, u, rfl, hl1, hl2⟩ | rfl
          · dsimp only
            go_wp2_with fail
            refine (holds_yes l u (x + y) hl1 hl2 _).mono ?_
            rintro e w5 ⟨rfl, hb⟩
            obtain ⟨hc, hf⟩ := bcell hb
            have k5_0a : w5.cell? ⟨w.heap.size, 0, none⟩ = some (.int .i64 a) := by rw [hc _ _ (by first | omega | (simp; omega) | simp)]; simp [go_sem, *]
            have k5_0b : w5.cell? ⟨w.heap.size, 1, none⟩ = some (.int .i64 b) := by rw [hc _ _ (by first | omega | (simp; omega) | simp)]; simp [go_sem, *]
            have z5_0 : w.heap.size < w5.heap.size := by have := hb.size; (try simp at this); omega
            have k5_1a : w5.cell? ⟨(w.heap.size + 1), 0, none⟩ = some (.int .i64 c) := by rw [hc _ _ (by first | omega | (simp; omega) | simp)]; simp [go_sem, *]
            have k5_1b : w5.cell? ⟨(w.heap.size + 1), 1, none⟩ = some (.int .i64 d) := by rw [hc _ _ (by first | omega | (simp; omega) | simp)]; simp [go_sem, *]
            have z5_1 : (w.heap.size + 1) < w5.heap.size := by have := hb.size; (try simp at this); omega
            have k5_2a : w5.cell? ⟨w4.heap.size, 0, none⟩ = some (.int .i64 l) := by rw [hc _ _ (by first | omega | (simp; omega) | simp)]; simp [go_sem, *]
            have k5_2b : w5.cell? ⟨w4.heap.size, 1, none⟩ = some (.int .i64 u) := by rw [hc _ _ (by first | omega | (simp; omega) | simp)]; simp [go_sem, *]
            have z5_2 : w4.heap.size < w5.heap.size := by have := hb.size; (try simp at this); omega
            have f5_2a : w5.frozen? ⟨w4.heap.size, 0, none⟩ = false := by rw [hf _ _ (by first | omega | (simp; omega) | simp)]; simp [go_sem, *]
            have f5_2b : w5.frozen? ⟨w4.heap.size, 1, none⟩ = false := by rw [hf _ _ (by first | omega | (simp; omega) | simp)]; simp [go_sem, *]
            have hB5 : Below w.heap.size w w5 := by repeat (first | exact hB4 | refine Below.drew ?_ | refine below_drewN ?_ _ | refine Below.setCell ?_ (by first | omega | (simp; omega) | simp) _ | refine Below.alloc ?_ (by first | omega | (simp; omega) | simp) _ | refine chainB (by assumption) ?_)
            have hs5 : w.heap.size ≤ w5.heap.size := hB5.size
            clear hc hf hb k4_0a k4_0b z4_0 k4_1a k4_1b z4_1 hB4 hs4
            dsimp only
            go_wp2_with fail
            go_meet
            case rel => exact ⟨by first | rfl | (simp; omega), by simp [go_sem, *], by simp [go_sem, *], by simp [go_sem, *], by simp [go_sem, *], by simp [go_sem, *], by simp [go_sem, *], by simp [go_sem, *], by simp [go_sem, *], by first | omega | (simp; omega) | simp, by repeat (first | exact hB5 | refine Below.drew ?_ | refine below_drewN ?_ _ | refine Below.setCell ?_ (by first | omega | (simp; omega) | simp) _ | refine Below.alloc ?_ (by first | omega | (simp; omega) | simp) _ | refine chainB (by assumption) ?_)⟩
          · dsimp only
            go_wp2_with fail
            go_meet
            case rel => exact ⟨by first | rfl | (simp; omega), by simp [go_sem, *], by simp [go_sem, *], by simp [go_sem, *], by simp [go_sem, *], by simp [go_sem, *], by simp [go_sem, *], by simp [go_sem, *], by simp [go_sem, *], by first | omega | (simp; omega) | simp, by repeat (first | exact hB4 | refine Below.drew ?_ | refine below_drewN ?_ _ | refine Below.setCell ?_ (by first | omega | (simp; omega) | simp) _ | refine Below.alloc ?_ (by first | omega | (simp; omega) | simp) _ | refine chainB (by assumption) ?_)⟩
        case rest => as_aux_lemma =>
          obtain ⟨rfl, k5_0a, k5_0b, k5_1a, k5_1b, k5_2a, k5_2b, f5a, f5b, z5, hB5⟩ := hcut
          have hs5 : w.heap.size ≤ wc.heap.size := hB5.size
          have z5b : w.heap.size + 1 < wc.heap.size := by omega
          have z5c : w.heap.size < wc.heap.size := by omega
          clear k4_0a k4_0b z4_0 k4_1a k4_1b z4_1 hB4 hs4
          go_wp2_with fail
          refine (c2 _).mono ?_
          rintro e w6 ⟨rfl, hb⟩
          obtain ⟨hc, hf⟩ := bcell hb
          have k6_0a : w6.cell? ⟨w.heap.size, 0, none⟩ = some (.int .i64 a) := by rw [hc _ _ (by first | omega | (simp; omega) | simp)]; simp [go_sem, *]
          have k6_0b : w6.cell? ⟨w.heap.size, 1, none⟩ = some (.int .i64 b) := by rw [hc _ _ (by first | omega | (simp; omega) | simp)]; simp [go_sem, *]
          have z6_0 : w.heap.size < w6.heap.size := by have := hb.size; (try simp at this); omega
          have k6_1a : w6.cell? ⟨(w.heap.size + 1), 0, none⟩ = some (.int .i64 c) := by rw [hc _ _ (by first | omega | (simp; omega) | simp)]; simp [go_sem, *]
          have k6_1b : w6.cell? ⟨(w.heap.size + 1), 1, none⟩ = some (.int .i64 d) := by rw [hc _ _ (by first | omega | (simp; omega) | simp)]; simp [go_sem, *]
          have z6_1 : (w.heap.size + 1) < w6.heap.size := by have := hb.size; (try simp at this); omega
          have k6_2a : w6.cell? ⟨w4.heap.size, 0, none⟩ = some (.int .i64 k1.lo) := by rw [hc _ _ (by first | omega | (simp; omega) | simp)]; simp [go_sem, *]
          have k6_2b : w6.cell? ⟨w4.heap.size, 1, none⟩ = some (.int .i64 k1.hi) := by rw [hc _ _ (by first | omega | (simp; omega) | simp)]; simp [go_sem, *]
          have z6_2 : w4.heap.size < w6.heap.size := by have := hb.size; (try simp at this); omega
          have f6_2a : w6.frozen? ⟨w4.heap.size, 0, none⟩ = false := by rw [hf _ _ (by first | omega | (simp; omega) | simp)]; simp [go_sem, *]
          have f6_2b : w6.frozen? ⟨w4.heap.size, 1, none⟩ = false := by rw [hf _ _ (by first | omega | (simp; omega) | simp)]; simp [go_sem, *]
          have hB6 : Below w.heap.size w w6 := by repeat (first | exact hB5 | refine Below.drew ?_ | refine below_drewN ?_ _ | refine Below.setCell ?_ (by first | omega | (simp; omega) | simp) _ | refine Below.alloc ?_ (by first | omega | (simp; omega) | simp) _ | refine chainB (by assumption) ?_)
          have hs6 : w.heap.size ≤ w6.heap.size := hB6.size
          clear hc hf hb k5_0a k5_0b k5_1a k5_1b k5_2a k5_2b f5a f5b z5 z5b z5c hB5 hs5
          go_upto_region 8 with fail
          go_cut [22, 85] from 23 (fun s22 s85 wc => s85 = Value.bool false ∧ wc.cell? ⟨w.heap.size, 0, none⟩ = some (.int .i64 a) ∧ wc.cell? ⟨w.heap.size, 1, none⟩ = some (.int .i64 b) ∧ wc.cell? ⟨(w.heap.size + 1), 0, none⟩ = some (.int .i64 c) ∧ wc.cell? ⟨(w.heap.size + 1), 1, none⟩ = some (.int .i64 d) ∧ wc.cell? ⟨w4.heap.size, 0, none⟩ = some (.int .i64 k2.lo) ∧ wc.cell? ⟨w4.heap.size, 1, none⟩ = some (.int .i64 k2.hi) ∧ wc.frozen? ⟨w4.heap.size, 0, none⟩ = false ∧ wc.frozen? ⟨w4.heap.size, 1, none⟩ = false ∧ w4.heap.size < wc.heap.size ∧ Below w.heap.size w wc)
          case first => as_aux_lemma =>
            rcases R2.out with ⟨l, u, rfl, hl1, hl2⟩ | rfl
            · dsimp only
              go_wp2_with fail
              refine (holds_yes l u (x - y) hl1 hl2 _).mono ?_
              rintro e w7 ⟨rfl, hb⟩
              obtain ⟨hc, hf⟩ := bcell hb
              have k7_0a : w7.cell? ⟨w.heap.size, 0, none⟩ = some (.int .i64 a) := by rw [hc _ _ (by first | omega | (simp; omega) | simp)]; simp [go_sem, *]
              have k7_0b : w7.cell? ⟨w.heap.size, 1, none⟩ = some (.int .i64 b) := by rw [hc _ _ (by first | omega | (simp; omega) | simp)]; simp [go_sem, *]
              have z7_0 : w.heap.size < w7.heap.size := by have := hb.size; (try simp at this); omega
              have k7_1a : w7.cell? ⟨(w.heap.size + 1), 0, none⟩ = some (.int .i64 c) := by rw [hc _ _ (by first | omega | (simp; omega) | simp)]; simp [go_sem, *]
              have k7_1b : w7.cell? ⟨(w.heap.size + 1), 1, none⟩ = some (.int .i64 d) := by rw [hc _ _ (by first | omega | (simp; omega) | simp)]; simp [go_sem, *]
              have z7_1 : (w.heap.size + 1) < w7.heap.size := by have := hb.size; (try simp at this); omega
              have k7_2a : w7.cell? ⟨w4.heap.size, 0, none⟩ = some (.int .i64 l) := by rw [hc _ _ (by first | omega | (simp; omega) | simp)]; simp [go_sem, *]
              have k7_2b : w7.cell? ⟨w4.heap.size, 1, none⟩ = some (.int .i64 u) := by rw [hc _ _ (by first | omega | (simp; omega) | simp)]; simp [go_sem, *]
              have z7_2 : w4.heap.size < w7.heap.size := by have := hb.size; (try simp at this); omega
              have f7_2a : w7.frozen? ⟨w4.heap.size, 0, none⟩ = false := by rw [hf _ _ (by first | omega | (simp; omega) | simp)]; simp [go_sem, *]
              have f7_2b : w7.frozen? ⟨w4.heap.size, 1, none⟩ = false := by rw [hf _ _ (by first | omega | (simp; omega) | simp)]; simp [go_sem, *]
              have hB7 : Below w.heap.size w w7 := by repeat (first | exact hB6 | refine Below.drew ?_ | refine below_drewN ?_ _ | refine Below.setCell ?_ (by first | omega | (simp; omega) | simp) _ | refine Below.alloc ?_ (by first | omega | (simp; omega) | simp) _ | refine chainB (by assumption) ?_)
              have hs7 : w.heap.size ≤ w7.heap.size := hB7.size
              clear hc hf hb k6_0a k6_0b z6_0 k6_1a k6_1b z6_1 k6_2a k6_2b z6_2 f6_2a f6_2b hB6 hs6
              dsimp only
              go_wp2_with fail
              go_meet
              case rel => exact ⟨by first | rfl | (simp; omega), by simp [go_sem, *], by simp [go_sem, *], by simp [go_sem, *], by simp [go_sem, *], by simp [go_sem, *], by simp [go_sem, *], by simp [go_sem, *], by simp [go_sem, *], by first | omega | (simp; omega) | simp, by repeat (first | exact hB7 | refine Below.drew ?_ | refine below_drewN ?_ _ | refine Below.setCell ?_ (by first | omega | (simp; omega) | simp) _ | refine Below.alloc ?_ (by first | omega | (simp; omega) | simp) _ | refine chainB (by assumption) ?_)⟩
            · dsimp only
              go_wp2_with fail
              go_meet
              case rel => exact ⟨by first | rfl | (simp; omega), by simp [go_sem, *], by simp [go_sem, *], by simp [go_sem, *], by simp [go_sem, *], by simp [go_sem, *], by simp [go_sem, *], by simp [go_sem, *], by simp [go_sem, *], by first | omega | (simp; omega) | simp, by repeat (first | exact hB6 | refine Below.drew ?_ | refine below_drewN ?_ _ | refine Below.setCell ?_ (by first | omega | (simp; omega) | simp) _ | refine Below.alloc ?_ (by first | omega | (simp; omega) | simp) _ | refine chainB (by assumption) ?_)⟩
          case rest => as_aux_lemma =>
            obtain ⟨rfl, k7_0a, k7_0b, k7_1a, k7_1b, k7_2a, k7_2b, f7a, f7b, z7, hB7⟩ := hcut
            have hs7 : w.heap.size ≤ wc.heap.size := hB7.size
            have z7b : w.heap.size + 1 < wc.heap.size := by omega
            have z7c : w.heap.size < wc.heap.size := by omega
            clear k6_0a k6_0b z6_0 k6_1a k6_1b z6_1 k6_2a k6_2b z6_2 f6_2a f6_2b hB6 hs6
            go_wp2_with fail
            refine (c3 _).mono ?_
            rintro e w8 ⟨rfl, hb⟩
            obtain ⟨hc, hf⟩ := bcell hb
            have k8_0a : w8.cell? ⟨w.heap.size, 0, none⟩ = some (.int .i64 a) := by rw [hc _ _ (by first | omega | (simp; omega) | simp)]; simp [go_sem, *]
            have k8_0b : w8.cell? ⟨w.heap.size, 1, none⟩ = some (.int .i64 b) := by rw [hc _ _ (by first | omega | (simp; omega) | simp)]; simp [go_sem, *]
            have z8_0 : w.heap.size < w8.heap.size := by have := hb.size; (try simp at this); omega
            have k8_1a : w8.cell? ⟨(w.heap.size + 1), 0, none⟩ = some (.int .i64 c) := by rw [hc _ _ (by first | omega | (simp; omega) | simp)]; simp [go_sem, *]
            have k8_1b : w8.cell? ⟨(w.heap.size + 1), 1, none⟩ = some (.int .i64 d) := by rw [hc _ _ (by first | omega | (simp; omega) | simp)]; simp [go_sem, *]
            have z8_1 : (w.heap.size + 1) < w8.heap.size := by have := hb.size; (try simp at this); omega
            have k8_2a : w8.cell? ⟨w4.heap.size, 0, none⟩ = some (.int .i64 k2.lo) := by rw [hc _ _ (by first | omega | (simp; omega) | simp)]; simp [go_sem, *]
            have k8_2b : w8.cell? ⟨w4.heap.size, 1, none⟩ = some (.int .i64 k2.hi) := by rw [hc _ _ (by first | omega | (simp; omega) | simp)]; simp [go_sem, *]
            have z8_2 : w4.heap.size < w8.heap.size := by have := hb.size; (try simp at this); omega
            have f8_2a : w8.frozen? ⟨w4.heap.size, 0, none⟩ = false := by rw [hf _ _ (by first | omega | (simp; omega) | simp)]; simp [go_sem, *]
            have f8_2b : w8.frozen? ⟨w4.heap.size, 1, none⟩ = false := by rw [hf _ _ (by first | omega | (simp; omega) | simp)]; simp [go_sem, *]
            have hB8 : Below w.heap.size w w8 := by repeat (first | exact hB7 | refine Below.drew ?_ | refine below_drewN ?_ _ | refine Below.setCell ?_ (by first | omega | (simp; omega) | simp) _ | refine Below.alloc ?_ (by first | omega | (simp; omega) | simp) _ | refine chainB (by assumption) ?_)
            have hs8 : w.heap.size ≤ w8.heap.size := hB8.size
            clear hc hf hb k7_0a k7_0b k7_1a k7_1b k7_2a k7_2b f7a f7b z7 z7b z7c hB7 hs7
            go_upto_region 11 with fail
            go_cut [22, 109] from 23 (fun s22 s109 wc => s109 = Value.bool false ∧ wc.cell? ⟨w.heap.size, 0, none⟩ = some (.int .i64 a) ∧ wc.cell? ⟨w.heap.size, 1, none⟩ = some (.int .i64 b) ∧ wc.cell? ⟨(w.heap.size + 1), 0, none⟩ = some (.int .i64 c) ∧ wc.cell? ⟨(w.heap.size + 1), 1, none⟩ = some (.int .i64 d) ∧ wc.cell? ⟨w4.heap.size, 0, none⟩ = some (.int .i64 k3.lo) ∧ wc.cell? ⟨w4.heap.size, 1, none⟩ = some (.int .i64 k3.hi) ∧ wc.frozen? ⟨w4.heap.size, 0, none⟩ = false ∧ wc.frozen? ⟨w4.heap.size, 1, none⟩ = false ∧ w4.heap.size < wc.heap.size ∧ Below w.heap.size w wc)
            case first => as_aux_lemma =>
              rcases R3.out with ⟨l, u, rfl, hl1, hl2⟩ | rfl
              · dsimp only
                go_wp2_with fail
                refine (holds_yes l u (x * y) hl1 hl2 _).mono ?_
                rintro e w9 ⟨rfl, hb⟩
                obtain ⟨hc, hf⟩ := bcell hb
                have k9_0a : w9.cell? ⟨w.heap.size, 0, none⟩ = some (.int .i64 a) := by rw [hc _ _ (by first | omega | (simp; omega) | simp)]; simp [go_sem, *]
                have k9_0b : w9.cell? ⟨w.heap.size, 1, none⟩ = some (.int .i64 b) := by rw [hc _ _ (by first | omega | (simp; omega) | simp)]; simp [go_sem, *]
                have z9_0 : w.heap.size < w9.heap.size := by have := hb.size; (try simp at this); omega
                have k9_1a : w9.cell? ⟨(w.heap.size + 1), 0, none⟩ = some (.int .i64 c) := by rw [hc _ _ (by first | omega | (simp; omega) | simp)]; simp [go_sem, *]
                have k9_1b : w9.cell? ⟨(w.heap.size + 1), 1, none⟩ = some (.int .i64 d) := by rw [hc _ _ (by first | omega | (simp; omega) | simp)]; simp [go_sem, *]
                have z9_1 : (w.heap.size + 1) < w9.heap.size := by have := hb.size; (try simp at this); omega
                have k9_2a : w9.cell? ⟨w4.heap.size, 0, none⟩ = some (.int .i64 l) := by rw [hc _ _ (by first | omega | (simp; omega) | simp)]; simp [go_sem, *]
                have k9_2b : w9.cell? ⟨w4.heap.size, 1, none⟩ = some (.int .i64 u) := by rw [hc _ _ (by first | omega | (simp; omega) | simp)]; simp [go_sem, *]
                have z9_2 : w4.heap.size < w9.heap.size := by have := hb.size; (try simp at this); omega
                have f9_2a : w9.frozen? ⟨w4.heap.size, 0, none⟩ = false := by rw [hf _ _ (by first | omega | (simp; omega) | simp)]; simp [go_sem, *]
                have f9_2b : w9.frozen? ⟨w4.heap.size, 1, none⟩ = false := by rw [hf _ _ (by first | omega | (simp; omega) | simp)]; simp [go_sem, *]
                have hB9 : Below w.heap.size w w9 := by repeat (first | exact hB8 | refine Below.drew ?_ | refine below_drewN ?_ _ | refine Below.setCell ?_ (by first | omega | (simp; omega) | simp) _ | refine Below.alloc ?_ (by first | omega | (simp; omega) | simp) _ | refine chainB (by assumption) ?_)
                have hs9 : w.heap.size ≤ w9.heap.size := hB9.size
                clear hc hf hb k8_0a k8_0b z8_0 k8_1a k8_1b z8_1 k8_2a k8_2b z8_2 f8_2a f8_2b hB8 hs8
                dsimp only
                go_wp2_with fail
                go_meet
                case rel => exact ⟨by first | rfl | (simp; omega), by simp [go_sem, *], by simp [go_sem, *], by simp [go_sem, *], by simp [go_sem, *], by simp [go_sem, *], by simp [go_sem, *], by simp [go_sem, *], by simp [go_sem, *], by first | omega | (simp; omega) | simp, by repeat (first | exact hB9 | refine Below.drew ?_ | refine below_drewN ?_ _ | refine Below.setCell ?_ (by first | omega | (simp; omega) | simp) _ | refine Below.alloc ?_ (by first | omega | (simp; omega) | simp) _ | refine chainB (by assumption) ?_)⟩
              · dsimp only
                go_wp2_with fail
                go_meet
                case rel => exact ⟨by first | rfl | (simp; omega), by simp [go_sem, *], by simp [go_sem, *], by simp [go_sem, *], by simp [go_sem, *], by simp [go_sem, *], by simp [go_sem, *], by simp [go_sem, *], by simp [go_sem, *], by first | omega | (simp; omega) | simp, by repeat (first | exact hB8 | refine Below.drew ?_ | refine below_drewN ?_ _ | refine Below.setCell ?_ (by first | omega | (simp; omega) | simp) _ | refine Below.alloc ?_ (by first | omega | (simp; omega) | simp) _ | refine chainB (by assumption) ?_)⟩
            case rest => as_aux_lemma =>
              obtain ⟨rfl, k9_0a, k9_0b, k9_1a, k9_1b, k9_2a, k9_2b, f9a, f9b, z9, hB9⟩ := hcut
              have hs9 : w.heap.size ≤ wc.heap.size := hB9.size
              have z9b : w.heap.size + 1 < wc.heap.size := by omega
              have z9c : w.heap.size < wc.heap.size := by omega
              clear k8_0a k8_0b z8_0 k8_1a k8_1b z8_1 k8_2a k8_2b z8_2 f8_2a f8_2b hB8 hs8
              go_wp2_with fail
              refine (c4 _).mono ?_
              rintro e w10 ⟨rfl, hb⟩
              obtain ⟨hc, hf⟩ := bcell hb
              have k10_0a : w10.cell? ⟨w.heap.size, 0, none⟩ = some (.int .i64 a) := by rw [hc _ _ (by first | omega | (simp; omega) | simp)]; simp [go_sem, *]
              have k10_0b : w10.cell? ⟨w.heap.size, 1, none⟩ = some (.int .i64 b) := by rw [hc _ _ (by first | omega | (simp; omega) | simp)]; simp [go_sem, *]
              have z10_0 : w.heap.size < w10.heap.size := by have := hb.size; (try simp at this); omega
              have k10_1a : w10.cell? ⟨(w.heap.size + 1), 0, none⟩ = some (.int .i64 c) := by rw [hc _ _ (by first | omega | (simp; omega) | simp)]; simp [go_sem, *]
              have k10_1b : w10.cell? ⟨(w.heap.size + 1), 1, none⟩ = some (.int .i64 d) := by rw [hc _ _ (by first | omega | (simp; omega) | simp)]; simp [go_sem, *]
              have z10_1 : (w.heap.size + 1) < w10.heap.size := by have := hb.size; (try simp at this); omega
              have k10_2a : w10.cell? ⟨w4.heap.size, 0, none⟩ = some (.int .i64 k3.lo) := by rw [hc _ _ (by first | omega | (simp; omega) | simp)]; simp [go_sem, *]
              have k10_2b : w10.cell? ⟨w4.heap.size, 1, none⟩ = some (.int .i64 k3.hi) := by rw [hc _ _ (by first | omega | (simp; omega) | simp)]; simp [go_sem, *]
              have z10_2 : w4.heap.size < w10.heap.size := by have := hb.size; (try simp at this); omega
              have f10_2a : w10.frozen? ⟨w4.heap.size, 0, none⟩ = false := by rw [hf _ _ (by first | omega | (simp; omega) | simp)]; simp [go_sem, *]
              have f10_2b : w10.frozen? ⟨w4.heap.size, 1, none⟩ = false := by rw [hf _ _ (by first | omega | (simp; omega) | simp)]; simp [go_sem, *]
              have hB10 : Below w.heap.size w w10 := by repeat (first | exact hB9 | refine Below.drew ?_ | refine below_drewN ?_ _ | refine Below.setCell ?_ (by first | omega | (simp; omega) | simp) _ | refine Below.alloc ?_ (by first | omega | (simp; omega) | simp) _ | refine chainB (by assumption) ?_)
              have hs10 : w.heap.size ≤ w10.heap.size := hB10.size
              clear hc hf hb k9_0a k9_0b k9_1a k9_1b k9_2a k9_2b f9a f9b z9 z9b z9c hB9 hs9
              go_upto_region 14 with fail
              go_cut [22, 135] from 23 (fun s22 s135 wc => s135 = Value.bool false ∧ wc.cell? ⟨w.heap.size, 0, none⟩ = some (.int .i64 a) ∧ wc.cell? ⟨w.heap.size, 1, none⟩ = some (.int .i64 b) ∧ wc.cell? ⟨(w.heap.size + 1), 0, none⟩ = some (.int .i64 c) ∧ wc.cell? ⟨(w.heap.size + 1), 1, none⟩ = some (.int .i64 d) ∧ wc.cell? ⟨w4.heap.size, 0, none⟩ = some (.int .i64 k4.lo) ∧ wc.cell? ⟨w4.heap.size, 1, none⟩ = some (.int .i64 k4.hi) ∧ wc.frozen? ⟨w4.heap.size, 0, none⟩ = false ∧ wc.frozen? ⟨w4.heap.size, 1, none⟩ = false ∧ w4.heap.size < wc.heap.size ∧ Below w.heap.size w wc)
              case first => as_aux_lemma =>
                rcases R4.out with ⟨l, u, rfl, hl1, hl2, hl3, hl4⟩ | ⟨rfl, hz1, hz2⟩
                · dsimp only
                  go_wp2_with fail
                  refine (between_yes l u x y hl4 hl1 (by omega) (by omega) (by omega) (by omega) _).mono ?_
                  rintro e w11 ⟨rfl, hb⟩
                  obtain ⟨hc, hf⟩ := bcell hb
                  have k11_0a : w11.cell? ⟨w.heap.size, 0, none⟩ = some (.int .i64 a) := by rw [hc _ _ (by first | omega | (simp; omega) | simp)]; simp [go_sem, *]
                  have k11_0b : w11.cell? ⟨w.heap.size, 1, none⟩ = some (.int .i64 b) := by rw [hc _ _ (by first | omega | (simp; omega) | simp)]; simp [go_sem, *]
                  have z11_0 : w.heap.size < w11.heap.size := by have := hb.size; (try simp at this); omega
                  have k11_1a : w11.cell? ⟨(w.heap.size + 1), 0, none⟩ = some (.int .i64 c) := by rw [hc _ _ (by first | omega | (simp; omega) | simp)]; simp [go_sem, *]
                  have k11_1b : w11.cell? ⟨(w.heap.size + 1), 1, none⟩ = some (.int .i64 d) := by rw [hc _ _ (by first | omega | (simp; omega) | simp)]; simp [go_sem, *]
                  have z11_1 : (w.heap.size + 1) < w11.heap.size := by have := hb.size; (try simp at this); omega
                  have k11_2a : w11.cell? ⟨w4.heap.size, 0, none⟩ = some (.int .i64 l) := by rw [hc _ _ (by first | omega | (simp; omega) | simp)]; simp [go_sem, *]
                  have k11_2b : w11.cell? ⟨w4.heap.size, 1, none⟩ = some (.int .i64 u) := by rw [hc _ _ (by first | omega | (simp; omega) | simp)]; simp [go_sem, *]
                  have z11_2 : w4.heap.size < w11.heap.size := by have := hb.size; (try simp at this); omega
                  have f11_2a : w11.frozen? ⟨w4.heap.size, 0, none⟩ = false := by rw [hf _ _ (by first | omega | (simp; omega) | simp)]; simp [go_sem, *]
                  have f11_2b : w11.frozen? ⟨w4.heap.size, 1, none⟩ = false := by rw [hf _ _ (by first | omega | (simp; omega) | simp)]; simp [go_sem, *]
                  have hB11 : Below w.heap.size w w11 := by repeat (first | exact hB10 | refine Below.drew ?_ | refine below_drewN ?_ _ | refine Below.setCell ?_ (by first | omega | (simp; omega) | simp) _ | refine Below.alloc ?_ (by first | omega | (simp; omega) | simp) _ | refine chainB (by assumption) ?_)
                  have hs11 : w.heap.size ≤ w11.heap.size := hB11.size
                  clear hc hf hb k10_0a k10_0b z10_0 k10_1a k10_1b z10_1 k10_2a k10_2b z10_2 f10_2a f10_2b hB10 hs10
                  dsimp only
                  go_wp2_with fail
                  refine (holds_no c d 0 hl3 _).mono ?_
                  rintro e w12 ⟨rfl, hb⟩
                  obtain ⟨hc, hf⟩ := bcell hb
                  have k12_0a : w12.cell? ⟨w.heap.size, 0, none⟩ = some (.int .i64 a) := by rw [hc _ _ (by first | omega | (simp; omega) | simp)]; simp [go_sem, *]
                  have k12_0b : w12.cell? ⟨w.heap.size, 1, none⟩ = some (.int .i64 b) := by rw [hc _ _ (by first | omega | (simp; omega) | simp)]; simp [go_sem, *]
                  have z12_0 : w.heap.size < w12.heap.size := by have := hb.size; (try simp at this); omega
                  have k12_1a : w12.cell? ⟨(w.heap.size + 1), 0, none⟩ = some (.int .i64 c) := by rw [hc _ _ (by first | omega | (simp; omega) | simp)]; simp [go_sem, *]
                  have k12_1b : w12.cell? ⟨(w.heap.size + 1), 1, none⟩ = some (.int .i64 d) := by rw [hc _ _ (by first | omega | (simp; omega) | simp)]; simp [go_sem, *]
                  have z12_1 : (w.heap.size + 1) < w12.heap.size := by have := hb.size; (try simp at this); omega
                  have k12_2a : w12.cell? ⟨w4.heap.size, 0, none⟩ = some (.int .i64 l) := by rw [hc _ _ (by first | omega | (simp; omega) | simp)]; simp [go_sem, *]
                  have k12_2b : w12.cell? ⟨w4.heap.size, 1, none⟩ = some (.int .i64 u) := by rw [hc _ _ (by first | omega | (simp; omega) | simp)]; simp [go_sem, *]
                  have z12_2 : w4.heap.size < w12.heap.size := by have := hb.size; (try simp at this); omega
                  have f12_2a : w12.frozen? ⟨w4.heap.size, 0, none⟩ = false := by rw [hf _ _ (by first | omega | (simp; omega) | simp)]; simp [go_sem, *]
                  have f12_2b : w12.frozen? ⟨w4.heap.size, 1, none⟩ = false := by rw [hf _ _ (by first | omega | (simp; omega) | simp)]; simp [go_sem, *]
                  have hB12 : Below w.heap.size w w12 := by repeat (first | exact hB11 | refine Below.drew ?_ | refine below_drewN ?_ _ | refine Below.setCell ?_ (by first | omega | (simp; omega) | simp) _ | refine Below.alloc ?_ (by first | omega | (simp; omega) | simp) _ | refine chainB (by assumption) ?_)
                  have hs12 : w.heap.size ≤ w12.heap.size := hB12.size
                  clear hc hf hb k11_0a k11_0b z11_0 k11_1a k11_1b z11_1 k11_2a k11_2b z11_2 f11_2a f11_2b hB11 hs11
                  dsimp only
                  go_wp2_with fail
                  go_meet
                  case rel => exact ⟨by first | rfl | (simp; omega), by simp [go_sem, *], by simp [go_sem, *], by simp [go_sem, *], by simp [go_sem, *], by simp [go_sem, *], by simp [go_sem, *], by simp [go_sem, *], by simp [go_sem, *], by first | omega | (simp; omega) | simp, by repeat (first | exact hB12 | refine Below.drew ?_ | refine below_drewN ?_ _ | refine Below.setCell ?_ (by first | omega | (simp; omega) | simp) _ | refine Below.alloc ?_ (by first | omega | (simp; omega) | simp) _ | refine chainB (by assumption) ?_)⟩
                · dsimp only
                  go_wp2_with fail
                  refine (holds_yes c d 0 hz1 hz2 _).mono ?_
                  rintro e w11 ⟨rfl, hb⟩
                  obtain ⟨hc, hf⟩ := bcell hb
                  have k11_0a : w11.cell? ⟨w.heap.size, 0, none⟩ = some (.int .i64 a) := by rw [hc _ _ (by first | omega | (simp; omega) | simp)]; simp [go_sem, *]
                  have k11_0b : w11.cell? ⟨w.heap.size, 1, none⟩ = some (.int .i64 b) := by rw [hc _ _ (by first | omega | (simp; omega) | simp)]; simp [go_sem, *]
                  have z11_0 : w.heap.size < w11.heap.size := by have := hb.size; (try simp at this); omega
                  have k11_1a : w11.cell? ⟨(w.heap.size + 1), 0, none⟩ = some (.int .i64 c) := by rw [hc _ _ (by first | omega | (simp; omega) | simp)]; simp [go_sem, *]
                  have k11_1b : w11.cell? ⟨(w.heap.size + 1), 1, none⟩ = some (.int .i64 d) := by rw [hc _ _ (by first | omega | (simp; omega) | simp)]; simp [go_sem, *]
                  have z11_1 : (w.heap.size + 1) < w11.heap.size := by have := hb.size; (try simp at this); omega
                  have k11_2a : w11.cell? ⟨w4.heap.size, 0, none⟩ = some (.int .i64 0) := by rw [hc _ _ (by first | omega | (simp; omega) | simp)]; simp [go_sem, *]
                  have k11_2b : w11.cell? ⟨w4.heap.size, 1, none⟩ = some (.int .i64 0) := by rw [hc _ _ (by first | omega | (simp; omega) | simp)]; simp [go_sem, *]
                  have z11_2 : w4.heap.size < w11.heap.size := by have := hb.size; (try simp at this); omega
                  have f11_2a : w11.frozen? ⟨w4.heap.size, 0, none⟩ = false := by rw [hf _ _ (by first | omega | (simp; omega) | simp)]; simp [go_sem, *]
                  have f11_2b : w11.frozen? ⟨w4.heap.size, 1, none⟩ = false := by rw [hf _ _ (by first | omega | (simp; omega) | simp)]; simp [go_sem, *]
                  have hB11 : Below w.heap.size w w11 := by repeat (first | exact hB10 | refine Below.drew ?_ | refine below_drewN ?_ _ | refine Below.setCell ?_ (by first | omega | (simp; omega) | simp) _ | refine Below.alloc ?_ (by first | omega | (simp; omega) | simp) _ | refine chainB (by assumption) ?_)
                  have hs11 : w.heap.size ≤ w11.heap.size := hB11.size
                  clear hc hf hb k10_0a k10_0b z10_0 k10_1a k10_1b z10_1 k10_2a k10_2b z10_2 f10_2a f10_2b hB10 hs10
                  dsimp only
                  go_wp2_with fail
                  go_meet
                  case rel => exact ⟨by first | rfl | (simp; omega), by simp [go_sem, *], by simp [go_sem, *], by simp [go_sem, *], by simp [go_sem, *], by simp [go_sem, *], by simp [go_sem, *], by simp [go_sem, *], by simp [go_sem, *], by first | omega | (simp; omega) | simp, by repeat (first | exact hB11 | refine Below.drew ?_ | refine below_drewN ?_ _ | refine Below.setCell ?_ (by first | omega | (simp; omega) | simp) _ | refine Below.alloc ?_ (by first | omega | (simp; omega) | simp) _ | refine chainB (by assumption) ?_)⟩
              case rest => as_aux_lemma =>
                obtain ⟨rfl, k11_0a, k11_0b, k11_1a, k11_1b, k11_2a, k11_2b, f11a, f11b, z11, hB11⟩ := hcut
                have hs11 : w.heap.size ≤ wc.heap.size := hB11.size
                have z11b : w.heap.size + 1 < wc.heap.size := by omega
                have z11c : w.heap.size < wc.heap.size := by omega
                clear k10_0a k10_0b z10_0 k10_1a k10_1b z10_1 k10_2a k10_2b z10_2 f10_2a f10_2b hB10 hs10
                go_wp2_with fail
                refine (c5 _).mono ?_
                rintro e w12 ⟨rfl, hb⟩
                obtain ⟨hc, hf⟩ := bcell hb
                have k12_0a : w12.cell? ⟨w.heap.size, 0, none⟩ = some (.int .i64 a) := by rw [hc _ _ (by first | omega | (simp; omega) | simp)]; simp [go_sem, *]
                have k12_0b : w12.cell? ⟨w.heap.size, 1, none⟩ = some (.int .i64 b) := by rw [hc _ _ (by first | omega | (simp; omega) | simp)]; simp [go_sem, *]
                have z12_0 : w.heap.size < w12.heap.size := by have := hb.size; (try simp at this); omega
                have k12_1a : w12.cell? ⟨(w.heap.size + 1), 0, none⟩ = some (.int .i64 c) := by rw [hc _ _ (by first | omega | (simp; omega) | simp)]; simp [go_sem, *]
                have k12_1b : w12.cell? ⟨(w.heap.size + 1), 1, none⟩ = some (.int .i64 d) := by rw [hc _ _ (by first | omega | (simp; omega) | simp)]; simp [go_sem, *]
                have z12_1 : (w.heap.size + 1) < w12.heap.size := by have := hb.size; (try simp at this); omega
                have k12_2a : w12.cell? ⟨w4.heap.size, 0, none⟩ = some (.int .i64 k4.lo) := by rw [hc _ _ (by first | omega | (simp; omega) | simp)]; simp [go_sem, *]
                have k12_2b : w12.cell? ⟨w4.heap.size, 1, none⟩ = some (.int .i64 k4.hi) := by rw [hc _ _ (by first | omega | (simp; omega) | simp)]; simp [go_sem, *]
                have z12_2 : w4.heap.size < w12.heap.size := by have := hb.size; (try simp at this); omega
                have f12_2a : w12.frozen? ⟨w4.heap.size, 0, none⟩ = false := by rw [hf _ _ (by first | omega | (simp; omega) | simp)]; simp [go_sem, *]
                have f12_2b : w12.frozen? ⟨w4.heap.size, 1, none⟩ = false := by rw [hf _ _ (by first | omega | (simp; omega) | simp)]; simp [go_sem, *]
                have hB12 : Below w.heap.size w w12 := by repeat (first | exact hB11 | refine Below.drew ?_ | refine below_drewN ?_ _ | refine Below.setCell ?_ (by first | omega | (simp; omega) | simp) _ | refine Below.alloc ?_ (by first | omega | (simp; omega) | simp) _ | refine chainB (by assumption) ?_)
                have hs12 : w.heap.size ≤ w12.heap.size := hB12.size
                clear hc hf hb k11_0a k11_0b k11_1a k11_1b k11_2a k11_2b f11a f11b z11 z11b z11c hB11 hs11
                go_upto_region 17 with fail
                go_cut [22, 173] from 23 (fun s22 s173 wc => s173 = Value.bool false ∧ wc.cell? ⟨w.heap.size, 0, none⟩ = some (.int .i64 a) ∧ wc.cell? ⟨w.heap.size, 1, none⟩ = some (.int .i64 b) ∧ wc.cell? ⟨(w.heap.size + 1), 0, none⟩ = some (.int .i64 c) ∧ wc.cell? ⟨(w.heap.size + 1), 1, none⟩ = some (.int .i64 d) ∧ wc.cell? ⟨w4.heap.size, 0, none⟩ = some (.int .i64 k5.lo) ∧ wc.cell? ⟨w4.heap.size, 1, none⟩ = some (.int .i64 k5.hi) ∧ wc.frozen? ⟨w4.heap.size, 0, none⟩ = false ∧ wc.frozen? ⟨w4.heap.size, 1, none⟩ = false ∧ w4.heap.size < wc.heap.size ∧ Below w.heap.size w wc)
                case first => as_aux_lemma =>
                  rcases R5.out with ⟨l, u, rfl, hl1, hl2, hl3, hl4, hl5, hl6, hl7, hl8⟩ | ⟨rfl, hz1⟩
                  · have hl9 : 0 ≤ l * l := Int.mul_nonneg hl2 hl2
                    dsimp only
                    go_wp2_with fail
                    go_meet
                    case rel => exact ⟨by first | rfl | (simp; omega), by simp [go_sem, *], by simp [go_sem, *], by simp [go_sem, *], by simp [go_sem, *], by simp [go_sem, *], by simp [go_sem, *], by simp [go_sem, *], by simp [go_sem, *], by first | omega | (simp; omega) | simp, by repeat (first | exact hB12 | refine Below.drew ?_ | refine below_drewN ?_ _ | refine Below.setCell ?_ (by first | omega | (simp; omega) | simp) _ | refine Below.alloc ?_ (by first | omega | (simp; omega) | simp) _ | refine chainB (by assumption) ?_)⟩
                  · dsimp only
                    go_wp2_with fail
                    go_meet
                    case rel => exact ⟨by first | rfl | (simp; omega), by simp [go_sem, *], by simp [go_sem, *], by simp [go_sem, *], by simp [go_sem, *], by simp [go_sem, *], by simp [go_sem, *], by simp [go_sem, *], by simp [go_sem, *], by first | omega | (simp; omega) | simp, by repeat (first | exact hB12 | refine Below.drew ?_ | refine below_drewN ?_ _ | refine Below.setCell ?_ (by first | omega | (simp; omega) | simp) _ | refine Below.alloc ?_ (by first | omega | (simp; omega) | simp) _ | refine chainB (by assumption) ?_)⟩
                case rest => as_aux_lemma =>
                  obtain ⟨rfl, k13_0a, k13_0b, k13_1a, k13_1b, k13_2a, k13_2b, f13a, f13b, z13, hB13⟩ := hcut
                  have hs13 : w.heap.size ≤ wc.heap.size := hB13.size
                  have z13b : w.heap.size + 1 < wc.heap.size := by omega
                  have z13c : w.heap.size < wc.heap.size := by omega
                  clear k12_0a k12_0b z12_0 k12_1a k12_1b z12_1 k12_2a k12_2b z12_2 f12_2a f12_2b hB12 hs12
                  go_wp2_with fail
                  refine (c6 _).mono ?_
                  rintro e w14 ⟨rfl, hb⟩
                  obtain ⟨hc, hf⟩ := bcell hb
                  have k14_0a : w14.cell? ⟨w.heap.size, 0, none⟩ = some (.int .i64 a) := by rw [hc _ _ (by first | omega | (simp; omega) | simp)]; simp [go_sem, *]
                  have k14_0b : w14.cell? ⟨w.heap.size, 1, none⟩ = some (.int .i64 b) := by rw [hc _ _ (by first | omega | (simp; omega) | simp)]; simp [go_sem, *]
                  have z14_0 : w.heap.size < w14.heap.size := by have := hb.size; (try simp at this); omega
                  have k14_1a : w14.cell? ⟨(w.heap.size + 1), 0, none⟩ = some (.int .i64 c) := by rw [hc _ _ (by first | omega | (simp; omega) | simp)]; simp [go_sem, *]
                  have k14_1b : w14.cell? ⟨(w.heap.size + 1), 1, none⟩ = some (.int .i64 d) := by rw [hc _ _ (by first | omega | (simp; omega) | simp)]; simp [go_sem, *]
                  have z14_1 : (w.heap.size + 1) < w14.heap.size := by have := hb.size; (try simp at this); omega
                  have k14_2a : w14.cell? ⟨w4.heap.size, 0, none⟩ = some (.int .i64 k5.lo) := by rw [hc _ _ (by first | omega | (simp; omega) | simp)]; simp [go_sem, *]
                  have k14_2b : w14.cell? ⟨w4.heap.size, 1, none⟩ = some (.int .i64 k5.hi) := by rw [hc _ _ (by first | omega | (simp; omega) | simp)]; simp [go_sem, *]
                  have z14_2 : w4.heap.size < w14.heap.size := by have := hb.size; (try simp at this); omega
                  have f14_2a : w14.frozen? ⟨w4.heap.size, 0, none⟩ = false := by rw [hf _ _ (by first | omega | (simp; omega) | simp)]; simp [go_sem, *]
                  have f14_2b : w14.frozen? ⟨w4.heap.size, 1, none⟩ = false := by rw [hf _ _ (by first | omega | (simp; omega) | simp)]; simp [go_sem, *]
                  have hB14 : Below w.heap.size w w14 := by repeat (first | exact hB13 | refine Below.drew ?_ | refine below_drewN ?_ _ | refine Below.setCell ?_ (by first | omega | (simp; omega) | simp) _ | refine Below.alloc ?_ (by first | omega | (simp; omega) | simp) _ | refine chainB (by assumption) ?_)
                  have hs14 : w.heap.size ≤ w14.heap.size := hB14.size
                  clear hc hf hb k13_0a k13_0b k13_1a k13_1b k13_2a k13_2b f13a f13b z13 z13b z13c hB13 hs13
                  go_upto_region 20 with fail
                  go_cut [22, 195] from 23 (fun s22 s195 wc => s195 = Value.bool false ∧ wc.cell? ⟨w.heap.size, 0, none⟩ = some (.int .i64 a) ∧ wc.cell? ⟨w.heap.size, 1, none⟩ = some (.int .i64 b) ∧ wc.cell? ⟨(w.heap.size + 1), 0, none⟩ = some (.int .i64 c) ∧ wc.cell? ⟨(w.heap.size + 1), 1, none⟩ = some (.int .i64 d) ∧ wc.cell? ⟨w4.heap.size, 0, none⟩ = some (.int .i64 k6.lo) ∧ wc.cell? ⟨w4.heap.size, 1, none⟩ = some (.int .i64 k6.hi) ∧ wc.frozen? ⟨w4.heap.size, 0, none⟩ = false ∧ wc.frozen? ⟨w4.heap.size, 1, none⟩ = false ∧ w4.heap.size < wc.heap.size ∧ Below w.heap.size w wc)
                  case first => as_aux_lemma =>
                    rcases R6.out with ⟨l, u, rfl, hl1, hl2, hl3, hl4, hl5, hl6⟩ | ⟨er, rfl, hz1⟩
                    · obtain ⟨hl7, hl8⟩ := prod_bd x n (by omega) (by omega) (by omega) (by omega)
                      dsimp only
                      go_wp2_with fail
                      refine (between_yes l u (x * n) m hl6 hl1 (by omega) (by omega) (by omega) (by omega) _).mono ?_
                      rintro e w15 ⟨rfl, hb⟩
                      obtain ⟨hc, hf⟩ := bcell hb
                      have k15_0a : w15.cell? ⟨w.heap.size, 0, none⟩ = some (.int .i64 a) := by rw [hc _ _ (by first | omega | (simp; omega) | simp)]; simp [go_sem, *]
                      have k15_0b : w15.cell? ⟨w.heap.size, 1, none⟩ = some (.int .i64 b) := by rw [hc _ _ (by first | omega | (simp; omega) | simp)]; simp [go_sem, *]
                      have z15_0 : w.heap.size < w15.heap.size := by have := hb.size; (try simp at this); omega
                      have k15_1a : w15.cell? ⟨(w.heap.size + 1), 0, none⟩ = some (.int .i64 c) := by rw [hc _ _ (by first | omega | (simp; omega) | simp)]; simp [go_sem, *]
                      have k15_1b : w15.cell? ⟨(w.heap.size + 1), 1, none⟩ = some (.int .i64 d) := by rw [hc _ _ (by first | omega | (simp; omega) | simp)]; simp [go_sem, *]
                      have z15_1 : (w.heap.size + 1) < w15.heap.size := by have := hb.size; (try simp at this); omega
                      have k15_2a : w15.cell? ⟨w4.heap.size, 0, none⟩ = some (.int .i64 l) := by rw [hc _ _ (by first | omega | (simp; omega) | simp)]; simp [go_sem, *]
                      have k15_2b : w15.cell? ⟨w4.heap.size, 1, none⟩ = some (.int .i64 u) := by rw [hc _ _ (by first | omega | (simp; omega) | simp)]; simp [go_sem, *]
                      have z15_2 : w4.heap.size < w15.heap.size := by have := hb.size; (try simp at this); omega
                      have f15_2a : w15.frozen? ⟨w4.heap.size, 0, none⟩ = false := by rw [hf _ _ (by first | omega | (simp; omega) | simp)]; simp [go_sem, *]
                      have f15_2b : w15.frozen? ⟨w4.heap.size, 1, none⟩ = false := by rw [hf _ _ (by first | omega | (simp; omega) | simp)]; simp [go_sem, *]
                      have hB15 : Below w.heap.size w w15 := by repeat (first | exact hB14 | refine Below.drew ?_ | refine below_drewN ?_ _ | refine Below.setCell ?_ (by first | omega | (simp; omega) | simp) _ | refine Below.alloc ?_ (by first | omega | (simp; omega) | simp) _ | refine chainB (by assumption) ?_)
                      have hs15 : w.heap.size ≤ w15.heap.size := hB15.size
                      clear hc hf hb k14_0a k14_0b z14_0 k14_1a k14_1b z14_1 k14_2a k14_2b z14_2 f14_2a f14_2b hB14 hs14
                      dsimp only
                      go_wp2_with fail
                      go_meet
                      case rel => exact ⟨by first | rfl | (simp; omega), by simp [go_sem, *], by simp [go_sem, *], by simp [go_sem, *], by simp [go_sem, *], by simp [go_sem, *], by simp [go_sem, *], by simp [go_sem, *], by simp [go_sem, *], by first | omega | (simp; omega) | simp, by repeat (first | exact hB15 | refine Below.drew ?_ | refine below_drewN ?_ _ | refine Below.setCell ?_ (by first | omega | (simp; omega) | simp) _ | refine Below.alloc ?_ (by first | omega | (simp; omega) | simp) _ | refine chainB (by assumption) ?_)⟩
                    · dsimp only
                      go_wp2_with fail
                      go_meet
                      case rel => exact ⟨by first | rfl | (simp; omega), by simp [go_sem, *], by simp [go_sem, *], by simp [go_sem, *], by simp [go_sem, *], by simp [go_sem, *], by simp [go_sem, *], by simp [go_sem, *], by simp [go_sem, *], by first | omega | (simp; omega) | simp, by repeat (first | exact hB14 | refine Below.drew ?_ | refine below_drewN ?_ _ | refine Below.setCell ?_ (by first | omega | (simp; omega) | simp) _ | refine Below.alloc ?_ (by first | omega | (simp; omega) | simp) _ | refine chainB (by assumption) ?_)⟩
                  case rest => as_aux_lemma =>
                    obtain ⟨rfl, k15_0a, k15_0b, k15_1a, k15_1b, k15_2a, k15_2b, f15a, f15b, z15, hB15⟩ := hcut
                    have hs15 : w.heap.size ≤ wc.heap.size := hB15.size
                    have z15b : w.heap.size + 1 < wc.heap.size := by omega
                    have z15c : w.heap.size < wc.heap.size := by omega
                    clear k14_0a k14_0b z14_0 k14_1a k14_1b z14_1 k14_2a k14_2b z14_2 f14_2a f14_2b hB14 hs14
                    go_wp2_with fail
                    refine (c7 _).mono ?_
                    rintro e w16 ⟨rfl, hb⟩
                    obtain ⟨hc, hf⟩ := bcell hb
                    have k16_0a : w16.cell? ⟨w.heap.size, 0, none⟩ = some (.int .i64 a) := by rw [hc _ _ (by first | omega | (simp; omega) | simp)]; simp [go_sem, *]
                    have k16_0b : w16.cell? ⟨w.heap.size, 1, none⟩ = some (.int .i64 b) := by rw [hc _ _ (by first | omega | (simp; omega) | simp)]; simp [go_sem, *]
                    have z16_0 : w.heap.size < w16.heap.size := by have := hb.size; (try simp at this); omega
                    have k16_1a : w16.cell? ⟨(w.heap.size + 1), 0, none⟩ = some (.int .i64 c) := by rw [hc _ _ (by first | omega | (simp; omega) | simp)]; simp [go_sem, *]
                    have k16_1b : w16.cell? ⟨(w.heap.size + 1), 1, none⟩ = some (.int .i64 d) := by rw [hc _ _ (by first | omega | (simp; omega) | simp)]; simp [go_sem, *]
                    have z16_1 : (w.heap.size + 1) < w16.heap.size := by have := hb.size; (try simp at this); omega
                    have k16_2a : w16.cell? ⟨w4.heap.size, 0, none⟩ = some (.int .i64 k6.lo) := by rw [hc _ _ (by first | omega | (simp; omega) | simp)]; simp [go_sem, *]
                    have k16_2b : w16.cell? ⟨w4.heap.size, 1, none⟩ = some (.int .i64 k6.hi) := by rw [hc _ _ (by first | omega | (simp; omega) | simp)]; simp [go_sem, *]
                    have z16_2 : w4.heap.size < w16.heap.size := by have := hb.size; (try simp at this); omega
                    have f16_2a : w16.frozen? ⟨w4.heap.size, 0, none⟩ = false := by rw [hf _ _ (by first | omega | (simp; omega) | simp)]; simp [go_sem, *]
                    have f16_2b : w16.frozen? ⟨w4.heap.size, 1, none⟩ = false := by rw [hf _ _ (by first | omega | (simp; omega) | simp)]; simp [go_sem, *]
                    have hB16 : Below w.heap.size w w16 := by repeat (first | exact hB15 | refine Below.drew ?_ | refine below_drewN ?_ _ | refine Below.setCell ?_ (by first | omega | (simp; omega) | simp) _ | refine Below.alloc ?_ (by first | omega | (simp; omega) | simp) _ | refine chainB (by assumption) ?_)
                    have hs16 : w.heap.size ≤ w16.heap.size := hB16.size
                    clear hc hf hb k15_0a k15_0b k15_1a k15_1b k15_2a k15_2b f15a f15b z15 z15b z15c hB15 hs15
                    go_upto_region 23 with fail
                    go_cut [22, 230] from 23 (fun s22 s230 wc => s230 = Value.bool false ∧ wc.cell? ⟨w.heap.size, 0, none⟩ = some (.int .i64 a) ∧ wc.cell? ⟨w.heap.size, 1, none⟩ = some (.int .i64 b) ∧ wc.cell? ⟨(w.heap.size + 1), 0, none⟩ = some (.int .i64 c) ∧ wc.cell? ⟨(w.heap.size + 1), 1, none⟩ = some (.int .i64 d) ∧ wc.cell? ⟨w4.heap.size, 0, none⟩ = some (.int .i64 k7.lo) ∧ wc.cell? ⟨w4.heap.size, 1, none⟩ = some (.int .i64 k7.hi) ∧ wc.frozen? ⟨w4.heap.size, 0, none⟩ = false ∧ wc.frozen? ⟨w4.heap.size, 1, none⟩ = false ∧ w4.heap.size < wc.heap.size ∧ Below w.heap.size w wc)
                    case first => as_aux_lemma =>
                      rcases R7.out with ⟨l, u, rfl, hl1, hl2, hl3, hl4, hl5, hl6, hl7⟩ | rfl
                      · obtain ⟨hm1, hm2⟩ := prod_bd x (t1 - t) (by omega) (by omega) (by omega) (by omega)
                        obtain ⟨hm3, hm4⟩ := prod_bd y (t - t0) (by omega) (by omega) (by omega) (by omega)
                        dsimp only
                        go_wp2_with fail
                        refine (between_yes l u (x * (t1 - t) + y * (t - t0)) (t1 - t0) hl7 hl1 (by omega) (by omega) (by omega) (by omega) _).mono ?_
                        rintro e w17 ⟨rfl, hb⟩
                        obtain ⟨hc, hf⟩ := bcell hb
                        have k17_0a : w17.cell? ⟨w.heap.size, 0, none⟩ = some (.int .i64 a) := by rw [hc _ _ (by first | omega | (simp; omega) | simp)]; simp [go_sem, *]
                        have k17_0b : w17.cell? ⟨w.heap.size, 1, none⟩ = some (.int .i64 b) := by rw [hc _ _ (by first | omega | (simp; omega) | simp)]; simp [go_sem, *]
                        have z17_0 : w.heap.size < w17.heap.size := by have := hb.size; (try simp at this); omega
                        have k17_1a : w17.cell? ⟨(w.heap.size + 1), 0, none⟩ = some (.int .i64 c) := by rw [hc _ _ (by first | omega | (simp; omega) | simp)]; simp [go_sem, *]
                        have k17_1b : w17.cell? ⟨(w.heap.size + 1), 1, none⟩ = some (.int .i64 d) := by rw [hc _ _ (by first | omega | (simp; omega) | simp)]; simp [go_sem, *]
                        have z17_1 : (w.heap.size + 1) < w17.heap.size := by have := hb.size; (try simp at this); omega
                        have k17_2a : w17.cell? ⟨w4.heap.size, 0, none⟩ = some (.int .i64 l) := by rw [hc _ _ (by first | omega | (simp; omega) | simp)]; simp [go_sem, *]
                        have k17_2b : w17.cell? ⟨w4.heap.size, 1, none⟩ = some (.int .i64 u) := by rw [hc _ _ (by first | omega | (simp; omega) | simp)]; simp [go_sem, *]
                        have z17_2 : w4.heap.size < w17.heap.size := by have := hb.size; (try simp at this); omega
                        have f17_2a : w17.frozen? ⟨w4.heap.size, 0, none⟩ = false := by rw [hf _ _ (by first | omega | (simp; omega) | simp)]; simp [go_sem, *]
                        have f17_2b : w17.frozen? ⟨w4.heap.size, 1, none⟩ = false := by rw [hf _ _ (by first | omega | (simp; omega) | simp)]; simp [go_sem, *]
                        have hB17 : Below w.heap.size w w17 := by repeat (first | exact hB16 | refine Below.drew ?_ | refine below_drewN ?_ _ | refine Below.setCell ?_ (by first | omega | (simp; omega) | simp) _ | refine Below.alloc ?_ (by first | omega | (simp; omega) | simp) _ | refine chainB (by assumption) ?_)
                        have hs17 : w.heap.size ≤ w17.heap.size := hB17.size
                        clear hc hf hb k16_0a k16_0b z16_0 k16_1a k16_1b z16_1 k16_2a k16_2b z16_2 f16_2a f16_2b hB16 hs16
                        dsimp only
                        go_wp2_with fail
                        go_meet
                        case rel => exact ⟨by first | rfl | (simp; omega), by simp [go_sem, *], by simp [go_sem, *], by simp [go_sem, *], by simp [go_sem, *], by simp [go_sem, *], by simp [go_sem, *], by simp [go_sem, *], by simp [go_sem, *], by first | omega | (simp; omega) | simp, by repeat (first | exact hB17 | refine Below.drew ?_ | refine below_drewN ?_ _ | refine Below.setCell ?_ (by first | omega | (simp; omega) | simp) _ | refine Below.alloc ?_ (by first | omega | (simp; omega) | simp) _ | refine chainB (by assumption) ?_)⟩
                      · dsimp only
                        go_wp2_with fail
                        go_meet
                        case rel => exact ⟨by first | rfl | (simp; omega), by simp [go_sem, *], by simp [go_sem, *], by simp [go_sem, *], by simp [go_sem, *], by simp [go_sem, *], by simp [go_sem, *], by simp [go_sem, *], by simp [go_sem, *], by first | omega | (simp; omega) | simp, by repeat (first | exact hB16 | refine Below.drew ?_ | refine below_drewN ?_ _ | refine Below.setCell ?_ (by first | omega | (simp; omega) | simp) _ | refine Below.alloc ?_ (by first | omega | (simp; omega) | simp) _ | refine chainB (by assumption) ?_)⟩
                    case rest => as_aux_lemma =>
                      obtain ⟨rfl, k17_0a, k17_0b, k17_1a, k17_1b, k17_2a, k17_2b, f17a, f17b, z17, hB17⟩ := hcut
                      have hs17 : w.heap.size ≤ wc.heap.size := hB17.size
                      have z17b : w.heap.size + 1 < wc.heap.size := by omega
                      have z17c : w.heap.size < wc.heap.size := by omega
                      clear k16_0a k16_0b z16_0 k16_1a k16_1b z16_1 k16_2a k16_2b z16_2 f16_2a f16_2b hB16 hs16
                      go_wp2_with fail
                      refine (cW _).mono ?_
                      rintro e w18 ⟨rfl, hb⟩
                      obtain ⟨hc, hf⟩ := bcell hb
                      have k18_0a : w18.cell? ⟨w.heap.size, 0, none⟩ = some (.int .i64 a) := by rw [hc _ _ (by first | omega | (simp; omega) | simp)]; simp [go_sem, *]
                      have k18_0b : w18.cell? ⟨w.heap.size, 1, none⟩ = some (.int .i64 b) := by rw [hc _ _ (by first | omega | (simp; omega) | simp)]; simp [go_sem, *]
                      have z18_0 : w.heap.size < w18.heap.size := by have := hb.size; (try simp at this); omega
                      have k18_1a : w18.cell? ⟨(w.heap.size + 1), 0, none⟩ = some (.int .i64 c) := by rw [hc _ _ (by first | omega | (simp; omega) | simp)]; simp [go_sem, *]
                      have k18_1b : w18.cell? ⟨(w.heap.size + 1), 1, none⟩ = some (.int .i64 d) := by rw [hc _ _ (by first | omega | (simp; omega) | simp)]; simp [go_sem, *]
                      have z18_1 : (w.heap.size + 1) < w18.heap.size := by have := hb.size; (try simp at this); omega
                      have k18_2a : w18.cell? ⟨w4.heap.size, 0, none⟩ = some (.int .i64 k7.lo) := by rw [hc _ _ (by first | omega | (simp; omega) | simp)]; simp [go_sem, *]
                      have k18_2b : w18.cell? ⟨w4.heap.size, 1, none⟩ = some (.int .i64 k7.hi) := by rw [hc _ _ (by first | omega | (simp; omega) | simp)]; simp [go_sem, *]
                      have z18_2 : w4.heap.size < w18.heap.size := by have := hb.size; (try simp at this); omega
                      have f18_2a : w18.frozen? ⟨w4.heap.size, 0, none⟩ = false := by rw [hf _ _ (by first | omega | (simp; omega) | simp)]; simp [go_sem, *]
                      have f18_2b : w18.frozen? ⟨w4.heap.size, 1, none⟩ = false := by rw [hf _ _ (by first | omega | (simp; omega) | simp)]; simp [go_sem, *]
                      have hB18 : Below w.heap.size w w18 := by repeat (first | exact hB17 | refine Below.drew ?_ | refine below_drewN ?_ _ | refine Below.setCell ?_ (by first | omega | (simp; omega) | simp) _ | refine Below.alloc ?_ (by first | omega | (simp; omega) | simp) _ | refine chainB (by assumption) ?_)
                      have hs18 : w.heap.size ≤ w18.heap.size := hB18.size
                      clear hc hf hb k17_0a k17_0b k17_1a k17_1b k17_2a k17_2b f17a f17b z17 z17b z17c hB17 hs17
                      go_wp2_with fail
                      go_ret
                      exact ⟨rfl, by repeat (first | exact hB18 | refine Below.drew ?_ | refine below_drewN ?_ _ | refine Below.setCell ?_ (by first | omega | (simp; omega) | simp) _ | refine Below.alloc ?_ (by first | omega | (simp; omega) | simp) _ | refine chainB (by assumption) ?_)⟩
    · have v1 := fun w => valid_yes a b h1 w
      have v2 := fun w => valid_no c d h2 w
      clear h1 h2
      go_enter Try.func8, Try.ntmps8
      go_wp2_with fail
      refine (v1 _).mono ?_
      rintro e w1 ⟨rfl, hb⟩
      obtain ⟨hc, hf⟩ := bcell hb
      go_wp2_with fail
      refine (v2 _).mono ?_
      rintro e w2 ⟨rfl, hb2⟩
      go_wp2_with fail
      refine (cW _).mono ?_
      rintro e w3 ⟨rfl, hb3⟩
      go_wp2_with fail
      go_ret
      exact ⟨rfl, chainB hb3 (chainB hb2 (chainB hb (((Below.refl _ _).alloc (Nat.le_refl _) _).alloc (by simp) _)))⟩
  · have v1 := fun w => valid_no a b h1 w
    clear h1
    go_enter Try.func8, Try.ntmps8
    go_wp2_with fail
    refine (v1 _).mono ?_
    rintro e w1 ⟨rfl, hb⟩
    go_wp2_with fail
    refine (cW _).mono ?_
    rintro e w3 ⟨rfl, hb3⟩
    go_wp2_with fail
    go_ret
    exact ⟨rfl, chainB hb3 (chainB hb (((Below.refl _ _).alloc (Nat.le_refl _) _).alloc (by simp) _))⟩
end Go.Proofs.Ytamelpfhbnkggaa

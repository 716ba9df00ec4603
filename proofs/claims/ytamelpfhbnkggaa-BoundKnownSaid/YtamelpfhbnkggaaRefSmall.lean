/-
  Answers: the reference's questions about spans; opposite answers.
-/
import Derived.Test.YtamelpfhbnkggaaLawThree
import Derived.Test.YtamelpfhbnkggaaRefBase
namespace Go.Proofs.Ytamelpfhbnkggaa
open Go.RowKit Go.Shelf

set_option maxHeartbeats 2000000 in
theorem rless_any (a b c d : Int) (w : World) :
    Calls Try.prog 32 #[.agg #[.int .i64 a, .int .i64 b], .agg #[.int .i64 c, .int .i64 d]] w fun e w' => e = .returned (.tuple #[.int .i64 (lessS a b c d).v, .int .i64 (lessS a b c d).e]) ∧ Below w.heap.size w w' := by
  by_cases h : vB a b = true ∧ vB c d = true
  · have v1 := fun w => valid_yes a b h.1 w
    have v2 := fun w => valid_yes c d h.2 w
    obtain ⟨u1, u2, u3⟩ := (vB_iff a b).1 h.1
    obtain ⟨u4, u5, u6⟩ := (vB_iff c d).1 h.2
    have hl := less_cases a b c d h.1 h.2
    generalize lessS a b c d = lv at hl ⊢
    have HL := Lib.hid hl
    clear h hl
    rcases HL.out with ⟨rfl, hx⟩ | ⟨rfl, hx⟩ | ⟨rfl, hx, hx2⟩
    all_goals
      go_enter Try.func32, Try.ntmps32
      go_wp2_with fail
      refine (v1 _).mono ?_
      rintro e w1 ⟨rfl, hb⟩
      obtain ⟨hc, hf⟩ := bcell hb
      have k1_0a : w1.cell? ⟨w.heap.size, 0, none⟩ = some (.int .i64 a) := by rw [hc _ _ (by first | omega | (simp; omega) | simp)]; simp [go_sem, *]
      have k1_0b : w1.cell? ⟨w.heap.size, 1, none⟩ = some (.int .i64 b) := by rw [hc _ _ (by first | omega | (simp; omega) | simp)]; simp [go_sem, *]
      have z1_0 : w.heap.size < w1.heap.size := by have := hb.size; (try simp at this); omega
      have k1_1a : w1.cell? ⟨(w.heap.size + 1), 0, none⟩ = some (.int .i64 c) := by rw [hc _ _ (by first | omega | (simp; omega) | simp)]; simp [go_sem, *]
      have k1_1b : w1.cell? ⟨(w.heap.size + 1), 1, none⟩ = some (.int .i64 d) := by rw [hc _ _ (by first | omega | (simp; omega) | simp)]; simp [go_sem, *]
      have z1_1 : (w.heap.size + 1) < w1.heap.size := by have := hb.size; (try simp at this); omega
      have hB1 : Below w.heap.size w w1 := by repeat (first | exact (Below.refl _ _) | refine Below.drew ?_ | refine below_drewN ?_ _ | refine Below.setCell ?_ (by first | omega | (simp; omega) | simp) _ | refine Below.alloc ?_ (by first | omega | (simp; omega) | simp) _ | refine chainB (by assumption) ?_)
      have hs1 : w.heap.size ≤ w1.heap.size := hB1.size
      clear hc hf hb 
      go_wp2_with fail
      refine (v2 _).mono ?_
      rintro e w2 ⟨rfl, hb⟩
      obtain ⟨hc, hf⟩ := bcell hb
      have k2_0a : w2.cell? ⟨w.heap.size, 0, none⟩ = some (.int .i64 a) := by rw [hc _ _ (by first | omega | (simp; omega) | simp)]; simp [go_sem, *]
      have k2_0b : w2.cell? ⟨w.heap.size, 1, none⟩ = some (.int .i64 b) := by rw [hc _ _ (by first | omega | (simp; omega) | simp)]; simp [go_sem, *]
      have z2_0 : w.heap.size < w2.heap.size := by have := hb.size; (try simp at this); omega
      have k2_1a : w2.cell? ⟨(w.heap.size + 1), 0, none⟩ = some (.int .i64 c) := by rw [hc _ _ (by first | omega | (simp; omega) | simp)]; simp [go_sem, *]
      have k2_1b : w2.cell? ⟨(w.heap.size + 1), 1, none⟩ = some (.int .i64 d) := by rw [hc _ _ (by first | omega | (simp; omega) | simp)]; simp [go_sem, *]
      have z2_1 : (w.heap.size + 1) < w2.heap.size := by have := hb.size; (try simp at this); omega
      have hB2 : Below w.heap.size w w2 := by repeat (first | exact hB1 | refine Below.drew ?_ | refine below_drewN ?_ _ | refine Below.setCell ?_ (by first | omega | (simp; omega) | simp) _ | refine Below.alloc ?_ (by first | omega | (simp; omega) | simp) _ | refine chainB (by assumption) ?_)
      have hs2 : w.heap.size ≤ w2.heap.size := hB2.size
      clear hc hf hb k1_0a k1_0b z1_0 k1_1a k1_1b z1_1 hB1 hs1
      go_wp2_with fail
      all_goals
        go_ret2
        exact ⟨by first | rfl | (exfalso; omega), by repeat (first | exact hB2 | refine Below.drew ?_ | refine below_drewN ?_ _ | refine Below.setCell ?_ (by first | omega | (simp; omega) | simp) _ | refine Below.alloc ?_ (by first | omega | (simp; omega) | simp) _ | refine chainB (by assumption) ?_)⟩
  · have k : lessS a b c d = ⟨0, 2⟩ := if_neg h
    rw [k]
    by_cases h1 : vB a b = true
    · have v1 := fun w => valid_yes a b h1 w
      have v2 := fun w => valid_no c d (fun h2 => h ⟨h1, h2⟩) w
      clear h h1 k
      go_enter Try.func32, Try.ntmps32
      go_wp2_with fail
      refine (v1 _).mono ?_
      rintro e w1 ⟨rfl, hb⟩
      obtain ⟨hc, hf⟩ := bcell hb
      have k1_0a : w1.cell? ⟨w.heap.size, 0, none⟩ = some (.int .i64 a) := by rw [hc _ _ (by first | omega | (simp; omega) | simp)]; simp [go_sem, *]
      have k1_0b : w1.cell? ⟨w.heap.size, 1, none⟩ = some (.int .i64 b) := by rw [hc _ _ (by first | omega | (simp; omega) | simp)]; simp [go_sem, *]
      have z1_0 : w.heap.size < w1.heap.size := by have := hb.size; (try simp at this); omega
      have k1_1a : w1.cell? ⟨(w.heap.size + 1), 0, none⟩ = some (.int .i64 c) := by rw [hc _ _ (by first | omega | (simp; omega) | simp)]; simp [go_sem, *]
      have k1_1b : w1.cell? ⟨(w.heap.size + 1), 1, none⟩ = some (.int .i64 d) := by rw [hc _ _ (by first | omega | (simp; omega) | simp)]; simp [go_sem, *]
      have z1_1 : (w.heap.size + 1) < w1.heap.size := by have := hb.size; (try simp at this); omega
      have hB1 : Below w.heap.size w w1 := by repeat (first | exact (Below.refl _ _) | refine Below.drew ?_ | refine below_drewN ?_ _ | refine Below.setCell ?_ (by first | omega | (simp; omega) | simp) _ | refine Below.alloc ?_ (by first | omega | (simp; omega) | simp) _ | refine chainB (by assumption) ?_)
      have hs1 : w.heap.size ≤ w1.heap.size := hB1.size
      clear hc hf hb 
      go_wp2_with fail
      refine (v2 _).mono ?_
      rintro e w2 ⟨rfl, hb⟩
      obtain ⟨hc, hf⟩ := bcell hb
      have k2_0a : w2.cell? ⟨w.heap.size, 0, none⟩ = some (.int .i64 a) := by rw [hc _ _ (by first | omega | (simp; omega) | simp)]; simp [go_sem, *]
      have k2_0b : w2.cell? ⟨w.heap.size, 1, none⟩ = some (.int .i64 b) := by rw [hc _ _ (by first | omega | (simp; omega) | simp)]; simp [go_sem, *]
      have z2_0 : w.heap.size < w2.heap.size := by have := hb.size; (try simp at this); omega
      have k2_1a : w2.cell? ⟨(w.heap.size + 1), 0, none⟩ = some (.int .i64 c) := by rw [hc _ _ (by first | omega | (simp; omega) | simp)]; simp [go_sem, *]
      have k2_1b : w2.cell? ⟨(w.heap.size + 1), 1, none⟩ = some (.int .i64 d) := by rw [hc _ _ (by first | omega | (simp; omega) | simp)]; simp [go_sem, *]
      have z2_1 : (w.heap.size + 1) < w2.heap.size := by have := hb.size; (try simp at this); omega
      have hB2 : Below w.heap.size w w2 := by repeat (first | exact hB1 | refine Below.drew ?_ | refine below_drewN ?_ _ | refine Below.setCell ?_ (by first | omega | (simp; omega) | simp) _ | refine Below.alloc ?_ (by first | omega | (simp; omega) | simp) _ | refine chainB (by assumption) ?_)
      have hs2 : w.heap.size ≤ w2.heap.size := hB2.size
      clear hc hf hb k1_0a k1_0b z1_0 k1_1a k1_1b z1_1 hB1 hs1
      go_wp2_with fail
      go_ret2
      exact ⟨rfl, by repeat (first | exact hB2 | refine Below.drew ?_ | refine below_drewN ?_ _ | refine Below.setCell ?_ (by first | omega | (simp; omega) | simp) _ | refine Below.alloc ?_ (by first | omega | (simp; omega) | simp) _ | refine chainB (by assumption) ?_)⟩
    · have v1 := fun w => valid_no a b h1 w
      clear h h1 k
      go_enter Try.func32, Try.ntmps32
      go_wp2_with fail
      refine (v1 _).mono ?_
      rintro e w1 ⟨rfl, hb⟩
      obtain ⟨hc, hf⟩ := bcell hb
      have k1_0a : w1.cell? ⟨w.heap.size, 0, none⟩ = some (.int .i64 a) := by rw [hc _ _ (by first | omega | (simp; omega) | simp)]; simp [go_sem, *]
      have k1_0b : w1.cell? ⟨w.heap.size, 1, none⟩ = some (.int .i64 b) := by rw [hc _ _ (by first | omega | (simp; omega) | simp)]; simp [go_sem, *]
      have z1_0 : w.heap.size < w1.heap.size := by have := hb.size; (try simp at this); omega
      have k1_1a : w1.cell? ⟨(w.heap.size + 1), 0, none⟩ = some (.int .i64 c) := by rw [hc _ _ (by first | omega | (simp; omega) | simp)]; simp [go_sem, *]
      have k1_1b : w1.cell? ⟨(w.heap.size + 1), 1, none⟩ = some (.int .i64 d) := by rw [hc _ _ (by first | omega | (simp; omega) | simp)]; simp [go_sem, *]
      have z1_1 : (w.heap.size + 1) < w1.heap.size := by have := hb.size; (try simp at this); omega
      have hB1 : Below w.heap.size w w1 := by repeat (first | exact (Below.refl _ _) | refine Below.drew ?_ | refine below_drewN ?_ _ | refine Below.setCell ?_ (by first | omega | (simp; omega) | simp) _ | refine Below.alloc ?_ (by first | omega | (simp; omega) | simp) _ | refine chainB (by assumption) ?_)
      have hs1 : w.heap.size ≤ w1.heap.size := hB1.size
      clear hc hf hb 
      go_wp2_with fail
      go_ret2
      exact ⟨rfl, by repeat (first | exact hB1 | refine Below.drew ?_ | refine below_drewN ?_ _ | refine Below.setCell ?_ (by first | omega | (simp; omega) | simp) _ | refine Below.alloc ?_ (by first | omega | (simp; omega) | simp) _ | refine chainB (by assumption) ?_)⟩

set_option maxHeartbeats 2000000 in
theorem rin_any (a b c d : Int) (w : World) :
    Calls Try.prog 34 #[.agg #[.int .i64 a, .int .i64 b], .agg #[.int .i64 c, .int .i64 d]] w fun e w' => e = .returned (.tuple #[.int .i64 (inS a b c d).v, .int .i64 (inS a b c d).e]) ∧ Below w.heap.size w w' := by
  by_cases h : vB a b = true ∧ vB c d = true
  · have v1 := fun w => valid_yes a b h.1 w
    have v2 := fun w => valid_yes c d h.2 w
    obtain ⟨u1, u2, u3⟩ := (vB_iff a b).1 h.1
    obtain ⟨u4, u5, u6⟩ := (vB_iff c d).1 h.2
    have hl := in_cases a b c d h.1 h.2
    generalize inS a b c d = lv at hl ⊢
    have HL := Lib.hid hl
    clear h hl
    rcases HL.out with ⟨rfl, hx, hx2⟩ | ⟨rfl, hx⟩ | ⟨rfl, hx, hx2, hx3, hx4⟩
    all_goals
      go_enter Try.func34, Try.ntmps34
      go_wp2_with fail
      refine (v1 _).mono ?_
      rintro e w1 ⟨rfl, hb⟩
      obtain ⟨hc, hf⟩ := bcell hb
      have k1_0a : w1.cell? ⟨w.heap.size, 0, none⟩ = some (.int .i64 a) := by rw [hc _ _ (by first | omega | (simp; omega) | simp)]; simp [go_sem, *]
      have k1_0b : w1.cell? ⟨w.heap.size, 1, none⟩ = some (.int .i64 b) := by rw [hc _ _ (by first | omega | (simp; omega) | simp)]; simp [go_sem, *]
      have z1_0 : w.heap.size < w1.heap.size := by have := hb.size; (try simp at this); omega
      have k1_1a : w1.cell? ⟨(w.heap.size + 1), 0, none⟩ = some (.int .i64 c) := by rw [hc _ _ (by first | omega | (simp; omega) | simp)]; simp [go_sem, *]
      have k1_1b : w1.cell? ⟨(w.heap.size + 1), 1, none⟩ = some (.int .i64 d) := by rw [hc _ _ (by first | omega | (simp; omega) | simp)]; simp [go_sem, *]
      have z1_1 : (w.heap.size + 1) < w1.heap.size := by have := hb.size; (try simp at this); omega
      have hB1 : Below w.heap.size w w1 := by repeat (first | exact (Below.refl _ _) | refine Below.drew ?_ | refine below_drewN ?_ _ | refine Below.setCell ?_ (by first | omega | (simp; omega) | simp) _ | refine Below.alloc ?_ (by first | omega | (simp; omega) | simp) _ | refine chainB (by assumption) ?_)
      have hs1 : w.heap.size ≤ w1.heap.size := hB1.size
      clear hc hf hb 
      go_wp2_with fail
      refine (v2 _).mono ?_
      rintro e w2 ⟨rfl, hb⟩
      obtain ⟨hc, hf⟩ := bcell hb
      have k2_0a : w2.cell? ⟨w.heap.size, 0, none⟩ = some (.int .i64 a) := by rw [hc _ _ (by first | omega | (simp; omega) | simp)]; simp [go_sem, *]
      have k2_0b : w2.cell? ⟨w.heap.size, 1, none⟩ = some (.int .i64 b) := by rw [hc _ _ (by first | omega | (simp; omega) | simp)]; simp [go_sem, *]
      have z2_0 : w.heap.size < w2.heap.size := by have := hb.size; (try simp at this); omega
      have k2_1a : w2.cell? ⟨(w.heap.size + 1), 0, none⟩ = some (.int .i64 c) := by rw [hc _ _ (by first | omega | (simp; omega) | simp)]; simp [go_sem, *]
      have k2_1b : w2.cell? ⟨(w.heap.size + 1), 1, none⟩ = some (.int .i64 d) := by rw [hc _ _ (by first | omega | (simp; omega) | simp)]; simp [go_sem, *]
      have z2_1 : (w.heap.size + 1) < w2.heap.size := by have := hb.size; (try simp at this); omega
      have hB2 : Below w.heap.size w w2 := by repeat (first | exact hB1 | refine Below.drew ?_ | refine below_drewN ?_ _ | refine Below.setCell ?_ (by first | omega | (simp; omega) | simp) _ | refine Below.alloc ?_ (by first | omega | (simp; omega) | simp) _ | refine chainB (by assumption) ?_)
      have hs2 : w.heap.size ≤ w2.heap.size := hB2.size
      clear hc hf hb k1_0a k1_0b z1_0 k1_1a k1_1b z1_1 hB1 hs1
      go_wp2_with fail
      all_goals
        go_ret2
        exact ⟨by first | rfl | (exfalso; omega), by repeat (first | exact hB2 | refine Below.drew ?_ | refine below_drewN ?_ _ | refine Below.setCell ?_ (by first | omega | (simp; omega) | simp) _ | refine Below.alloc ?_ (by first | omega | (simp; omega) | simp) _ | refine chainB (by assumption) ?_)⟩
  · have k : inS a b c d = ⟨0, 2⟩ := if_neg h
    rw [k]
    by_cases h1 : vB a b = true
    · have v1 := fun w => valid_yes a b h1 w
      have v2 := fun w => valid_no c d (fun h2 => h ⟨h1, h2⟩) w
      clear h h1 k
      go_enter Try.func34, Try.ntmps34
      go_wp2_with fail
      refine (v1 _).mono ?_
      rintro e w1 ⟨rfl, hb⟩
      obtain ⟨hc, hf⟩ := bcell hb
      have k1_0a : w1.cell? ⟨w.heap.size, 0, none⟩ = some (.int .i64 a) := by rw [hc _ _ (by first | omega | (simp; omega) | simp)]; simp [go_sem, *]
      have k1_0b : w1.cell? ⟨w.heap.size, 1, none⟩ = some (.int .i64 b) := by rw [hc _ _ (by first | omega | (simp; omega) | simp)]; simp [go_sem, *]
      have z1_0 : w.heap.size < w1.heap.size := by have := hb.size; (try simp at this); omega
      have k1_1a : w1.cell? ⟨(w.heap.size + 1), 0, none⟩ = some (.int .i64 c) := by rw [hc _ _ (by first | omega | (simp; omega) | simp)]; simp [go_sem, *]
      have k1_1b : w1.cell? ⟨(w.heap.size + 1), 1, none⟩ = some (.int .i64 d) := by rw [hc _ _ (by first | omega | (simp; omega) | simp)]; simp [go_sem, *]
      have z1_1 : (w.heap.size + 1) < w1.heap.size := by have := hb.size; (try simp at this); omega
      have hB1 : Below w.heap.size w w1 := by repeat (first | exact (Below.refl _ _) | refine Below.drew ?_ | refine below_drewN ?_ _ | refine Below.setCell ?_ (by first | omega | (simp; omega) | simp) _ | refine Below.alloc ?_ (by first | omega | (simp; omega) | simp) _ | refine chainB (by assumption) ?_)
      have hs1 : w.heap.size ≤ w1.heap.size := hB1.size
      clear hc hf hb 
      go_wp2_with fail
      refine (v2 _).mono ?_
      rintro e w2 ⟨rfl, hb⟩
      obtain ⟨hc, hf⟩ := bcell hb
      have k2_0a : w2.cell? ⟨w.heap.size, 0, none⟩ = some (.int .i64 a) := by rw [hc _ _ (by first | omega | (simp; omega) | simp)]; simp [go_sem, *]
      have k2_0b : w2.cell? ⟨w.heap.size, 1, none⟩ = some (.int .i64 b) := by rw [hc _ _ (by first | omega | (simp; omega) | simp)]; simp [go_sem, *]
      have z2_0 : w.heap.size < w2.heap.size := by have := hb.size; (try simp at this); omega
      have k2_1a : w2.cell? ⟨(w.heap.size + 1), 0, none⟩ = some (.int .i64 c) := by rw [hc _ _ (by first | omega | (simp; omega) | simp)]; simp [go_sem, *]
      have k2_1b : w2.cell? ⟨(w.heap.size + 1), 1, none⟩ = some (.int .i64 d) := by rw [hc _ _ (by first | omega | (simp; omega) | simp)]; simp [go_sem, *]
      have z2_1 : (w.heap.size + 1) < w2.heap.size := by have := hb.size; (try simp at this); omega
      have hB2 : Below w.heap.size w w2 := by repeat (first | exact hB1 | refine Below.drew ?_ | refine below_drewN ?_ _ | refine Below.setCell ?_ (by first | omega | (simp; omega) | simp) _ | refine Below.alloc ?_ (by first | omega | (simp; omega) | simp) _ | refine chainB (by assumption) ?_)
      have hs2 : w.heap.size ≤ w2.heap.size := hB2.size
      clear hc hf hb k1_0a k1_0b z1_0 k1_1a k1_1b z1_1 hB1 hs1
      go_wp2_with fail
      go_ret2
      exact ⟨rfl, by repeat (first | exact hB2 | refine Below.drew ?_ | refine below_drewN ?_ _ | refine Below.setCell ?_ (by first | omega | (simp; omega) | simp) _ | refine Below.alloc ?_ (by first | omega | (simp; omega) | simp) _ | refine chainB (by assumption) ?_)⟩
    · have v1 := fun w => valid_no a b h1 w
      clear h h1 k
      go_enter Try.func34, Try.ntmps34
      go_wp2_with fail
      refine (v1 _).mono ?_
      rintro e w1 ⟨rfl, hb⟩
      obtain ⟨hc, hf⟩ := bcell hb
      have k1_0a : w1.cell? ⟨w.heap.size, 0, none⟩ = some (.int .i64 a) := by rw [hc _ _ (by first | omega | (simp; omega) | simp)]; simp [go_sem, *]
      have k1_0b : w1.cell? ⟨w.heap.size, 1, none⟩ = some (.int .i64 b) := by rw [hc _ _ (by first | omega | (simp; omega) | simp)]; simp [go_sem, *]
      have z1_0 : w.heap.size < w1.heap.size := by have := hb.size; (try simp at this); omega
      have k1_1a : w1.cell? ⟨(w.heap.size + 1), 0, none⟩ = some (.int .i64 c) := by rw [hc _ _ (by first | omega | (simp; omega) | simp)]; simp [go_sem, *]
      have k1_1b : w1.cell? ⟨(w.heap.size + 1), 1, none⟩ = some (.int .i64 d) := by rw [hc _ _ (by first | omega | (simp; omega) | simp)]; simp [go_sem, *]
      have z1_1 : (w.heap.size + 1) < w1.heap.size := by have := hb.size; (try simp at this); omega
      have hB1 : Below w.heap.size w w1 := by repeat (first | exact (Below.refl _ _) | refine Below.drew ?_ | refine below_drewN ?_ _ | refine Below.setCell ?_ (by first | omega | (simp; omega) | simp) _ | refine Below.alloc ?_ (by first | omega | (simp; omega) | simp) _ | refine chainB (by assumption) ?_)
      have hs1 : w.heap.size ≤ w1.heap.size := hB1.size
      clear hc hf hb 
      go_wp2_with fail
      go_ret2
      exact ⟨rfl, by repeat (first | exact hB1 | refine Below.drew ?_ | refine below_drewN ?_ _ | refine Below.setCell ?_ (by first | omega | (simp; omega) | simp) _ | refine Below.alloc ?_ (by first | omega | (simp; omega) | simp) _ | refine chainB (by assumption) ?_)⟩

/-- the opposite of an answer -/
def notS (x : Int) : A2 := if 0 ≤ x ∧ x ≤ 2 then ⟨2 - x, 0⟩ else ⟨0, 2⟩
def ansE (x : Int) : Int := if 0 ≤ x ∧ x ≤ 2 then 0 else 2
set_option maxHeartbeats 400000 in
theorem checkAnswer_any (x : Int) (w : World) :
    Calls Try.prog 96 #[.int .i64 x] w fun e w' => e = .returned (.int .i64 (ansE x)) ∧ w' = w := by
  by_cases h : 0 ≤ x ∧ x ≤ 2
  · rw [show ansE x = 0 from if_pos h]
    obtain ⟨h1, h2⟩ := h
    go_enter Try.func96, Try.ntmps96
    go_wp2
    go_ret
    exact ⟨rfl, rfl⟩
  · rw [show ansE x = 2 from if_neg h]
    have h' : x < 0 ∨ (0 ≤ x ∧ 2 < x) := by omega
    clear h
    rcases h' with h | ⟨h, h'⟩
    all_goals
      go_enter Try.func96, Try.ntmps96
      go_wp2
      go_ret
      exact ⟨rfl, rfl⟩
set_option maxHeartbeats 400000 in
theorem not_any (x : Int) (w : World) :
    Calls Try.prog 39 #[.int .i64 x] w fun e w' => e = .returned (.tuple #[.int .i64 (notS x).v, .int .i64 (notS x).e]) ∧ w' = w := by
  have c1 := fun w => checkAnswer_any x w
  by_cases h : 0 ≤ x ∧ x ≤ 2
  · rw [show notS x = ⟨2 - x, 0⟩ from if_pos h]
    rw [show ansE x = 0 from if_pos h] at c1
    obtain ⟨h1, h2⟩ := h
    go_enter Try.func39, Try.ntmps39
    go_wp2_with fail
    refine (c1 _).mono ?_
    rintro e w1 ⟨rfl, rfl⟩
    go_wp2_with fail
    go_ret2
    exact ⟨rfl, rfl⟩
  · rw [show notS x = ⟨0, 2⟩ from if_neg h]
    rw [show ansE x = 2 from if_neg h] at c1
    clear h
    go_enter Try.func39, Try.ntmps39
    go_wp2_with fail
    refine (c1 _).mono ?_
    rintro e w1 ⟨rfl, rfl⟩
    go_wp2_with fail
    go_ret2
    exact ⟨rfl, rfl⟩
set_option maxHeartbeats 400000 in
theorem rnot_any (x : Int) (w : World) :
    Calls Try.prog 40 #[.int .i64 x] w fun e w' => e = .returned (.tuple #[.int .i64 (notS x).v, .int .i64 (notS x).e]) ∧ w' = w := by
  by_cases h : 0 ≤ x ∧ x ≤ 2
  · rw [show notS x = ⟨2 - x, 0⟩ from if_pos h]
    obtain ⟨h1, h2⟩ := h
    go_enter Try.func40, Try.ntmps40
    go_wp2
    go_ret2
    exact ⟨rfl, rfl⟩
  · rw [show notS x = ⟨0, 2⟩ from if_neg h]
    have h' : x < 0 ∨ (0 ≤ x ∧ 2 < x) := by omega
    clear h
    rcases h' with h | ⟨h, h'⟩
    all_goals
      go_enter Try.func40, Try.ntmps40
      go_wp2
      go_ret2
      exact ⟨rfl, rfl⟩
end Go.Proofs.Ytamelpfhbnkggaa

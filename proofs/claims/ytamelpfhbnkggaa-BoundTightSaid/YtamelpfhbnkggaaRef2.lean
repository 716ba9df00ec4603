/-
  The reference's scale, root, grow, line.
-/
import Derived.Test.YtamelpfhbnkggaaRefBase
import Derived.Test.YtamelpfhbnkggaaMinMax
import Derived.Deep.RegionHeld3
namespace Go.Proofs.Ytamelpfhbnkggaa
open Go.RowKit Go.Shelf
theorem isq_le_up {a b : Int} (h0 : 0 ≤ a) (h : a ≤ b) : isq a ≤ isqUp b := by
  obtain ⟨a1, a2, a3⟩ := isq_spec h0
  obtain ⟨b1, b2, b3⟩ := isq_spec (show 0 ≤ b by omega)
  have : isq a ≤ isq b := by
    rcases Int.lt_or_le (isq b) (isq a) with hl | hl
    · have := sq_mono (a := isq b + 1) (b := isq a) (by omega) (by omega); omega
    · exact hl
  unfold isqUp; split <;> omega
theorem min_div (x y d : Int) (hd : 1 ≤ d) : min x y / d = min (x / d) (y / d) := by
  rcases Int.le_total x y with h | h
  · have := Int.ediv_le_ediv (show 0 < d by omega) h
    rw [Int.min_eq_left h, Int.min_eq_left this]
  · have := Int.ediv_le_ediv (show 0 < d by omega) h
    rw [Int.min_eq_right h, Int.min_eq_right this]
theorem up_mono (x y d : Int) (hd : 1 ≤ d) (h : x ≤ y) : up x d ≤ up y d := by
  have := Int.ediv_le_ediv (show 0 < d by omega) (show -y ≤ -x by omega)
  unfold up; omega
theorem up_max (x y d : Int) (hd : 1 ≤ d) : up (max x y) d = max (up x d) (up y d) := by
  rcases Int.le_total x y with h | h
  · have := up_mono x y d hd h
    rw [Int.max_eq_right h, Int.max_eq_right this]
  · have := up_mono y x d hd h
    rw [Int.max_eq_left h, Int.max_eq_left this]
theorem within_yes (x lo hi : Int) (h1 : lo ≤ x) (h2 : x ≤ hi) (w : World) :
    Calls Try.prog 86 #[.int .i64 x, .int .i64 lo, .int .i64 hi] w fun e w' => e = .returned (.bool true) ∧ Below w.heap.size w w' :=
  (within_any x lo hi w).mono fun _ _ ⟨he, hb⟩ => ⟨he.trans (ret_bool (by simp [h1, h2])), hb ▸ Below.refl _ _⟩
theorem within_no (x lo hi : Int) (h : ¬ (lo ≤ x ∧ x ≤ hi)) (w : World) :
    Calls Try.prog 86 #[.int .i64 x, .int .i64 lo, .int .i64 hi] w fun e w' => e = .returned (.bool false) ∧ Below w.heap.size w w' :=
  (within_any x lo hi w).mono fun _ _ ⟨he, hb⟩ => ⟨he.trans (ret_bool (by simp; omega)), hb ▸ Below.refl _ _⟩

set_option maxRecDepth 100000 in
set_option maxHeartbeats 8000000 in
theorem rgrow_any (a b n : Int) (w : World) :
    Calls Try.prog 28 #[.agg #[.int .i64 a, .int .i64 b], .int .i64 n] w fun e w' => e = .returned (.tuple #[.agg #[.int .i64 (growS a b n).lo, .int .i64 (growS a b n).hi], .int .i64 (growS a b n).e]) ∧ Below w.heap.size w w' := by
  by_cases h : vB a b = true
  · obtain ⟨h3, h4, h5⟩ := (vB_iff a b).1 h
    have v1 := fun w => valid_yes a b h w
    by_cases hn : 0 ≤ n ∧ n ≤ 1073741824
    · have k : growS a b n = fit (a - n) (b + n) := by unfold growS; rw [if_pos h, if_pos hn]
      rw [k]
      have v2 := fun w => within_yes n 0 1073741824 hn.1 hn.2 w
      have c2 := fun w => result_any (a - n) (b + n) w
      generalize fit (a - n) (b + n) = r at c2 ⊢
      obtain ⟨hn1, hn2⟩ := hn
      clear h k
      go_enter Try.func28, Try.ntmps28
      go_wp2_with fail
      refine (v1 _).mono ?_
      rintro e w1 ⟨rfl, hb⟩
      obtain ⟨hc, hf⟩ := bcell hb
      have k1_0a : w1.cell? ⟨w.heap.size, 0, none⟩ = some (.int .i64 a) := by rw [hc _ _ (by first | omega | (simp; omega) | simp)]; simp [go_sem, *]
      have k1_0b : w1.cell? ⟨w.heap.size, 1, none⟩ = some (.int .i64 b) := by rw [hc _ _ (by first | omega | (simp; omega) | simp)]; simp [go_sem, *]
      have z1_0 : w.heap.size < w1.heap.size := by have := hb.size; (try simp at this); omega
      have k1_1a : w1.cell? ⟨(w.heap.size + 1), 0, none⟩ = some (.int .i64 0) := by rw [hc _ _ (by first | omega | (simp; omega) | simp)]; simp [go_sem, *]
      have k1_1b : w1.cell? ⟨(w.heap.size + 1), 1, none⟩ = some (.int .i64 0) := by rw [hc _ _ (by first | omega | (simp; omega) | simp)]; simp [go_sem, *]
      have z1_1 : (w.heap.size + 1) < w1.heap.size := by have := hb.size; (try simp at this); omega
      have f1_1a : w1.frozen? ⟨(w.heap.size + 1), 0, none⟩ = false := by rw [hf _ _ (by first | omega | (simp; omega) | simp)]; simp [go_sem, *]
      have f1_1b : w1.frozen? ⟨(w.heap.size + 1), 1, none⟩ = false := by rw [hf _ _ (by first | omega | (simp; omega) | simp)]; simp [go_sem, *]
      have hB1 : Below w.heap.size w w1 := by repeat (first | exact (Below.refl _ _) | refine Below.drew ?_ | refine below_drewN ?_ _ | refine Below.setCell ?_ (by first | omega | (simp; omega) | simp) _ | refine Below.alloc ?_ (by first | omega | (simp; omega) | simp) _ | refine chainB (by assumption) ?_)
      have hs1 : w.heap.size ≤ w1.heap.size := hB1.size
      clear hc hf hb 
      go_wp2_with fail
      refine (v2 _).mono ?_
      rintro e w2 ⟨rfl, hb⟩
      obtain ⟨hc, hf⟩ := bcell hb
      have k2_0a : w2.cell? ⟨w.heap.size, 0, none⟩ = some (.int .i64 a) := by rw [hc _ _ (by first | omega | (simp; omega) | simp)]; simp [go_sem, *]
      have k2_0b : w2.cell? ⟨w.heap.size, 1, none⟩ = some (.int .i64 b) := by rw [hc _ _ (by first | omega | (simp; omega) | simp)]; simp [go_sem, *]
      have z2_0 : w.heap.size < w2.heap.size := by have := hb.size; (try simp at this); omega
      have k2_1a : w2.cell? ⟨(w.heap.size + 1), 0, none⟩ = some (.int .i64 0) := by rw [hc _ _ (by first | omega | (simp; omega) | simp)]; simp [go_sem, *]
      have k2_1b : w2.cell? ⟨(w.heap.size + 1), 1, none⟩ = some (.int .i64 0) := by rw [hc _ _ (by first | omega | (simp; omega) | simp)]; simp [go_sem, *]
      have z2_1 : (w.heap.size + 1) < w2.heap.size := by have := hb.size; (try simp at this); omega
      have f2_1a : w2.frozen? ⟨(w.heap.size + 1), 0, none⟩ = false := by rw [hf _ _ (by first | omega | (simp; omega) | simp)]; simp [go_sem, *]
      have f2_1b : w2.frozen? ⟨(w.heap.size + 1), 1, none⟩ = false := by rw [hf _ _ (by first | omega | (simp; omega) | simp)]; simp [go_sem, *]
      have hB2 : Below w.heap.size w w2 := by repeat (first | exact hB1 | refine Below.drew ?_ | refine below_drewN ?_ _ | refine Below.setCell ?_ (by first | omega | (simp; omega) | simp) _ | refine Below.alloc ?_ (by first | omega | (simp; omega) | simp) _ | refine chainB (by assumption) ?_)
      have hs2 : w.heap.size ≤ w2.heap.size := hB2.size
      clear hc hf hb k1_0a k1_0b z1_0 k1_1a k1_1b z1_1 f1_1a f1_1b hB1 hs1
      go_wp2_with fail
      refine (c2 _).mono ?_
      rintro e w3 ⟨rfl, hb⟩
      obtain ⟨hc, hf⟩ := bcell hb
      have k3_0a : w3.cell? ⟨w.heap.size, 0, none⟩ = some (.int .i64 a) := by rw [hc _ _ (by first | omega | (simp; omega) | simp)]; simp [go_sem, *]
      have k3_0b : w3.cell? ⟨w.heap.size, 1, none⟩ = some (.int .i64 b) := by rw [hc _ _ (by first | omega | (simp; omega) | simp)]; simp [go_sem, *]
      have z3_0 : w.heap.size < w3.heap.size := by have := hb.size; (try simp at this); omega
      have k3_1a : w3.cell? ⟨(w.heap.size + 1), 0, none⟩ = some (.int .i64 0) := by rw [hc _ _ (by first | omega | (simp; omega) | simp)]; simp [go_sem, *]
      have k3_1b : w3.cell? ⟨(w.heap.size + 1), 1, none⟩ = some (.int .i64 0) := by rw [hc _ _ (by first | omega | (simp; omega) | simp)]; simp [go_sem, *]
      have z3_1 : (w.heap.size + 1) < w3.heap.size := by have := hb.size; (try simp at this); omega
      have f3_1a : w3.frozen? ⟨(w.heap.size + 1), 0, none⟩ = false := by rw [hf _ _ (by first | omega | (simp; omega) | simp)]; simp [go_sem, *]
      have f3_1b : w3.frozen? ⟨(w.heap.size + 1), 1, none⟩ = false := by rw [hf _ _ (by first | omega | (simp; omega) | simp)]; simp [go_sem, *]
      have hB3 : Below w.heap.size w w3 := by repeat (first | exact hB2 | refine Below.drew ?_ | refine below_drewN ?_ _ | refine Below.setCell ?_ (by first | omega | (simp; omega) | simp) _ | refine Below.alloc ?_ (by first | omega | (simp; omega) | simp) _ | refine chainB (by assumption) ?_)
      have hs3 : w.heap.size ≤ w3.heap.size := hB3.size
      clear hc hf hb k2_0a k2_0b z2_0 k2_1a k2_1b z2_1 f2_1a f2_1b hB2 hs2
      go_wp2_with fail
      refine bodyPost_ret (v := .tuple #[.agg #[.int .i64 r.lo, .int .i64 r.hi], .int .i64 r.e]) (by simp [results, Try.results28, go_sem, *]) rfl ⟨rfl, ?_⟩
      repeat (first | exact hB3 | refine Below.drew ?_ | refine below_drewN ?_ _ | refine Below.setCell ?_ (by first | omega | (simp; omega) | simp) _ | refine Below.alloc ?_ (by first | omega | (simp; omega) | simp) _ | refine chainB (by assumption) ?_)
    · have k : growS a b n = ⟨0, 0, 3⟩ := by unfold growS; rw [if_pos h, if_neg hn]
      rw [k]
      have v2 := fun w => within_no n 0 1073741824 hn w
      clear h k hn
      go_enter Try.func28, Try.ntmps28
      go_wp2_with fail
      refine (v1 _).mono ?_
      rintro e w1 ⟨rfl, hb⟩
      obtain ⟨hc, hf⟩ := bcell hb
      have k1_0a : w1.cell? ⟨w.heap.size, 0, none⟩ = some (.int .i64 a) := by rw [hc _ _ (by first | omega | (simp; omega) | simp)]; simp [go_sem, *]
      have k1_0b : w1.cell? ⟨w.heap.size, 1, none⟩ = some (.int .i64 b) := by rw [hc _ _ (by first | omega | (simp; omega) | simp)]; simp [go_sem, *]
      have z1_0 : w.heap.size < w1.heap.size := by have := hb.size; (try simp at this); omega
      have k1_1a : w1.cell? ⟨(w.heap.size + 1), 0, none⟩ = some (.int .i64 0) := by rw [hc _ _ (by first | omega | (simp; omega) | simp)]; simp [go_sem, *]
      have k1_1b : w1.cell? ⟨(w.heap.size + 1), 1, none⟩ = some (.int .i64 0) := by rw [hc _ _ (by first | omega | (simp; omega) | simp)]; simp [go_sem, *]
      have z1_1 : (w.heap.size + 1) < w1.heap.size := by have := hb.size; (try simp at this); omega
      have f1_1a : w1.frozen? ⟨(w.heap.size + 1), 0, none⟩ = false := by rw [hf _ _ (by first | omega | (simp; omega) | simp)]; simp [go_sem, *]
      have f1_1b : w1.frozen? ⟨(w.heap.size + 1), 1, none⟩ = false := by rw [hf _ _ (by first | omega | (simp; omega) | simp)]; simp [go_sem, *]
      have hB1 : Below w.heap.size w w1 := by repeat (first | exact (Below.refl _ _) | refine Below.drew ?_ | refine below_drewN ?_ _ | refine Below.setCell ?_ (by first | omega | (simp; omega) | simp) _ | refine Below.alloc ?_ (by first | omega | (simp; omega) | simp) _ | refine chainB (by assumption) ?_)
      have hs1 : w.heap.size ≤ w1.heap.size := hB1.size
      clear hc hf hb 
      go_wp2_with fail
      refine (v2 _).mono ?_
      rintro e w2 ⟨rfl, hb⟩
      obtain ⟨hc, hf⟩ := bcell hb
      have k2_0a : w2.cell? ⟨w.heap.size, 0, none⟩ = some (.int .i64 a) := by rw [hc _ _ (by first | omega | (simp; omega) | simp)]; simp [go_sem, *]
      have k2_0b : w2.cell? ⟨w.heap.size, 1, none⟩ = some (.int .i64 b) := by rw [hc _ _ (by first | omega | (simp; omega) | simp)]; simp [go_sem, *]
      have z2_0 : w.heap.size < w2.heap.size := by have := hb.size; (try simp at this); omega
      have k2_1a : w2.cell? ⟨(w.heap.size + 1), 0, none⟩ = some (.int .i64 0) := by rw [hc _ _ (by first | omega | (simp; omega) | simp)]; simp [go_sem, *]
      have k2_1b : w2.cell? ⟨(w.heap.size + 1), 1, none⟩ = some (.int .i64 0) := by rw [hc _ _ (by first | omega | (simp; omega) | simp)]; simp [go_sem, *]
      have z2_1 : (w.heap.size + 1) < w2.heap.size := by have := hb.size; (try simp at this); omega
      have f2_1a : w2.frozen? ⟨(w.heap.size + 1), 0, none⟩ = false := by rw [hf _ _ (by first | omega | (simp; omega) | simp)]; simp [go_sem, *]
      have f2_1b : w2.frozen? ⟨(w.heap.size + 1), 1, none⟩ = false := by rw [hf _ _ (by first | omega | (simp; omega) | simp)]; simp [go_sem, *]
      have hB2 : Below w.heap.size w w2 := by repeat (first | exact hB1 | refine Below.drew ?_ | refine below_drewN ?_ _ | refine Below.setCell ?_ (by first | omega | (simp; omega) | simp) _ | refine Below.alloc ?_ (by first | omega | (simp; omega) | simp) _ | refine chainB (by assumption) ?_)
      have hs2 : w.heap.size ≤ w2.heap.size := hB2.size
      clear hc hf hb k1_0a k1_0b z1_0 k1_1a k1_1b z1_1 f1_1a f1_1b hB1 hs1
      go_wp2_with fail
      refine bodyPost_ret (v := .tuple #[.agg #[.int .i64 0, .int .i64 0], .int .i64 3]) (by simp [results, Try.results28, go_sem, *]) rfl ⟨rfl, ?_⟩
      repeat (first | exact hB2 | refine Below.drew ?_ | refine below_drewN ?_ _ | refine Below.setCell ?_ (by first | omega | (simp; omega) | simp) _ | refine Below.alloc ?_ (by first | omega | (simp; omega) | simp) _ | refine chainB (by assumption) ?_)
  · have k : growS a b n = ⟨0, 0, 2⟩ := if_neg h
    rw [k]
    have v1 := fun w => valid_no a b h w
    clear h k
    go_enter Try.func28, Try.ntmps28
    go_wp2_with fail
    refine (v1 _).mono ?_
    rintro e w1 ⟨rfl, hb⟩
    obtain ⟨hc, hf⟩ := bcell hb
    have k1_0a : w1.cell? ⟨w.heap.size, 0, none⟩ = some (.int .i64 a) := by rw [hc _ _ (by first | omega | (simp; omega) | simp)]; simp [go_sem, *]
    have k1_0b : w1.cell? ⟨w.heap.size, 1, none⟩ = some (.int .i64 b) := by rw [hc _ _ (by first | omega | (simp; omega) | simp)]; simp [go_sem, *]
    have z1_0 : w.heap.size < w1.heap.size := by have := hb.size; (try simp at this); omega
    have k1_1a : w1.cell? ⟨(w.heap.size + 1), 0, none⟩ = some (.int .i64 0) := by rw [hc _ _ (by first | omega | (simp; omega) | simp)]; simp [go_sem, *]
    have k1_1b : w1.cell? ⟨(w.heap.size + 1), 1, none⟩ = some (.int .i64 0) := by rw [hc _ _ (by first | omega | (simp; omega) | simp)]; simp [go_sem, *]
    have z1_1 : (w.heap.size + 1) < w1.heap.size := by have := hb.size; (try simp at this); omega
    have f1_1a : w1.frozen? ⟨(w.heap.size + 1), 0, none⟩ = false := by rw [hf _ _ (by first | omega | (simp; omega) | simp)]; simp [go_sem, *]
    have f1_1b : w1.frozen? ⟨(w.heap.size + 1), 1, none⟩ = false := by rw [hf _ _ (by first | omega | (simp; omega) | simp)]; simp [go_sem, *]
    have hB1 : Below w.heap.size w w1 := by repeat (first | exact (Below.refl _ _) | refine Below.drew ?_ | refine below_drewN ?_ _ | refine Below.setCell ?_ (by first | omega | (simp; omega) | simp) _ | refine Below.alloc ?_ (by first | omega | (simp; omega) | simp) _ | refine chainB (by assumption) ?_)
    have hs1 : w.heap.size ≤ w1.heap.size := hB1.size
    clear hc hf hb 
    go_wp2_with fail
    refine bodyPost_ret (v := .tuple #[.agg #[.int .i64 0, .int .i64 0], .int .i64 2]) (by simp [results, Try.results28, go_sem, *]) rfl ⟨rfl, ?_⟩
    repeat (first | exact hB1 | refine Below.drew ?_ | refine below_drewN ?_ _ | refine Below.setCell ?_ (by first | omega | (simp; omega) | simp) _ | refine Below.alloc ?_ (by first | omega | (simp; omega) | simp) _ | refine chainB (by assumption) ?_)

set_option maxRecDepth 100000 in
set_option maxHeartbeats 8000000 in
theorem rroot_any (a b : Int) (w : World) :
    Calls Try.prog 26 #[.agg #[.int .i64 a, .int .i64 b]] w fun e w' => e = .returned (.tuple #[.agg #[.int .i64 (rootR a b).lo, .int .i64 (rootR a b).hi], .int .i64 (rootR a b).e]) ∧ Below w.heap.size w w' := by
  by_cases h : vB a b = true
  · obtain ⟨h3, h4, h5⟩ := (vB_iff a b).1 h
    have v1 := fun w => valid_yes a b h w
    by_cases hn : a < 0
    · have k : rootR a b = ⟨0, 0, 3⟩ := by unfold rootR; rw [if_pos h, if_pos hn]
      rw [k]
      clear h k
      go_enter Try.func26, Try.ntmps26
      go_wp2_with fail
      refine (v1 _).mono ?_
      rintro e w1 ⟨rfl, hb⟩
      obtain ⟨hc, hf⟩ := bcell hb
      have k1_0a : w1.cell? ⟨w.heap.size, 0, none⟩ = some (.int .i64 a) := by rw [hc _ _ (by first | omega | (simp; omega) | simp)]; simp [go_sem, *]
      have k1_0b : w1.cell? ⟨w.heap.size, 1, none⟩ = some (.int .i64 b) := by rw [hc _ _ (by first | omega | (simp; omega) | simp)]; simp [go_sem, *]
      have z1_0 : w.heap.size < w1.heap.size := by have := hb.size; (try simp at this); omega
      have k1_1a : w1.cell? ⟨(w.heap.size + 1), 0, none⟩ = some (.int .i64 0) := by rw [hc _ _ (by first | omega | (simp; omega) | simp)]; simp [go_sem, *]
      have k1_1b : w1.cell? ⟨(w.heap.size + 1), 1, none⟩ = some (.int .i64 0) := by rw [hc _ _ (by first | omega | (simp; omega) | simp)]; simp [go_sem, *]
      have z1_1 : (w.heap.size + 1) < w1.heap.size := by have := hb.size; (try simp at this); omega
      have f1_1a : w1.frozen? ⟨(w.heap.size + 1), 0, none⟩ = false := by rw [hf _ _ (by first | omega | (simp; omega) | simp)]; simp [go_sem, *]
      have f1_1b : w1.frozen? ⟨(w.heap.size + 1), 1, none⟩ = false := by rw [hf _ _ (by first | omega | (simp; omega) | simp)]; simp [go_sem, *]
      have hB1 : Below w.heap.size w w1 := by repeat (first | exact (Below.refl _ _) | refine Below.drew ?_ | refine below_drewN ?_ _ | refine Below.setCell ?_ (by first | omega | (simp; omega) | simp) _ | refine Below.alloc ?_ (by first | omega | (simp; omega) | simp) _ | refine chainB (by assumption) ?_)
      have hs1 : w.heap.size ≤ w1.heap.size := hB1.size
      clear hc hf hb 
      go_wp2_with fail
      refine bodyPost_ret (v := .tuple #[.agg #[.int .i64 0, .int .i64 0], .int .i64 3]) (by simp [results, Try.results26, go_sem, *]) rfl ⟨rfl, ?_⟩
      repeat (first | exact hB1 | refine Below.drew ?_ | refine below_drewN ?_ _ | refine Below.setCell ?_ (by first | omega | (simp; omega) | simp) _ | refine Below.alloc ?_ (by first | omega | (simp; omega) | simp) _ | refine chainB (by assumption) ?_)
    · obtain ⟨u1, u2, u3, u4⟩ := isq_bd (x := a) (by omega) (by omega)
      obtain ⟨u5, u6⟩ := isqUp_bd (x := b) (by omega) (by omega)
      have hle : isq a ≤ isqUp b := isq_le_up (by omega) h3
      have k : rootR a b = fit (isq a) (isqUp b) := by unfold rootR fit; rw [if_pos h, if_neg hn, if_pos ((vB_iff _ _).2 (by omega))]
      rw [k]
      have c2 := fun w => sqrt_any a (by omega) (by omega) w
      have c3 := fun w => sqrtUp_any b (by omega) (by omega) w
      have c4 := fun w => result_any (isq a) (isqUp b) w
      generalize fit (isq a) (isqUp b) = r at c4 ⊢
      clear h k hle u1 u2 u3 u4 u5 u6
      generalize isq a = x at c2 c4
      generalize isqUp b = y at c3 c4
      go_enter Try.func26, Try.ntmps26
      go_wp2_with fail
      refine (v1 _).mono ?_
      rintro e w1 ⟨rfl, hb⟩
      obtain ⟨hc, hf⟩ := bcell hb
      have k1_0a : w1.cell? ⟨w.heap.size, 0, none⟩ = some (.int .i64 a) := by rw [hc _ _ (by first | omega | (simp; omega) | simp)]; simp [go_sem, *]
      have k1_0b : w1.cell? ⟨w.heap.size, 1, none⟩ = some (.int .i64 b) := by rw [hc _ _ (by first | omega | (simp; omega) | simp)]; simp [go_sem, *]
      have z1_0 : w.heap.size < w1.heap.size := by have := hb.size; (try simp at this); omega
      have k1_1a : w1.cell? ⟨(w.heap.size + 1), 0, none⟩ = some (.int .i64 0) := by rw [hc _ _ (by first | omega | (simp; omega) | simp)]; simp [go_sem, *]
      have k1_1b : w1.cell? ⟨(w.heap.size + 1), 1, none⟩ = some (.int .i64 0) := by rw [hc _ _ (by first | omega | (simp; omega) | simp)]; simp [go_sem, *]
      have z1_1 : (w.heap.size + 1) < w1.heap.size := by have := hb.size; (try simp at this); omega
      have f1_1a : w1.frozen? ⟨(w.heap.size + 1), 0, none⟩ = false := by rw [hf _ _ (by first | omega | (simp; omega) | simp)]; simp [go_sem, *]
      have f1_1b : w1.frozen? ⟨(w.heap.size + 1), 1, none⟩ = false := by rw [hf _ _ (by first | omega | (simp; omega) | simp)]; simp [go_sem, *]
      have hB1 : Below w.heap.size w w1 := by repeat (first | exact (Below.refl _ _) | refine Below.drew ?_ | refine below_drewN ?_ _ | refine Below.setCell ?_ (by first | omega | (simp; omega) | simp) _ | refine Below.alloc ?_ (by first | omega | (simp; omega) | simp) _ | refine chainB (by assumption) ?_)
      have hs1 : w.heap.size ≤ w1.heap.size := hB1.size
      clear hc hf hb 
      go_wp2_with fail
      have hz0 : w.heap.size + 2 ≤ w1.heap.size := by omega
      go_region_held3 (fun w' => w'.cell? ⟨w.heap.size, 0, none⟩ = some (.int .i64 a) ∧ w'.cell? ⟨w.heap.size, 1, none⟩ = some (.int .i64 b)) (simp [go_sem, *])
        (first
          | (go_at_call 91; refine (c2 _).mono ?_; clear c2; rintro e w' ⟨rfl, rfl⟩)
          | (go_at_call 92; refine (c3 _).mono ?_; clear c3; rintro e w' ⟨rfl, rfl⟩)
          | (go_at_call 87; refine (c4 _).mono ?_; clear c4; rintro e w' ⟨rfl, hb⟩; have hcc := (fun b o (h : b < w.heap.size + 2) => hb.cell (p := ⟨b, o, none⟩) (Nat.lt_of_lt_of_le h (by assumption))); have hff := (fun b o (h : b < w.heap.size + 2) => hb.frozen (p := ⟨b, o, none⟩) (Nat.lt_of_lt_of_le h (by assumption))); have hz1 : w.heap.size + 2 ≤ w'.heap.size := (Nat.le_trans (by assumption) hb.size)))
      all_goals
        go_wp2
        refine bodyPost_ret (v := .tuple #[.agg #[.int .i64 r.lo, .int .i64 r.hi], .int .i64 r.e]) (by simp [results, Try.results26, go_sem, *]) rfl ⟨rfl, ?_⟩
        repeat (first | exact hB1 | refine Below.drew ?_ | refine below_drewN ?_ _ | refine Below.setCell ?_ (by first | omega | (simp; omega) | simp) _ | refine Below.alloc ?_ (by first | omega | (simp; omega) | simp) _ | refine chainB (by assumption) ?_)
  · have k : rootR a b = ⟨0, 0, 2⟩ := if_neg h
    rw [k]
    have v1 := fun w => valid_no a b h w
    clear h k
    go_enter Try.func26, Try.ntmps26
    go_wp2_with fail
    refine (v1 _).mono ?_
    rintro e w1 ⟨rfl, hb⟩
    obtain ⟨hc, hf⟩ := bcell hb
    have k1_0a : w1.cell? ⟨w.heap.size, 0, none⟩ = some (.int .i64 a) := by rw [hc _ _ (by first | omega | (simp; omega) | simp)]; simp [go_sem, *]
    have k1_0b : w1.cell? ⟨w.heap.size, 1, none⟩ = some (.int .i64 b) := by rw [hc _ _ (by first | omega | (simp; omega) | simp)]; simp [go_sem, *]
    have z1_0 : w.heap.size < w1.heap.size := by have := hb.size; (try simp at this); omega
    have k1_1a : w1.cell? ⟨(w.heap.size + 1), 0, none⟩ = some (.int .i64 0) := by rw [hc _ _ (by first | omega | (simp; omega) | simp)]; simp [go_sem, *]
    have k1_1b : w1.cell? ⟨(w.heap.size + 1), 1, none⟩ = some (.int .i64 0) := by rw [hc _ _ (by first | omega | (simp; omega) | simp)]; simp [go_sem, *]
    have z1_1 : (w.heap.size + 1) < w1.heap.size := by have := hb.size; (try simp at this); omega
    have f1_1a : w1.frozen? ⟨(w.heap.size + 1), 0, none⟩ = false := by rw [hf _ _ (by first | omega | (simp; omega) | simp)]; simp [go_sem, *]
    have f1_1b : w1.frozen? ⟨(w.heap.size + 1), 1, none⟩ = false := by rw [hf _ _ (by first | omega | (simp; omega) | simp)]; simp [go_sem, *]
    have hB1 : Below w.heap.size w w1 := by repeat (first | exact (Below.refl _ _) | refine Below.drew ?_ | refine below_drewN ?_ _ | refine Below.setCell ?_ (by first | omega | (simp; omega) | simp) _ | refine Below.alloc ?_ (by first | omega | (simp; omega) | simp) _ | refine chainB (by assumption) ?_)
    have hs1 : w.heap.size ≤ w1.heap.size := hB1.size
    clear hc hf hb 
    go_wp2_with fail
    refine bodyPost_ret (v := .tuple #[.agg #[.int .i64 0, .int .i64 0], .int .i64 2]) (by simp [results, Try.results26, go_sem, *]) rfl ⟨rfl, ?_⟩
    repeat (first | exact hB1 | refine Below.drew ?_ | refine below_drewN ?_ _ | refine Below.setCell ?_ (by first | omega | (simp; omega) | simp) _ | refine Below.alloc ?_ (by first | omega | (simp; omega) | simp) _ | refine chainB (by assumption) ?_)

end Go.Proofs.Ytamelpfhbnkggaa

/-
  The walk of BoundScales.
-/
import Derived.Test.YtamelpfhbnkggaaRefScale
import Derived.Test.YtamelpfhbnkggaaRefLine
import Derived.Test.YtamelpfhbnkggaaWorks
import Derived.Test.YtamelpfhbnkggaaOps
namespace Go.Proofs.Ytamelpfhbnkggaa
open Go.RowKit Go.Shelf
set_option maxRecDepth 100000 in
set_option maxHeartbeats 8000000 in
theorem law_scales (a b c d n m r t0 t1 t : Int) (w : World) :
    Calls Try.prog 4 #[.agg #[.int .i64 a, .int .i64 b], .agg #[.int .i64 c, .int .i64 d], .int .i64 n, .int .i64 m, .int .i64 r, .int .i64 t0, .int .i64 t1, .int .i64 t] w fun e w' => e = .returned (.bool true) ∧ Below w.heap.size w w' := by
  have cW := fun w => works_any w
  have c1 := fun w => scale_any a b n m w
  have d1 := fun w => rscale_any a b n m w
  have c2 := fun w => root_any a b w
  have d2 := fun w => rroot_any a b w
  have c3 := fun w => grow_any a b r w
  have d3 := fun w => rgrow_any a b r w
  have c4 := fun w => line_any t0 a b t1 c d t w
  have d4 := fun w => rline_any t0 a b t1 c d t w
  generalize scaleS a b n m = p1 at c1 d1
  generalize rootR a b = p2 at c2 d2
  generalize growS a b r = p3 at c3 d3
  generalize lineS t0 a b t1 c d t = p4 at c4 d4
  go_enter Try.func4, Try.ntmps4
  go_wp2_with fail
  refine (c1 _).mono ?_
  rintro e w1 ⟨rfl, hb⟩
  obtain ⟨hc, hf⟩ := bcell hb
  have k1_0a : w1.cell? ⟨w.heap.size, 0, none⟩ = some (.int .i64 a) := by rw [hc _ _ (by first | omega | (simp; omega) | simp)]; simp [go_sem, *]
  have k1_0b : w1.cell? ⟨w.heap.size, 1, none⟩ = some (.int .i64 b) := by rw [hc _ _ (by first | omega | (simp; omega) | simp)]; simp [go_sem, *]
  have z1_0 : w.heap.size < w1.heap.size := by have := hb.size; (try simp at this); omega
  have k1_1a : w1.cell? ⟨(w.heap.size + 1), 0, none⟩ = some (.int .i64 c) := by rw [hc _ _ (by first | omega | (simp; omega) | simp)]; simp [go_sem, *]
  have k1_1b : w1.cell? ⟨(w.heap.size + 1), 1, none⟩ = some (.int .i64 d) := by rw [hc _ _ (by first | omega | (simp; omega) | simp)]; simp [go_sem, *]
  have z1_1 : (w.heap.size + 1) < w1.heap.size := by have := hb.size; (try simp at this); omega
  have hB1 : Below w.heap.size w w1 := by repeat (first | exact (Below.refl _ _) | refine Below.drew ?_ | refine below_drewN ?_ _ | refine Below.setCell ?_ (by first | omega | (simp; omega) | simp) _ | refine Below.alloc ?_ (by first | omega | (simp; omega) | simp) _ | refine chainB (by assumption) ?_)
  have hs1 : w.heap.size ≤ w1.heap.size := hB1.size
  clear hc hf hb 
  go_wp2_with fail
  refine (d1 _).mono ?_
  rintro e w2 ⟨rfl, hb⟩
  obtain ⟨hc, hf⟩ := bcell hb
  have d1350 : ¬ w.heap.size = w1.heap.size := by omega
  have d1350s : ¬ w1.heap.size = w.heap.size := by omega
  have d1463 : ¬ (w.heap.size + 1) = w1.heap.size := by omega
  have d1463s : ¬ w1.heap.size = (w.heap.size + 1) := by omega
  have d1588l : w.heap.size ≤ w1.heap.size := by omega
  have k2_0a : w2.cell? ⟨w.heap.size, 0, none⟩ = some (.int .i64 a) := by rw [hc _ _ (by first | omega | (simp; omega) | simp)]; simp [go_sem, *]
  have k2_0b : w2.cell? ⟨w.heap.size, 1, none⟩ = some (.int .i64 b) := by rw [hc _ _ (by first | omega | (simp; omega) | simp)]; simp [go_sem, *]
  have z2_0 : w.heap.size < w2.heap.size := by have := hb.size; (try simp at this); omega
  have k2_1a : w2.cell? ⟨(w.heap.size + 1), 0, none⟩ = some (.int .i64 c) := by rw [hc _ _ (by first | omega | (simp; omega) | simp)]; simp [go_sem, *]
  have k2_1b : w2.cell? ⟨(w.heap.size + 1), 1, none⟩ = some (.int .i64 d) := by rw [hc _ _ (by first | omega | (simp; omega) | simp)]; simp [go_sem, *]
  have z2_1 : (w.heap.size + 1) < w2.heap.size := by have := hb.size; (try simp at this); omega
  have k2_2a : w2.cell? ⟨w1.heap.size, 0, none⟩ = some (.int .i64 p1.lo) := by rw [hc _ _ (by first | omega | (simp; omega) | simp)]; simp [go_sem, *]
  have k2_2b : w2.cell? ⟨w1.heap.size, 1, none⟩ = some (.int .i64 p1.hi) := by rw [hc _ _ (by first | omega | (simp; omega) | simp)]; simp [go_sem, *]
  have z2_2 : w1.heap.size < w2.heap.size := by have := hb.size; (try simp at this); omega
  have hB2 : Below w.heap.size w w2 := by repeat (first | exact hB1 | refine Below.drew ?_ | refine below_drewN ?_ _ | refine Below.setCell ?_ (by first | omega | (simp; omega) | simp) _ | refine Below.alloc ?_ (by first | omega | (simp; omega) | simp) _ | refine chainB (by assumption) ?_)
  have hs2 : w.heap.size ≤ w2.heap.size := hB2.size
  clear hc hf hb k1_0a k1_0b z1_0 k1_1a k1_1b z1_1 hB1 hs1
  go_wp2_with fail
  refine (c2 _).mono ?_
  rintro e w3 ⟨rfl, hb⟩
  obtain ⟨hc, hf⟩ := bcell hb
  have d3317 : ¬ w.heap.size = w2.heap.size := by omega
  have d3317s : ¬ w2.heap.size = w.heap.size := by omega
  have d3430 : ¬ (w.heap.size + 1) = w2.heap.size := by omega
  have d3430s : ¬ w2.heap.size = (w.heap.size + 1) := by omega
  have d3555 : ¬ w1.heap.size = w2.heap.size := by omega
  have d3555s : ¬ w2.heap.size = w1.heap.size := by omega
  have d3670l : w.heap.size ≤ w2.heap.size := by omega
  have k3_0a : w3.cell? ⟨w.heap.size, 0, none⟩ = some (.int .i64 a) := by rw [hc _ _ (by first | omega | (simp; omega) | simp)]; simp [go_sem, *]
  have k3_0b : w3.cell? ⟨w.heap.size, 1, none⟩ = some (.int .i64 b) := by rw [hc _ _ (by first | omega | (simp; omega) | simp)]; simp [go_sem, *]
  have z3_0 : w.heap.size < w3.heap.size := by have := hb.size; (try simp at this); omega
  have k3_1a : w3.cell? ⟨(w.heap.size + 1), 0, none⟩ = some (.int .i64 c) := by rw [hc _ _ (by first | omega | (simp; omega) | simp)]; simp [go_sem, *]
  have k3_1b : w3.cell? ⟨(w.heap.size + 1), 1, none⟩ = some (.int .i64 d) := by rw [hc _ _ (by first | omega | (simp; omega) | simp)]; simp [go_sem, *]
  have z3_1 : (w.heap.size + 1) < w3.heap.size := by have := hb.size; (try simp at this); omega
  have k3_2a : w3.cell? ⟨w1.heap.size, 0, none⟩ = some (.int .i64 p1.lo) := by rw [hc _ _ (by first | omega | (simp; omega) | simp)]; simp [go_sem, *]
  have k3_2b : w3.cell? ⟨w1.heap.size, 1, none⟩ = some (.int .i64 p1.hi) := by rw [hc _ _ (by first | omega | (simp; omega) | simp)]; simp [go_sem, *]
  have z3_2 : w1.heap.size < w3.heap.size := by have := hb.size; (try simp at this); omega
  have k3_3a : w3.cell? ⟨w2.heap.size, 0, none⟩ = some (.int .i64 p1.lo) := by rw [hc _ _ (by first | omega | (simp; omega) | simp)]; simp [go_sem, *]
  have k3_3b : w3.cell? ⟨w2.heap.size, 1, none⟩ = some (.int .i64 p1.hi) := by rw [hc _ _ (by first | omega | (simp; omega) | simp)]; simp [go_sem, *]
  have z3_3 : w2.heap.size < w3.heap.size := by have := hb.size; (try simp at this); omega
  have hB3 : Below w.heap.size w w3 := by repeat (first | exact hB2 | refine Below.drew ?_ | refine below_drewN ?_ _ | refine Below.setCell ?_ (by first | omega | (simp; omega) | simp) _ | refine Below.alloc ?_ (by first | omega | (simp; omega) | simp) _ | refine chainB (by assumption) ?_)
  have hs3 : w.heap.size ≤ w3.heap.size := hB3.size
  clear hc hf hb k2_0a k2_0b z2_0 k2_1a k2_1b z2_1 k2_2a k2_2b z2_2 hB2 hs2
  go_wp2_with fail
  refine (d2 _).mono ?_
  rintro e w4 ⟨rfl, hb⟩
  obtain ⟨hc, hf⟩ := bcell hb
  have d5809 : ¬ w.heap.size = w3.heap.size := by omega
  have d5809s : ¬ w3.heap.size = w.heap.size := by omega
  have d5922 : ¬ (w.heap.size + 1) = w3.heap.size := by omega
  have d5922s : ¬ w3.heap.size = (w.heap.size + 1) := by omega
  have d6047 : ¬ w1.heap.size = w3.heap.size := by omega
  have d6047s : ¬ w3.heap.size = w1.heap.size := by omega
  have d6162 : ¬ w2.heap.size = w3.heap.size := by omega
  have d6162s : ¬ w3.heap.size = w2.heap.size := by omega
  have d6277l : w.heap.size ≤ w3.heap.size := by omega
  have k4_0a : w4.cell? ⟨w.heap.size, 0, none⟩ = some (.int .i64 a) := by rw [hc _ _ (by first | omega | (simp; omega) | simp)]; simp [go_sem, *]
  have k4_0b : w4.cell? ⟨w.heap.size, 1, none⟩ = some (.int .i64 b) := by rw [hc _ _ (by first | omega | (simp; omega) | simp)]; simp [go_sem, *]
  have z4_0 : w.heap.size < w4.heap.size := by have := hb.size; (try simp at this); omega
  have k4_1a : w4.cell? ⟨(w.heap.size + 1), 0, none⟩ = some (.int .i64 c) := by rw [hc _ _ (by first | omega | (simp; omega) | simp)]; simp [go_sem, *]
  have k4_1b : w4.cell? ⟨(w.heap.size + 1), 1, none⟩ = some (.int .i64 d) := by rw [hc _ _ (by first | omega | (simp; omega) | simp)]; simp [go_sem, *]
  have z4_1 : (w.heap.size + 1) < w4.heap.size := by have := hb.size; (try simp at this); omega
  have k4_2a : w4.cell? ⟨w1.heap.size, 0, none⟩ = some (.int .i64 p1.lo) := by rw [hc _ _ (by first | omega | (simp; omega) | simp)]; simp [go_sem, *]
  have k4_2b : w4.cell? ⟨w1.heap.size, 1, none⟩ = some (.int .i64 p1.hi) := by rw [hc _ _ (by first | omega | (simp; omega) | simp)]; simp [go_sem, *]
  have z4_2 : w1.heap.size < w4.heap.size := by have := hb.size; (try simp at this); omega
  have k4_3a : w4.cell? ⟨w2.heap.size, 0, none⟩ = some (.int .i64 p1.lo) := by rw [hc _ _ (by first | omega | (simp; omega) | simp)]; simp [go_sem, *]
  have k4_3b : w4.cell? ⟨w2.heap.size, 1, none⟩ = some (.int .i64 p1.hi) := by rw [hc _ _ (by first | omega | (simp; omega) | simp)]; simp [go_sem, *]
  have z4_3 : w2.heap.size < w4.heap.size := by have := hb.size; (try simp at this); omega
  have k4_4a : w4.cell? ⟨w3.heap.size, 0, none⟩ = some (.int .i64 p2.lo) := by rw [hc _ _ (by first | omega | (simp; omega) | simp)]; simp [go_sem, *]
  have k4_4b : w4.cell? ⟨w3.heap.size, 1, none⟩ = some (.int .i64 p2.hi) := by rw [hc _ _ (by first | omega | (simp; omega) | simp)]; simp [go_sem, *]
  have z4_4 : w3.heap.size < w4.heap.size := by have := hb.size; (try simp at this); omega
  have hB4 : Below w.heap.size w w4 := by repeat (first | exact hB3 | refine Below.drew ?_ | refine below_drewN ?_ _ | refine Below.setCell ?_ (by first | omega | (simp; omega) | simp) _ | refine Below.alloc ?_ (by first | omega | (simp; omega) | simp) _ | refine chainB (by assumption) ?_)
  have hs4 : w.heap.size ≤ w4.heap.size := hB4.size
  clear hc hf hb k3_0a k3_0b z3_0 k3_1a k3_1b z3_1 k3_2a k3_2b z3_2 k3_3a k3_3b z3_3 hB3 hs3
  go_wp2_with fail
  refine (c3 _).mono ?_
  rintro e w5 ⟨rfl, hb⟩
  obtain ⟨hc, hf⟩ := bcell hb
  have d8826 : ¬ w.heap.size = w4.heap.size := by omega
  have d8826s : ¬ w4.heap.size = w.heap.size := by omega
  have d8939 : ¬ (w.heap.size + 1) = w4.heap.size := by omega
  have d8939s : ¬ w4.heap.size = (w.heap.size + 1) := by omega
  have d9064 : ¬ w1.heap.size = w4.heap.size := by omega
  have d9064s : ¬ w4.heap.size = w1.heap.size := by omega
  have d9179 : ¬ w2.heap.size = w4.heap.size := by omega
  have d9179s : ¬ w4.heap.size = w2.heap.size := by omega
  have d9294 : ¬ w3.heap.size = w4.heap.size := by omega
  have d9294s : ¬ w4.heap.size = w3.heap.size := by omega
  have d9409l : w.heap.size ≤ w4.heap.size := by omega
  have k5_0a : w5.cell? ⟨w.heap.size, 0, none⟩ = some (.int .i64 a) := by rw [hc _ _ (by first | omega | (simp; omega) | simp)]; simp [go_sem, *]
  have k5_0b : w5.cell? ⟨w.heap.size, 1, none⟩ = some (.int .i64 b) := by rw [hc _ _ (by first | omega | (simp; omega) | simp)]; simp [go_sem, *]
  have z5_0 : w.heap.size < w5.heap.size := by have := hb.size; (try simp at this); omega
  have k5_1a : w5.cell? ⟨(w.heap.size + 1), 0, none⟩ = some (.int .i64 c) := by rw [hc _ _ (by first | omega | (simp; omega) | simp)]; simp [go_sem, *]
  have k5_1b : w5.cell? ⟨(w.heap.size + 1), 1, none⟩ = some (.int .i64 d) := by rw [hc _ _ (by first | omega | (simp; omega) | simp)]; simp [go_sem, *]
  have z5_1 : (w.heap.size + 1) < w5.heap.size := by have := hb.size; (try simp at this); omega
  have k5_2a : w5.cell? ⟨w1.heap.size, 0, none⟩ = some (.int .i64 p1.lo) := by rw [hc _ _ (by first | omega | (simp; omega) | simp)]; simp [go_sem, *]
  have k5_2b : w5.cell? ⟨w1.heap.size, 1, none⟩ = some (.int .i64 p1.hi) := by rw [hc _ _ (by first | omega | (simp; omega) | simp)]; simp [go_sem, *]
  have z5_2 : w1.heap.size < w5.heap.size := by have := hb.size; (try simp at this); omega
  have k5_3a : w5.cell? ⟨w2.heap.size, 0, none⟩ = some (.int .i64 p1.lo) := by rw [hc _ _ (by first | omega | (simp; omega) | simp)]; simp [go_sem, *]
  have k5_3b : w5.cell? ⟨w2.heap.size, 1, none⟩ = some (.int .i64 p1.hi) := by rw [hc _ _ (by first | omega | (simp; omega) | simp)]; simp [go_sem, *]
  have z5_3 : w2.heap.size < w5.heap.size := by have := hb.size; (try simp at this); omega
  have k5_4a : w5.cell? ⟨w3.heap.size, 0, none⟩ = some (.int .i64 p2.lo) := by rw [hc _ _ (by first | omega | (simp; omega) | simp)]; simp [go_sem, *]
  have k5_4b : w5.cell? ⟨w3.heap.size, 1, none⟩ = some (.int .i64 p2.hi) := by rw [hc _ _ (by first | omega | (simp; omega) | simp)]; simp [go_sem, *]
  have z5_4 : w3.heap.size < w5.heap.size := by have := hb.size; (try simp at this); omega
  have k5_5a : w5.cell? ⟨w4.heap.size, 0, none⟩ = some (.int .i64 p2.lo) := by rw [hc _ _ (by first | omega | (simp; omega) | simp)]; simp [go_sem, *]
  have k5_5b : w5.cell? ⟨w4.heap.size, 1, none⟩ = some (.int .i64 p2.hi) := by rw [hc _ _ (by first | omega | (simp; omega) | simp)]; simp [go_sem, *]
  have z5_5 : w4.heap.size < w5.heap.size := by have := hb.size; (try simp at this); omega
  have hB5 : Below w.heap.size w w5 := by repeat (first | exact hB4 | refine Below.drew ?_ | refine below_drewN ?_ _ | refine Below.setCell ?_ (by first | omega | (simp; omega) | simp) _ | refine Below.alloc ?_ (by first | omega | (simp; omega) | simp) _ | refine chainB (by assumption) ?_)
  have hs5 : w.heap.size ≤ w5.heap.size := hB5.size
  clear hc hf hb k4_0a k4_0b z4_0 k4_1a k4_1b z4_1 k4_2a k4_2b z4_2 k4_3a k4_3b z4_3 k4_4a k4_4b z4_4 hB4 hs4
  go_wp2_with fail
  refine (d3 _).mono ?_
  rintro e w6 ⟨rfl, hb⟩
  obtain ⟨hc, hf⟩ := bcell hb
  have d12368 : ¬ w.heap.size = w5.heap.size := by omega
  have d12368s : ¬ w5.heap.size = w.heap.size := by omega
  have d12483 : ¬ (w.heap.size + 1) = w5.heap.size := by omega
  have d12483s : ¬ w5.heap.size = (w.heap.size + 1) := by omega
  have d12610 : ¬ w1.heap.size = w5.heap.size := by omega
  have d12610s : ¬ w5.heap.size = w1.heap.size := by omega
  have d12727 : ¬ w2.heap.size = w5.heap.size := by omega
  have d12727s : ¬ w5.heap.size = w2.heap.size := by omega
  have d12844 : ¬ w3.heap.size = w5.heap.size := by omega
  have d12844s : ¬ w5.heap.size = w3.heap.size := by omega
  have d12961 : ¬ w4.heap.size = w5.heap.size := by omega
  have d12961s : ¬ w5.heap.size = w4.heap.size := by omega
  have d13078l : w.heap.size ≤ w5.heap.size := by omega
  have k6_0a : w6.cell? ⟨w.heap.size, 0, none⟩ = some (.int .i64 a) := by rw [hc _ _ (by first | omega | (simp; omega) | simp)]; simp [go_sem, *]
  have k6_0b : w6.cell? ⟨w.heap.size, 1, none⟩ = some (.int .i64 b) := by rw [hc _ _ (by first | omega | (simp; omega) | simp)]; simp [go_sem, *]
  have z6_0 : w.heap.size < w6.heap.size := by have := hb.size; (try simp at this); omega
  have k6_1a : w6.cell? ⟨(w.heap.size + 1), 0, none⟩ = some (.int .i64 c) := by rw [hc _ _ (by first | omega | (simp; omega) | simp)]; simp [go_sem, *]
  have k6_1b : w6.cell? ⟨(w.heap.size + 1), 1, none⟩ = some (.int .i64 d) := by rw [hc _ _ (by first | omega | (simp; omega) | simp)]; simp [go_sem, *]
  have z6_1 : (w.heap.size + 1) < w6.heap.size := by have := hb.size; (try simp at this); omega
  have k6_2a : w6.cell? ⟨w1.heap.size, 0, none⟩ = some (.int .i64 p1.lo) := by rw [hc _ _ (by first | omega | (simp; omega) | simp)]; simp [go_sem, *]
  have k6_2b : w6.cell? ⟨w1.heap.size, 1, none⟩ = some (.int .i64 p1.hi) := by rw [hc _ _ (by first | omega | (simp; omega) | simp)]; simp [go_sem, *]
  have z6_2 : w1.heap.size < w6.heap.size := by have := hb.size; (try simp at this); omega
  have k6_3a : w6.cell? ⟨w2.heap.size, 0, none⟩ = some (.int .i64 p1.lo) := by rw [hc _ _ (by first | omega | (simp; omega) | simp)]; simp [go_sem, *]
  have k6_3b : w6.cell? ⟨w2.heap.size, 1, none⟩ = some (.int .i64 p1.hi) := by rw [hc _ _ (by first | omega | (simp; omega) | simp)]; simp [go_sem, *]
  have z6_3 : w2.heap.size < w6.heap.size := by have := hb.size; (try simp at this); omega
  have k6_4a : w6.cell? ⟨w3.heap.size, 0, none⟩ = some (.int .i64 p2.lo) := by rw [hc _ _ (by first | omega | (simp; omega) | simp)]; simp [go_sem, *]
  have k6_4b : w6.cell? ⟨w3.heap.size, 1, none⟩ = some (.int .i64 p2.hi) := by rw [hc _ _ (by first | omega | (simp; omega) | simp)]; simp [go_sem, *]
  have z6_4 : w3.heap.size < w6.heap.size := by have := hb.size; (try simp at this); omega
  have k6_5a : w6.cell? ⟨w4.heap.size, 0, none⟩ = some (.int .i64 p2.lo) := by rw [hc _ _ (by first | omega | (simp; omega) | simp)]; simp [go_sem, *]
  have k6_5b : w6.cell? ⟨w4.heap.size, 1, none⟩ = some (.int .i64 p2.hi) := by rw [hc _ _ (by first | omega | (simp; omega) | simp)]; simp [go_sem, *]
  have z6_5 : w4.heap.size < w6.heap.size := by have := hb.size; (try simp at this); omega
  have k6_6a : w6.cell? ⟨w5.heap.size, 0, none⟩ = some (.int .i64 p3.lo) := by rw [hc _ _ (by first | omega | (simp; omega) | simp)]; simp [go_sem, *]
  have k6_6b : w6.cell? ⟨w5.heap.size, 1, none⟩ = some (.int .i64 p3.hi) := by rw [hc _ _ (by first | omega | (simp; omega) | simp)]; simp [go_sem, *]
  have z6_6 : w5.heap.size < w6.heap.size := by have := hb.size; (try simp at this); omega
  have hB6 : Below w.heap.size w w6 := by repeat (first | exact hB5 | refine Below.drew ?_ | refine below_drewN ?_ _ | refine Below.setCell ?_ (by first | omega | (simp; omega) | simp) _ | refine Below.alloc ?_ (by first | omega | (simp; omega) | simp) _ | refine chainB (by assumption) ?_)
  have hs6 : w.heap.size ≤ w6.heap.size := hB6.size
  clear hc hf hb k5_0a k5_0b z5_0 k5_1a k5_1b z5_1 k5_2a k5_2b z5_2 k5_3a k5_3b z5_3 k5_4a k5_4b z5_4 k5_5a k5_5b z5_5 hB5 hs5
  go_wp2_with fail
  refine (c4 _).mono ?_
  rintro e w7 ⟨rfl, hb⟩
  obtain ⟨hc, hf⟩ := bcell hb
  have d16448 : ¬ w.heap.size = w6.heap.size := by omega
  have d16448s : ¬ w6.heap.size = w.heap.size := by omega
  have d16563 : ¬ (w.heap.size + 1) = w6.heap.size := by omega
  have d16563s : ¬ w6.heap.size = (w.heap.size + 1) := by omega
  have d16690 : ¬ w1.heap.size = w6.heap.size := by omega
  have d16690s : ¬ w6.heap.size = w1.heap.size := by omega
  have d16807 : ¬ w2.heap.size = w6.heap.size := by omega
  have d16807s : ¬ w6.heap.size = w2.heap.size := by omega
  have d16924 : ¬ w3.heap.size = w6.heap.size := by omega
  have d16924s : ¬ w6.heap.size = w3.heap.size := by omega
  have d17041 : ¬ w4.heap.size = w6.heap.size := by omega
  have d17041s : ¬ w6.heap.size = w4.heap.size := by omega
  have d17158 : ¬ w5.heap.size = w6.heap.size := by omega
  have d17158s : ¬ w6.heap.size = w5.heap.size := by omega
  have d17275l : w.heap.size ≤ w6.heap.size := by omega
  have k7_0a : w7.cell? ⟨w.heap.size, 0, none⟩ = some (.int .i64 a) := by rw [hc _ _ (by first | omega | (simp; omega) | simp)]; simp [go_sem, *]
  have k7_0b : w7.cell? ⟨w.heap.size, 1, none⟩ = some (.int .i64 b) := by rw [hc _ _ (by first | omega | (simp; omega) | simp)]; simp [go_sem, *]
  have z7_0 : w.heap.size < w7.heap.size := by have := hb.size; (try simp at this); omega
  have k7_1a : w7.cell? ⟨(w.heap.size + 1), 0, none⟩ = some (.int .i64 c) := by rw [hc _ _ (by first | omega | (simp; omega) | simp)]; simp [go_sem, *]
  have k7_1b : w7.cell? ⟨(w.heap.size + 1), 1, none⟩ = some (.int .i64 d) := by rw [hc _ _ (by first | omega | (simp; omega) | simp)]; simp [go_sem, *]
  have z7_1 : (w.heap.size + 1) < w7.heap.size := by have := hb.size; (try simp at this); omega
  have k7_2a : w7.cell? ⟨w1.heap.size, 0, none⟩ = some (.int .i64 p1.lo) := by rw [hc _ _ (by first | omega | (simp; omega) | simp)]; simp [go_sem, *]
  have k7_2b : w7.cell? ⟨w1.heap.size, 1, none⟩ = some (.int .i64 p1.hi) := by rw [hc _ _ (by first | omega | (simp; omega) | simp)]; simp [go_sem, *]
  have z7_2 : w1.heap.size < w7.heap.size := by have := hb.size; (try simp at this); omega
  have k7_3a : w7.cell? ⟨w2.heap.size, 0, none⟩ = some (.int .i64 p1.lo) := by rw [hc _ _ (by first | omega | (simp; omega) | simp)]; simp [go_sem, *]
  have k7_3b : w7.cell? ⟨w2.heap.size, 1, none⟩ = some (.int .i64 p1.hi) := by rw [hc _ _ (by first | omega | (simp; omega) | simp)]; simp [go_sem, *]
  have z7_3 : w2.heap.size < w7.heap.size := by have := hb.size; (try simp at this); omega
  have k7_4a : w7.cell? ⟨w3.heap.size, 0, none⟩ = some (.int .i64 p2.lo) := by rw [hc _ _ (by first | omega | (simp; omega) | simp)]; simp [go_sem, *]
  have k7_4b : w7.cell? ⟨w3.heap.size, 1, none⟩ = some (.int .i64 p2.hi) := by rw [hc _ _ (by first | omega | (simp; omega) | simp)]; simp [go_sem, *]
  have z7_4 : w3.heap.size < w7.heap.size := by have := hb.size; (try simp at this); omega
  have k7_5a : w7.cell? ⟨w4.heap.size, 0, none⟩ = some (.int .i64 p2.lo) := by rw [hc _ _ (by first | omega | (simp; omega) | simp)]; simp [go_sem, *]
  have k7_5b : w7.cell? ⟨w4.heap.size, 1, none⟩ = some (.int .i64 p2.hi) := by rw [hc _ _ (by first | omega | (simp; omega) | simp)]; simp [go_sem, *]
  have z7_5 : w4.heap.size < w7.heap.size := by have := hb.size; (try simp at this); omega
  have k7_6a : w7.cell? ⟨w5.heap.size, 0, none⟩ = some (.int .i64 p3.lo) := by rw [hc _ _ (by first | omega | (simp; omega) | simp)]; simp [go_sem, *]
  have k7_6b : w7.cell? ⟨w5.heap.size, 1, none⟩ = some (.int .i64 p3.hi) := by rw [hc _ _ (by first | omega | (simp; omega) | simp)]; simp [go_sem, *]
  have z7_6 : w5.heap.size < w7.heap.size := by have := hb.size; (try simp at this); omega
  have k7_7a : w7.cell? ⟨w6.heap.size, 0, none⟩ = some (.int .i64 p3.lo) := by rw [hc _ _ (by first | omega | (simp; omega) | simp)]; simp [go_sem, *]
  have k7_7b : w7.cell? ⟨w6.heap.size, 1, none⟩ = some (.int .i64 p3.hi) := by rw [hc _ _ (by first | omega | (simp; omega) | simp)]; simp [go_sem, *]
  have z7_7 : w6.heap.size < w7.heap.size := by have := hb.size; (try simp at this); omega
  have hB7 : Below w.heap.size w w7 := by repeat (first | exact hB6 | refine Below.drew ?_ | refine below_drewN ?_ _ | refine Below.setCell ?_ (by first | omega | (simp; omega) | simp) _ | refine Below.alloc ?_ (by first | omega | (simp; omega) | simp) _ | refine chainB (by assumption) ?_)
  have hs7 : w.heap.size ≤ w7.heap.size := hB7.size
  clear hc hf hb k6_0a k6_0b z6_0 k6_1a k6_1b z6_1 k6_2a k6_2b z6_2 k6_3a k6_3b z6_3 k6_4a k6_4b z6_4 k6_5a k6_5b z6_5 k6_6a k6_6b z6_6 hB6 hs6
  go_wp2_with fail
  refine (d4 _).mono ?_
  rintro e w8 ⟨rfl, hb⟩
  obtain ⟨hc, hf⟩ := bcell hb
  have d21055 : ¬ w.heap.size = w7.heap.size := by omega
  have d21055s : ¬ w7.heap.size = w.heap.size := by omega
  have d21170 : ¬ (w.heap.size + 1) = w7.heap.size := by omega
  have d21170s : ¬ w7.heap.size = (w.heap.size + 1) := by omega
  have d21297 : ¬ w1.heap.size = w7.heap.size := by omega
  have d21297s : ¬ w7.heap.size = w1.heap.size := by omega
  have d21414 : ¬ w2.heap.size = w7.heap.size := by omega
  have d21414s : ¬ w7.heap.size = w2.heap.size := by omega
  have d21531 : ¬ w3.heap.size = w7.heap.size := by omega
  have d21531s : ¬ w7.heap.size = w3.heap.size := by omega
  have d21648 : ¬ w4.heap.size = w7.heap.size := by omega
  have d21648s : ¬ w7.heap.size = w4.heap.size := by omega
  have d21765 : ¬ w5.heap.size = w7.heap.size := by omega
  have d21765s : ¬ w7.heap.size = w5.heap.size := by omega
  have d21882 : ¬ w6.heap.size = w7.heap.size := by omega
  have d21882s : ¬ w7.heap.size = w6.heap.size := by omega
  have d21999l : w.heap.size ≤ w7.heap.size := by omega
  have k8_0a : w8.cell? ⟨w.heap.size, 0, none⟩ = some (.int .i64 a) := by rw [hc _ _ (by first | omega | (simp; omega) | simp)]; simp [go_sem, *]
  have k8_0b : w8.cell? ⟨w.heap.size, 1, none⟩ = some (.int .i64 b) := by rw [hc _ _ (by first | omega | (simp; omega) | simp)]; simp [go_sem, *]
  have z8_0 : w.heap.size < w8.heap.size := by have := hb.size; (try simp at this); omega
  have k8_1a : w8.cell? ⟨(w.heap.size + 1), 0, none⟩ = some (.int .i64 c) := by rw [hc _ _ (by first | omega | (simp; omega) | simp)]; simp [go_sem, *]
  have k8_1b : w8.cell? ⟨(w.heap.size + 1), 1, none⟩ = some (.int .i64 d) := by rw [hc _ _ (by first | omega | (simp; omega) | simp)]; simp [go_sem, *]
  have z8_1 : (w.heap.size + 1) < w8.heap.size := by have := hb.size; (try simp at this); omega
  have k8_2a : w8.cell? ⟨w1.heap.size, 0, none⟩ = some (.int .i64 p1.lo) := by rw [hc _ _ (by first | omega | (simp; omega) | simp)]; simp [go_sem, *]
  have k8_2b : w8.cell? ⟨w1.heap.size, 1, none⟩ = some (.int .i64 p1.hi) := by rw [hc _ _ (by first | omega | (simp; omega) | simp)]; simp [go_sem, *]
  have z8_2 : w1.heap.size < w8.heap.size := by have := hb.size; (try simp at this); omega
  have k8_3a : w8.cell? ⟨w2.heap.size, 0, none⟩ = some (.int .i64 p1.lo) := by rw [hc _ _ (by first | omega | (simp; omega) | simp)]; simp [go_sem, *]
  have k8_3b : w8.cell? ⟨w2.heap.size, 1, none⟩ = some (.int .i64 p1.hi) := by rw [hc _ _ (by first | omega | (simp; omega) | simp)]; simp [go_sem, *]
  have z8_3 : w2.heap.size < w8.heap.size := by have := hb.size; (try simp at this); omega
  have k8_4a : w8.cell? ⟨w3.heap.size, 0, none⟩ = some (.int .i64 p2.lo) := by rw [hc _ _ (by first | omega | (simp; omega) | simp)]; simp [go_sem, *]
  have k8_4b : w8.cell? ⟨w3.heap.size, 1, none⟩ = some (.int .i64 p2.hi) := by rw [hc _ _ (by first | omega | (simp; omega) | simp)]; simp [go_sem, *]
  have z8_4 : w3.heap.size < w8.heap.size := by have := hb.size; (try simp at this); omega
  have k8_5a : w8.cell? ⟨w4.heap.size, 0, none⟩ = some (.int .i64 p2.lo) := by rw [hc _ _ (by first | omega | (simp; omega) | simp)]; simp [go_sem, *]
  have k8_5b : w8.cell? ⟨w4.heap.size, 1, none⟩ = some (.int .i64 p2.hi) := by rw [hc _ _ (by first | omega | (simp; omega) | simp)]; simp [go_sem, *]
  have z8_5 : w4.heap.size < w8.heap.size := by have := hb.size; (try simp at this); omega
  have k8_6a : w8.cell? ⟨w5.heap.size, 0, none⟩ = some (.int .i64 p3.lo) := by rw [hc _ _ (by first | omega | (simp; omega) | simp)]; simp [go_sem, *]
  have k8_6b : w8.cell? ⟨w5.heap.size, 1, none⟩ = some (.int .i64 p3.hi) := by rw [hc _ _ (by first | omega | (simp; omega) | simp)]; simp [go_sem, *]
  have z8_6 : w5.heap.size < w8.heap.size := by have := hb.size; (try simp at this); omega
  have k8_7a : w8.cell? ⟨w6.heap.size, 0, none⟩ = some (.int .i64 p3.lo) := by rw [hc _ _ (by first | omega | (simp; omega) | simp)]; simp [go_sem, *]
  have k8_7b : w8.cell? ⟨w6.heap.size, 1, none⟩ = some (.int .i64 p3.hi) := by rw [hc _ _ (by first | omega | (simp; omega) | simp)]; simp [go_sem, *]
  have z8_7 : w6.heap.size < w8.heap.size := by have := hb.size; (try simp at this); omega
  have k8_8a : w8.cell? ⟨w7.heap.size, 0, none⟩ = some (.int .i64 p4.lo) := by rw [hc _ _ (by first | omega | (simp; omega) | simp)]; simp [go_sem, *]
  have k8_8b : w8.cell? ⟨w7.heap.size, 1, none⟩ = some (.int .i64 p4.hi) := by rw [hc _ _ (by first | omega | (simp; omega) | simp)]; simp [go_sem, *]
  have z8_8 : w7.heap.size < w8.heap.size := by have := hb.size; (try simp at this); omega
  have hB8 : Below w.heap.size w w8 := by repeat (first | exact hB7 | refine Below.drew ?_ | refine below_drewN ?_ _ | refine Below.setCell ?_ (by first | omega | (simp; omega) | simp) _ | refine Below.alloc ?_ (by first | omega | (simp; omega) | simp) _ | refine chainB (by assumption) ?_)
  have hs8 : w.heap.size ≤ w8.heap.size := hB8.size
  clear hc hf hb k7_0a k7_0b z7_0 k7_1a k7_1b z7_1 k7_2a k7_2b z7_2 k7_3a k7_3b z7_3 k7_4a k7_4b z7_4 k7_5a k7_5b z7_5 k7_6a k7_6b z7_6 k7_7a k7_7b z7_7 hB7 hs7
  go_wp2_with fail
  refine (cW _).mono ?_
  rintro e w9 ⟨rfl, hb⟩
  obtain ⟨hc, hf⟩ := bcell hb
  have d26189 : ¬ w.heap.size = w8.heap.size := by omega
  have d26189s : ¬ w8.heap.size = w.heap.size := by omega
  have d26304 : ¬ (w.heap.size + 1) = w8.heap.size := by omega
  have d26304s : ¬ w8.heap.size = (w.heap.size + 1) := by omega
  have d26431 : ¬ w1.heap.size = w8.heap.size := by omega
  have d26431s : ¬ w8.heap.size = w1.heap.size := by omega
  have d26548 : ¬ w2.heap.size = w8.heap.size := by omega
  have d26548s : ¬ w8.heap.size = w2.heap.size := by omega
  have d26665 : ¬ w3.heap.size = w8.heap.size := by omega
  have d26665s : ¬ w8.heap.size = w3.heap.size := by omega
  have d26782 : ¬ w4.heap.size = w8.heap.size := by omega
  have d26782s : ¬ w8.heap.size = w4.heap.size := by omega
  have d26899 : ¬ w5.heap.size = w8.heap.size := by omega
  have d26899s : ¬ w8.heap.size = w5.heap.size := by omega
  have d27016 : ¬ w6.heap.size = w8.heap.size := by omega
  have d27016s : ¬ w8.heap.size = w6.heap.size := by omega
  have d27133 : ¬ w7.heap.size = w8.heap.size := by omega
  have d27133s : ¬ w8.heap.size = w7.heap.size := by omega
  have d27250l : w.heap.size ≤ w8.heap.size := by omega
  have k9_0a : w9.cell? ⟨w.heap.size, 0, none⟩ = some (.int .i64 a) := by rw [hc _ _ (by first | omega | (simp; omega) | simp)]; simp [go_sem, *]
  have k9_0b : w9.cell? ⟨w.heap.size, 1, none⟩ = some (.int .i64 b) := by rw [hc _ _ (by first | omega | (simp; omega) | simp)]; simp [go_sem, *]
  have z9_0 : w.heap.size < w9.heap.size := by have := hb.size; (try simp at this); omega
  have k9_1a : w9.cell? ⟨(w.heap.size + 1), 0, none⟩ = some (.int .i64 c) := by rw [hc _ _ (by first | omega | (simp; omega) | simp)]; simp [go_sem, *]
  have k9_1b : w9.cell? ⟨(w.heap.size + 1), 1, none⟩ = some (.int .i64 d) := by rw [hc _ _ (by first | omega | (simp; omega) | simp)]; simp [go_sem, *]
  have z9_1 : (w.heap.size + 1) < w9.heap.size := by have := hb.size; (try simp at this); omega
  have k9_2a : w9.cell? ⟨w1.heap.size, 0, none⟩ = some (.int .i64 p1.lo) := by rw [hc _ _ (by first | omega | (simp; omega) | simp)]; simp [go_sem, *]
  have k9_2b : w9.cell? ⟨w1.heap.size, 1, none⟩ = some (.int .i64 p1.hi) := by rw [hc _ _ (by first | omega | (simp; omega) | simp)]; simp [go_sem, *]
  have z9_2 : w1.heap.size < w9.heap.size := by have := hb.size; (try simp at this); omega
  have k9_3a : w9.cell? ⟨w2.heap.size, 0, none⟩ = some (.int .i64 p1.lo) := by rw [hc _ _ (by first | omega | (simp; omega) | simp)]; simp [go_sem, *]
  have k9_3b : w9.cell? ⟨w2.heap.size, 1, none⟩ = some (.int .i64 p1.hi) := by rw [hc _ _ (by first | omega | (simp; omega) | simp)]; simp [go_sem, *]
  have z9_3 : w2.heap.size < w9.heap.size := by have := hb.size; (try simp at this); omega
  have k9_4a : w9.cell? ⟨w3.heap.size, 0, none⟩ = some (.int .i64 p2.lo) := by rw [hc _ _ (by first | omega | (simp; omega) | simp)]; simp [go_sem, *]
  have k9_4b : w9.cell? ⟨w3.heap.size, 1, none⟩ = some (.int .i64 p2.hi) := by rw [hc _ _ (by first | omega | (simp; omega) | simp)]; simp [go_sem, *]
  have z9_4 : w3.heap.size < w9.heap.size := by have := hb.size; (try simp at this); omega
  have k9_5a : w9.cell? ⟨w4.heap.size, 0, none⟩ = some (.int .i64 p2.lo) := by rw [hc _ _ (by first | omega | (simp; omega) | simp)]; simp [go_sem, *]
  have k9_5b : w9.cell? ⟨w4.heap.size, 1, none⟩ = some (.int .i64 p2.hi) := by rw [hc _ _ (by first | omega | (simp; omega) | simp)]; simp [go_sem, *]
  have z9_5 : w4.heap.size < w9.heap.size := by have := hb.size; (try simp at this); omega
  have k9_6a : w9.cell? ⟨w5.heap.size, 0, none⟩ = some (.int .i64 p3.lo) := by rw [hc _ _ (by first | omega | (simp; omega) | simp)]; simp [go_sem, *]
  have k9_6b : w9.cell? ⟨w5.heap.size, 1, none⟩ = some (.int .i64 p3.hi) := by rw [hc _ _ (by first | omega | (simp; omega) | simp)]; simp [go_sem, *]
  have z9_6 : w5.heap.size < w9.heap.size := by have := hb.size; (try simp at this); omega
  have k9_7a : w9.cell? ⟨w6.heap.size, 0, none⟩ = some (.int .i64 p3.lo) := by rw [hc _ _ (by first | omega | (simp; omega) | simp)]; simp [go_sem, *]
  have k9_7b : w9.cell? ⟨w6.heap.size, 1, none⟩ = some (.int .i64 p3.hi) := by rw [hc _ _ (by first | omega | (simp; omega) | simp)]; simp [go_sem, *]
  have z9_7 : w6.heap.size < w9.heap.size := by have := hb.size; (try simp at this); omega
  have k9_8a : w9.cell? ⟨w7.heap.size, 0, none⟩ = some (.int .i64 p4.lo) := by rw [hc _ _ (by first | omega | (simp; omega) | simp)]; simp [go_sem, *]
  have k9_8b : w9.cell? ⟨w7.heap.size, 1, none⟩ = some (.int .i64 p4.hi) := by rw [hc _ _ (by first | omega | (simp; omega) | simp)]; simp [go_sem, *]
  have z9_8 : w7.heap.size < w9.heap.size := by have := hb.size; (try simp at this); omega
  have k9_9a : w9.cell? ⟨w8.heap.size, 0, none⟩ = some (.int .i64 p4.lo) := by rw [hc _ _ (by first | omega | (simp; omega) | simp)]; simp [go_sem, *]
  have k9_9b : w9.cell? ⟨w8.heap.size, 1, none⟩ = some (.int .i64 p4.hi) := by rw [hc _ _ (by first | omega | (simp; omega) | simp)]; simp [go_sem, *]
  have z9_9 : w8.heap.size < w9.heap.size := by have := hb.size; (try simp at this); omega
  have hB9 : Below w.heap.size w w9 := by repeat (first | exact hB8 | refine Below.drew ?_ | refine below_drewN ?_ _ | refine Below.setCell ?_ (by first | omega | (simp; omega) | simp) _ | refine Below.alloc ?_ (by first | omega | (simp; omega) | simp) _ | refine chainB (by assumption) ?_)
  have hs9 : w.heap.size ≤ w9.heap.size := hB9.size
  clear hc hf hb k8_0a k8_0b z8_0 k8_1a k8_1b z8_1 k8_2a k8_2b z8_2 k8_3a k8_3b z8_3 k8_4a k8_4b z8_4 k8_5a k8_5b z8_5 k8_6a k8_6b z8_6 k8_7a k8_7b z8_7 k8_8a k8_8b z8_8 hB8 hs8
  go_wp2_with fail
  go_ret
  exact ⟨rfl, by repeat (first | exact hB9 | refine Below.drew ?_ | refine below_drewN ?_ _ | refine Below.setCell ?_ (by first | omega | (simp; omega) | simp) _ | refine Below.alloc ?_ (by first | omega | (simp; omega) | simp) _ | refine chainB (by assumption) ?_)⟩
end Go.Proofs.Ytamelpfhbnkggaa

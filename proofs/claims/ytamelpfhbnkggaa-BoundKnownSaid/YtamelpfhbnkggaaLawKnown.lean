/-
  BoundKnown: the walk.
-/
import Derived.Test.YtamelpfhbnkggaaFrame
import Derived.Test.YtamelpfhbnkggaaSame
import Derived.Test.YtamelpfhbnkggaaDistance
import Derived.Test.YtamelpfhbnkggaaScale
import Derived.Test.YtamelpfhbnkggaaOps
import Derived.Test.YtamelpfhbnkggaaWorks
import Derived.Lib.Hide
import Derived.WalkKit
import Derived.Test.YtamelpfhbnkggaaRegKnown
namespace Go.Proofs.Ytamelpfhbnkggaa
open Go.RowKit Go.Shelf
theorem isq5 : isq 5 = 2 := isq_eq ⟨by decide, by decide, by decide⟩
theorem isq17 : isq 17 = 4 := isq_eq ⟨by decide, by decide, by decide⟩
theorem isq25 : isq 25 = 5 := isq_eq ⟨by decide, by decide, by decide⟩
theorem isq100 : isq 100 = 10 := isq_eq ⟨by decide, by decide, by decide⟩
theorem known_add (w : World) : Calls Try.prog 64 #[.agg #[.int .i64 (-3), .int .i64 5], .agg #[.int .i64 2, .int .i64 4]] w fun e w' => e = .returned (.tuple #[.agg #[.int .i64 (-1), .int .i64 9], .int .i64 0]) ∧ Below w.heap.size w w' := by
  have c := add_any (-3) 5 2 4 w
  rwa [show addS (-3) 5 2 4 = ⟨-1, 9, 0⟩ from rfl] at c
theorem known_sub (w : World) : Calls Try.prog 66 #[.agg #[.int .i64 (-3), .int .i64 5], .agg #[.int .i64 2, .int .i64 4]] w fun e w' => e = .returned (.tuple #[.agg #[.int .i64 (-7), .int .i64 3], .int .i64 0]) ∧ Below w.heap.size w w' := by
  have c := sub_any (-3) 5 2 4 w
  rwa [show subS (-3) 5 2 4 = ⟨-7, 3, 0⟩ from rfl] at c
theorem known_scale (w : World) : Calls Try.prog 23 #[.agg #[.int .i64 (-3), .int .i64 5], .int .i64 (-2), .int .i64 3] w fun e w' => e = .returned (.tuple #[.agg #[.int .i64 (-4), .int .i64 2], .int .i64 0]) ∧ Below w.heap.size w w' := by
  have c := scale_any (-3) 5 (-2) 3 w
  rwa [show scaleS (-3) 5 (-2) 3 = ⟨-4, 2, 0⟩ from rfl] at c
theorem known_root (w : World) : Calls Try.prog 25 #[.agg #[.int .i64 5, .int .i64 17]] w fun e w' => e = .returned (.tuple #[.agg #[.int .i64 2, .int .i64 5], .int .i64 0]) ∧ Below w.heap.size w w' := by
  have c := root_any 5 17 w
  rwa [show rootR 5 17 = ⟨2, 5, 0⟩ by unfold rootR isqUp; rw [isq5, isq17]; rfl] at c
theorem known_line (w : World) : Calls Try.prog 29 #[.int .i64 0, .agg #[.int .i64 0, .int .i64 10], .int .i64 10, .agg #[.int .i64 5, .int .i64 20], .int .i64 3] w fun e w' => e = .returned (.tuple #[.agg #[.int .i64 1, .int .i64 13], .int .i64 0]) ∧ Below w.heap.size w w' := by
  have c := line_any 0 0 10 10 5 20 3 w
  rwa [show lineS 0 0 10 10 5 20 3 = ⟨1, 13, 0⟩ from rfl] at c
theorem known_dist (w : World) : Calls Try.prog 58 #[.agg #[.int .i64 0, .int .i64 2, .int .i64 0, .int .i64 2], .agg #[.int .i64 5, .int .i64 6, .int .i64 6, .int .i64 8]] w fun e w' => e = .returned (.tuple #[.agg #[.int .i64 5, .int .i64 10], .int .i64 0]) ∧ Below w.heap.size w w' := by
  have c := distance_any 0 2 0 2 5 6 6 8 w
  rwa [show distS 0 2 0 2 5 6 6 8 = ⟨5, 10, 0⟩ by
    unfold distS
    rw [if_pos ⟨by decide, by decide⟩, show sqLo 0 2 0 2 5 6 6 8 = 25 by decide, show sqHi 0 2 0 2 5 6 6 8 = 100 by decide]
    unfold isqUp
    rw [isq25, isq100]; rfl] at c
theorem known_out (b : Nat) (w : World) (hb : b < w.heap.size) (h0 : w.cell? ⟨b, 0, none⟩ = some (.int .i64 1)) (h1 : w.cell? ⟨b, 1, none⟩ = some (.int .i64 3)) (h2 : w.cell? ⟨b, 2, none⟩ = some (.int .i64 5)) (h3 : w.cell? ⟨b, 3, none⟩ = some (.int .i64 6)) :
    Calls Try.prog 47 #[.slice (some ⟨b, 0, none⟩) 2 2, .agg #[.int .i64 0, .int .i64 7]] w fun e w' => ∃ v, e = .returned (.tuple #[v, .int .i64 0]) ∧ Spans w'.heap.size w' v [(0, 0), (4, 4), (7, 7)] ∧ Below w.heap.size w w' := by
  have c := outside_any (.slice (some ⟨b, 0, none⟩) 2 2) [(1, 3), (5, 6)] 0 7 w (.inr ⟨b, 0, 2, rfl, hb, fun j hj => by
    match j, hj with
    | 0, _ => exact ⟨h0, h1⟩
    | 1, _ => exact ⟨h2, h3⟩⟩)
  rwa [outE_known, outV_known] at c
theorem known_same (v : Value) (b : Nat) (w : World) (hv : Spans w.heap.size w v [(0, 0), (4, 4), (7, 7)]) (hb : b < w.heap.size)
    (h0 : w.cell? ⟨b, 0, none⟩ = some (.int .i64 0)) (h1 : w.cell? ⟨b, 1, none⟩ = some (.int .i64 0)) (h2 : w.cell? ⟨b, 2, none⟩ = some (.int .i64 4)) (h3 : w.cell? ⟨b, 3, none⟩ = some (.int .i64 4)) (h4 : w.cell? ⟨b, 4, none⟩ = some (.int .i64 7)) (h5 : w.cell? ⟨b, 5, none⟩ = some (.int .i64 7)) :
    Calls Try.prog 55 #[v, .slice (some ⟨b, 0, none⟩) 3 3] w fun e w' => e = .returned (.bool true) ∧ Below w.heap.size w w' :=
  same_yes v _ [(0, 0), (4, 4), (7, 7)] (by simp) w hv (.inr ⟨b, 0, 3, rfl, hb, fun j hj => by
    match j, hj with
    | 0, _ => exact ⟨h0, h1⟩
    | 1, _ => exact ⟨h2, h3⟩
    | 2, _ => exact ⟨h4, h5⟩⟩)
set_option maxRecDepth 100000 in
set_option maxHeartbeats 8000000 in
theorem law_known (w : World) : Calls Try.prog 17 #[] w fun e w' => e = .returned (.bool true) ∧ Below w.heap.size w w' := by
  have cW := fun w => works_any w
  have l0 := fun w => less_any 1 3 3 5 w
  have l1 := fun w => less_any 1 2 3 5 w
  have l2 := fun w => less_any 5 6 3 5 w
  have n0 := fun w => in_any 1 3 0 3 w
  have n1 := fun w => in_any 1 3 3 9 w
  have n2 := fun w => in_any 1 2 3 9 w
  rw [show lessS 1 3 3 5 = ⟨1, 0⟩ from rfl] at l0
  rw [show lessS 1 2 3 5 = ⟨2, 0⟩ from rfl] at l1
  rw [show lessS 5 6 3 5 = ⟨0, 0⟩ from rfl] at l2
  rw [show inS 1 3 0 3 = ⟨2, 0⟩ from rfl] at n0
  rw [show inS 1 3 3 9 = ⟨1, 0⟩ from rfl] at n1
  rw [show inS 1 2 3 9 = ⟨0, 0⟩ from rfl] at n2
  dsimp only at l0 l1 l2 n0 n1 n2
  have N0 := Lib.hid n0
  have N1 := Lib.hid n1
  have N2 := Lib.hid n2
  have L0 := Lib.hid l0
  have L1 := Lib.hid l1
  have L2 := Lib.hid l2
  clear l0 l1 l2 n0 n1 n2
  go_enter Try.func17, Try.ntmps17
  go_wp2_with fail
  refine (known_add _).mono ?_
  rintro e w1 ⟨rfl, hb⟩
  obtain ⟨hc, hf⟩ := bcell hb
  have q1 : ¬ w.heap.size = (w.heap.size + 1) := by omega
  have q1s : ¬ (w.heap.size + 1) = w.heap.size := by omega
  have k1_00 : w1.cell? ⟨w.heap.size, 0, none⟩ = some (.int .i64 (-3)) := by rw [hc _ _ (by first | omega | (simp; omega) | simp)]; simp [go_sem, *]
  have k1_01 : w1.cell? ⟨w.heap.size, 1, none⟩ = some (.int .i64 5) := by rw [hc _ _ (by first | omega | (simp; omega) | simp)]; simp [go_sem, *]
  have z1_0 : w.heap.size < w1.heap.size := by have := hb.size; (try simp at this); omega
  have k1_10 : w1.cell? ⟨(w.heap.size + 1), 0, none⟩ = some (.int .i64 2) := by rw [hc _ _ (by first | omega | (simp; omega) | simp)]; simp [go_sem, *]
  have k1_11 : w1.cell? ⟨(w.heap.size + 1), 1, none⟩ = some (.int .i64 4) := by rw [hc _ _ (by first | omega | (simp; omega) | simp)]; simp [go_sem, *]
  have z1_1 : (w.heap.size + 1) < w1.heap.size := by have := hb.size; (try simp at this); omega
  have hB1 : Below w.heap.size w w1 := by repeat (first | exact (Below.refl _ _) | refine Below.drew ?_ | refine below_drewN ?_ _ | refine Below.setCell ?_ (by first | omega | (simp; omega) | simp) _ | refine Below.alloc ?_ (by first | omega | (simp; omega) | simp) _ | refine chainB (by assumption) ?_)
  have hs1 : w.heap.size ≤ w1.heap.size := hB1.size
  clear hc hf hb 
  go_wp2_with fail
  refine (known_sub _).mono ?_
  rintro e w2 ⟨rfl, hb⟩
  obtain ⟨hc, hf⟩ := bcell hb
  have q2 : ¬ w.heap.size = w1.heap.size := by omega
  have q2s : ¬ w1.heap.size = w.heap.size := by omega
  have q3 : ¬ (w.heap.size + 1) = w1.heap.size := by omega
  have q3s : ¬ w1.heap.size = (w.heap.size + 1) := by omega
  have k2_00 : w2.cell? ⟨w.heap.size, 0, none⟩ = some (.int .i64 (-3)) := by rw [hc _ _ (by first | omega | (simp; omega) | simp)]; simp [go_sem, *]
  have k2_01 : w2.cell? ⟨w.heap.size, 1, none⟩ = some (.int .i64 5) := by rw [hc _ _ (by first | omega | (simp; omega) | simp)]; simp [go_sem, *]
  have z2_0 : w.heap.size < w2.heap.size := by have := hb.size; (try simp at this); omega
  have k2_10 : w2.cell? ⟨(w.heap.size + 1), 0, none⟩ = some (.int .i64 2) := by rw [hc _ _ (by first | omega | (simp; omega) | simp)]; simp [go_sem, *]
  have k2_11 : w2.cell? ⟨(w.heap.size + 1), 1, none⟩ = some (.int .i64 4) := by rw [hc _ _ (by first | omega | (simp; omega) | simp)]; simp [go_sem, *]
  have z2_1 : (w.heap.size + 1) < w2.heap.size := by have := hb.size; (try simp at this); omega
  have k2_20 : w2.cell? ⟨w1.heap.size, 0, none⟩ = some (.int .i64 (-1)) := by rw [hc _ _ (by first | omega | (simp; omega) | simp)]; simp [go_sem, *]
  have k2_21 : w2.cell? ⟨w1.heap.size, 1, none⟩ = some (.int .i64 9) := by rw [hc _ _ (by first | omega | (simp; omega) | simp)]; simp [go_sem, *]
  have z2_2 : w1.heap.size < w2.heap.size := by have := hb.size; (try simp at this); omega
  have hB2 : Below w.heap.size w w2 := by repeat (first | exact hB1 | refine Below.drew ?_ | refine below_drewN ?_ _ | refine Below.setCell ?_ (by first | omega | (simp; omega) | simp) _ | refine Below.alloc ?_ (by first | omega | (simp; omega) | simp) _ | refine chainB (by assumption) ?_)
  have hs2 : w.heap.size ≤ w2.heap.size := hB2.size
  clear hc hf hb k1_00 k1_01 z1_0 k1_10 k1_11 z1_1 hB1 hs1
  go_wp2_with fail
  refine (known_scale _).mono ?_
  rintro e w3 ⟨rfl, hb⟩
  obtain ⟨hc, hf⟩ := bcell hb
  have q4 : ¬ w.heap.size = w2.heap.size := by omega
  have q4s : ¬ w2.heap.size = w.heap.size := by omega
  have q5 : ¬ (w.heap.size + 1) = w2.heap.size := by omega
  have q5s : ¬ w2.heap.size = (w.heap.size + 1) := by omega
  have q6 : ¬ w1.heap.size = w2.heap.size := by omega
  have q6s : ¬ w2.heap.size = w1.heap.size := by omega
  have k3_00 : w3.cell? ⟨w.heap.size, 0, none⟩ = some (.int .i64 (-3)) := by rw [hc _ _ (by first | omega | (simp; omega) | simp)]; simp [go_sem, *]
  have k3_01 : w3.cell? ⟨w.heap.size, 1, none⟩ = some (.int .i64 5) := by rw [hc _ _ (by first | omega | (simp; omega) | simp)]; simp [go_sem, *]
  have z3_0 : w.heap.size < w3.heap.size := by have := hb.size; (try simp at this); omega
  have k3_10 : w3.cell? ⟨(w.heap.size + 1), 0, none⟩ = some (.int .i64 2) := by rw [hc _ _ (by first | omega | (simp; omega) | simp)]; simp [go_sem, *]
  have k3_11 : w3.cell? ⟨(w.heap.size + 1), 1, none⟩ = some (.int .i64 4) := by rw [hc _ _ (by first | omega | (simp; omega) | simp)]; simp [go_sem, *]
  have z3_1 : (w.heap.size + 1) < w3.heap.size := by have := hb.size; (try simp at this); omega
  have k3_20 : w3.cell? ⟨w1.heap.size, 0, none⟩ = some (.int .i64 (-1)) := by rw [hc _ _ (by first | omega | (simp; omega) | simp)]; simp [go_sem, *]
  have k3_21 : w3.cell? ⟨w1.heap.size, 1, none⟩ = some (.int .i64 9) := by rw [hc _ _ (by first | omega | (simp; omega) | simp)]; simp [go_sem, *]
  have z3_2 : w1.heap.size < w3.heap.size := by have := hb.size; (try simp at this); omega
  have k3_30 : w3.cell? ⟨w2.heap.size, 0, none⟩ = some (.int .i64 (-7)) := by rw [hc _ _ (by first | omega | (simp; omega) | simp)]; simp [go_sem, *]
  have k3_31 : w3.cell? ⟨w2.heap.size, 1, none⟩ = some (.int .i64 3) := by rw [hc _ _ (by first | omega | (simp; omega) | simp)]; simp [go_sem, *]
  have z3_3 : w2.heap.size < w3.heap.size := by have := hb.size; (try simp at this); omega
  have hB3 : Below w.heap.size w w3 := by repeat (first | exact hB2 | refine Below.drew ?_ | refine below_drewN ?_ _ | refine Below.setCell ?_ (by first | omega | (simp; omega) | simp) _ | refine Below.alloc ?_ (by first | omega | (simp; omega) | simp) _ | refine chainB (by assumption) ?_)
  have hs3 : w.heap.size ≤ w3.heap.size := hB3.size
  clear hc hf hb k2_00 k2_01 z2_0 k2_10 k2_11 z2_1 k2_20 k2_21 z2_2 hB2 hs2
  go_wp2_with fail
  refine (known_root _).mono ?_
  rintro e w4 ⟨rfl, hb⟩
  obtain ⟨hc, hf⟩ := bcell hb
  have q7 : ¬ w.heap.size = w3.heap.size := by omega
  have q7s : ¬ w3.heap.size = w.heap.size := by omega
  have q8 : ¬ (w.heap.size + 1) = w3.heap.size := by omega
  have q8s : ¬ w3.heap.size = (w.heap.size + 1) := by omega
  have q9 : ¬ w1.heap.size = w3.heap.size := by omega
  have q9s : ¬ w3.heap.size = w1.heap.size := by omega
  have q10 : ¬ w2.heap.size = w3.heap.size := by omega
  have q10s : ¬ w3.heap.size = w2.heap.size := by omega
  have k4_00 : w4.cell? ⟨w.heap.size, 0, none⟩ = some (.int .i64 (-3)) := by rw [hc _ _ (by first | omega | (simp; omega) | simp)]; simp [go_sem, *]
  have k4_01 : w4.cell? ⟨w.heap.size, 1, none⟩ = some (.int .i64 5) := by rw [hc _ _ (by first | omega | (simp; omega) | simp)]; simp [go_sem, *]
  have z4_0 : w.heap.size < w4.heap.size := by have := hb.size; (try simp at this); omega
  have k4_10 : w4.cell? ⟨(w.heap.size + 1), 0, none⟩ = some (.int .i64 2) := by rw [hc _ _ (by first | omega | (simp; omega) | simp)]; simp [go_sem, *]
  have k4_11 : w4.cell? ⟨(w.heap.size + 1), 1, none⟩ = some (.int .i64 4) := by rw [hc _ _ (by first | omega | (simp; omega) | simp)]; simp [go_sem, *]
  have z4_1 : (w.heap.size + 1) < w4.heap.size := by have := hb.size; (try simp at this); omega
  have k4_20 : w4.cell? ⟨w1.heap.size, 0, none⟩ = some (.int .i64 (-1)) := by rw [hc _ _ (by first | omega | (simp; omega) | simp)]; simp [go_sem, *]
  have k4_21 : w4.cell? ⟨w1.heap.size, 1, none⟩ = some (.int .i64 9) := by rw [hc _ _ (by first | omega | (simp; omega) | simp)]; simp [go_sem, *]
  have z4_2 : w1.heap.size < w4.heap.size := by have := hb.size; (try simp at this); omega
  have k4_30 : w4.cell? ⟨w2.heap.size, 0, none⟩ = some (.int .i64 (-7)) := by rw [hc _ _ (by first | omega | (simp; omega) | simp)]; simp [go_sem, *]
  have k4_31 : w4.cell? ⟨w2.heap.size, 1, none⟩ = some (.int .i64 3) := by rw [hc _ _ (by first | omega | (simp; omega) | simp)]; simp [go_sem, *]
  have z4_3 : w2.heap.size < w4.heap.size := by have := hb.size; (try simp at this); omega
  have k4_40 : w4.cell? ⟨w3.heap.size, 0, none⟩ = some (.int .i64 (-4)) := by rw [hc _ _ (by first | omega | (simp; omega) | simp)]; simp [go_sem, *]
  have k4_41 : w4.cell? ⟨w3.heap.size, 1, none⟩ = some (.int .i64 2) := by rw [hc _ _ (by first | omega | (simp; omega) | simp)]; simp [go_sem, *]
  have z4_4 : w3.heap.size < w4.heap.size := by have := hb.size; (try simp at this); omega
  have hB4 : Below w.heap.size w w4 := by repeat (first | exact hB3 | refine Below.drew ?_ | refine below_drewN ?_ _ | refine Below.setCell ?_ (by first | omega | (simp; omega) | simp) _ | refine Below.alloc ?_ (by first | omega | (simp; omega) | simp) _ | refine chainB (by assumption) ?_)
  have hs4 : w.heap.size ≤ w4.heap.size := hB4.size
  clear hc hf hb k3_00 k3_01 z3_0 k3_10 k3_11 z3_1 k3_20 k3_21 z3_2 k3_30 k3_31 z3_3 hB3 hs3
  go_wp2_with fail
  refine (known_line _).mono ?_
  rintro e w5 ⟨rfl, hb⟩
  obtain ⟨hc, hf⟩ := bcell hb
  have q11 : ¬ w.heap.size = w4.heap.size := by omega
  have q11s : ¬ w4.heap.size = w.heap.size := by omega
  have q12 : ¬ (w.heap.size + 1) = w4.heap.size := by omega
  have q12s : ¬ w4.heap.size = (w.heap.size + 1) := by omega
  have q13 : ¬ w1.heap.size = w4.heap.size := by omega
  have q13s : ¬ w4.heap.size = w1.heap.size := by omega
  have q14 : ¬ w2.heap.size = w4.heap.size := by omega
  have q14s : ¬ w4.heap.size = w2.heap.size := by omega
  have q15 : ¬ w3.heap.size = w4.heap.size := by omega
  have q15s : ¬ w4.heap.size = w3.heap.size := by omega
  have k5_00 : w5.cell? ⟨w.heap.size, 0, none⟩ = some (.int .i64 (-3)) := by rw [hc _ _ (by first | omega | (simp; omega) | simp)]; simp [go_sem, *]
  have k5_01 : w5.cell? ⟨w.heap.size, 1, none⟩ = some (.int .i64 5) := by rw [hc _ _ (by first | omega | (simp; omega) | simp)]; simp [go_sem, *]
  have z5_0 : w.heap.size < w5.heap.size := by have := hb.size; (try simp at this); omega
  have k5_10 : w5.cell? ⟨(w.heap.size + 1), 0, none⟩ = some (.int .i64 2) := by rw [hc _ _ (by first | omega | (simp; omega) | simp)]; simp [go_sem, *]
  have k5_11 : w5.cell? ⟨(w.heap.size + 1), 1, none⟩ = some (.int .i64 4) := by rw [hc _ _ (by first | omega | (simp; omega) | simp)]; simp [go_sem, *]
  have z5_1 : (w.heap.size + 1) < w5.heap.size := by have := hb.size; (try simp at this); omega
  have k5_20 : w5.cell? ⟨w1.heap.size, 0, none⟩ = some (.int .i64 (-1)) := by rw [hc _ _ (by first | omega | (simp; omega) | simp)]; simp [go_sem, *]
  have k5_21 : w5.cell? ⟨w1.heap.size, 1, none⟩ = some (.int .i64 9) := by rw [hc _ _ (by first | omega | (simp; omega) | simp)]; simp [go_sem, *]
  have z5_2 : w1.heap.size < w5.heap.size := by have := hb.size; (try simp at this); omega
  have k5_30 : w5.cell? ⟨w2.heap.size, 0, none⟩ = some (.int .i64 (-7)) := by rw [hc _ _ (by first | omega | (simp; omega) | simp)]; simp [go_sem, *]
  have k5_31 : w5.cell? ⟨w2.heap.size, 1, none⟩ = some (.int .i64 3) := by rw [hc _ _ (by first | omega | (simp; omega) | simp)]; simp [go_sem, *]
  have z5_3 : w2.heap.size < w5.heap.size := by have := hb.size; (try simp at this); omega
  have k5_40 : w5.cell? ⟨w3.heap.size, 0, none⟩ = some (.int .i64 (-4)) := by rw [hc _ _ (by first | omega | (simp; omega) | simp)]; simp [go_sem, *]
  have k5_41 : w5.cell? ⟨w3.heap.size, 1, none⟩ = some (.int .i64 2) := by rw [hc _ _ (by first | omega | (simp; omega) | simp)]; simp [go_sem, *]
  have z5_4 : w3.heap.size < w5.heap.size := by have := hb.size; (try simp at this); omega
  have k5_50 : w5.cell? ⟨w4.heap.size, 0, none⟩ = some (.int .i64 2) := by rw [hc _ _ (by first | omega | (simp; omega) | simp)]; simp [go_sem, *]
  have k5_51 : w5.cell? ⟨w4.heap.size, 1, none⟩ = some (.int .i64 5) := by rw [hc _ _ (by first | omega | (simp; omega) | simp)]; simp [go_sem, *]
  have z5_5 : w4.heap.size < w5.heap.size := by have := hb.size; (try simp at this); omega
  have hB5 : Below w.heap.size w w5 := by repeat (first | exact hB4 | refine Below.drew ?_ | refine below_drewN ?_ _ | refine Below.setCell ?_ (by first | omega | (simp; omega) | simp) _ | refine Below.alloc ?_ (by first | omega | (simp; omega) | simp) _ | refine chainB (by assumption) ?_)
  have hs5 : w.heap.size ≤ w5.heap.size := hB5.size
  clear hc hf hb k4_00 k4_01 z4_0 k4_10 k4_11 z4_1 k4_20 k4_21 z4_2 k4_30 k4_31 z4_3 k4_40 k4_41 z4_4 hB4 hs4
  go_wp2_with fail
  refine (known_dist _).mono ?_
  rintro e w6 ⟨rfl, hb⟩
  obtain ⟨hc, hf⟩ := bcell hb
  have q16 : ¬ w.heap.size = w5.heap.size := by omega
  have q16s : ¬ w5.heap.size = w.heap.size := by omega
  have q17 : ¬ (w.heap.size + 1) = w5.heap.size := by omega
  have q17s : ¬ w5.heap.size = (w.heap.size + 1) := by omega
  have q18 : ¬ w1.heap.size = w5.heap.size := by omega
  have q18s : ¬ w5.heap.size = w1.heap.size := by omega
  have q19 : ¬ w2.heap.size = w5.heap.size := by omega
  have q19s : ¬ w5.heap.size = w2.heap.size := by omega
  have q20 : ¬ w3.heap.size = w5.heap.size := by omega
  have q20s : ¬ w5.heap.size = w3.heap.size := by omega
  have q21 : ¬ w4.heap.size = w5.heap.size := by omega
  have q21s : ¬ w5.heap.size = w4.heap.size := by omega
  have k6_00 : w6.cell? ⟨w.heap.size, 0, none⟩ = some (.int .i64 (-3)) := by rw [hc _ _ (by first | omega | (simp; omega) | simp)]; simp [go_sem, *]
  have k6_01 : w6.cell? ⟨w.heap.size, 1, none⟩ = some (.int .i64 5) := by rw [hc _ _ (by first | omega | (simp; omega) | simp)]; simp [go_sem, *]
  have z6_0 : w.heap.size < w6.heap.size := by have := hb.size; (try simp at this); omega
  have k6_10 : w6.cell? ⟨(w.heap.size + 1), 0, none⟩ = some (.int .i64 2) := by rw [hc _ _ (by first | omega | (simp; omega) | simp)]; simp [go_sem, *]
  have k6_11 : w6.cell? ⟨(w.heap.size + 1), 1, none⟩ = some (.int .i64 4) := by rw [hc _ _ (by first | omega | (simp; omega) | simp)]; simp [go_sem, *]
  have z6_1 : (w.heap.size + 1) < w6.heap.size := by have := hb.size; (try simp at this); omega
  have k6_20 : w6.cell? ⟨w1.heap.size, 0, none⟩ = some (.int .i64 (-1)) := by rw [hc _ _ (by first | omega | (simp; omega) | simp)]; simp [go_sem, *]
  have k6_21 : w6.cell? ⟨w1.heap.size, 1, none⟩ = some (.int .i64 9) := by rw [hc _ _ (by first | omega | (simp; omega) | simp)]; simp [go_sem, *]
  have z6_2 : w1.heap.size < w6.heap.size := by have := hb.size; (try simp at this); omega
  have k6_30 : w6.cell? ⟨w2.heap.size, 0, none⟩ = some (.int .i64 (-7)) := by rw [hc _ _ (by first | omega | (simp; omega) | simp)]; simp [go_sem, *]
  have k6_31 : w6.cell? ⟨w2.heap.size, 1, none⟩ = some (.int .i64 3) := by rw [hc _ _ (by first | omega | (simp; omega) | simp)]; simp [go_sem, *]
  have z6_3 : w2.heap.size < w6.heap.size := by have := hb.size; (try simp at this); omega
  have k6_40 : w6.cell? ⟨w3.heap.size, 0, none⟩ = some (.int .i64 (-4)) := by rw [hc _ _ (by first | omega | (simp; omega) | simp)]; simp [go_sem, *]
  have k6_41 : w6.cell? ⟨w3.heap.size, 1, none⟩ = some (.int .i64 2) := by rw [hc _ _ (by first | omega | (simp; omega) | simp)]; simp [go_sem, *]
  have z6_4 : w3.heap.size < w6.heap.size := by have := hb.size; (try simp at this); omega
  have k6_50 : w6.cell? ⟨w4.heap.size, 0, none⟩ = some (.int .i64 2) := by rw [hc _ _ (by first | omega | (simp; omega) | simp)]; simp [go_sem, *]
  have k6_51 : w6.cell? ⟨w4.heap.size, 1, none⟩ = some (.int .i64 5) := by rw [hc _ _ (by first | omega | (simp; omega) | simp)]; simp [go_sem, *]
  have z6_5 : w4.heap.size < w6.heap.size := by have := hb.size; (try simp at this); omega
  have k6_60 : w6.cell? ⟨w5.heap.size, 0, none⟩ = some (.int .i64 1) := by rw [hc _ _ (by first | omega | (simp; omega) | simp)]; simp [go_sem, *]
  have k6_61 : w6.cell? ⟨w5.heap.size, 1, none⟩ = some (.int .i64 13) := by rw [hc _ _ (by first | omega | (simp; omega) | simp)]; simp [go_sem, *]
  have z6_6 : w5.heap.size < w6.heap.size := by have := hb.size; (try simp at this); omega
  have hB6 : Below w.heap.size w w6 := by repeat (first | exact hB5 | refine Below.drew ?_ | refine below_drewN ?_ _ | refine Below.setCell ?_ (by first | omega | (simp; omega) | simp) _ | refine Below.alloc ?_ (by first | omega | (simp; omega) | simp) _ | refine chainB (by assumption) ?_)
  have hs6 : w.heap.size ≤ w6.heap.size := hB6.size
  clear hc hf hb k5_00 k5_01 z5_0 k5_10 k5_11 z5_1 k5_20 k5_21 z5_2 k5_30 k5_31 z5_3 k5_40 k5_41 z5_4 k5_50 k5_51 z5_5 hB5 hs5
  go_wp2_with fail
  go_loopw [15] (fun i wr => ∃ k : Nat, k ≤ 3 ∧ i = .int .i64 k ∧ Below w.heap.size w wr) (fun i _ => 3 - (intOf i).toNat)
  case atStart => exact ⟨0, by decide, rfl, by repeat (first | exact hB6 | refine Below.drew ?_ | refine below_drewN ?_ _ | refine Below.setCell ?_ (by first | omega | (simp; omega) | simp) _ | refine Below.alloc ?_ (by first | omega | (simp; omega) | simp) _ | refine chainB (by assumption) ?_)⟩
  case round =>
    clear k6_00 k6_01 z6_0 k6_10 k6_11 z6_1 k6_20 k6_21 z6_2 k6_30 k6_31 z6_3 k6_40 k6_41 z6_4 k6_50 k6_51 z6_5 k6_60 k6_61 z6_6 hB6 hs6
    obtain ⟨k, hk, rfl, hB⟩ := hrel
    have hs := hB.size
    have hk4 : k = 0 ∨ k = 1 ∨ k = 2 ∨ k = 3 := by omega
    clear hk
    rcases hk4 with rfl | rfl | rfl | rfl
    · go_wp2_with fail
      refine (L0.out _).mono ?_
      rintro e v1 ⟨rfl, hb⟩
      have hB1 : Below w.heap.size w v1 := by repeat (first | exact hB | refine Below.drew ?_ | refine below_drewN ?_ _ | refine Below.setCell ?_ (by first | omega | (simp; omega) | simp) _ | refine Below.alloc ?_ (by first | omega | (simp; omega) | simp) _ | refine chainB (by assumption) ?_)
      have hs1 := hB1.size
      clear hb
      go_upto_region 14 with fail
      refine reg14_0 N0.out (fun p1 p2 p3 p4 v2 hb => ?_)
      have hB2 : Below w.heap.size w v2 := hB1.trans (hb.mono hs1)
      have hs2 := hB2.size
      go_wp2_with fail
      go_roundw
      case rel => exact ⟨1, by decide, by go_num, by repeat (first | exact hB2 | refine Below.drew ?_ | refine below_drewN ?_ _ | refine Below.setCell ?_ (by first | omega | (simp; omega) | simp) _ | refine Below.alloc ?_ (by first | omega | (simp; omega) | simp) _ | refine chainB (by assumption) ?_)⟩
      case measure => simp [intOf]
    · go_wp2_with fail
      refine (L1.out _).mono ?_
      rintro e v1 ⟨rfl, hb⟩
      have hB1 : Below w.heap.size w v1 := by repeat (first | exact hB | refine Below.drew ?_ | refine below_drewN ?_ _ | refine Below.setCell ?_ (by first | omega | (simp; omega) | simp) _ | refine Below.alloc ?_ (by first | omega | (simp; omega) | simp) _ | refine chainB (by assumption) ?_)
      have hs1 := hB1.size
      clear hb
      go_upto_region 14 with fail
      refine reg14_1 N1.out (fun p1 p2 p3 p4 v2 hb => ?_)
      have hB2 : Below w.heap.size w v2 := hB1.trans (hb.mono hs1)
      have hs2 := hB2.size
      go_wp2_with fail
      go_roundw
      case rel => exact ⟨2, by decide, by go_num, by repeat (first | exact hB2 | refine Below.drew ?_ | refine below_drewN ?_ _ | refine Below.setCell ?_ (by first | omega | (simp; omega) | simp) _ | refine Below.alloc ?_ (by first | omega | (simp; omega) | simp) _ | refine chainB (by assumption) ?_)⟩
      case measure => simp [intOf]
    · go_wp2_with fail
      refine (L2.out _).mono ?_
      rintro e v1 ⟨rfl, hb⟩
      have hB1 : Below w.heap.size w v1 := by repeat (first | exact hB | refine Below.drew ?_ | refine below_drewN ?_ _ | refine Below.setCell ?_ (by first | omega | (simp; omega) | simp) _ | refine Below.alloc ?_ (by first | omega | (simp; omega) | simp) _ | refine chainB (by assumption) ?_)
      have hs1 := hB1.size
      clear hb
      go_upto_region 14 with fail
      refine reg14_2 N2.out (fun p1 p2 p3 p4 v2 hb => ?_)
      have hB2 : Below w.heap.size w v2 := hB1.trans (hb.mono hs1)
      have hs2 := hB2.size
      go_wp2_with fail
      go_roundw
      case rel => exact ⟨3, by decide, by go_num, by repeat (first | exact hB2 | refine Below.drew ?_ | refine below_drewN ?_ _ | refine Below.setCell ?_ (by first | omega | (simp; omega) | simp) _ | refine Below.alloc ?_ (by first | omega | (simp; omega) | simp) _ | refine chainB (by assumption) ?_)⟩
      case measure => simp [intOf]
    · go_wp2_with fail
      refine (known_out wr.heap.size _ (by simp) (by simp [go_sem]) (by simp [go_sem]) (by simp [go_sem]) (by simp [go_sem])).mono ?_
      rintro e v1 ⟨v, rfl, hv, hb⟩
      have hB1 : Below w.heap.size w v1 := by repeat (first | exact hB | refine Below.drew ?_ | refine below_drewN ?_ _ | refine Below.setCell ?_ (by first | omega | (simp; omega) | simp) _ | refine Below.alloc ?_ (by first | omega | (simp; omega) | simp) _ | refine chainB (by assumption) ?_)
      have hs1 := hB1.size
      clear hb
      go_wp2_with fail
      refine (known_same v v1.heap.size _ (hv.at ((Below.refl _ _).alloc (Nat.le_refl _) _)) (by simp) (by simp [go_sem]) (by simp [go_sem]) (by simp [go_sem]) (by simp [go_sem]) (by simp [go_sem]) (by simp [go_sem])).mono ?_
      rintro e v2 ⟨rfl, hb⟩
      have hB2 : Below w.heap.size w v2 := by repeat (first | exact hB1 | refine Below.drew ?_ | refine below_drewN ?_ _ | refine Below.setCell ?_ (by first | omega | (simp; omega) | simp) _ | refine Below.alloc ?_ (by first | omega | (simp; omega) | simp) _ | refine chainB (by assumption) ?_)
      have hs2 := hB2.size
      clear hb
      go_wp2_with fail
      refine (cW _).mono ?_
      rintro e v3 ⟨rfl, hb⟩
      go_wp2_with fail
      go_ret
      exact ⟨rfl, by repeat (first | exact hB2 | refine Below.drew ?_ | refine below_drewN ?_ _ | refine Below.setCell ?_ (by first | omega | (simp; omega) | simp) _ | refine Below.alloc ?_ (by first | omega | (simp; omega) | simp) _ | refine chainB (by assumption) ?_)⟩
end Go.Proofs.Ytamelpfhbnkggaa

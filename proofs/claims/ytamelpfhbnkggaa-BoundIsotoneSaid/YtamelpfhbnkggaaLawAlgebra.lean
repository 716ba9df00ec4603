import Derived.Test.YtamelpfhbnkggaaRoot
import Derived.Test.YtamelpfhbnkggaaScale
import Derived.Test.YtamelpfhbnkggaaOps
import Derived.Test.YtamelpfhbnkggaaWorks
import Derived.Deep.RegionHeld3
namespace Go.Proofs.Ytamelpfhbnkggaa
open Go.RowKit Go.Shelf
theorem foldl3_min (x a b c : Int) : [a, b, c].foldl min x = min (min (min x a) b) c := rfl
theorem add_comm_s (a b c d : Int) : addS c d a b = addS a b c d := by
  unfold addS; rw [Int.add_comm c a, Int.add_comm d b]; simp [and_comm]
theorem mul_comm_s (a b c d : Int) : mulS c d a b = mulS a b c d := by
  unfold mulS
  have e1 : mLo c d a b = mLo a b c d := by
    unfold mLo; simp only [List.foldl]; rw [Int.mul_comm c a, Int.mul_comm c b, Int.mul_comm d a, Int.mul_comm d b]; omega
  have e2 : mHi c d a b = mHi a b c d := by
    unfold mHi; simp only [List.foldl]; rw [Int.mul_comm c a, Int.mul_comm c b, Int.mul_comm d a, Int.mul_comm d b]; omega
  rw [e1, e2]; simp [and_comm]
theorem up_one (x : Int) : up x 1 = x := by unfold up; simp
theorem scale_neg (a b : Int) (h : vB a b = true) : scaleS a b (-1) 1 = ⟨-b, -a, 0⟩ := by
  obtain ⟨h1, h2, h3⟩ := (vB_iff a b).1 h
  unfold scaleS
  rw [if_pos h, if_pos (by omega), up_one, Int.ediv_one]
  have e1 : min (a * -1) (b * -1) = -b := by omega
  have e2 : max (a * -1) (b * -1) = -a := by omega
  rw [e1, e2]; unfold fit
  rw [if_pos ((vB_iff _ _).2 (by omega))]
theorem scale_one (a b : Int) (h : vB a b = true) : scaleS a b 1 1 = ⟨a, b, 0⟩ := by
  obtain ⟨h1, h2, h3⟩ := (vB_iff a b).1 h
  unfold scaleS
  rw [if_pos h, if_pos (by omega), up_one, Int.ediv_one]
  have e1 : min (a * 1) (b * 1) = a := by omega
  have e2 : max (a * 1) (b * 1) = b := by omega
  rw [e1, e2]; unfold fit
  rw [if_pos ((vB_iff _ _).2 (by omega))]
theorem add_neg (a b c d : Int) (h1 : vB a b = true) (h2 : vB c d = true) : addS a b (-d) (-c) = subS a b c d := by
  obtain ⟨k1, k2, k3⟩ := (vB_iff c d).1 h2
  unfold addS subS
  rw [if_pos (show vB a b = true ∧ vB (-d) (-c) = true from ⟨h1, (vB_iff _ _).2 (by omega)⟩), if_pos ⟨h1, h2⟩, ← Int.sub_eq_add_neg, ← Int.sub_eq_add_neg]
theorem meet_cases (a b c d : Int) (h1 : vB a b = true) (h2 : vB c d = true) : meetS a b c d = ⟨0, 0, 5⟩ ∨ (meetS a b c d = ⟨max a c, min b d, 0⟩ ∧ max a c ≤ min b d) := by
  unfold meetS; rw [if_pos ⟨h1, h2⟩]; split
  · exact .inl rfl
  · exact .inr ⟨rfl, by omega⟩
theorem inside_yes (a b c d : Int) (h1 : c ≤ a) (h2 : b ≤ d) (w : World) :
    Calls Try.prog 71 #[.agg #[.int .i64 a, .int .i64 b], .agg #[.int .i64 c, .int .i64 d]] w fun e w' => e = .returned (.bool true) ∧ Below w.heap.size w w' :=
  (inside_any a b c d w).mono fun _ _ ⟨he, hb⟩ => ⟨he.trans (ret_bool (by simp [h1, h2])), hb⟩

set_option maxRecDepth 100000 in
set_option maxHeartbeats 4000000 in
theorem law_algebra (a b c d : Int) (w : World) :
    Calls Try.prog 16 #[.agg #[.int .i64 a, .int .i64 b], .agg #[.int .i64 c, .int .i64 d]] w fun e w' => e = .returned (.bool true) ∧ Below w.heap.size w w' := by
  have cW := fun w => works_any w
  by_cases h1 : vB a b = true
  · by_cases h2 : vB c d = true
    · have v1 := fun w => valid_yes a b h1 w
      have v2 := fun w => valid_yes c d h2 w
      obtain ⟨g1, g2, g3⟩ := (vB_iff a b).1 h1
      obtain ⟨g4, g5, g6⟩ := (vB_iff c d).1 h2
      have a1 := fun w => add_any a b c d w
      have a2 := fun w => add_any c d a b w
      have m1 := fun w => mul_any a b c d w
      have m2 := fun w => mul_any c d a b w
      have s1 := fun w => scale_any c d (-1) 1 w
      have s2 := fun w => scale_any a b 1 1 w
      have a3 := fun w => add_any a b (-d) (-c) w
      have b3 := fun w => sub_any a b c d w
      have hu := fun w => hullF_any a b c d w
      have me := fun w => meet_any a b c d w
      rw [add_comm_s a b c d] at a2
      rw [mul_comm_s a b c d] at m2
      rw [scale_neg c d h2] at s1
      rw [scale_one a b h1] at s2
      rw [add_neg a b c d h1 h2] at a3
      rw [show hullS a b c d = ⟨min a c, max b d, 0⟩ from if_pos ⟨h1, h2⟩] at hu
      dsimp only at s1 s2 hu
      have hm := meet_cases a b c d h1 h2
      generalize addS a b c d = p at a1 a2
      generalize mulS a b c d = q at m1 m2
      generalize subS a b c d = r at a3 b3
      generalize meetS a b c d = mt at me hm
      have HM := Lib.hid hm
      clear h1 h2 hm
      go_enter Try.func16, Try.ntmps16
      go_wp2_with fail
      refine (v1 _).mono ?_
      rintro e w1 ⟨rfl, hb⟩
      obtain ⟨hc, hf⟩ := bcell hb
      have k1_0a : w1.cell? ⟨w.heap.size, 0, none⟩ = some (.int .i64 a) := by rw [hc _ _ (by first | omega | (simp; omega) | simp)]; simp [go_sem, *]
      have k1_0b : w1.cell? ⟨w.heap.size, 1, none⟩ = some (.int .i64 b) := by rw [hc _ _ (by first | omega | (simp; omega) | simp)]; simp [go_sem, *]
      have z1_0 : w.heap.size < w1.heap.size := by have := hb.size; (try simp at this); omega
      have k1_1a : w1.cell? ⟨(w.heap.size + 1), 0, none⟩ = some (.int .i64 c) := by rw [hc _ _ (by first | omega | (simp; omega) | simp)]; simp [go_sem, *]
      have k1_1b : w1.cell? ⟨(w.heap.size + 1), 1, none⟩ = some (.int .i64 d) := by rw [hc _ _ (by first | omega | (simp; omega) | simp)]; simp [go_sem, *]
      have z1_1 : (w.heap.size + 1) < w1.heap.size := by have := hb.size; (try simp at this); omega
      have hB1 : Below w.heap.size w w1 := by repeat (first | exact (Below.refl _ _) | refine Below.setCell ?_ (by first | omega | (simp; omega) | simp) _ | refine Below.alloc ?_ (by first | omega | (simp; omega) | simp) _ | refine chainB (by assumption) ?_)
      have hs1 : w.heap.size ≤ w1.heap.size := hB1.size
      clear hc hf hb 
      go_wp2_with fail
      refine (v2 _).mono ?_
      rintro e w2 ⟨rfl, hb⟩
      obtain ⟨hc, hf⟩ := bcell hb
      have k2_0a : w2.cell? ⟨w.heap.size, 0, none⟩ = some (.int .i64 a) := by rw [hc _ _ (by first | omega | (simp; omega) | simp)]; simp [go_sem, *]
      have k2_0b : w2.cell? ⟨w.heap.size, 1, none⟩ = some (.int .i64 b) := by rw [hc _ _ (by first | omega | (simp; omega) | simp)]; simp [go_sem, *]
      have z2_0 : w.heap.size < w2.heap.size := by have := hb.size; (try simp at this); omega
      have k2_1a : w2.cell? ⟨(w.heap.size + 1), 0, none⟩ = some (.int .i64 c) := by rw [hc _ _ (by first | omega | (simp; omega) | simp)]; simp [go_sem, *]
      have k2_1b : w2.cell? ⟨(w.heap.size + 1), 1, none⟩ = some (.int .i64 d) := by rw [hc _ _ (by first | omega | (simp; omega) | simp)]; simp [go_sem, *]
      have z2_1 : (w.heap.size + 1) < w2.heap.size := by have := hb.size; (try simp at this); omega
      have hB2 : Below w.heap.size w w2 := by repeat (first | exact hB1 | refine Below.setCell ?_ (by first | omega | (simp; omega) | simp) _ | refine Below.alloc ?_ (by first | omega | (simp; omega) | simp) _ | refine chainB (by assumption) ?_)
      have hs2 : w.heap.size ≤ w2.heap.size := hB2.size
      clear hc hf hb k1_0a k1_0b z1_0 k1_1a k1_1b z1_1 hB1 hs1
      go_wp2_with fail
      refine (a1 _).mono ?_
      rintro e w3 ⟨rfl, hb⟩
      obtain ⟨hc, hf⟩ := bcell hb
      have k3_0a : w3.cell? ⟨w.heap.size, 0, none⟩ = some (.int .i64 a) := by rw [hc _ _ (by first | omega | (simp; omega) | simp)]; simp [go_sem, *]
      have k3_0b : w3.cell? ⟨w.heap.size, 1, none⟩ = some (.int .i64 b) := by rw [hc _ _ (by first | omega | (simp; omega) | simp)]; simp [go_sem, *]
      have z3_0 : w.heap.size < w3.heap.size := by have := hb.size; (try simp at this); omega
      have k3_1a : w3.cell? ⟨(w.heap.size + 1), 0, none⟩ = some (.int .i64 c) := by rw [hc _ _ (by first | omega | (simp; omega) | simp)]; simp [go_sem, *]
      have k3_1b : w3.cell? ⟨(w.heap.size + 1), 1, none⟩ = some (.int .i64 d) := by rw [hc _ _ (by first | omega | (simp; omega) | simp)]; simp [go_sem, *]
      have z3_1 : (w.heap.size + 1) < w3.heap.size := by have := hb.size; (try simp at this); omega
      have hB3 : Below w.heap.size w w3 := by repeat (first | exact hB2 | refine Below.setCell ?_ (by first | omega | (simp; omega) | simp) _ | refine Below.alloc ?_ (by first | omega | (simp; omega) | simp) _ | refine chainB (by assumption) ?_)
      have hs3 : w.heap.size ≤ w3.heap.size := hB3.size
      clear hc hf hb k2_0a k2_0b z2_0 k2_1a k2_1b z2_1 hB2 hs2
      go_wp2_with fail
      refine (a2 _).mono ?_
      rintro e w4 ⟨rfl, hb⟩
      obtain ⟨hc, hf⟩ := bcell hb
      have d3937 : ¬ w.heap.size = w3.heap.size := by omega
      have d3937s : ¬ w3.heap.size = w.heap.size := by omega
      have d4058 : ¬ (w.heap.size + 1) = w3.heap.size := by omega
      have d4058s : ¬ w3.heap.size = (w.heap.size + 1) := by omega
      have d4191l : w.heap.size ≤ w3.heap.size := by omega
      have k4_0a : w4.cell? ⟨w.heap.size, 0, none⟩ = some (.int .i64 a) := by rw [hc _ _ (by first | omega | (simp; omega) | simp)]; simp [go_sem, *]
      have k4_0b : w4.cell? ⟨w.heap.size, 1, none⟩ = some (.int .i64 b) := by rw [hc _ _ (by first | omega | (simp; omega) | simp)]; simp [go_sem, *]
      have z4_0 : w.heap.size < w4.heap.size := by have := hb.size; (try simp at this); omega
      have k4_1a : w4.cell? ⟨(w.heap.size + 1), 0, none⟩ = some (.int .i64 c) := by rw [hc _ _ (by first | omega | (simp; omega) | simp)]; simp [go_sem, *]
      have k4_1b : w4.cell? ⟨(w.heap.size + 1), 1, none⟩ = some (.int .i64 d) := by rw [hc _ _ (by first | omega | (simp; omega) | simp)]; simp [go_sem, *]
      have z4_1 : (w.heap.size + 1) < w4.heap.size := by have := hb.size; (try simp at this); omega
      have k4_2a : w4.cell? ⟨w3.heap.size, 0, none⟩ = some (.int .i64 p.lo) := by rw [hc _ _ (by first | omega | (simp; omega) | simp)]; simp [go_sem, *]
      have k4_2b : w4.cell? ⟨w3.heap.size, 1, none⟩ = some (.int .i64 p.hi) := by rw [hc _ _ (by first | omega | (simp; omega) | simp)]; simp [go_sem, *]
      have z4_2 : w3.heap.size < w4.heap.size := by have := hb.size; (try simp at this); omega
      have f4_2a : w4.frozen? ⟨w3.heap.size, 0, none⟩ = false := by rw [hf _ _ (by first | omega | (simp; omega) | simp)]; simp [go_sem, *]
      have f4_2b : w4.frozen? ⟨w3.heap.size, 1, none⟩ = false := by rw [hf _ _ (by first | omega | (simp; omega) | simp)]; simp [go_sem, *]
      have hB4 : Below w.heap.size w w4 := by repeat (first | exact hB3 | refine Below.setCell ?_ (by first | omega | (simp; omega) | simp) _ | refine Below.alloc ?_ (by first | omega | (simp; omega) | simp) _ | refine chainB (by assumption) ?_)
      have hs4 : w.heap.size ≤ w4.heap.size := hB4.size
      clear hc hf hb k3_0a k3_0b z3_0 k3_1a k3_1b z3_1 hB3 hs3
      go_wp2_with fail
      refine (m1 _).mono ?_
      rintro e w5 ⟨rfl, hb⟩
      obtain ⟨hc, hf⟩ := bcell hb
      have d6217 : ¬ w.heap.size = w4.heap.size := by omega
      have d6217s : ¬ w4.heap.size = w.heap.size := by omega
      have d6338 : ¬ (w.heap.size + 1) = w4.heap.size := by omega
      have d6338s : ¬ w4.heap.size = (w.heap.size + 1) := by omega
      have d6471 : ¬ w3.heap.size = w4.heap.size := by omega
      have d6471s : ¬ w4.heap.size = w3.heap.size := by omega
      have d6594l : w.heap.size ≤ w4.heap.size := by omega
      have k5_0a : w5.cell? ⟨w.heap.size, 0, none⟩ = some (.int .i64 a) := by rw [hc _ _ (by first | omega | (simp; omega) | simp)]; simp [go_sem, *]
      have k5_0b : w5.cell? ⟨w.heap.size, 1, none⟩ = some (.int .i64 b) := by rw [hc _ _ (by first | omega | (simp; omega) | simp)]; simp [go_sem, *]
      have z5_0 : w.heap.size < w5.heap.size := by have := hb.size; (try simp at this); omega
      have k5_1a : w5.cell? ⟨(w.heap.size + 1), 0, none⟩ = some (.int .i64 c) := by rw [hc _ _ (by first | omega | (simp; omega) | simp)]; simp [go_sem, *]
      have k5_1b : w5.cell? ⟨(w.heap.size + 1), 1, none⟩ = some (.int .i64 d) := by rw [hc _ _ (by first | omega | (simp; omega) | simp)]; simp [go_sem, *]
      have z5_1 : (w.heap.size + 1) < w5.heap.size := by have := hb.size; (try simp at this); omega
      have k5_2a : w5.cell? ⟨w3.heap.size, 0, none⟩ = some (.int .i64 p.lo) := by rw [hc _ _ (by first | omega | (simp; omega) | simp)]; simp [go_sem, *]
      have k5_2b : w5.cell? ⟨w3.heap.size, 1, none⟩ = some (.int .i64 p.hi) := by rw [hc _ _ (by first | omega | (simp; omega) | simp)]; simp [go_sem, *]
      have z5_2 : w3.heap.size < w5.heap.size := by have := hb.size; (try simp at this); omega
      have f5_2a : w5.frozen? ⟨w3.heap.size, 0, none⟩ = false := by rw [hf _ _ (by first | omega | (simp; omega) | simp)]; simp [go_sem, *]
      have f5_2b : w5.frozen? ⟨w3.heap.size, 1, none⟩ = false := by rw [hf _ _ (by first | omega | (simp; omega) | simp)]; simp [go_sem, *]
      have k5_3a : w5.cell? ⟨w4.heap.size, 0, none⟩ = some (.int .i64 p.lo) := by rw [hc _ _ (by first | omega | (simp; omega) | simp)]; simp [go_sem, *]
      have k5_3b : w5.cell? ⟨w4.heap.size, 1, none⟩ = some (.int .i64 p.hi) := by rw [hc _ _ (by first | omega | (simp; omega) | simp)]; simp [go_sem, *]
      have z5_3 : w4.heap.size < w5.heap.size := by have := hb.size; (try simp at this); omega
      have f5_3a : w5.frozen? ⟨w4.heap.size, 0, none⟩ = false := by rw [hf _ _ (by first | omega | (simp; omega) | simp)]; simp [go_sem, *]
      have f5_3b : w5.frozen? ⟨w4.heap.size, 1, none⟩ = false := by rw [hf _ _ (by first | omega | (simp; omega) | simp)]; simp [go_sem, *]
      have hB5 : Below w.heap.size w w5 := by repeat (first | exact hB4 | refine Below.setCell ?_ (by first | omega | (simp; omega) | simp) _ | refine Below.alloc ?_ (by first | omega | (simp; omega) | simp) _ | refine chainB (by assumption) ?_)
      have hs5 : w.heap.size ≤ w5.heap.size := hB5.size
      clear hc hf hb k4_0a k4_0b z4_0 k4_1a k4_1b z4_1 k4_2a k4_2b z4_2 f4_2a f4_2b hB4 hs4
      go_wp2_with fail
      refine (m2 _).mono ?_
      rintro e w6 ⟨rfl, hb⟩
      obtain ⟨hc, hf⟩ := bcell hb
      have d9332 : ¬ w.heap.size = w5.heap.size := by omega
      have d9332s : ¬ w5.heap.size = w.heap.size := by omega
      have d9453 : ¬ (w.heap.size + 1) = w5.heap.size := by omega
      have d9453s : ¬ w5.heap.size = (w.heap.size + 1) := by omega
      have d9586 : ¬ w3.heap.size = w5.heap.size := by omega
      have d9586s : ¬ w5.heap.size = w3.heap.size := by omega
      have d9709 : ¬ w4.heap.size = w5.heap.size := by omega
      have d9709s : ¬ w5.heap.size = w4.heap.size := by omega
      have d9832l : w.heap.size ≤ w5.heap.size := by omega
      have k6_0a : w6.cell? ⟨w.heap.size, 0, none⟩ = some (.int .i64 a) := by rw [hc _ _ (by first | omega | (simp; omega) | simp)]; simp [go_sem, *]
      have k6_0b : w6.cell? ⟨w.heap.size, 1, none⟩ = some (.int .i64 b) := by rw [hc _ _ (by first | omega | (simp; omega) | simp)]; simp [go_sem, *]
      have z6_0 : w.heap.size < w6.heap.size := by have := hb.size; (try simp at this); omega
      have k6_1a : w6.cell? ⟨(w.heap.size + 1), 0, none⟩ = some (.int .i64 c) := by rw [hc _ _ (by first | omega | (simp; omega) | simp)]; simp [go_sem, *]
      have k6_1b : w6.cell? ⟨(w.heap.size + 1), 1, none⟩ = some (.int .i64 d) := by rw [hc _ _ (by first | omega | (simp; omega) | simp)]; simp [go_sem, *]
      have z6_1 : (w.heap.size + 1) < w6.heap.size := by have := hb.size; (try simp at this); omega
      have k6_2a : w6.cell? ⟨w3.heap.size, 0, none⟩ = some (.int .i64 p.lo) := by rw [hc _ _ (by first | omega | (simp; omega) | simp)]; simp [go_sem, *]
      have k6_2b : w6.cell? ⟨w3.heap.size, 1, none⟩ = some (.int .i64 p.hi) := by rw [hc _ _ (by first | omega | (simp; omega) | simp)]; simp [go_sem, *]
      have z6_2 : w3.heap.size < w6.heap.size := by have := hb.size; (try simp at this); omega
      have f6_2a : w6.frozen? ⟨w3.heap.size, 0, none⟩ = false := by rw [hf _ _ (by first | omega | (simp; omega) | simp)]; simp [go_sem, *]
      have f6_2b : w6.frozen? ⟨w3.heap.size, 1, none⟩ = false := by rw [hf _ _ (by first | omega | (simp; omega) | simp)]; simp [go_sem, *]
      have k6_3a : w6.cell? ⟨w4.heap.size, 0, none⟩ = some (.int .i64 p.lo) := by rw [hc _ _ (by first | omega | (simp; omega) | simp)]; simp [go_sem, *]
      have k6_3b : w6.cell? ⟨w4.heap.size, 1, none⟩ = some (.int .i64 p.hi) := by rw [hc _ _ (by first | omega | (simp; omega) | simp)]; simp [go_sem, *]
      have z6_3 : w4.heap.size < w6.heap.size := by have := hb.size; (try simp at this); omega
      have f6_3a : w6.frozen? ⟨w4.heap.size, 0, none⟩ = false := by rw [hf _ _ (by first | omega | (simp; omega) | simp)]; simp [go_sem, *]
      have f6_3b : w6.frozen? ⟨w4.heap.size, 1, none⟩ = false := by rw [hf _ _ (by first | omega | (simp; omega) | simp)]; simp [go_sem, *]
      have k6_4a : w6.cell? ⟨w5.heap.size, 0, none⟩ = some (.int .i64 q.lo) := by rw [hc _ _ (by first | omega | (simp; omega) | simp)]; simp [go_sem, *]
      have k6_4b : w6.cell? ⟨w5.heap.size, 1, none⟩ = some (.int .i64 q.hi) := by rw [hc _ _ (by first | omega | (simp; omega) | simp)]; simp [go_sem, *]
      have z6_4 : w5.heap.size < w6.heap.size := by have := hb.size; (try simp at this); omega
      have hB6 : Below w.heap.size w w6 := by repeat (first | exact hB5 | refine Below.setCell ?_ (by first | omega | (simp; omega) | simp) _ | refine Below.alloc ?_ (by first | omega | (simp; omega) | simp) _ | refine chainB (by assumption) ?_)
      have hs6 : w.heap.size ≤ w6.heap.size := hB6.size
      clear hc hf hb k5_0a k5_0b z5_0 k5_1a k5_1b z5_1 k5_2a k5_2b z5_2 f5_2a f5_2b k5_3a k5_3b z5_3 f5_3a f5_3b hB5 hs5
      go_wp2_with fail
      refine (s1 _).mono ?_
      rintro e w7 ⟨rfl, hb⟩
      obtain ⟨hc, hf⟩ := bcell hb
      have d13002 : ¬ w.heap.size = w6.heap.size := by omega
      have d13002s : ¬ w6.heap.size = w.heap.size := by omega
      have d13125 : ¬ (w.heap.size + 1) = w6.heap.size := by omega
      have d13125s : ¬ w6.heap.size = (w.heap.size + 1) := by omega
      have d13260 : ¬ w3.heap.size = w6.heap.size := by omega
      have d13260s : ¬ w6.heap.size = w3.heap.size := by omega
      have d13385 : ¬ w4.heap.size = w6.heap.size := by omega
      have d13385s : ¬ w6.heap.size = w4.heap.size := by omega
      have d13510 : ¬ w5.heap.size = w6.heap.size := by omega
      have d13510s : ¬ w6.heap.size = w5.heap.size := by omega
      have d13635l : w.heap.size ≤ w6.heap.size := by omega
      have k7_0a : w7.cell? ⟨w.heap.size, 0, none⟩ = some (.int .i64 a) := by rw [hc _ _ (by first | omega | (simp; omega) | simp)]; simp [go_sem, *]
      have k7_0b : w7.cell? ⟨w.heap.size, 1, none⟩ = some (.int .i64 b) := by rw [hc _ _ (by first | omega | (simp; omega) | simp)]; simp [go_sem, *]
      have z7_0 : w.heap.size < w7.heap.size := by have := hb.size; (try simp at this); omega
      have k7_1a : w7.cell? ⟨(w.heap.size + 1), 0, none⟩ = some (.int .i64 c) := by rw [hc _ _ (by first | omega | (simp; omega) | simp)]; simp [go_sem, *]
      have k7_1b : w7.cell? ⟨(w.heap.size + 1), 1, none⟩ = some (.int .i64 d) := by rw [hc _ _ (by first | omega | (simp; omega) | simp)]; simp [go_sem, *]
      have z7_1 : (w.heap.size + 1) < w7.heap.size := by have := hb.size; (try simp at this); omega
      have k7_2a : w7.cell? ⟨w3.heap.size, 0, none⟩ = some (.int .i64 p.lo) := by rw [hc _ _ (by first | omega | (simp; omega) | simp)]; simp [go_sem, *]
      have k7_2b : w7.cell? ⟨w3.heap.size, 1, none⟩ = some (.int .i64 p.hi) := by rw [hc _ _ (by first | omega | (simp; omega) | simp)]; simp [go_sem, *]
      have z7_2 : w3.heap.size < w7.heap.size := by have := hb.size; (try simp at this); omega
      have f7_2a : w7.frozen? ⟨w3.heap.size, 0, none⟩ = false := by rw [hf _ _ (by first | omega | (simp; omega) | simp)]; simp [go_sem, *]
      have f7_2b : w7.frozen? ⟨w3.heap.size, 1, none⟩ = false := by rw [hf _ _ (by first | omega | (simp; omega) | simp)]; simp [go_sem, *]
      have k7_3a : w7.cell? ⟨w4.heap.size, 0, none⟩ = some (.int .i64 p.lo) := by rw [hc _ _ (by first | omega | (simp; omega) | simp)]; simp [go_sem, *]
      have k7_3b : w7.cell? ⟨w4.heap.size, 1, none⟩ = some (.int .i64 p.hi) := by rw [hc _ _ (by first | omega | (simp; omega) | simp)]; simp [go_sem, *]
      have z7_3 : w4.heap.size < w7.heap.size := by have := hb.size; (try simp at this); omega
      have f7_3a : w7.frozen? ⟨w4.heap.size, 0, none⟩ = false := by rw [hf _ _ (by first | omega | (simp; omega) | simp)]; simp [go_sem, *]
      have f7_3b : w7.frozen? ⟨w4.heap.size, 1, none⟩ = false := by rw [hf _ _ (by first | omega | (simp; omega) | simp)]; simp [go_sem, *]
      have k7_4a : w7.cell? ⟨w5.heap.size, 0, none⟩ = some (.int .i64 q.lo) := by rw [hc _ _ (by first | omega | (simp; omega) | simp)]; simp [go_sem, *]
      have k7_4b : w7.cell? ⟨w5.heap.size, 1, none⟩ = some (.int .i64 q.hi) := by rw [hc _ _ (by first | omega | (simp; omega) | simp)]; simp [go_sem, *]
      have z7_4 : w5.heap.size < w7.heap.size := by have := hb.size; (try simp at this); omega
      have k7_5a : w7.cell? ⟨w6.heap.size, 0, none⟩ = some (.int .i64 q.lo) := by rw [hc _ _ (by first | omega | (simp; omega) | simp)]; simp [go_sem, *]
      have k7_5b : w7.cell? ⟨w6.heap.size, 1, none⟩ = some (.int .i64 q.hi) := by rw [hc _ _ (by first | omega | (simp; omega) | simp)]; simp [go_sem, *]
      have z7_5 : w6.heap.size < w7.heap.size := by have := hb.size; (try simp at this); omega
      have hB7 : Below w.heap.size w w7 := by repeat (first | exact hB6 | refine Below.setCell ?_ (by first | omega | (simp; omega) | simp) _ | refine Below.alloc ?_ (by first | omega | (simp; omega) | simp) _ | refine chainB (by assumption) ?_)
      have hs7 : w.heap.size ≤ w7.heap.size := hB7.size
      clear hc hf hb k6_0a k6_0b z6_0 k6_1a k6_1b z6_1 k6_2a k6_2b z6_2 f6_2a f6_2b k6_3a k6_3b z6_3 f6_3a f6_3b k6_4a k6_4b z6_4 hB6 hs6
      go_wp2_with fail
      refine (a3 _).mono ?_
      rintro e w8 ⟨rfl, hb⟩
      obtain ⟨hc, hf⟩ := bcell hb
      have d17226 : ¬ w.heap.size = w7.heap.size := by omega
      have d17226s : ¬ w7.heap.size = w.heap.size := by omega
      have d17349 : ¬ (w.heap.size + 1) = w7.heap.size := by omega
      have d17349s : ¬ w7.heap.size = (w.heap.size + 1) := by omega
      have d17484 : ¬ w3.heap.size = w7.heap.size := by omega
      have d17484s : ¬ w7.heap.size = w3.heap.size := by omega
      have d17609 : ¬ w4.heap.size = w7.heap.size := by omega
      have d17609s : ¬ w7.heap.size = w4.heap.size := by omega
      have d17734l : w.heap.size ≤ w7.heap.size := by omega
      have k8_0a : w8.cell? ⟨w.heap.size, 0, none⟩ = some (.int .i64 a) := by rw [hc _ _ (by first | omega | (simp; omega) | simp)]; simp [go_sem, *]
      have k8_0b : w8.cell? ⟨w.heap.size, 1, none⟩ = some (.int .i64 b) := by rw [hc _ _ (by first | omega | (simp; omega) | simp)]; simp [go_sem, *]
      have z8_0 : w.heap.size < w8.heap.size := by have := hb.size; (try simp at this); omega
      have k8_1a : w8.cell? ⟨(w.heap.size + 1), 0, none⟩ = some (.int .i64 c) := by rw [hc _ _ (by first | omega | (simp; omega) | simp)]; simp [go_sem, *]
      have k8_1b : w8.cell? ⟨(w.heap.size + 1), 1, none⟩ = some (.int .i64 d) := by rw [hc _ _ (by first | omega | (simp; omega) | simp)]; simp [go_sem, *]
      have z8_1 : (w.heap.size + 1) < w8.heap.size := by have := hb.size; (try simp at this); omega
      have k8_2a : w8.cell? ⟨w3.heap.size, 0, none⟩ = some (.int .i64 p.lo) := by rw [hc _ _ (by first | omega | (simp; omega) | simp)]; simp [go_sem, *]
      have k8_2b : w8.cell? ⟨w3.heap.size, 1, none⟩ = some (.int .i64 p.hi) := by rw [hc _ _ (by first | omega | (simp; omega) | simp)]; simp [go_sem, *]
      have z8_2 : w3.heap.size < w8.heap.size := by have := hb.size; (try simp at this); omega
      have f8_2a : w8.frozen? ⟨w3.heap.size, 0, none⟩ = false := by rw [hf _ _ (by first | omega | (simp; omega) | simp)]; simp [go_sem, *]
      have f8_2b : w8.frozen? ⟨w3.heap.size, 1, none⟩ = false := by rw [hf _ _ (by first | omega | (simp; omega) | simp)]; simp [go_sem, *]
      have k8_3a : w8.cell? ⟨w4.heap.size, 0, none⟩ = some (.int .i64 p.lo) := by rw [hc _ _ (by first | omega | (simp; omega) | simp)]; simp [go_sem, *]
      have k8_3b : w8.cell? ⟨w4.heap.size, 1, none⟩ = some (.int .i64 p.hi) := by rw [hc _ _ (by first | omega | (simp; omega) | simp)]; simp [go_sem, *]
      have z8_3 : w4.heap.size < w8.heap.size := by have := hb.size; (try simp at this); omega
      have f8_3a : w8.frozen? ⟨w4.heap.size, 0, none⟩ = false := by rw [hf _ _ (by first | omega | (simp; omega) | simp)]; simp [go_sem, *]
      have f8_3b : w8.frozen? ⟨w4.heap.size, 1, none⟩ = false := by rw [hf _ _ (by first | omega | (simp; omega) | simp)]; simp [go_sem, *]
      have k8_4a : w8.cell? ⟨w7.heap.size, 0, none⟩ = some (.int .i64 (-d)) := by rw [hc _ _ (by first | omega | (simp; omega) | simp)]; simp [go_sem, *]
      have k8_4b : w8.cell? ⟨w7.heap.size, 1, none⟩ = some (.int .i64 (-c)) := by rw [hc _ _ (by first | omega | (simp; omega) | simp)]; simp [go_sem, *]
      have z8_4 : w7.heap.size < w8.heap.size := by have := hb.size; (try simp at this); omega
      have hB8 : Below w.heap.size w w8 := by repeat (first | exact hB7 | refine Below.setCell ?_ (by first | omega | (simp; omega) | simp) _ | refine Below.alloc ?_ (by first | omega | (simp; omega) | simp) _ | refine chainB (by assumption) ?_)
      have hs8 : w.heap.size ≤ w8.heap.size := hB8.size
      clear hc hf hb k7_0a k7_0b z7_0 k7_1a k7_1b z7_1 k7_2a k7_2b z7_2 f7_2a f7_2b k7_3a k7_3b z7_3 f7_3a f7_3b k7_4a k7_4b z7_4 k7_5a k7_5b z7_5 hB7 hs7
      go_wp2_with fail
      refine (b3 _).mono ?_
      rintro e w9 ⟨rfl, hb⟩
      obtain ⟨hc, hf⟩ := bcell hb
      have k9_0a : w9.cell? ⟨w.heap.size, 0, none⟩ = some (.int .i64 a) := by rw [hc _ _ (by first | omega | (simp; omega) | simp)]; simp [go_sem, *]
      have k9_0b : w9.cell? ⟨w.heap.size, 1, none⟩ = some (.int .i64 b) := by rw [hc _ _ (by first | omega | (simp; omega) | simp)]; simp [go_sem, *]
      have z9_0 : w.heap.size < w9.heap.size := by have := hb.size; (try simp at this); omega
      have k9_1a : w9.cell? ⟨(w.heap.size + 1), 0, none⟩ = some (.int .i64 c) := by rw [hc _ _ (by first | omega | (simp; omega) | simp)]; simp [go_sem, *]
      have k9_1b : w9.cell? ⟨(w.heap.size + 1), 1, none⟩ = some (.int .i64 d) := by rw [hc _ _ (by first | omega | (simp; omega) | simp)]; simp [go_sem, *]
      have z9_1 : (w.heap.size + 1) < w9.heap.size := by have := hb.size; (try simp at this); omega
      have k9_2a : w9.cell? ⟨w3.heap.size, 0, none⟩ = some (.int .i64 r.lo) := by rw [hc _ _ (by first | omega | (simp; omega) | simp)]; simp [go_sem, *]
      have k9_2b : w9.cell? ⟨w3.heap.size, 1, none⟩ = some (.int .i64 r.hi) := by rw [hc _ _ (by first | omega | (simp; omega) | simp)]; simp [go_sem, *]
      have z9_2 : w3.heap.size < w9.heap.size := by have := hb.size; (try simp at this); omega
      have f9_2a : w9.frozen? ⟨w3.heap.size, 0, none⟩ = false := by rw [hf _ _ (by first | omega | (simp; omega) | simp)]; simp [go_sem, *]
      have f9_2b : w9.frozen? ⟨w3.heap.size, 1, none⟩ = false := by rw [hf _ _ (by first | omega | (simp; omega) | simp)]; simp [go_sem, *]
      have k9_3a : w9.cell? ⟨w4.heap.size, 0, none⟩ = some (.int .i64 p.lo) := by rw [hc _ _ (by first | omega | (simp; omega) | simp)]; simp [go_sem, *]
      have k9_3b : w9.cell? ⟨w4.heap.size, 1, none⟩ = some (.int .i64 p.hi) := by rw [hc _ _ (by first | omega | (simp; omega) | simp)]; simp [go_sem, *]
      have z9_3 : w4.heap.size < w9.heap.size := by have := hb.size; (try simp at this); omega
      have f9_3a : w9.frozen? ⟨w4.heap.size, 0, none⟩ = false := by rw [hf _ _ (by first | omega | (simp; omega) | simp)]; simp [go_sem, *]
      have f9_3b : w9.frozen? ⟨w4.heap.size, 1, none⟩ = false := by rw [hf _ _ (by first | omega | (simp; omega) | simp)]; simp [go_sem, *]
      have k9_4a : w9.cell? ⟨w7.heap.size, 0, none⟩ = some (.int .i64 (-d)) := by rw [hc _ _ (by first | omega | (simp; omega) | simp)]; simp [go_sem, *]
      have k9_4b : w9.cell? ⟨w7.heap.size, 1, none⟩ = some (.int .i64 (-c)) := by rw [hc _ _ (by first | omega | (simp; omega) | simp)]; simp [go_sem, *]
      have z9_4 : w7.heap.size < w9.heap.size := by have := hb.size; (try simp at this); omega
      have hB9 : Below w.heap.size w w9 := by repeat (first | exact hB8 | refine Below.setCell ?_ (by first | omega | (simp; omega) | simp) _ | refine Below.alloc ?_ (by first | omega | (simp; omega) | simp) _ | refine chainB (by assumption) ?_)
      have hs9 : w.heap.size ≤ w9.heap.size := hB9.size
      clear hc hf hb k8_0a k8_0b z8_0 k8_1a k8_1b z8_1 k8_2a k8_2b z8_2 f8_2a f8_2b k8_3a k8_3b z8_3 f8_3a f8_3b k8_4a k8_4b z8_4 hB8 hs8
      go_wp2_with fail
      refine (s2 _).mono ?_
      rintro e w10 ⟨rfl, hb⟩
      obtain ⟨hc, hf⟩ := bcell hb
      have k10_0a : w10.cell? ⟨w.heap.size, 0, none⟩ = some (.int .i64 a) := by rw [hc _ _ (by first | omega | (simp; omega) | simp)]; simp [go_sem, *]
      have k10_0b : w10.cell? ⟨w.heap.size, 1, none⟩ = some (.int .i64 b) := by rw [hc _ _ (by first | omega | (simp; omega) | simp)]; simp [go_sem, *]
      have z10_0 : w.heap.size < w10.heap.size := by have := hb.size; (try simp at this); omega
      have k10_1a : w10.cell? ⟨(w.heap.size + 1), 0, none⟩ = some (.int .i64 c) := by rw [hc _ _ (by first | omega | (simp; omega) | simp)]; simp [go_sem, *]
      have k10_1b : w10.cell? ⟨(w.heap.size + 1), 1, none⟩ = some (.int .i64 d) := by rw [hc _ _ (by first | omega | (simp; omega) | simp)]; simp [go_sem, *]
      have z10_1 : (w.heap.size + 1) < w10.heap.size := by have := hb.size; (try simp at this); omega
      have k10_2a : w10.cell? ⟨w3.heap.size, 0, none⟩ = some (.int .i64 r.lo) := by rw [hc _ _ (by first | omega | (simp; omega) | simp)]; simp [go_sem, *]
      have k10_2b : w10.cell? ⟨w3.heap.size, 1, none⟩ = some (.int .i64 r.hi) := by rw [hc _ _ (by first | omega | (simp; omega) | simp)]; simp [go_sem, *]
      have z10_2 : w3.heap.size < w10.heap.size := by have := hb.size; (try simp at this); omega
      have f10_2a : w10.frozen? ⟨w3.heap.size, 0, none⟩ = false := by rw [hf _ _ (by first | omega | (simp; omega) | simp)]; simp [go_sem, *]
      have f10_2b : w10.frozen? ⟨w3.heap.size, 1, none⟩ = false := by rw [hf _ _ (by first | omega | (simp; omega) | simp)]; simp [go_sem, *]
      have k10_3a : w10.cell? ⟨w4.heap.size, 0, none⟩ = some (.int .i64 r.lo) := by rw [hc _ _ (by first | omega | (simp; omega) | simp)]; simp [go_sem, *]
      have k10_3b : w10.cell? ⟨w4.heap.size, 1, none⟩ = some (.int .i64 r.hi) := by rw [hc _ _ (by first | omega | (simp; omega) | simp)]; simp [go_sem, *]
      have z10_3 : w4.heap.size < w10.heap.size := by have := hb.size; (try simp at this); omega
      have f10_3a : w10.frozen? ⟨w4.heap.size, 0, none⟩ = false := by rw [hf _ _ (by first | omega | (simp; omega) | simp)]; simp [go_sem, *]
      have f10_3b : w10.frozen? ⟨w4.heap.size, 1, none⟩ = false := by rw [hf _ _ (by first | omega | (simp; omega) | simp)]; simp [go_sem, *]
      have k10_4a : w10.cell? ⟨w7.heap.size, 0, none⟩ = some (.int .i64 (-d)) := by rw [hc _ _ (by first | omega | (simp; omega) | simp)]; simp [go_sem, *]
      have k10_4b : w10.cell? ⟨w7.heap.size, 1, none⟩ = some (.int .i64 (-c)) := by rw [hc _ _ (by first | omega | (simp; omega) | simp)]; simp [go_sem, *]
      have z10_4 : w7.heap.size < w10.heap.size := by have := hb.size; (try simp at this); omega
      have hB10 : Below w.heap.size w w10 := by repeat (first | exact hB9 | refine Below.setCell ?_ (by first | omega | (simp; omega) | simp) _ | refine Below.alloc ?_ (by first | omega | (simp; omega) | simp) _ | refine chainB (by assumption) ?_)
      have hs10 : w.heap.size ≤ w10.heap.size := hB10.size
      clear hc hf hb k9_0a k9_0b z9_0 k9_1a k9_1b z9_1 k9_2a k9_2b z9_2 f9_2a f9_2b k9_3a k9_3b z9_3 f9_3a f9_3b k9_4a k9_4b z9_4 hB9 hs9
      go_wp2_with fail
      refine (hu _).mono ?_
      rintro e w11 ⟨rfl, hb⟩
      obtain ⟨hc, hf⟩ := bcell hb
      have d27240 : ¬ w.heap.size = w10.heap.size := by omega
      have d27240s : ¬ w10.heap.size = w.heap.size := by omega
      have d27365 : ¬ (w.heap.size + 1) = w10.heap.size := by omega
      have d27365s : ¬ w10.heap.size = (w.heap.size + 1) := by omega
      have d27502 : ¬ w3.heap.size = w10.heap.size := by omega
      have d27502s : ¬ w10.heap.size = w3.heap.size := by omega
      have d27629 : ¬ w4.heap.size = w10.heap.size := by omega
      have d27629s : ¬ w10.heap.size = w4.heap.size := by omega
      have d27756l : w.heap.size ≤ w10.heap.size := by omega
      have k11_0a : w11.cell? ⟨w.heap.size, 0, none⟩ = some (.int .i64 a) := by rw [hc _ _ (by first | omega | (simp; omega) | simp)]; simp [go_sem, *]
      have k11_0b : w11.cell? ⟨w.heap.size, 1, none⟩ = some (.int .i64 b) := by rw [hc _ _ (by first | omega | (simp; omega) | simp)]; simp [go_sem, *]
      have z11_0 : w.heap.size < w11.heap.size := by have := hb.size; (try simp at this); omega
      have k11_1a : w11.cell? ⟨(w.heap.size + 1), 0, none⟩ = some (.int .i64 c) := by rw [hc _ _ (by first | omega | (simp; omega) | simp)]; simp [go_sem, *]
      have k11_1b : w11.cell? ⟨(w.heap.size + 1), 1, none⟩ = some (.int .i64 d) := by rw [hc _ _ (by first | omega | (simp; omega) | simp)]; simp [go_sem, *]
      have z11_1 : (w.heap.size + 1) < w11.heap.size := by have := hb.size; (try simp at this); omega
      have k11_2a : w11.cell? ⟨w3.heap.size, 0, none⟩ = some (.int .i64 r.lo) := by rw [hc _ _ (by first | omega | (simp; omega) | simp)]; simp [go_sem, *]
      have k11_2b : w11.cell? ⟨w3.heap.size, 1, none⟩ = some (.int .i64 r.hi) := by rw [hc _ _ (by first | omega | (simp; omega) | simp)]; simp [go_sem, *]
      have z11_2 : w3.heap.size < w11.heap.size := by have := hb.size; (try simp at this); omega
      have k11_3a : w11.cell? ⟨w4.heap.size, 0, none⟩ = some (.int .i64 r.lo) := by rw [hc _ _ (by first | omega | (simp; omega) | simp)]; simp [go_sem, *]
      have k11_3b : w11.cell? ⟨w4.heap.size, 1, none⟩ = some (.int .i64 r.hi) := by rw [hc _ _ (by first | omega | (simp; omega) | simp)]; simp [go_sem, *]
      have z11_3 : w4.heap.size < w11.heap.size := by have := hb.size; (try simp at this); omega
      have k11_4a : w11.cell? ⟨w10.heap.size, 0, none⟩ = some (.int .i64 a) := by rw [hc _ _ (by first | omega | (simp; omega) | simp)]; simp [go_sem, *]
      have k11_4b : w11.cell? ⟨w10.heap.size, 1, none⟩ = some (.int .i64 b) := by rw [hc _ _ (by first | omega | (simp; omega) | simp)]; simp [go_sem, *]
      have z11_4 : w10.heap.size < w11.heap.size := by have := hb.size; (try simp at this); omega
      have hB11 : Below w.heap.size w w11 := by repeat (first | exact hB10 | refine Below.setCell ?_ (by first | omega | (simp; omega) | simp) _ | refine Below.alloc ?_ (by first | omega | (simp; omega) | simp) _ | refine chainB (by assumption) ?_)
      have hs11 : w.heap.size ≤ w11.heap.size := hB11.size
      clear hc hf hb k10_0a k10_0b z10_0 k10_1a k10_1b z10_1 k10_2a k10_2b z10_2 f10_2a f10_2b k10_3a k10_3b z10_3 f10_3a f10_3b k10_4a k10_4b z10_4 hB10 hs10
      go_wp2_with fail
      refine (me _).mono ?_
      rintro e w12 ⟨rfl, hb⟩
      obtain ⟨hc, hf⟩ := bcell hb
      have d30440 : ¬ w.heap.size = w11.heap.size := by omega
      have d30440s : ¬ w11.heap.size = w.heap.size := by omega
      have d30565 : ¬ (w.heap.size + 1) = w11.heap.size := by omega
      have d30565s : ¬ w11.heap.size = (w.heap.size + 1) := by omega
      have d30702l : w.heap.size ≤ w11.heap.size := by omega
      have k12_0a : w12.cell? ⟨w.heap.size, 0, none⟩ = some (.int .i64 a) := by rw [hc _ _ (by first | omega | (simp; omega) | simp)]; simp [go_sem, *]
      have k12_0b : w12.cell? ⟨w.heap.size, 1, none⟩ = some (.int .i64 b) := by rw [hc _ _ (by first | omega | (simp; omega) | simp)]; simp [go_sem, *]
      have z12_0 : w.heap.size < w12.heap.size := by have := hb.size; (try simp at this); omega
      have k12_1a : w12.cell? ⟨(w.heap.size + 1), 0, none⟩ = some (.int .i64 c) := by rw [hc _ _ (by first | omega | (simp; omega) | simp)]; simp [go_sem, *]
      have k12_1b : w12.cell? ⟨(w.heap.size + 1), 1, none⟩ = some (.int .i64 d) := by rw [hc _ _ (by first | omega | (simp; omega) | simp)]; simp [go_sem, *]
      have z12_1 : (w.heap.size + 1) < w12.heap.size := by have := hb.size; (try simp at this); omega
      have k12_2a : w12.cell? ⟨w11.heap.size, 0, none⟩ = some (.int .i64 (min a c)) := by rw [hc _ _ (by first | omega | (simp; omega) | simp)]; simp [go_sem, *]
      have k12_2b : w12.cell? ⟨w11.heap.size, 1, none⟩ = some (.int .i64 (max b d)) := by rw [hc _ _ (by first | omega | (simp; omega) | simp)]; simp [go_sem, *]
      have z12_2 : w11.heap.size < w12.heap.size := by have := hb.size; (try simp at this); omega
      have hB12 : Below w.heap.size w w12 := by repeat (first | exact hB11 | refine Below.setCell ?_ (by first | omega | (simp; omega) | simp) _ | refine Below.alloc ?_ (by first | omega | (simp; omega) | simp) _ | refine chainB (by assumption) ?_)
      have hs12 : w.heap.size ≤ w12.heap.size := hB12.size
      clear hc hf hb k11_0a k11_0b z11_0 k11_1a k11_1b z11_1 k11_2a k11_2b z11_2 k11_3a k11_3b z11_3 k11_4a k11_4b z11_4 hB11 hs11
      go_wp2_with fail
      refine (inside_yes a b _ _ (by omega) (by omega) _).mono ?_
      rintro e w13 ⟨rfl, hb⟩
      obtain ⟨hc, hf⟩ := bcell hb
      have d32594 : ¬ w.heap.size = w12.heap.size := by omega
      have d32594s : ¬ w12.heap.size = w.heap.size := by omega
      have d32719 : ¬ (w.heap.size + 1) = w12.heap.size := by omega
      have d32719s : ¬ w12.heap.size = (w.heap.size + 1) := by omega
      have d32856 : ¬ w11.heap.size = w12.heap.size := by omega
      have d32856s : ¬ w12.heap.size = w11.heap.size := by omega
      have d32985l : w.heap.size ≤ w12.heap.size := by omega
      have k13_0a : w13.cell? ⟨w.heap.size, 0, none⟩ = some (.int .i64 a) := by rw [hc _ _ (by first | omega | (simp; omega) | simp)]; simp [go_sem, *]
      have k13_0b : w13.cell? ⟨w.heap.size, 1, none⟩ = some (.int .i64 b) := by rw [hc _ _ (by first | omega | (simp; omega) | simp)]; simp [go_sem, *]
      have z13_0 : w.heap.size < w13.heap.size := by have := hb.size; (try simp at this); omega
      have k13_1a : w13.cell? ⟨(w.heap.size + 1), 0, none⟩ = some (.int .i64 c) := by rw [hc _ _ (by first | omega | (simp; omega) | simp)]; simp [go_sem, *]
      have k13_1b : w13.cell? ⟨(w.heap.size + 1), 1, none⟩ = some (.int .i64 d) := by rw [hc _ _ (by first | omega | (simp; omega) | simp)]; simp [go_sem, *]
      have z13_1 : (w.heap.size + 1) < w13.heap.size := by have := hb.size; (try simp at this); omega
      have k13_2a : w13.cell? ⟨w11.heap.size, 0, none⟩ = some (.int .i64 (min a c)) := by rw [hc _ _ (by first | omega | (simp; omega) | simp)]; simp [go_sem, *]
      have k13_2b : w13.cell? ⟨w11.heap.size, 1, none⟩ = some (.int .i64 (max b d)) := by rw [hc _ _ (by first | omega | (simp; omega) | simp)]; simp [go_sem, *]
      have z13_2 : w11.heap.size < w13.heap.size := by have := hb.size; (try simp at this); omega
      have k13_3a : w13.cell? ⟨w12.heap.size, 0, none⟩ = some (.int .i64 mt.lo) := by rw [hc _ _ (by first | omega | (simp; omega) | simp)]; simp [go_sem, *]
      have k13_3b : w13.cell? ⟨w12.heap.size, 1, none⟩ = some (.int .i64 mt.hi) := by rw [hc _ _ (by first | omega | (simp; omega) | simp)]; simp [go_sem, *]
      have z13_3 : w12.heap.size < w13.heap.size := by have := hb.size; (try simp at this); omega
      have hB13 : Below w.heap.size w w13 := by repeat (first | exact hB12 | refine Below.setCell ?_ (by first | omega | (simp; omega) | simp) _ | refine Below.alloc ?_ (by first | omega | (simp; omega) | simp) _ | refine chainB (by assumption) ?_)
      have hs13 : w.heap.size ≤ w13.heap.size := hB13.size
      clear hc hf hb k12_0a k12_0b z12_0 k12_1a k12_1b z12_1 k12_2a k12_2b z12_2 hB12 hs12
      go_wp2_with fail
      refine (inside_yes c d _ _ (by omega) (by omega) _).mono ?_
      rintro e w14 ⟨rfl, hb⟩
      obtain ⟨hc, hf⟩ := bcell hb
      have k14_0a : w14.cell? ⟨w.heap.size, 0, none⟩ = some (.int .i64 a) := by rw [hc _ _ (by first | omega | (simp; omega) | simp)]; simp [go_sem, *]
      have k14_0b : w14.cell? ⟨w.heap.size, 1, none⟩ = some (.int .i64 b) := by rw [hc _ _ (by first | omega | (simp; omega) | simp)]; simp [go_sem, *]
      have z14_0 : w.heap.size < w14.heap.size := by have := hb.size; (try simp at this); omega
      have k14_1a : w14.cell? ⟨(w.heap.size + 1), 0, none⟩ = some (.int .i64 c) := by rw [hc _ _ (by first | omega | (simp; omega) | simp)]; simp [go_sem, *]
      have k14_1b : w14.cell? ⟨(w.heap.size + 1), 1, none⟩ = some (.int .i64 d) := by rw [hc _ _ (by first | omega | (simp; omega) | simp)]; simp [go_sem, *]
      have z14_1 : (w.heap.size + 1) < w14.heap.size := by have := hb.size; (try simp at this); omega
      have k14_2a : w14.cell? ⟨w11.heap.size, 0, none⟩ = some (.int .i64 (min a c)) := by rw [hc _ _ (by first | omega | (simp; omega) | simp)]; simp [go_sem, *]
      have k14_2b : w14.cell? ⟨w11.heap.size, 1, none⟩ = some (.int .i64 (max b d)) := by rw [hc _ _ (by first | omega | (simp; omega) | simp)]; simp [go_sem, *]
      have z14_2 : w11.heap.size < w14.heap.size := by have := hb.size; (try simp at this); omega
      have k14_3a : w14.cell? ⟨w12.heap.size, 0, none⟩ = some (.int .i64 mt.lo) := by rw [hc _ _ (by first | omega | (simp; omega) | simp)]; simp [go_sem, *]
      have k14_3b : w14.cell? ⟨w12.heap.size, 1, none⟩ = some (.int .i64 mt.hi) := by rw [hc _ _ (by first | omega | (simp; omega) | simp)]; simp [go_sem, *]
      have z14_3 : w12.heap.size < w14.heap.size := by have := hb.size; (try simp at this); omega
      have hB14 : Below w.heap.size w w14 := by repeat (first | exact hB13 | refine Below.setCell ?_ (by first | omega | (simp; omega) | simp) _ | refine Below.alloc ?_ (by first | omega | (simp; omega) | simp) _ | refine chainB (by assumption) ?_)
      have hs14 : w.heap.size ≤ w14.heap.size := hB14.size
      clear hc hf hb k13_0a k13_0b z13_0 k13_1a k13_1b z13_1 k13_2a k13_2b z13_2 k13_3a k13_3b z13_3 hB13 hs13
      rcases HM.out with rfl | ⟨rfl, hx⟩
      · go_wp2_with fail
        refine (cW _).mono ?_
        rintro e wz ⟨rfl, hbz⟩
        go_wp2_with fail
        go_ret
        exact ⟨rfl, chainB hbz hB14⟩
      · go_wp2_with fail
        refine (inside_yes _ _ a b (by omega) (by omega) _).mono ?_
        rintro e w15 ⟨rfl, hb⟩
        obtain ⟨hc, hf⟩ := bcell hb
        have k15_0a : w15.cell? ⟨w.heap.size, 0, none⟩ = some (.int .i64 a) := by rw [hc _ _ (by first | omega | (simp; omega) | simp)]; simp [go_sem, *]
        have k15_0b : w15.cell? ⟨w.heap.size, 1, none⟩ = some (.int .i64 b) := by rw [hc _ _ (by first | omega | (simp; omega) | simp)]; simp [go_sem, *]
        have z15_0 : w.heap.size < w15.heap.size := by have := hb.size; (try simp at this); omega
        have k15_1a : w15.cell? ⟨(w.heap.size + 1), 0, none⟩ = some (.int .i64 c) := by rw [hc _ _ (by first | omega | (simp; omega) | simp)]; simp [go_sem, *]
        have k15_1b : w15.cell? ⟨(w.heap.size + 1), 1, none⟩ = some (.int .i64 d) := by rw [hc _ _ (by first | omega | (simp; omega) | simp)]; simp [go_sem, *]
        have z15_1 : (w.heap.size + 1) < w15.heap.size := by have := hb.size; (try simp at this); omega
        have k15_2a : w15.cell? ⟨w11.heap.size, 0, none⟩ = some (.int .i64 (min a c)) := by rw [hc _ _ (by first | omega | (simp; omega) | simp)]; simp [go_sem, *]
        have k15_2b : w15.cell? ⟨w11.heap.size, 1, none⟩ = some (.int .i64 (max b d)) := by rw [hc _ _ (by first | omega | (simp; omega) | simp)]; simp [go_sem, *]
        have z15_2 : w11.heap.size < w15.heap.size := by have := hb.size; (try simp at this); omega
        have k15_3a : w15.cell? ⟨w12.heap.size, 0, none⟩ = some (.int .i64 (max a c)) := by rw [hc _ _ (by first | omega | (simp; omega) | simp)]; simp [go_sem, *]
        have k15_3b : w15.cell? ⟨w12.heap.size, 1, none⟩ = some (.int .i64 (min b d)) := by rw [hc _ _ (by first | omega | (simp; omega) | simp)]; simp [go_sem, *]
        have z15_3 : w12.heap.size < w15.heap.size := by have := hb.size; (try simp at this); omega
        have hB15 : Below w.heap.size w w15 := by repeat (first | exact hB14 | refine Below.setCell ?_ (by first | omega | (simp; omega) | simp) _ | refine Below.alloc ?_ (by first | omega | (simp; omega) | simp) _ | refine chainB (by assumption) ?_)
        have hs15 : w.heap.size ≤ w15.heap.size := hB15.size
        clear hc hf hb k14_0a k14_0b z14_0 k14_1a k14_1b z14_1 k14_2a k14_2b z14_2 k14_3a k14_3b z14_3 hB14 hs14
        go_wp2_with fail
        refine (inside_yes _ _ c d (by omega) (by omega) _).mono ?_
        rintro e w16 ⟨rfl, hb⟩
        obtain ⟨hc, hf⟩ := bcell hb
        have k16_0a : w16.cell? ⟨w.heap.size, 0, none⟩ = some (.int .i64 a) := by rw [hc _ _ (by first | omega | (simp; omega) | simp)]; simp [go_sem, *]
        have k16_0b : w16.cell? ⟨w.heap.size, 1, none⟩ = some (.int .i64 b) := by rw [hc _ _ (by first | omega | (simp; omega) | simp)]; simp [go_sem, *]
        have z16_0 : w.heap.size < w16.heap.size := by have := hb.size; (try simp at this); omega
        have k16_1a : w16.cell? ⟨(w.heap.size + 1), 0, none⟩ = some (.int .i64 c) := by rw [hc _ _ (by first | omega | (simp; omega) | simp)]; simp [go_sem, *]
        have k16_1b : w16.cell? ⟨(w.heap.size + 1), 1, none⟩ = some (.int .i64 d) := by rw [hc _ _ (by first | omega | (simp; omega) | simp)]; simp [go_sem, *]
        have z16_1 : (w.heap.size + 1) < w16.heap.size := by have := hb.size; (try simp at this); omega
        have k16_2a : w16.cell? ⟨w11.heap.size, 0, none⟩ = some (.int .i64 (min a c)) := by rw [hc _ _ (by first | omega | (simp; omega) | simp)]; simp [go_sem, *]
        have k16_2b : w16.cell? ⟨w11.heap.size, 1, none⟩ = some (.int .i64 (max b d)) := by rw [hc _ _ (by first | omega | (simp; omega) | simp)]; simp [go_sem, *]
        have z16_2 : w11.heap.size < w16.heap.size := by have := hb.size; (try simp at this); omega
        have k16_3a : w16.cell? ⟨w12.heap.size, 0, none⟩ = some (.int .i64 (max a c)) := by rw [hc _ _ (by first | omega | (simp; omega) | simp)]; simp [go_sem, *]
        have k16_3b : w16.cell? ⟨w12.heap.size, 1, none⟩ = some (.int .i64 (min b d)) := by rw [hc _ _ (by first | omega | (simp; omega) | simp)]; simp [go_sem, *]
        have z16_3 : w12.heap.size < w16.heap.size := by have := hb.size; (try simp at this); omega
        have hB16 : Below w.heap.size w w16 := by repeat (first | exact hB15 | refine Below.setCell ?_ (by first | omega | (simp; omega) | simp) _ | refine Below.alloc ?_ (by first | omega | (simp; omega) | simp) _ | refine chainB (by assumption) ?_)
        have hs16 : w.heap.size ≤ w16.heap.size := hB16.size
        clear hc hf hb k15_0a k15_0b z15_0 k15_1a k15_1b z15_1 k15_2a k15_2b z15_2 k15_3a k15_3b z15_3 hB15 hs15
        go_wp2_with fail
        refine (cW _).mono ?_
        rintro e wz ⟨rfl, hbz⟩
        go_wp2_with fail
        go_ret
        exact ⟨rfl, chainB hbz hB16⟩
    · have v1 := fun w => valid_yes a b h1 w
      have v2 := fun w => valid_no c d h2 w
      clear h1 h2
      go_enter Try.func16, Try.ntmps16
      go_wp2_with fail
      refine (v1 _).mono ?_
      rintro e w1 ⟨rfl, hb⟩
      obtain ⟨hc, hf⟩ := bcell hb
      go_wp2_with fail
      refine (v2 _).mono ?_
      rintro e w2 ⟨rfl, hb2⟩
      go_wp2_with fail
      refine (cW _).mono ?_
      rintro e w3 ⟨rfl, hb3⟩
      go_wp2_with fail
      go_ret
      exact ⟨rfl, chainB hb3 (chainB hb2 (chainB hb (((Below.refl _ _).alloc (Nat.le_refl _) _).alloc (by simp) _)))⟩
  · have v1 := fun w => valid_no a b h1 w
    clear h1
    go_enter Try.func16, Try.ntmps16
    go_wp2_with fail
    refine (v1 _).mono ?_
    rintro e w1 ⟨rfl, hb⟩
    go_wp2_with fail
    refine (cW _).mono ?_
    rintro e w3 ⟨rfl, hb3⟩
    go_wp2_with fail
    go_ret
    exact ⟨rfl, chainB hb3 (chainB hb (((Below.refl _ _).alloc (Nat.le_refl _) _).alloc (by simp) _))⟩
end Go.Proofs.Ytamelpfhbnkggaa

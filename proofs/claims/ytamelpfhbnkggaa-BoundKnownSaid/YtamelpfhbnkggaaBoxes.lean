/-
  Boxes.
-/
import Derived.Test.YtamelpfhbnkggaaRefSmall
import Derived.Test.YtamelpfhbnkggaaMinMax
import Derived.Test.YtamelpfhbnkggaaRef2
import Derived.Test.YtamelpfhbnkggaaOperate
import Derived.BigQuiet
import Derived.Deep.QuietTactic
namespace Go.Proofs.Ytamelpfhbnkggaa
open Go.RowKit Go.Shelf
/-- how far two spans are apart: least, greatest -/
def gLo (a b c d : Int) : Int := max 0 (max (c - b) (a - d))
def gHi (a b c d : Int) : Int := max (d - a) (b - c)
set_option maxHeartbeats 1000000 in
theorem apart_any (a b c d : Int) (h1 : vB a b = true) (h2 : vB c d = true) (w : World) :
    Calls Try.prog 110 #[.agg #[.int .i64 a, .int .i64 b], .agg #[.int .i64 c, .int .i64 d]] w fun e w' => e = .returned (.agg #[.int .i64 (gLo a b c d), .int .i64 (gHi a b c d)]) ∧ Below w.heap.size w w' := by
  obtain ⟨g1, g2, g3⟩ := (vB_iff a b).1 h1
  obtain ⟨g4, g5, g6⟩ := (vB_iff c d).1 h2
  clear h1 h2
  have e1 : gLo a b c d = max 0 (max (c - b) (a - d)) := rfl
  have e2 : gHi a b c d = max (d - a) (b - c) := rfl
  rw [e1, e2]
  clear e1 e2
  go_enter Try.func110, Try.ntmps110
  go_wp2
  refine bodyPost_ret (v := .agg #[.int .i64 (max 0 (max (c - b) (a - d))), .int .i64 (max (d - a) (b - c))]) (by simp [results, Try.results110, go_sem]) rfl ⟨rfl, ?_⟩
  exact (((Below.refl _ _).alloc (Nat.le_refl _) _).alloc (by simp) _).alloc (by simp; omega) _
set_option maxHeartbeats 2000000 in
theorem gap_any (a b c d : Int) (h1 : vB a b = true) (h2 : vB c d = true) (w : World) :
    Calls Try.prog 111 #[.agg #[.int .i64 a, .int .i64 b], .agg #[.int .i64 c, .int .i64 d]] w fun e w' => e = .returned (.tuple #[.int .i64 (gLo a b c d), .int .i64 (gHi a b c d)]) ∧ Below w.heap.size w w' := by
  obtain ⟨g1, g2, g3⟩ := (vB_iff a b).1 h1
  obtain ⟨g4, g5, g6⟩ := (vB_iff c d).1 h2
  clear h1 h2
  have e1 : gLo a b c d = max 0 (max (a - d) (c - b)) := by unfold gLo; omega
  have e2 : gHi a b c d = max (b - c) (d - a) := by unfold gHi; omega
  rw [e1, e2]
  clear e1 e2
  go_enter Try.func111, Try.ntmps111
  go_wp2_with fail
  go_quiet (fail)
  go_wp2_with fail
  go_ret2
  exact ⟨rfl, below_drewN (((Below.refl _ _).alloc (Nat.le_refl _) _).alloc (by simp) _) _⟩
/-- a valid box -/
def vX (a b c d : Int) : Bool := vB a b && (vB c d && (decide (-268435456 ≤ a ∧ a ≤ 268435456) && (decide (-268435456 ≤ b ∧ b ≤ 268435456) && (decide (-268435456 ≤ c ∧ c ≤ 268435456) && decide (-268435456 ≤ d ∧ d ≤ 268435456)))))

set_option maxHeartbeats 2000000 in
theorem validBox_any (a b c d : Int) (w : World) :
    Calls Try.prog 72 #[.agg #[.int .i64 a, .int .i64 b, .int .i64 c, .int .i64 d]] w fun e w' => e = .returned (.bool (vX a b c d)) ∧ Below w.heap.size w w' := by
  by_cases h0 : vB a b = true
  rotate_left
  · rw [show vX a b c d = false by simp [vX, h0]]
    have v0 := fun w => valid_no a b h0 w
    clear h0
    go_enter Try.func72, Try.ntmps72
    go_wp2_with fail
    refine (v0 _).mono ?_
    rintro e w1 ⟨rfl, hb⟩
    obtain ⟨hc, hf⟩ := bcell hb
    have k1_00 : w1.cell? ⟨w.heap.size, 0, none⟩ = some (.int .i64 a) := by rw [hc _ _ (by first | omega | (simp; omega) | simp)]; simp [go_sem, *]
    have k1_01 : w1.cell? ⟨w.heap.size, 1, none⟩ = some (.int .i64 b) := by rw [hc _ _ (by first | omega | (simp; omega) | simp)]; simp [go_sem, *]
    have k1_02 : w1.cell? ⟨w.heap.size, 2, none⟩ = some (.int .i64 c) := by rw [hc _ _ (by first | omega | (simp; omega) | simp)]; simp [go_sem, *]
    have k1_03 : w1.cell? ⟨w.heap.size, 3, none⟩ = some (.int .i64 d) := by rw [hc _ _ (by first | omega | (simp; omega) | simp)]; simp [go_sem, *]
    have z1_0 : w.heap.size < w1.heap.size := by have := hb.size; (try simp at this); omega
    have hB1 : Below w.heap.size w w1 := by repeat (first | exact (Below.refl _ _) | refine Below.drew ?_ | refine below_drewN ?_ _ | refine Below.setCell ?_ (by first | omega | (simp; omega) | simp) _ | refine Below.alloc ?_ (by first | omega | (simp; omega) | simp) _ | refine chainB (by assumption) ?_)
    have hs1 : w.heap.size ≤ w1.heap.size := hB1.size
    clear hc hf hb 
    go_wp2_with fail
    go_ret
    exact ⟨rfl, by repeat (first | exact hB1 | refine Below.drew ?_ | refine below_drewN ?_ _ | refine Below.setCell ?_ (by first | omega | (simp; omega) | simp) _ | refine Below.alloc ?_ (by first | omega | (simp; omega) | simp) _ | refine chainB (by assumption) ?_)⟩
  by_cases h1 : vB c d = true
  rotate_left
  · rw [show vX a b c d = false by simp [vX, h0, h1]]
    have v0 := fun w => valid_yes a b h0 w
    have v1 := fun w => valid_no c d h1 w
    clear h0 h1
    go_enter Try.func72, Try.ntmps72
    go_wp2_with fail
    refine (v0 _).mono ?_
    rintro e w1 ⟨rfl, hb⟩
    obtain ⟨hc, hf⟩ := bcell hb
    have k1_00 : w1.cell? ⟨w.heap.size, 0, none⟩ = some (.int .i64 a) := by rw [hc _ _ (by first | omega | (simp; omega) | simp)]; simp [go_sem, *]
    have k1_01 : w1.cell? ⟨w.heap.size, 1, none⟩ = some (.int .i64 b) := by rw [hc _ _ (by first | omega | (simp; omega) | simp)]; simp [go_sem, *]
    have k1_02 : w1.cell? ⟨w.heap.size, 2, none⟩ = some (.int .i64 c) := by rw [hc _ _ (by first | omega | (simp; omega) | simp)]; simp [go_sem, *]
    have k1_03 : w1.cell? ⟨w.heap.size, 3, none⟩ = some (.int .i64 d) := by rw [hc _ _ (by first | omega | (simp; omega) | simp)]; simp [go_sem, *]
    have z1_0 : w.heap.size < w1.heap.size := by have := hb.size; (try simp at this); omega
    have hB1 : Below w.heap.size w w1 := by repeat (first | exact (Below.refl _ _) | refine Below.drew ?_ | refine below_drewN ?_ _ | refine Below.setCell ?_ (by first | omega | (simp; omega) | simp) _ | refine Below.alloc ?_ (by first | omega | (simp; omega) | simp) _ | refine chainB (by assumption) ?_)
    have hs1 : w.heap.size ≤ w1.heap.size := hB1.size
    clear hc hf hb 
    go_wp2_with fail
    refine (v1 _).mono ?_
    rintro e w2 ⟨rfl, hb⟩
    obtain ⟨hc, hf⟩ := bcell hb
    have k2_00 : w2.cell? ⟨w.heap.size, 0, none⟩ = some (.int .i64 a) := by rw [hc _ _ (by first | omega | (simp; omega) | simp)]; simp [go_sem, *]
    have k2_01 : w2.cell? ⟨w.heap.size, 1, none⟩ = some (.int .i64 b) := by rw [hc _ _ (by first | omega | (simp; omega) | simp)]; simp [go_sem, *]
    have k2_02 : w2.cell? ⟨w.heap.size, 2, none⟩ = some (.int .i64 c) := by rw [hc _ _ (by first | omega | (simp; omega) | simp)]; simp [go_sem, *]
    have k2_03 : w2.cell? ⟨w.heap.size, 3, none⟩ = some (.int .i64 d) := by rw [hc _ _ (by first | omega | (simp; omega) | simp)]; simp [go_sem, *]
    have z2_0 : w.heap.size < w2.heap.size := by have := hb.size; (try simp at this); omega
    have hB2 : Below w.heap.size w w2 := by repeat (first | exact hB1 | refine Below.drew ?_ | refine below_drewN ?_ _ | refine Below.setCell ?_ (by first | omega | (simp; omega) | simp) _ | refine Below.alloc ?_ (by first | omega | (simp; omega) | simp) _ | refine chainB (by assumption) ?_)
    have hs2 : w.heap.size ≤ w2.heap.size := hB2.size
    clear hc hf hb k1_00 k1_01 k1_02 k1_03 z1_0 hB1 hs1
    go_wp2_with fail
    go_ret
    exact ⟨rfl, by repeat (first | exact hB2 | refine Below.drew ?_ | refine below_drewN ?_ _ | refine Below.setCell ?_ (by first | omega | (simp; omega) | simp) _ | refine Below.alloc ?_ (by first | omega | (simp; omega) | simp) _ | refine chainB (by assumption) ?_)⟩
  by_cases h2 : -268435456 ≤ a ∧ a ≤ 268435456
  rotate_left
  · rw [show vX a b c d = false by unfold vX; rw [decide_eq_false h2]; simp]
    have v0 := fun w => valid_yes a b h0 w
    have v1 := fun w => valid_yes c d h1 w
    have v2 := fun w => within_no a (-268435456) 268435456 h2 w
    clear h0 h1 h2
    go_enter Try.func72, Try.ntmps72
    go_wp2_with fail
    refine (v0 _).mono ?_
    rintro e w1 ⟨rfl, hb⟩
    obtain ⟨hc, hf⟩ := bcell hb
    have k1_00 : w1.cell? ⟨w.heap.size, 0, none⟩ = some (.int .i64 a) := by rw [hc _ _ (by first | omega | (simp; omega) | simp)]; simp [go_sem, *]
    have k1_01 : w1.cell? ⟨w.heap.size, 1, none⟩ = some (.int .i64 b) := by rw [hc _ _ (by first | omega | (simp; omega) | simp)]; simp [go_sem, *]
    have k1_02 : w1.cell? ⟨w.heap.size, 2, none⟩ = some (.int .i64 c) := by rw [hc _ _ (by first | omega | (simp; omega) | simp)]; simp [go_sem, *]
    have k1_03 : w1.cell? ⟨w.heap.size, 3, none⟩ = some (.int .i64 d) := by rw [hc _ _ (by first | omega | (simp; omega) | simp)]; simp [go_sem, *]
    have z1_0 : w.heap.size < w1.heap.size := by have := hb.size; (try simp at this); omega
    have hB1 : Below w.heap.size w w1 := by repeat (first | exact (Below.refl _ _) | refine Below.drew ?_ | refine below_drewN ?_ _ | refine Below.setCell ?_ (by first | omega | (simp; omega) | simp) _ | refine Below.alloc ?_ (by first | omega | (simp; omega) | simp) _ | refine chainB (by assumption) ?_)
    have hs1 : w.heap.size ≤ w1.heap.size := hB1.size
    clear hc hf hb 
    go_wp2_with fail
    refine (v1 _).mono ?_
    rintro e w2 ⟨rfl, hb⟩
    obtain ⟨hc, hf⟩ := bcell hb
    have k2_00 : w2.cell? ⟨w.heap.size, 0, none⟩ = some (.int .i64 a) := by rw [hc _ _ (by first | omega | (simp; omega) | simp)]; simp [go_sem, *]
    have k2_01 : w2.cell? ⟨w.heap.size, 1, none⟩ = some (.int .i64 b) := by rw [hc _ _ (by first | omega | (simp; omega) | simp)]; simp [go_sem, *]
    have k2_02 : w2.cell? ⟨w.heap.size, 2, none⟩ = some (.int .i64 c) := by rw [hc _ _ (by first | omega | (simp; omega) | simp)]; simp [go_sem, *]
    have k2_03 : w2.cell? ⟨w.heap.size, 3, none⟩ = some (.int .i64 d) := by rw [hc _ _ (by first | omega | (simp; omega) | simp)]; simp [go_sem, *]
    have z2_0 : w.heap.size < w2.heap.size := by have := hb.size; (try simp at this); omega
    have hB2 : Below w.heap.size w w2 := by repeat (first | exact hB1 | refine Below.drew ?_ | refine below_drewN ?_ _ | refine Below.setCell ?_ (by first | omega | (simp; omega) | simp) _ | refine Below.alloc ?_ (by first | omega | (simp; omega) | simp) _ | refine chainB (by assumption) ?_)
    have hs2 : w.heap.size ≤ w2.heap.size := hB2.size
    clear hc hf hb k1_00 k1_01 k1_02 k1_03 z1_0 hB1 hs1
    go_wp2_with fail
    refine (v2 _).mono ?_
    rintro e w3 ⟨rfl, hb⟩
    obtain ⟨hc, hf⟩ := bcell hb
    have k3_00 : w3.cell? ⟨w.heap.size, 0, none⟩ = some (.int .i64 a) := by rw [hc _ _ (by first | omega | (simp; omega) | simp)]; simp [go_sem, *]
    have k3_01 : w3.cell? ⟨w.heap.size, 1, none⟩ = some (.int .i64 b) := by rw [hc _ _ (by first | omega | (simp; omega) | simp)]; simp [go_sem, *]
    have k3_02 : w3.cell? ⟨w.heap.size, 2, none⟩ = some (.int .i64 c) := by rw [hc _ _ (by first | omega | (simp; omega) | simp)]; simp [go_sem, *]
    have k3_03 : w3.cell? ⟨w.heap.size, 3, none⟩ = some (.int .i64 d) := by rw [hc _ _ (by first | omega | (simp; omega) | simp)]; simp [go_sem, *]
    have z3_0 : w.heap.size < w3.heap.size := by have := hb.size; (try simp at this); omega
    have hB3 : Below w.heap.size w w3 := by repeat (first | exact hB2 | refine Below.drew ?_ | refine below_drewN ?_ _ | refine Below.setCell ?_ (by first | omega | (simp; omega) | simp) _ | refine Below.alloc ?_ (by first | omega | (simp; omega) | simp) _ | refine chainB (by assumption) ?_)
    have hs3 : w.heap.size ≤ w3.heap.size := hB3.size
    clear hc hf hb k2_00 k2_01 k2_02 k2_03 z2_0 hB2 hs2
    go_wp2_with fail
    go_ret
    exact ⟨rfl, by repeat (first | exact hB3 | refine Below.drew ?_ | refine below_drewN ?_ _ | refine Below.setCell ?_ (by first | omega | (simp; omega) | simp) _ | refine Below.alloc ?_ (by first | omega | (simp; omega) | simp) _ | refine chainB (by assumption) ?_)⟩
  by_cases h3 : -268435456 ≤ b ∧ b ≤ 268435456
  rotate_left
  · rw [show vX a b c d = false by unfold vX; rw [decide_eq_false h3]; simp]
    have v0 := fun w => valid_yes a b h0 w
    have v1 := fun w => valid_yes c d h1 w
    have v2 := fun w => within_yes a (-268435456) 268435456 h2.1 h2.2 w
    have v3 := fun w => within_no b (-268435456) 268435456 h3 w
    clear h0 h1 h2 h3
    go_enter Try.func72, Try.ntmps72
    go_wp2_with fail
    refine (v0 _).mono ?_
    rintro e w1 ⟨rfl, hb⟩
    obtain ⟨hc, hf⟩ := bcell hb
    have k1_00 : w1.cell? ⟨w.heap.size, 0, none⟩ = some (.int .i64 a) := by rw [hc _ _ (by first | omega | (simp; omega) | simp)]; simp [go_sem, *]
    have k1_01 : w1.cell? ⟨w.heap.size, 1, none⟩ = some (.int .i64 b) := by rw [hc _ _ (by first | omega | (simp; omega) | simp)]; simp [go_sem, *]
    have k1_02 : w1.cell? ⟨w.heap.size, 2, none⟩ = some (.int .i64 c) := by rw [hc _ _ (by first | omega | (simp; omega) | simp)]; simp [go_sem, *]
    have k1_03 : w1.cell? ⟨w.heap.size, 3, none⟩ = some (.int .i64 d) := by rw [hc _ _ (by first | omega | (simp; omega) | simp)]; simp [go_sem, *]
    have z1_0 : w.heap.size < w1.heap.size := by have := hb.size; (try simp at this); omega
    have hB1 : Below w.heap.size w w1 := by repeat (first | exact (Below.refl _ _) | refine Below.drew ?_ | refine below_drewN ?_ _ | refine Below.setCell ?_ (by first | omega | (simp; omega) | simp) _ | refine Below.alloc ?_ (by first | omega | (simp; omega) | simp) _ | refine chainB (by assumption) ?_)
    have hs1 : w.heap.size ≤ w1.heap.size := hB1.size
    clear hc hf hb 
    go_wp2_with fail
    refine (v1 _).mono ?_
    rintro e w2 ⟨rfl, hb⟩
    obtain ⟨hc, hf⟩ := bcell hb
    have k2_00 : w2.cell? ⟨w.heap.size, 0, none⟩ = some (.int .i64 a) := by rw [hc _ _ (by first | omega | (simp; omega) | simp)]; simp [go_sem, *]
    have k2_01 : w2.cell? ⟨w.heap.size, 1, none⟩ = some (.int .i64 b) := by rw [hc _ _ (by first | omega | (simp; omega) | simp)]; simp [go_sem, *]
    have k2_02 : w2.cell? ⟨w.heap.size, 2, none⟩ = some (.int .i64 c) := by rw [hc _ _ (by first | omega | (simp; omega) | simp)]; simp [go_sem, *]
    have k2_03 : w2.cell? ⟨w.heap.size, 3, none⟩ = some (.int .i64 d) := by rw [hc _ _ (by first | omega | (simp; omega) | simp)]; simp [go_sem, *]
    have z2_0 : w.heap.size < w2.heap.size := by have := hb.size; (try simp at this); omega
    have hB2 : Below w.heap.size w w2 := by repeat (first | exact hB1 | refine Below.drew ?_ | refine below_drewN ?_ _ | refine Below.setCell ?_ (by first | omega | (simp; omega) | simp) _ | refine Below.alloc ?_ (by first | omega | (simp; omega) | simp) _ | refine chainB (by assumption) ?_)
    have hs2 : w.heap.size ≤ w2.heap.size := hB2.size
    clear hc hf hb k1_00 k1_01 k1_02 k1_03 z1_0 hB1 hs1
    go_wp2_with fail
    refine (v2 _).mono ?_
    rintro e w3 ⟨rfl, hb⟩
    obtain ⟨hc, hf⟩ := bcell hb
    have k3_00 : w3.cell? ⟨w.heap.size, 0, none⟩ = some (.int .i64 a) := by rw [hc _ _ (by first | omega | (simp; omega) | simp)]; simp [go_sem, *]
    have k3_01 : w3.cell? ⟨w.heap.size, 1, none⟩ = some (.int .i64 b) := by rw [hc _ _ (by first | omega | (simp; omega) | simp)]; simp [go_sem, *]
    have k3_02 : w3.cell? ⟨w.heap.size, 2, none⟩ = some (.int .i64 c) := by rw [hc _ _ (by first | omega | (simp; omega) | simp)]; simp [go_sem, *]
    have k3_03 : w3.cell? ⟨w.heap.size, 3, none⟩ = some (.int .i64 d) := by rw [hc _ _ (by first | omega | (simp; omega) | simp)]; simp [go_sem, *]
    have z3_0 : w.heap.size < w3.heap.size := by have := hb.size; (try simp at this); omega
    have hB3 : Below w.heap.size w w3 := by repeat (first | exact hB2 | refine Below.drew ?_ | refine below_drewN ?_ _ | refine Below.setCell ?_ (by first | omega | (simp; omega) | simp) _ | refine Below.alloc ?_ (by first | omega | (simp; omega) | simp) _ | refine chainB (by assumption) ?_)
    have hs3 : w.heap.size ≤ w3.heap.size := hB3.size
    clear hc hf hb k2_00 k2_01 k2_02 k2_03 z2_0 hB2 hs2
    go_wp2_with fail
    refine (v3 _).mono ?_
    rintro e w4 ⟨rfl, hb⟩
    obtain ⟨hc, hf⟩ := bcell hb
    have k4_00 : w4.cell? ⟨w.heap.size, 0, none⟩ = some (.int .i64 a) := by rw [hc _ _ (by first | omega | (simp; omega) | simp)]; simp [go_sem, *]
    have k4_01 : w4.cell? ⟨w.heap.size, 1, none⟩ = some (.int .i64 b) := by rw [hc _ _ (by first | omega | (simp; omega) | simp)]; simp [go_sem, *]
    have k4_02 : w4.cell? ⟨w.heap.size, 2, none⟩ = some (.int .i64 c) := by rw [hc _ _ (by first | omega | (simp; omega) | simp)]; simp [go_sem, *]
    have k4_03 : w4.cell? ⟨w.heap.size, 3, none⟩ = some (.int .i64 d) := by rw [hc _ _ (by first | omega | (simp; omega) | simp)]; simp [go_sem, *]
    have z4_0 : w.heap.size < w4.heap.size := by have := hb.size; (try simp at this); omega
    have hB4 : Below w.heap.size w w4 := by repeat (first | exact hB3 | refine Below.drew ?_ | refine below_drewN ?_ _ | refine Below.setCell ?_ (by first | omega | (simp; omega) | simp) _ | refine Below.alloc ?_ (by first | omega | (simp; omega) | simp) _ | refine chainB (by assumption) ?_)
    have hs4 : w.heap.size ≤ w4.heap.size := hB4.size
    clear hc hf hb k3_00 k3_01 k3_02 k3_03 z3_0 hB3 hs3
    go_wp2_with fail
    go_ret
    exact ⟨rfl, by repeat (first | exact hB4 | refine Below.drew ?_ | refine below_drewN ?_ _ | refine Below.setCell ?_ (by first | omega | (simp; omega) | simp) _ | refine Below.alloc ?_ (by first | omega | (simp; omega) | simp) _ | refine chainB (by assumption) ?_)⟩
  by_cases h4 : -268435456 ≤ c ∧ c ≤ 268435456
  rotate_left
  · rw [show vX a b c d = false by unfold vX; rw [decide_eq_false h4]; simp]
    have v0 := fun w => valid_yes a b h0 w
    have v1 := fun w => valid_yes c d h1 w
    have v2 := fun w => within_yes a (-268435456) 268435456 h2.1 h2.2 w
    have v3 := fun w => within_yes b (-268435456) 268435456 h3.1 h3.2 w
    have v4 := fun w => within_no c (-268435456) 268435456 h4 w
    clear h0 h1 h2 h3 h4
    go_enter Try.func72, Try.ntmps72
    go_wp2_with fail
    refine (v0 _).mono ?_
    rintro e w1 ⟨rfl, hb⟩
    obtain ⟨hc, hf⟩ := bcell hb
    have k1_00 : w1.cell? ⟨w.heap.size, 0, none⟩ = some (.int .i64 a) := by rw [hc _ _ (by first | omega | (simp; omega) | simp)]; simp [go_sem, *]
    have k1_01 : w1.cell? ⟨w.heap.size, 1, none⟩ = some (.int .i64 b) := by rw [hc _ _ (by first | omega | (simp; omega) | simp)]; simp [go_sem, *]
    have k1_02 : w1.cell? ⟨w.heap.size, 2, none⟩ = some (.int .i64 c) := by rw [hc _ _ (by first | omega | (simp; omega) | simp)]; simp [go_sem, *]
    have k1_03 : w1.cell? ⟨w.heap.size, 3, none⟩ = some (.int .i64 d) := by rw [hc _ _ (by first | omega | (simp; omega) | simp)]; simp [go_sem, *]
    have z1_0 : w.heap.size < w1.heap.size := by have := hb.size; (try simp at this); omega
    have hB1 : Below w.heap.size w w1 := by repeat (first | exact (Below.refl _ _) | refine Below.drew ?_ | refine below_drewN ?_ _ | refine Below.setCell ?_ (by first | omega | (simp; omega) | simp) _ | refine Below.alloc ?_ (by first | omega | (simp; omega) | simp) _ | refine chainB (by assumption) ?_)
    have hs1 : w.heap.size ≤ w1.heap.size := hB1.size
    clear hc hf hb 
    go_wp2_with fail
    refine (v1 _).mono ?_
    rintro e w2 ⟨rfl, hb⟩
    obtain ⟨hc, hf⟩ := bcell hb
    have k2_00 : w2.cell? ⟨w.heap.size, 0, none⟩ = some (.int .i64 a) := by rw [hc _ _ (by first | omega | (simp; omega) | simp)]; simp [go_sem, *]
    have k2_01 : w2.cell? ⟨w.heap.size, 1, none⟩ = some (.int .i64 b) := by rw [hc _ _ (by first | omega | (simp; omega) | simp)]; simp [go_sem, *]
    have k2_02 : w2.cell? ⟨w.heap.size, 2, none⟩ = some (.int .i64 c) := by rw [hc _ _ (by first | omega | (simp; omega) | simp)]; simp [go_sem, *]
    have k2_03 : w2.cell? ⟨w.heap.size, 3, none⟩ = some (.int .i64 d) := by rw [hc _ _ (by first | omega | (simp; omega) | simp)]; simp [go_sem, *]
    have z2_0 : w.heap.size < w2.heap.size := by have := hb.size; (try simp at this); omega
    have hB2 : Below w.heap.size w w2 := by repeat (first | exact hB1 | refine Below.drew ?_ | refine below_drewN ?_ _ | refine Below.setCell ?_ (by first | omega | (simp; omega) | simp) _ | refine Below.alloc ?_ (by first | omega | (simp; omega) | simp) _ | refine chainB (by assumption) ?_)
    have hs2 : w.heap.size ≤ w2.heap.size := hB2.size
    clear hc hf hb k1_00 k1_01 k1_02 k1_03 z1_0 hB1 hs1
    go_wp2_with fail
    refine (v2 _).mono ?_
    rintro e w3 ⟨rfl, hb⟩
    obtain ⟨hc, hf⟩ := bcell hb
    have k3_00 : w3.cell? ⟨w.heap.size, 0, none⟩ = some (.int .i64 a) := by rw [hc _ _ (by first | omega | (simp; omega) | simp)]; simp [go_sem, *]
    have k3_01 : w3.cell? ⟨w.heap.size, 1, none⟩ = some (.int .i64 b) := by rw [hc _ _ (by first | omega | (simp; omega) | simp)]; simp [go_sem, *]
    have k3_02 : w3.cell? ⟨w.heap.size, 2, none⟩ = some (.int .i64 c) := by rw [hc _ _ (by first | omega | (simp; omega) | simp)]; simp [go_sem, *]
    have k3_03 : w3.cell? ⟨w.heap.size, 3, none⟩ = some (.int .i64 d) := by rw [hc _ _ (by first | omega | (simp; omega) | simp)]; simp [go_sem, *]
    have z3_0 : w.heap.size < w3.heap.size := by have := hb.size; (try simp at this); omega
    have hB3 : Below w.heap.size w w3 := by repeat (first | exact hB2 | refine Below.drew ?_ | refine below_drewN ?_ _ | refine Below.setCell ?_ (by first | omega | (simp; omega) | simp) _ | refine Below.alloc ?_ (by first | omega | (simp; omega) | simp) _ | refine chainB (by assumption) ?_)
    have hs3 : w.heap.size ≤ w3.heap.size := hB3.size
    clear hc hf hb k2_00 k2_01 k2_02 k2_03 z2_0 hB2 hs2
    go_wp2_with fail
    refine (v3 _).mono ?_
    rintro e w4 ⟨rfl, hb⟩
    obtain ⟨hc, hf⟩ := bcell hb
    have k4_00 : w4.cell? ⟨w.heap.size, 0, none⟩ = some (.int .i64 a) := by rw [hc _ _ (by first | omega | (simp; omega) | simp)]; simp [go_sem, *]
    have k4_01 : w4.cell? ⟨w.heap.size, 1, none⟩ = some (.int .i64 b) := by rw [hc _ _ (by first | omega | (simp; omega) | simp)]; simp [go_sem, *]
    have k4_02 : w4.cell? ⟨w.heap.size, 2, none⟩ = some (.int .i64 c) := by rw [hc _ _ (by first | omega | (simp; omega) | simp)]; simp [go_sem, *]
    have k4_03 : w4.cell? ⟨w.heap.size, 3, none⟩ = some (.int .i64 d) := by rw [hc _ _ (by first | omega | (simp; omega) | simp)]; simp [go_sem, *]
    have z4_0 : w.heap.size < w4.heap.size := by have := hb.size; (try simp at this); omega
    have hB4 : Below w.heap.size w w4 := by repeat (first | exact hB3 | refine Below.drew ?_ | refine below_drewN ?_ _ | refine Below.setCell ?_ (by first | omega | (simp; omega) | simp) _ | refine Below.alloc ?_ (by first | omega | (simp; omega) | simp) _ | refine chainB (by assumption) ?_)
    have hs4 : w.heap.size ≤ w4.heap.size := hB4.size
    clear hc hf hb k3_00 k3_01 k3_02 k3_03 z3_0 hB3 hs3
    go_wp2_with fail
    refine (v4 _).mono ?_
    rintro e w5 ⟨rfl, hb⟩
    obtain ⟨hc, hf⟩ := bcell hb
    have k5_00 : w5.cell? ⟨w.heap.size, 0, none⟩ = some (.int .i64 a) := by rw [hc _ _ (by first | omega | (simp; omega) | simp)]; simp [go_sem, *]
    have k5_01 : w5.cell? ⟨w.heap.size, 1, none⟩ = some (.int .i64 b) := by rw [hc _ _ (by first | omega | (simp; omega) | simp)]; simp [go_sem, *]
    have k5_02 : w5.cell? ⟨w.heap.size, 2, none⟩ = some (.int .i64 c) := by rw [hc _ _ (by first | omega | (simp; omega) | simp)]; simp [go_sem, *]
    have k5_03 : w5.cell? ⟨w.heap.size, 3, none⟩ = some (.int .i64 d) := by rw [hc _ _ (by first | omega | (simp; omega) | simp)]; simp [go_sem, *]
    have z5_0 : w.heap.size < w5.heap.size := by have := hb.size; (try simp at this); omega
    have hB5 : Below w.heap.size w w5 := by repeat (first | exact hB4 | refine Below.drew ?_ | refine below_drewN ?_ _ | refine Below.setCell ?_ (by first | omega | (simp; omega) | simp) _ | refine Below.alloc ?_ (by first | omega | (simp; omega) | simp) _ | refine chainB (by assumption) ?_)
    have hs5 : w.heap.size ≤ w5.heap.size := hB5.size
    clear hc hf hb k4_00 k4_01 k4_02 k4_03 z4_0 hB4 hs4
    go_wp2_with fail
    go_ret
    exact ⟨rfl, by repeat (first | exact hB5 | refine Below.drew ?_ | refine below_drewN ?_ _ | refine Below.setCell ?_ (by first | omega | (simp; omega) | simp) _ | refine Below.alloc ?_ (by first | omega | (simp; omega) | simp) _ | refine chainB (by assumption) ?_)⟩
  by_cases h5 : -268435456 ≤ d ∧ d ≤ 268435456
  rotate_left
  · rw [show vX a b c d = false by unfold vX; rw [decide_eq_false h5]; simp]
    have v0 := fun w => valid_yes a b h0 w
    have v1 := fun w => valid_yes c d h1 w
    have v2 := fun w => within_yes a (-268435456) 268435456 h2.1 h2.2 w
    have v3 := fun w => within_yes b (-268435456) 268435456 h3.1 h3.2 w
    have v4 := fun w => within_yes c (-268435456) 268435456 h4.1 h4.2 w
    have v5 := fun w => within_no d (-268435456) 268435456 h5 w
    clear h0 h1 h2 h3 h4 h5
    go_enter Try.func72, Try.ntmps72
    go_wp2_with fail
    refine (v0 _).mono ?_
    rintro e w1 ⟨rfl, hb⟩
    obtain ⟨hc, hf⟩ := bcell hb
    have k1_00 : w1.cell? ⟨w.heap.size, 0, none⟩ = some (.int .i64 a) := by rw [hc _ _ (by first | omega | (simp; omega) | simp)]; simp [go_sem, *]
    have k1_01 : w1.cell? ⟨w.heap.size, 1, none⟩ = some (.int .i64 b) := by rw [hc _ _ (by first | omega | (simp; omega) | simp)]; simp [go_sem, *]
    have k1_02 : w1.cell? ⟨w.heap.size, 2, none⟩ = some (.int .i64 c) := by rw [hc _ _ (by first | omega | (simp; omega) | simp)]; simp [go_sem, *]
    have k1_03 : w1.cell? ⟨w.heap.size, 3, none⟩ = some (.int .i64 d) := by rw [hc _ _ (by first | omega | (simp; omega) | simp)]; simp [go_sem, *]
    have z1_0 : w.heap.size < w1.heap.size := by have := hb.size; (try simp at this); omega
    have hB1 : Below w.heap.size w w1 := by repeat (first | exact (Below.refl _ _) | refine Below.drew ?_ | refine below_drewN ?_ _ | refine Below.setCell ?_ (by first | omega | (simp; omega) | simp) _ | refine Below.alloc ?_ (by first | omega | (simp; omega) | simp) _ | refine chainB (by assumption) ?_)
    have hs1 : w.heap.size ≤ w1.heap.size := hB1.size
    clear hc hf hb 
    go_wp2_with fail
    refine (v1 _).mono ?_
    rintro e w2 ⟨rfl, hb⟩
    obtain ⟨hc, hf⟩ := bcell hb
    have k2_00 : w2.cell? ⟨w.heap.size, 0, none⟩ = some (.int .i64 a) := by rw [hc _ _ (by first | omega | (simp; omega) | simp)]; simp [go_sem, *]
    have k2_01 : w2.cell? ⟨w.heap.size, 1, none⟩ = some (.int .i64 b) := by rw [hc _ _ (by first | omega | (simp; omega) | simp)]; simp [go_sem, *]
    have k2_02 : w2.cell? ⟨w.heap.size, 2, none⟩ = some (.int .i64 c) := by rw [hc _ _ (by first | omega | (simp; omega) | simp)]; simp [go_sem, *]
    have k2_03 : w2.cell? ⟨w.heap.size, 3, none⟩ = some (.int .i64 d) := by rw [hc _ _ (by first | omega | (simp; omega) | simp)]; simp [go_sem, *]
    have z2_0 : w.heap.size < w2.heap.size := by have := hb.size; (try simp at this); omega
    have hB2 : Below w.heap.size w w2 := by repeat (first | exact hB1 | refine Below.drew ?_ | refine below_drewN ?_ _ | refine Below.setCell ?_ (by first | omega | (simp; omega) | simp) _ | refine Below.alloc ?_ (by first | omega | (simp; omega) | simp) _ | refine chainB (by assumption) ?_)
    have hs2 : w.heap.size ≤ w2.heap.size := hB2.size
    clear hc hf hb k1_00 k1_01 k1_02 k1_03 z1_0 hB1 hs1
    go_wp2_with fail
    refine (v2 _).mono ?_
    rintro e w3 ⟨rfl, hb⟩
    obtain ⟨hc, hf⟩ := bcell hb
    have k3_00 : w3.cell? ⟨w.heap.size, 0, none⟩ = some (.int .i64 a) := by rw [hc _ _ (by first | omega | (simp; omega) | simp)]; simp [go_sem, *]
    have k3_01 : w3.cell? ⟨w.heap.size, 1, none⟩ = some (.int .i64 b) := by rw [hc _ _ (by first | omega | (simp; omega) | simp)]; simp [go_sem, *]
    have k3_02 : w3.cell? ⟨w.heap.size, 2, none⟩ = some (.int .i64 c) := by rw [hc _ _ (by first | omega | (simp; omega) | simp)]; simp [go_sem, *]
    have k3_03 : w3.cell? ⟨w.heap.size, 3, none⟩ = some (.int .i64 d) := by rw [hc _ _ (by first | omega | (simp; omega) | simp)]; simp [go_sem, *]
    have z3_0 : w.heap.size < w3.heap.size := by have := hb.size; (try simp at this); omega
    have hB3 : Below w.heap.size w w3 := by repeat (first | exact hB2 | refine Below.drew ?_ | refine below_drewN ?_ _ | refine Below.setCell ?_ (by first | omega | (simp; omega) | simp) _ | refine Below.alloc ?_ (by first | omega | (simp; omega) | simp) _ | refine chainB (by assumption) ?_)
    have hs3 : w.heap.size ≤ w3.heap.size := hB3.size
    clear hc hf hb k2_00 k2_01 k2_02 k2_03 z2_0 hB2 hs2
    go_wp2_with fail
    refine (v3 _).mono ?_
    rintro e w4 ⟨rfl, hb⟩
    obtain ⟨hc, hf⟩ := bcell hb
    have k4_00 : w4.cell? ⟨w.heap.size, 0, none⟩ = some (.int .i64 a) := by rw [hc _ _ (by first | omega | (simp; omega) | simp)]; simp [go_sem, *]
    have k4_01 : w4.cell? ⟨w.heap.size, 1, none⟩ = some (.int .i64 b) := by rw [hc _ _ (by first | omega | (simp; omega) | simp)]; simp [go_sem, *]
    have k4_02 : w4.cell? ⟨w.heap.size, 2, none⟩ = some (.int .i64 c) := by rw [hc _ _ (by first | omega | (simp; omega) | simp)]; simp [go_sem, *]
    have k4_03 : w4.cell? ⟨w.heap.size, 3, none⟩ = some (.int .i64 d) := by rw [hc _ _ (by first | omega | (simp; omega) | simp)]; simp [go_sem, *]
    have z4_0 : w.heap.size < w4.heap.size := by have := hb.size; (try simp at this); omega
    have hB4 : Below w.heap.size w w4 := by repeat (first | exact hB3 | refine Below.drew ?_ | refine below_drewN ?_ _ | refine Below.setCell ?_ (by first | omega | (simp; omega) | simp) _ | refine Below.alloc ?_ (by first | omega | (simp; omega) | simp) _ | refine chainB (by assumption) ?_)
    have hs4 : w.heap.size ≤ w4.heap.size := hB4.size
    clear hc hf hb k3_00 k3_01 k3_02 k3_03 z3_0 hB3 hs3
    go_wp2_with fail
    refine (v4 _).mono ?_
    rintro e w5 ⟨rfl, hb⟩
    obtain ⟨hc, hf⟩ := bcell hb
    have k5_00 : w5.cell? ⟨w.heap.size, 0, none⟩ = some (.int .i64 a) := by rw [hc _ _ (by first | omega | (simp; omega) | simp)]; simp [go_sem, *]
    have k5_01 : w5.cell? ⟨w.heap.size, 1, none⟩ = some (.int .i64 b) := by rw [hc _ _ (by first | omega | (simp; omega) | simp)]; simp [go_sem, *]
    have k5_02 : w5.cell? ⟨w.heap.size, 2, none⟩ = some (.int .i64 c) := by rw [hc _ _ (by first | omega | (simp; omega) | simp)]; simp [go_sem, *]
    have k5_03 : w5.cell? ⟨w.heap.size, 3, none⟩ = some (.int .i64 d) := by rw [hc _ _ (by first | omega | (simp; omega) | simp)]; simp [go_sem, *]
    have z5_0 : w.heap.size < w5.heap.size := by have := hb.size; (try simp at this); omega
    have hB5 : Below w.heap.size w w5 := by repeat (first | exact hB4 | refine Below.drew ?_ | refine below_drewN ?_ _ | refine Below.setCell ?_ (by first | omega | (simp; omega) | simp) _ | refine Below.alloc ?_ (by first | omega | (simp; omega) | simp) _ | refine chainB (by assumption) ?_)
    have hs5 : w.heap.size ≤ w5.heap.size := hB5.size
    clear hc hf hb k4_00 k4_01 k4_02 k4_03 z4_0 hB4 hs4
    go_wp2_with fail
    refine (v5 _).mono ?_
    rintro e w6 ⟨rfl, hb⟩
    obtain ⟨hc, hf⟩ := bcell hb
    have k6_00 : w6.cell? ⟨w.heap.size, 0, none⟩ = some (.int .i64 a) := by rw [hc _ _ (by first | omega | (simp; omega) | simp)]; simp [go_sem, *]
    have k6_01 : w6.cell? ⟨w.heap.size, 1, none⟩ = some (.int .i64 b) := by rw [hc _ _ (by first | omega | (simp; omega) | simp)]; simp [go_sem, *]
    have k6_02 : w6.cell? ⟨w.heap.size, 2, none⟩ = some (.int .i64 c) := by rw [hc _ _ (by first | omega | (simp; omega) | simp)]; simp [go_sem, *]
    have k6_03 : w6.cell? ⟨w.heap.size, 3, none⟩ = some (.int .i64 d) := by rw [hc _ _ (by first | omega | (simp; omega) | simp)]; simp [go_sem, *]
    have z6_0 : w.heap.size < w6.heap.size := by have := hb.size; (try simp at this); omega
    have hB6 : Below w.heap.size w w6 := by repeat (first | exact hB5 | refine Below.drew ?_ | refine below_drewN ?_ _ | refine Below.setCell ?_ (by first | omega | (simp; omega) | simp) _ | refine Below.alloc ?_ (by first | omega | (simp; omega) | simp) _ | refine chainB (by assumption) ?_)
    have hs6 : w.heap.size ≤ w6.heap.size := hB6.size
    clear hc hf hb k5_00 k5_01 k5_02 k5_03 z5_0 hB5 hs5
    go_wp2_with fail
    go_ret
    exact ⟨rfl, by repeat (first | exact hB6 | refine Below.drew ?_ | refine below_drewN ?_ _ | refine Below.setCell ?_ (by first | omega | (simp; omega) | simp) _ | refine Below.alloc ?_ (by first | omega | (simp; omega) | simp) _ | refine chainB (by assumption) ?_)⟩
  rw [show vX a b c d = true by unfold vX; simp [h0, h1]; exact ⟨h2, h3, h4, h5⟩]
  have v0 := fun w => valid_yes a b h0 w
  have v1 := fun w => valid_yes c d h1 w
  have v2 := fun w => within_yes a (-268435456) 268435456 h2.1 h2.2 w
  have v3 := fun w => within_yes b (-268435456) 268435456 h3.1 h3.2 w
  have v4 := fun w => within_yes c (-268435456) 268435456 h4.1 h4.2 w
  have v5 := fun w => within_yes d (-268435456) 268435456 h5.1 h5.2 w
  clear h0 h1 h2 h3 h4 h5
  go_enter Try.func72, Try.ntmps72
  go_wp2_with fail
  refine (v0 _).mono ?_
  rintro e w1 ⟨rfl, hb⟩
  obtain ⟨hc, hf⟩ := bcell hb
  have k1_00 : w1.cell? ⟨w.heap.size, 0, none⟩ = some (.int .i64 a) := by rw [hc _ _ (by first | omega | (simp; omega) | simp)]; simp [go_sem, *]
  have k1_01 : w1.cell? ⟨w.heap.size, 1, none⟩ = some (.int .i64 b) := by rw [hc _ _ (by first | omega | (simp; omega) | simp)]; simp [go_sem, *]
  have k1_02 : w1.cell? ⟨w.heap.size, 2, none⟩ = some (.int .i64 c) := by rw [hc _ _ (by first | omega | (simp; omega) | simp)]; simp [go_sem, *]
  have k1_03 : w1.cell? ⟨w.heap.size, 3, none⟩ = some (.int .i64 d) := by rw [hc _ _ (by first | omega | (simp; omega) | simp)]; simp [go_sem, *]
  have z1_0 : w.heap.size < w1.heap.size := by have := hb.size; (try simp at this); omega
  have hB1 : Below w.heap.size w w1 := by repeat (first | exact (Below.refl _ _) | refine Below.drew ?_ | refine below_drewN ?_ _ | refine Below.setCell ?_ (by first | omega | (simp; omega) | simp) _ | refine Below.alloc ?_ (by first | omega | (simp; omega) | simp) _ | refine chainB (by assumption) ?_)
  have hs1 : w.heap.size ≤ w1.heap.size := hB1.size
  clear hc hf hb 
  go_wp2_with fail
  refine (v1 _).mono ?_
  rintro e w2 ⟨rfl, hb⟩
  obtain ⟨hc, hf⟩ := bcell hb
  have k2_00 : w2.cell? ⟨w.heap.size, 0, none⟩ = some (.int .i64 a) := by rw [hc _ _ (by first | omega | (simp; omega) | simp)]; simp [go_sem, *]
  have k2_01 : w2.cell? ⟨w.heap.size, 1, none⟩ = some (.int .i64 b) := by rw [hc _ _ (by first | omega | (simp; omega) | simp)]; simp [go_sem, *]
  have k2_02 : w2.cell? ⟨w.heap.size, 2, none⟩ = some (.int .i64 c) := by rw [hc _ _ (by first | omega | (simp; omega) | simp)]; simp [go_sem, *]
  have k2_03 : w2.cell? ⟨w.heap.size, 3, none⟩ = some (.int .i64 d) := by rw [hc _ _ (by first | omega | (simp; omega) | simp)]; simp [go_sem, *]
  have z2_0 : w.heap.size < w2.heap.size := by have := hb.size; (try simp at this); omega
  have hB2 : Below w.heap.size w w2 := by repeat (first | exact hB1 | refine Below.drew ?_ | refine below_drewN ?_ _ | refine Below.setCell ?_ (by first | omega | (simp; omega) | simp) _ | refine Below.alloc ?_ (by first | omega | (simp; omega) | simp) _ | refine chainB (by assumption) ?_)
  have hs2 : w.heap.size ≤ w2.heap.size := hB2.size
  clear hc hf hb k1_00 k1_01 k1_02 k1_03 z1_0 hB1 hs1
  go_wp2_with fail
  refine (v2 _).mono ?_
  rintro e w3 ⟨rfl, hb⟩
  obtain ⟨hc, hf⟩ := bcell hb
  have k3_00 : w3.cell? ⟨w.heap.size, 0, none⟩ = some (.int .i64 a) := by rw [hc _ _ (by first | omega | (simp; omega) | simp)]; simp [go_sem, *]
  have k3_01 : w3.cell? ⟨w.heap.size, 1, none⟩ = some (.int .i64 b) := by rw [hc _ _ (by first | omega | (simp; omega) | simp)]; simp [go_sem, *]
  have k3_02 : w3.cell? ⟨w.heap.size, 2, none⟩ = some (.int .i64 c) := by rw [hc _ _ (by first | omega | (simp; omega) | simp)]; simp [go_sem, *]
  have k3_03 : w3.cell? ⟨w.heap.size, 3, none⟩ = some (.int .i64 d) := by rw [hc _ _ (by first | omega | (simp; omega) | simp)]; simp [go_sem, *]
  have z3_0 : w.heap.size < w3.heap.size := by have := hb.size; (try simp at this); omega
  have hB3 : Below w.heap.size w w3 := by repeat (first | exact hB2 | refine Below.drew ?_ | refine below_drewN ?_ _ | refine Below.setCell ?_ (by first | omega | (simp; omega) | simp) _ | refine Below.alloc ?_ (by first | omega | (simp; omega) | simp) _ | refine chainB (by assumption) ?_)
  have hs3 : w.heap.size ≤ w3.heap.size := hB3.size
  clear hc hf hb k2_00 k2_01 k2_02 k2_03 z2_0 hB2 hs2
  go_wp2_with fail
  refine (v3 _).mono ?_
  rintro e w4 ⟨rfl, hb⟩
  obtain ⟨hc, hf⟩ := bcell hb
  have k4_00 : w4.cell? ⟨w.heap.size, 0, none⟩ = some (.int .i64 a) := by rw [hc _ _ (by first | omega | (simp; omega) | simp)]; simp [go_sem, *]
  have k4_01 : w4.cell? ⟨w.heap.size, 1, none⟩ = some (.int .i64 b) := by rw [hc _ _ (by first | omega | (simp; omega) | simp)]; simp [go_sem, *]
  have k4_02 : w4.cell? ⟨w.heap.size, 2, none⟩ = some (.int .i64 c) := by rw [hc _ _ (by first | omega | (simp; omega) | simp)]; simp [go_sem, *]
  have k4_03 : w4.cell? ⟨w.heap.size, 3, none⟩ = some (.int .i64 d) := by rw [hc _ _ (by first | omega | (simp; omega) | simp)]; simp [go_sem, *]
  have z4_0 : w.heap.size < w4.heap.size := by have := hb.size; (try simp at this); omega
  have hB4 : Below w.heap.size w w4 := by repeat (first | exact hB3 | refine Below.drew ?_ | refine below_drewN ?_ _ | refine Below.setCell ?_ (by first | omega | (simp; omega) | simp) _ | refine Below.alloc ?_ (by first | omega | (simp; omega) | simp) _ | refine chainB (by assumption) ?_)
  have hs4 : w.heap.size ≤ w4.heap.size := hB4.size
  clear hc hf hb k3_00 k3_01 k3_02 k3_03 z3_0 hB3 hs3
  go_wp2_with fail
  refine (v4 _).mono ?_
  rintro e w5 ⟨rfl, hb⟩
  obtain ⟨hc, hf⟩ := bcell hb
  have k5_00 : w5.cell? ⟨w.heap.size, 0, none⟩ = some (.int .i64 a) := by rw [hc _ _ (by first | omega | (simp; omega) | simp)]; simp [go_sem, *]
  have k5_01 : w5.cell? ⟨w.heap.size, 1, none⟩ = some (.int .i64 b) := by rw [hc _ _ (by first | omega | (simp; omega) | simp)]; simp [go_sem, *]
  have k5_02 : w5.cell? ⟨w.heap.size, 2, none⟩ = some (.int .i64 c) := by rw [hc _ _ (by first | omega | (simp; omega) | simp)]; simp [go_sem, *]
  have k5_03 : w5.cell? ⟨w.heap.size, 3, none⟩ = some (.int .i64 d) := by rw [hc _ _ (by first | omega | (simp; omega) | simp)]; simp [go_sem, *]
  have z5_0 : w.heap.size < w5.heap.size := by have := hb.size; (try simp at this); omega
  have hB5 : Below w.heap.size w w5 := by repeat (first | exact hB4 | refine Below.drew ?_ | refine below_drewN ?_ _ | refine Below.setCell ?_ (by first | omega | (simp; omega) | simp) _ | refine Below.alloc ?_ (by first | omega | (simp; omega) | simp) _ | refine chainB (by assumption) ?_)
  have hs5 : w.heap.size ≤ w5.heap.size := hB5.size
  clear hc hf hb k4_00 k4_01 k4_02 k4_03 z4_0 hB4 hs4
  go_wp2_with fail
  refine (v5 _).mono ?_
  rintro e w6 ⟨rfl, hb⟩
  obtain ⟨hc, hf⟩ := bcell hb
  have k6_00 : w6.cell? ⟨w.heap.size, 0, none⟩ = some (.int .i64 a) := by rw [hc _ _ (by first | omega | (simp; omega) | simp)]; simp [go_sem, *]
  have k6_01 : w6.cell? ⟨w.heap.size, 1, none⟩ = some (.int .i64 b) := by rw [hc _ _ (by first | omega | (simp; omega) | simp)]; simp [go_sem, *]
  have k6_02 : w6.cell? ⟨w.heap.size, 2, none⟩ = some (.int .i64 c) := by rw [hc _ _ (by first | omega | (simp; omega) | simp)]; simp [go_sem, *]
  have k6_03 : w6.cell? ⟨w.heap.size, 3, none⟩ = some (.int .i64 d) := by rw [hc _ _ (by first | omega | (simp; omega) | simp)]; simp [go_sem, *]
  have z6_0 : w.heap.size < w6.heap.size := by have := hb.size; (try simp at this); omega
  have hB6 : Below w.heap.size w w6 := by repeat (first | exact hB5 | refine Below.drew ?_ | refine below_drewN ?_ _ | refine Below.setCell ?_ (by first | omega | (simp; omega) | simp) _ | refine Below.alloc ?_ (by first | omega | (simp; omega) | simp) _ | refine chainB (by assumption) ?_)
  have hs6 : w.heap.size ≤ w6.heap.size := hB6.size
  clear hc hf hb k5_00 k5_01 k5_02 k5_03 z5_0 hB5 hs5
  go_wp2_with fail
  go_ret
  exact ⟨rfl, by repeat (first | exact hB6 | refine Below.drew ?_ | refine below_drewN ?_ _ | refine Below.setCell ?_ (by first | omega | (simp; omega) | simp) _ | refine Below.alloc ?_ (by first | omega | (simp; omega) | simp) _ | refine chainB (by assumption) ?_)⟩

def chkX (a b c d : Int) : Int := if vX a b c d = true then 0 else 2
set_option maxHeartbeats 1000000 in
theorem rcheckBox_any (a b c d : Int) (w : World) :
    Calls Try.prog 61 #[.agg #[.int .i64 a, .int .i64 b, .int .i64 c, .int .i64 d]] w fun e w' => e = .returned (.int .i64 (chkX a b c d)) ∧ Below w.heap.size w w' := by
  have c1 := fun w => validBox_any a b c d w
  by_cases h : vX a b c d = true
  · rw [show chkX a b c d = 0 from if_pos h]
    rw [h] at c1
    clear h
    go_enter Try.func61, Try.ntmps61
    go_wp2_with fail
    refine (c1 _).mono ?_
    rintro e w1 ⟨rfl, hb⟩
    obtain ⟨hc, hf⟩ := bcell hb
    have hB1 : Below w.heap.size w w1 := by repeat (first | exact (Below.refl _ _) | refine Below.drew ?_ | refine below_drewN ?_ _ | refine Below.setCell ?_ (by first | omega | (simp; omega) | simp) _ | refine Below.alloc ?_ (by first | omega | (simp; omega) | simp) _ | refine chainB (by assumption) ?_)
    have hs1 : w.heap.size ≤ w1.heap.size := hB1.size
    clear hc hf hb 
    go_wp2_with fail
    go_ret
    exact ⟨rfl, by repeat (first | exact hB1 | refine Below.drew ?_ | refine below_drewN ?_ _ | refine Below.setCell ?_ (by first | omega | (simp; omega) | simp) _ | refine Below.alloc ?_ (by first | omega | (simp; omega) | simp) _ | refine chainB (by assumption) ?_)⟩
  · rw [show chkX a b c d = 2 from if_neg h]
    rw [show vX a b c d = false by simpa using h] at c1
    clear h
    go_enter Try.func61, Try.ntmps61
    go_wp2_with fail
    refine (c1 _).mono ?_
    rintro e w1 ⟨rfl, hb⟩
    obtain ⟨hc, hf⟩ := bcell hb
    have hB1 : Below w.heap.size w w1 := by repeat (first | exact (Below.refl _ _) | refine Below.drew ?_ | refine below_drewN ?_ _ | refine Below.setCell ?_ (by first | omega | (simp; omega) | simp) _ | refine Below.alloc ?_ (by first | omega | (simp; omega) | simp) _ | refine chainB (by assumption) ?_)
    have hs1 : w.heap.size ≤ w1.heap.size := hB1.size
    clear hc hf hb 
    go_wp2_with fail
    go_ret
    exact ⟨rfl, by repeat (first | exact hB1 | refine Below.drew ?_ | refine below_drewN ?_ _ | refine Below.setCell ?_ (by first | omega | (simp; omega) | simp) _ | refine Below.alloc ?_ (by first | omega | (simp; omega) | simp) _ | refine chainB (by assumption) ?_)⟩

theorem idx0 (a b c d : Int) (w : World) : (Instr.index 108 (.agg #[.int .i64 a, .int .i64 b, .int .i64 c, .int .i64 d]) (.int .i64 0)).run Try.prog w = .ok (.agg #[.int .i64 a, .int .i64 b]) w := by
  simp [Instr.index, go_sem]
theorem idx1 (a b c d : Int) (w : World) : (Instr.index 108 (.agg #[.int .i64 a, .int .i64 b, .int .i64 c, .int .i64 d]) (.int .i64 1)).run Try.prog w = .ok (.agg #[.int .i64 c, .int .i64 d]) w := by
  simp [Instr.index, go_sem]
def gX (a b : Int) : Prop := vB a b = true ∧ -268435456 ≤ a ∧ b ≤ 268435456
theorem vX_iff (a b c d : Int) : vX a b c d = true ↔ gX a b ∧ gX c d := by
  unfold vX gX
  simp only [Bool.and_eq_true, decide_eq_true_eq]
  constructor
  · rintro ⟨h1, h2, h3, h4, h5, h6⟩; exact ⟨⟨h1, h3.1, h4.2⟩, h2, h5.1, h6.2⟩
  · rintro ⟨⟨h1, h2, h3⟩, h4, h5, h6⟩
    obtain ⟨k1, _, _⟩ := (vB_iff a b).1 h1
    obtain ⟨k2, _, _⟩ := (vB_iff c d).1 h4
    exact ⟨h1, h4, by omega, by omega, by omega, by omega⟩
theorem chkX_bad {a b c d : Int} (h : ¬ (gX a b ∧ gX c d)) : chkX a b c d = 2 := if_neg fun k => h ((vX_iff a b c d).1 k)
theorem chkX_ok {a b c d : Int} (h : gX a b) (k : gX c d) : chkX a b c d = 0 := if_pos ((vX_iff a b c d).2 ⟨h, k⟩)
theorem gX_cases (a b : Int) : (chk a b = 0 ∧ -268435456 ≤ a ∧ b ≤ 268435456 ∧ gX a b) ∨ (¬ gX a b ∧ chk a b = 2) ∨ (¬ gX a b ∧ chk a b = 0 ∧ a < -268435456) ∨ (¬ gX a b ∧ chk a b = 0 ∧ -268435456 ≤ a ∧ 268435456 < b) := by
  by_cases h : vB a b = true
  · have e := chk_ok h
    by_cases h1 : -268435456 ≤ a
    · by_cases h2 : b ≤ 268435456
      · exact .inl ⟨e, h1, h2, h, h1, h2⟩
      · exact .inr (.inr (.inr ⟨fun k => h2 k.2.2, e, h1, by omega⟩))
    · exact .inr (.inr (.inl ⟨fun k => h1 k.2.1, e, by omega⟩))
  · exact .inr (.inl ⟨fun k => h k.1, chk_bad h⟩)
set_option maxRecDepth 100000 in
set_option maxHeartbeats 4000000 in
theorem checkBox_any (a b c d : Int) (w : World) :
    Calls Try.prog 60 #[.agg #[.int .i64 a, .int .i64 b, .int .i64 c, .int .i64 d]] w fun e w' => e = .returned (.int .i64 (chkX a b c d)) ∧ Below w.heap.size w w' := by
  have A0 := Lib.hid (fun h => chkX_bad (a := a) (b := b) (c := c) (d := d) h)
  have A1 := Lib.hid (fun h k => chkX_ok (a := a) (b := b) (c := c) (d := d) h k)
  generalize chkX a b c d = r at A0 A1 ⊢
  have c1 := fun w => check_any a b w
  have c2 := fun w => check_any c d w
  have s1 := gX_cases a b
  have s2 := gX_cases c d
  generalize chk a b = q1 at c1 s1
  generalize chk c d = q2 at c2 s2
  have S1 := Lib.hid s1
  have S2 := Lib.hid s2
  clear s1 s2
  have i0 := idx0 a b c d
  have i1 := idx1 a b c d
  go_enter Try.func60, Try.ntmps60
  go_wp2_with fail
  go_loopw [10] (fun i wr => ∃ k : Nat, k ≤ 2 ∧ i = .int .i64 k ∧ (1 ≤ k → gX a b) ∧ (2 ≤ k → gX c d) ∧ w.heap.size ≤ wr.heap.size ∧ Below w.heap.size w wr) (fun i _ => 2 - (intOf i).toNat)
  case atStart => exact ⟨0, by omega, rfl, fun h => absurd h (by decide), fun h => absurd h (by decide), by simp, (Below.refl _ _).alloc (Nat.le_refl _) _⟩
  case round =>
    obtain ⟨k, hk, rfl, G1, G2, hz, hB0⟩ := hrel
    have H1 := Lib.hid G1
    have H2 := Lib.hid G2
    clear G1 G2
    match k, hk with
    | 0, _ =>
      rcases S1.out with ⟨rfl, k1, k2, k3⟩ | ⟨k3, rfl⟩ | ⟨k3, rfl, k1⟩ | ⟨k3, rfl, k1, k2⟩
      · have K := Lib.hid k3
        clear k3
        go_wp2_with (go_at_call 20; refine (c1 _).mono ?_; rintro e w' ⟨rfl, hb⟩; have hcc := (bcell hb).1)
        refine ⟨⟨1, by omega, rfl, fun _ => K.out, fun h => absurd h (by decide), by have := hb.size; simp at this; omega, chainB hb (hB0.alloc hz _)⟩, by simp [intOf]⟩
      all_goals
        have K := Lib.hid k3
        clear k3
        go_wp2_with (go_at_call 20; refine (c1 _).mono ?_; rintro e w' ⟨rfl, hb⟩; have hcc := (bcell hb).1)
        go_ret
        exact ⟨ret_int (A0.out (fun h => K.out h.1)).symm, chainB hb (hB0.alloc hz _)⟩
    | 1, _ =>
      rcases S2.out with ⟨rfl, k1, k2, k3⟩ | ⟨k3, rfl⟩ | ⟨k3, rfl, k1⟩ | ⟨k3, rfl, k1, k2⟩
      · have K := Lib.hid k3
        clear k3
        go_wp2_with (go_at_call 20; refine (c2 _).mono ?_; rintro e w' ⟨rfl, hb⟩; have hcc := (bcell hb).1)
        refine ⟨⟨2, by omega, rfl, fun _ => H1.out (by decide), fun _ => K.out, by have := hb.size; simp at this; omega, chainB hb (hB0.alloc hz _)⟩, by simp [intOf]⟩
      all_goals
        have K := Lib.hid k3
        clear k3
        go_wp2_with (go_at_call 20; refine (c2 _).mono ?_; rintro e w' ⟨rfl, hb⟩; have hcc := (bcell hb).1)
        go_ret
        exact ⟨ret_int (A0.out (fun h => K.out h.2)).symm, chainB hb (hB0.alloc hz _)⟩
    | 2, _ =>
      go_wp2_with fail
      go_ret
      exact ⟨ret_int (A1.out (H1.out (by decide)) (H2.out (by decide))).symm, hB0⟩
end Go.Proofs.Ytamelpfhbnkggaa

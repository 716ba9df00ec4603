/-
  The walk of BoundSpans.
-/
import Derived.Test.YtamelpfhbnkggaaOperate
namespace Go.Proofs.Ytamelpfhbnkggaa
open Go.RowKit Go.Shelf
theorem operate_any (k : Nat) (hk : k < 6) (a b c d : Int) (w : World) :
    Calls Try.prog 18 #[.int .i64 k, .agg #[.int .i64 a, .int .i64 b], .agg #[.int .i64 c, .int .i64 d], .int .i64 1, .int .i64 1, .int .i64 0, .int .i64 1, .int .i64 0] w fun e w' => e = .returned (.tuple #[.agg #[.int .i64 (opS k a b c d 1 1 0 1 0).lo, .int .i64 (opS k a b c d 1 1 0 1 0).hi], .int .i64 (opS k a b c d 1 1 0 1 0).e]) ∧ Below w.heap.size w w' := by
  match k, hk with
  | 0, _ => exact operate0 a b c d 1 1 0 1 0 w
  | 1, _ => exact operate1 a b c d 1 1 0 1 0 w
  | 2, _ => exact operate2 a b c d 1 1 0 1 0 w
  | 3, _ => exact operate3 a b c d 1 1 0 1 0 w
  | 4, _ => exact operate4 a b c d 1 1 0 1 0 w
  | 5, _ => exact operate5 a b c d 1 1 0 1 0 w
theorem refer_any (k : Nat) (hk : k < 6) (a b c d : Int) (w : World) :
    Calls Try.prog 19 #[.int .i64 k, .agg #[.int .i64 a, .int .i64 b], .agg #[.int .i64 c, .int .i64 d]] w fun e w' => e = .returned (.tuple #[.agg #[.int .i64 (opS k a b c d 1 1 0 1 0).lo, .int .i64 (opS k a b c d 1 1 0 1 0).hi], .int .i64 (opS k a b c d 1 1 0 1 0).e]) ∧ Below w.heap.size w w' := by
  match k, hk with
  | 0, _ => exact refer0 a b c d w
  | 1, _ => exact refer1 a b c d w
  | 2, _ => exact refer2 a b c d w
  | 3, _ => exact refer3 a b c d w
  | 4, _ => exact refer4 a b c d w
  | 5, _ => exact refer5 a b c d w

set_option maxRecDepth 100000 in
set_option maxHeartbeats 4000000 in
theorem law_spans (a b c d : Int) (w : World) :
    Calls Try.prog 3 #[.agg #[.int .i64 a, .int .i64 b], .agg #[.int .i64 c, .int .i64 d]] w fun e w' => e = .returned (.bool true) ∧ Below w.heap.size w w' := by
  have cW := fun w => works_any w
  have k1 := fun w => check_any a b w
  have k2 := fun w => rcheck_any a b w
  generalize chk a b = ck at k1 k2
  go_enter Try.func3, Try.ntmps3
  go_wp2_with fail
  go_loopw [5] (fun i wr => ∃ k : Nat, k ≤ 6 ∧ i = .int .i64 k ∧ wr.cell? ⟨w.heap.size, 0, none⟩ = some (.int .i64 a) ∧ wr.cell? ⟨w.heap.size, 1, none⟩ = some (.int .i64 b) ∧ wr.cell? ⟨w.heap.size + 1, 0, none⟩ = some (.int .i64 c) ∧ wr.cell? ⟨w.heap.size + 1, 1, none⟩ = some (.int .i64 d) ∧ w.heap.size + 2 ≤ wr.heap.size ∧ Below w.heap.size w wr) (fun i _ => 6 - (intOf i).toNat)
  case atStart => exact ⟨0, by omega, rfl, by simp [go_sem], by simp [go_sem], by simp [go_sem], by simp [go_sem], by simp, ((Below.refl _ _).alloc (Nat.le_refl _) _).alloc (by simp) _⟩
  case round =>
    obtain ⟨k, hk, rfl, q0, q1, q2, q3, hz, hB0⟩ := hrel
    by_cases hlt : k < 6
    · have o1 := fun w => operate_any k hlt a b c d w
      have o2 := fun w => refer_any k hlt a b c d w
      generalize opS k a b c d 1 1 0 1 0 = r at o1 o2
      clear k1 k2 cW
      have y0 : w.heap.size < wr.heap.size := by omega
      have y1 : w.heap.size + 1 < wr.heap.size := by omega
      go_wp2_with fail
      refine (o1 _).mono ?_
      rintro e w1 ⟨rfl, hb⟩
      obtain ⟨hc, hf⟩ := bcell hb
      have k1_0a : w1.cell? ⟨w.heap.size, 0, none⟩ = some (.int .i64 a) := by rw [hc _ _ (by first | omega | (simp; omega) | simp)]; simp [go_sem, *]
      have k1_0b : w1.cell? ⟨w.heap.size, 1, none⟩ = some (.int .i64 b) := by rw [hc _ _ (by first | omega | (simp; omega) | simp)]; simp [go_sem, *]
      have z1_0 : w.heap.size < w1.heap.size := by have := hb.size; (try simp at this); omega
      have k1_1a : w1.cell? ⟨(w.heap.size + 1), 0, none⟩ = some (.int .i64 c) := by rw [hc _ _ (by first | omega | (simp; omega) | simp)]; simp [go_sem, *]
      have k1_1b : w1.cell? ⟨(w.heap.size + 1), 1, none⟩ = some (.int .i64 d) := by rw [hc _ _ (by first | omega | (simp; omega) | simp)]; simp [go_sem, *]
      have z1_1 : (w.heap.size + 1) < w1.heap.size := by have := hb.size; (try simp at this); omega
      have hB1 : Below w.heap.size w w1 := by repeat (first | exact hB0 | refine Below.drew ?_ | refine below_drewN ?_ _ | refine Below.setCell ?_ (by first | omega | (simp; omega) | simp) _ | refine Below.alloc ?_ (by first | omega | (simp; omega) | simp) _ | refine chainB (by assumption) ?_)
      have hs1 : w.heap.size ≤ w1.heap.size := hB1.size
      clear hc hf hb q0 q1 q2 q3 y0 y1
      go_wp2_with fail
      refine (o2 _).mono ?_
      rintro e w2 ⟨rfl, hb⟩
      obtain ⟨hc, hf⟩ := bcell hb
      have dr1422 : ¬ w.heap.size = w1.heap.size := by omega
      have dr1422s : ¬ w1.heap.size = w.heap.size := by omega
      have dr1545 : ¬ (w.heap.size + 1) = w1.heap.size := by omega
      have dr1545s : ¬ w1.heap.size = (w.heap.size + 1) := by omega
      have dr1680l : w.heap.size ≤ w1.heap.size := by omega
      have k2_0a : w2.cell? ⟨w.heap.size, 0, none⟩ = some (.int .i64 a) := by rw [hc _ _ (by first | omega | (simp; omega) | simp)]; simp [go_sem, *]
      have k2_0b : w2.cell? ⟨w.heap.size, 1, none⟩ = some (.int .i64 b) := by rw [hc _ _ (by first | omega | (simp; omega) | simp)]; simp [go_sem, *]
      have z2_0 : w.heap.size < w2.heap.size := by have := hb.size; (try simp at this); omega
      have k2_1a : w2.cell? ⟨(w.heap.size + 1), 0, none⟩ = some (.int .i64 c) := by rw [hc _ _ (by first | omega | (simp; omega) | simp)]; simp [go_sem, *]
      have k2_1b : w2.cell? ⟨(w.heap.size + 1), 1, none⟩ = some (.int .i64 d) := by rw [hc _ _ (by first | omega | (simp; omega) | simp)]; simp [go_sem, *]
      have z2_1 : (w.heap.size + 1) < w2.heap.size := by have := hb.size; (try simp at this); omega
      have k2_2a : w2.cell? ⟨w1.heap.size, 0, none⟩ = some (.int .i64 r.lo) := by rw [hc _ _ (by first | omega | (simp; omega) | simp)]; simp [go_sem, *]
      have k2_2b : w2.cell? ⟨w1.heap.size, 1, none⟩ = some (.int .i64 r.hi) := by rw [hc _ _ (by first | omega | (simp; omega) | simp)]; simp [go_sem, *]
      have z2_2 : w1.heap.size < w2.heap.size := by have := hb.size; (try simp at this); omega
      have hB2 : Below w.heap.size w w2 := by repeat (first | exact hB1 | refine Below.drew ?_ | refine below_drewN ?_ _ | refine Below.setCell ?_ (by first | omega | (simp; omega) | simp) _ | refine Below.alloc ?_ (by first | omega | (simp; omega) | simp) _ | refine chainB (by assumption) ?_)
      have hs2 : w.heap.size ≤ w2.heap.size := hB2.size
      clear hc hf hb k1_0a k1_0b z1_0 k1_1a k1_1b z1_1 hB1 hs1
      have dr3363 : ¬ w.heap.size = w2.heap.size := by omega
      have dr3363s : ¬ w2.heap.size = w.heap.size := by omega
      have dr3486 : ¬ (w.heap.size + 1) = w2.heap.size := by omega
      have dr3486s : ¬ w2.heap.size = (w.heap.size + 1) := by omega
      have dr3621 : ¬ w1.heap.size = w2.heap.size := by omega
      have dr3621s : ¬ w2.heap.size = w1.heap.size := by omega
      have dr3746l : w.heap.size ≤ w2.heap.size := by omega
      go_wp2_with fail
      refine ⟨⟨k + 1, by omega, rfl, by simp [go_sem, *], by simp [go_sem, *], by simp [go_sem, *], by simp [go_sem, *], by simp; omega, by repeat (first | exact hB2 | refine Below.alloc ?_ (by first | omega | (simp; omega) | simp) _)⟩, by simp [intOf]; omega⟩
    · obtain rfl : k = 6 := by omega
      go_wp2_with fail
      go_region_held3 (fun w' => w'.cell? ⟨w.heap.size, 0, none⟩ = some (.int .i64 a) ∧ w'.cell? ⟨w.heap.size, 1, none⟩ = some (.int .i64 b) ∧ w'.cell? ⟨w.heap.size + 1, 0, none⟩ = some (.int .i64 c) ∧ w'.cell? ⟨w.heap.size + 1, 1, none⟩ = some (.int .i64 d)) (simp [go_sem, *])
        (first
          | (go_at_call 20; refine (k1 _).mono ?_; clear k1; rintro e w' ⟨rfl, hb⟩; have hcc := (fun b o (h : b < w.heap.size + 2) => hb.cell (p := ⟨b, o, none⟩) (Nat.lt_of_lt_of_le h (by assumption))); have hz1 : w.heap.size + 2 ≤ w'.heap.size := (Nat.le_trans (by assumption) hb.size))
          | (go_at_call 21; refine (k2 _).mono ?_; clear k2; rintro e w' ⟨rfl, hb⟩; have hcc := (fun b o (h : b < w.heap.size + 2) => hb.cell (p := ⟨b, o, none⟩) (Nat.lt_of_lt_of_le h (by assumption))); have hz1 : w.heap.size + 2 ≤ w'.heap.size := (Nat.le_trans (by assumption) hb.size))
          | (go_at_call 22; refine (cW _).mono ?_; clear cW; rintro e w' ⟨rfl, hb⟩; have hcc := (fun b o (h : b < w.heap.size + 2) => hb.cell (p := ⟨b, o, none⟩) (Nat.lt_of_lt_of_le h (by assumption))); have hz1 : w.heap.size + 2 ≤ w'.heap.size := (Nat.le_trans (by assumption) hb.size)))
      all_goals
        go_wp2
        go_ret
        exact ⟨rfl, by repeat (first | exact hB0 | refine Below.drew ?_ | refine chainB (by assumption) ?_)⟩
end Go.Proofs.Ytamelpfhbnkggaa

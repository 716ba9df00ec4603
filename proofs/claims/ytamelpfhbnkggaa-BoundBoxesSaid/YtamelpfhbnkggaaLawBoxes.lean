/-
  BoundBoxes: the arguments and the walk.
-/
import Derived.Test.YtamelpfhbnkggaaFrame
import Derived.Test.YtamelpfhbnkggaaDistance
import Derived.Test.YtamelpfhbnkggaaWorks
import Derived.Lib.Hide
namespace Go.Proofs.Ytamelpfhbnkggaa
open Go.RowKit Go.Shelf
set_option maxRecDepth 100000 in
set_option maxHeartbeats 8000000 in
theorem law_boxes (a b c d p q r s : Int) (w : World) :
    Calls Try.prog 7 #[.agg #[.int .i64 a, .int .i64 b, .int .i64 c, .int .i64 d], .agg #[.int .i64 p, .int .i64 q, .int .i64 r, .int .i64 s]] w fun e w' => e = .returned (.bool true) ∧ Below w.heap.size w w' := by
  have cW := fun w => works_any w
  have c1 := fun w => square_any a b c d p q r s w
  have d1 := fun w => rsquare_any a b c d p q r s w
  have c2 := fun w => distance_any a b c d p q r s w
  have d2 := fun w => rdistance_any a b c d p q r s w
  have c3 := fun w => checkBox_any a b c d w
  have d3 := fun w => rcheckBox_any a b c d w
  generalize squareS a b c d p q r s = x at c1 d1
  generalize distS a b c d p q r s = y at c2 d2
  generalize chkX a b c d = z at c3 d3
  go_enter Try.func7, Try.ntmps7
  go_wp2_with fail
  refine (c1 _).mono ?_
  rintro e w1 ⟨rfl, hb⟩
  obtain ⟨hc, hf⟩ := bcell hb
  have q1 : ¬ w.heap.size = (w.heap.size + 1) := by omega
  have q1s : ¬ (w.heap.size + 1) = w.heap.size := by omega
  have k1_00 : w1.cell? ⟨w.heap.size, 0, none⟩ = some (.int .i64 a) := by rw [hc _ _ (by first | omega | (simp; omega) | simp)]; simp [go_sem, *]
  have k1_01 : w1.cell? ⟨w.heap.size, 1, none⟩ = some (.int .i64 b) := by rw [hc _ _ (by first | omega | (simp; omega) | simp)]; simp [go_sem, *]
  have k1_02 : w1.cell? ⟨w.heap.size, 2, none⟩ = some (.int .i64 c) := by rw [hc _ _ (by first | omega | (simp; omega) | simp)]; simp [go_sem, *]
  have k1_03 : w1.cell? ⟨w.heap.size, 3, none⟩ = some (.int .i64 d) := by rw [hc _ _ (by first | omega | (simp; omega) | simp)]; simp [go_sem, *]
  have z1_0 : w.heap.size < w1.heap.size := by have := hb.size; (try simp at this); omega
  have k1_10 : w1.cell? ⟨(w.heap.size + 1), 0, none⟩ = some (.int .i64 p) := by rw [hc _ _ (by first | omega | (simp; omega) | simp)]; simp [go_sem, *]
  have k1_11 : w1.cell? ⟨(w.heap.size + 1), 1, none⟩ = some (.int .i64 q) := by rw [hc _ _ (by first | omega | (simp; omega) | simp)]; simp [go_sem, *]
  have k1_12 : w1.cell? ⟨(w.heap.size + 1), 2, none⟩ = some (.int .i64 r) := by rw [hc _ _ (by first | omega | (simp; omega) | simp)]; simp [go_sem, *]
  have k1_13 : w1.cell? ⟨(w.heap.size + 1), 3, none⟩ = some (.int .i64 s) := by rw [hc _ _ (by first | omega | (simp; omega) | simp)]; simp [go_sem, *]
  have z1_1 : (w.heap.size + 1) < w1.heap.size := by have := hb.size; (try simp at this); omega
  have hB1 : Below w.heap.size w w1 := by repeat (first | exact (Below.refl _ _) | refine Below.drew ?_ | refine below_drewN ?_ _ | refine Below.setCell ?_ (by first | omega | (simp; omega) | simp) _ | refine Below.alloc ?_ (by first | omega | (simp; omega) | simp) _ | refine chainB (by assumption) ?_)
  have hs1 : w.heap.size ≤ w1.heap.size := hB1.size
  clear hc hf hb 
  go_wp2_with fail
  refine (d1 _).mono ?_
  rintro e w2 ⟨rfl, hb⟩
  obtain ⟨hc, hf⟩ := bcell hb
  have k2_00 : w2.cell? ⟨w.heap.size, 0, none⟩ = some (.int .i64 a) := by rw [hc _ _ (by first | omega | (simp; omega) | simp)]; simp [go_sem, *]
  have k2_01 : w2.cell? ⟨w.heap.size, 1, none⟩ = some (.int .i64 b) := by rw [hc _ _ (by first | omega | (simp; omega) | simp)]; simp [go_sem, *]
  have k2_02 : w2.cell? ⟨w.heap.size, 2, none⟩ = some (.int .i64 c) := by rw [hc _ _ (by first | omega | (simp; omega) | simp)]; simp [go_sem, *]
  have k2_03 : w2.cell? ⟨w.heap.size, 3, none⟩ = some (.int .i64 d) := by rw [hc _ _ (by first | omega | (simp; omega) | simp)]; simp [go_sem, *]
  have z2_0 : w.heap.size < w2.heap.size := by have := hb.size; (try simp at this); omega
  have k2_10 : w2.cell? ⟨(w.heap.size + 1), 0, none⟩ = some (.int .i64 p) := by rw [hc _ _ (by first | omega | (simp; omega) | simp)]; simp [go_sem, *]
  have k2_11 : w2.cell? ⟨(w.heap.size + 1), 1, none⟩ = some (.int .i64 q) := by rw [hc _ _ (by first | omega | (simp; omega) | simp)]; simp [go_sem, *]
  have k2_12 : w2.cell? ⟨(w.heap.size + 1), 2, none⟩ = some (.int .i64 r) := by rw [hc _ _ (by first | omega | (simp; omega) | simp)]; simp [go_sem, *]
  have k2_13 : w2.cell? ⟨(w.heap.size + 1), 3, none⟩ = some (.int .i64 s) := by rw [hc _ _ (by first | omega | (simp; omega) | simp)]; simp [go_sem, *]
  have z2_1 : (w.heap.size + 1) < w2.heap.size := by have := hb.size; (try simp at this); omega
  have hB2 : Below w.heap.size w w2 := by repeat (first | exact hB1 | refine Below.drew ?_ | refine below_drewN ?_ _ | refine Below.setCell ?_ (by first | omega | (simp; omega) | simp) _ | refine Below.alloc ?_ (by first | omega | (simp; omega) | simp) _ | refine chainB (by assumption) ?_)
  have hs2 : w.heap.size ≤ w2.heap.size := hB2.size
  clear hc hf hb k1_00 k1_01 k1_02 k1_03 z1_0 k1_10 k1_11 k1_12 k1_13 z1_1 hB1 hs1
  go_wp2_with fail
  refine (c2 _).mono ?_
  rintro e w3 ⟨rfl, hb⟩
  obtain ⟨hc, hf⟩ := bcell hb
  have k3_00 : w3.cell? ⟨w.heap.size, 0, none⟩ = some (.int .i64 a) := by rw [hc _ _ (by first | omega | (simp; omega) | simp)]; simp [go_sem, *]
  have k3_01 : w3.cell? ⟨w.heap.size, 1, none⟩ = some (.int .i64 b) := by rw [hc _ _ (by first | omega | (simp; omega) | simp)]; simp [go_sem, *]
  have k3_02 : w3.cell? ⟨w.heap.size, 2, none⟩ = some (.int .i64 c) := by rw [hc _ _ (by first | omega | (simp; omega) | simp)]; simp [go_sem, *]
  have k3_03 : w3.cell? ⟨w.heap.size, 3, none⟩ = some (.int .i64 d) := by rw [hc _ _ (by first | omega | (simp; omega) | simp)]; simp [go_sem, *]
  have z3_0 : w.heap.size < w3.heap.size := by have := hb.size; (try simp at this); omega
  have k3_10 : w3.cell? ⟨(w.heap.size + 1), 0, none⟩ = some (.int .i64 p) := by rw [hc _ _ (by first | omega | (simp; omega) | simp)]; simp [go_sem, *]
  have k3_11 : w3.cell? ⟨(w.heap.size + 1), 1, none⟩ = some (.int .i64 q) := by rw [hc _ _ (by first | omega | (simp; omega) | simp)]; simp [go_sem, *]
  have k3_12 : w3.cell? ⟨(w.heap.size + 1), 2, none⟩ = some (.int .i64 r) := by rw [hc _ _ (by first | omega | (simp; omega) | simp)]; simp [go_sem, *]
  have k3_13 : w3.cell? ⟨(w.heap.size + 1), 3, none⟩ = some (.int .i64 s) := by rw [hc _ _ (by first | omega | (simp; omega) | simp)]; simp [go_sem, *]
  have z3_1 : (w.heap.size + 1) < w3.heap.size := by have := hb.size; (try simp at this); omega
  have hB3 : Below w.heap.size w w3 := by repeat (first | exact hB2 | refine Below.drew ?_ | refine below_drewN ?_ _ | refine Below.setCell ?_ (by first | omega | (simp; omega) | simp) _ | refine Below.alloc ?_ (by first | omega | (simp; omega) | simp) _ | refine chainB (by assumption) ?_)
  have hs3 : w.heap.size ≤ w3.heap.size := hB3.size
  clear hc hf hb k2_00 k2_01 k2_02 k2_03 z2_0 k2_10 k2_11 k2_12 k2_13 z2_1 hB2 hs2
  go_wp2_with fail
  refine (d2 _).mono ?_
  rintro e w4 ⟨rfl, hb⟩
  obtain ⟨hc, hf⟩ := bcell hb
  have q2 : ¬ w.heap.size = w3.heap.size := by omega
  have q2s : ¬ w3.heap.size = w.heap.size := by omega
  have q3 : ¬ (w.heap.size + 1) = w3.heap.size := by omega
  have q3s : ¬ w3.heap.size = (w.heap.size + 1) := by omega
  have k4_00 : w4.cell? ⟨w.heap.size, 0, none⟩ = some (.int .i64 a) := by rw [hc _ _ (by first | omega | (simp; omega) | simp)]; simp [go_sem, *]
  have k4_01 : w4.cell? ⟨w.heap.size, 1, none⟩ = some (.int .i64 b) := by rw [hc _ _ (by first | omega | (simp; omega) | simp)]; simp [go_sem, *]
  have k4_02 : w4.cell? ⟨w.heap.size, 2, none⟩ = some (.int .i64 c) := by rw [hc _ _ (by first | omega | (simp; omega) | simp)]; simp [go_sem, *]
  have k4_03 : w4.cell? ⟨w.heap.size, 3, none⟩ = some (.int .i64 d) := by rw [hc _ _ (by first | omega | (simp; omega) | simp)]; simp [go_sem, *]
  have z4_0 : w.heap.size < w4.heap.size := by have := hb.size; (try simp at this); omega
  have k4_10 : w4.cell? ⟨(w.heap.size + 1), 0, none⟩ = some (.int .i64 p) := by rw [hc _ _ (by first | omega | (simp; omega) | simp)]; simp [go_sem, *]
  have k4_11 : w4.cell? ⟨(w.heap.size + 1), 1, none⟩ = some (.int .i64 q) := by rw [hc _ _ (by first | omega | (simp; omega) | simp)]; simp [go_sem, *]
  have k4_12 : w4.cell? ⟨(w.heap.size + 1), 2, none⟩ = some (.int .i64 r) := by rw [hc _ _ (by first | omega | (simp; omega) | simp)]; simp [go_sem, *]
  have k4_13 : w4.cell? ⟨(w.heap.size + 1), 3, none⟩ = some (.int .i64 s) := by rw [hc _ _ (by first | omega | (simp; omega) | simp)]; simp [go_sem, *]
  have z4_1 : (w.heap.size + 1) < w4.heap.size := by have := hb.size; (try simp at this); omega
  have k4_20 : w4.cell? ⟨w3.heap.size, 0, none⟩ = some (.int .i64 y.lo) := by rw [hc _ _ (by first | omega | (simp; omega) | simp)]; simp [go_sem, *]
  have k4_21 : w4.cell? ⟨w3.heap.size, 1, none⟩ = some (.int .i64 y.hi) := by rw [hc _ _ (by first | omega | (simp; omega) | simp)]; simp [go_sem, *]
  have z4_2 : w3.heap.size < w4.heap.size := by have := hb.size; (try simp at this); omega
  have hB4 : Below w.heap.size w w4 := by repeat (first | exact hB3 | refine Below.drew ?_ | refine below_drewN ?_ _ | refine Below.setCell ?_ (by first | omega | (simp; omega) | simp) _ | refine Below.alloc ?_ (by first | omega | (simp; omega) | simp) _ | refine chainB (by assumption) ?_)
  have hs4 : w.heap.size ≤ w4.heap.size := hB4.size
  clear hc hf hb k3_00 k3_01 k3_02 k3_03 z3_0 k3_10 k3_11 k3_12 k3_13 z3_1 hB3 hs3
  go_wp2_with fail
  have q1 : ¬ w3.heap.size = w4.heap.size := by omega
  have q2 : ¬ w4.heap.size = w3.heap.size := by omega
  have q3 : ¬ w.heap.size = w4.heap.size := by omega
  have q4 : ¬ w4.heap.size = w.heap.size := by omega
  have q5 : w.heap.size < w4.heap.size := by omega
  have q6 : w3.heap.size < w4.heap.size := by omega
  go_region_held3 (fun w' => w'.cell? ⟨w.heap.size, 0, none⟩ = some (.int .i64 a) ∧ w'.cell? ⟨w.heap.size, 1, none⟩ = some (.int .i64 b) ∧ w'.cell? ⟨w.heap.size, 2, none⟩ = some (.int .i64 c) ∧ w'.cell? ⟨w.heap.size, 3, none⟩ = some (.int .i64 d) ∧ w'.cell? ⟨w3.heap.size, 0, none⟩ = some (.int .i64 y.lo) ∧ w'.cell? ⟨w3.heap.size, 1, none⟩ = some (.int .i64 y.hi) ∧ w'.cell? ⟨w4.heap.size, 0, none⟩ = some (.int .i64 y.lo) ∧ w'.cell? ⟨w4.heap.size, 1, none⟩ = some (.int .i64 y.hi)) (simp [go_sem, *])
    (first | (go_at_call 60; refine (c3 _).mono ?_; rintro e w5 ⟨rfl, hb⟩; have hcc := Lib.hid (fun b o (h : b < _) => hb.cell (p := ⟨b, o, none⟩) h); have hsz := hb.size; (try simp at hsz); have kw50 : w5.cell? ⟨w.heap.size, 0, none⟩ = some (.int .i64 a) := (hcc.out _ _ (by first | omega | (simp; omega) | (simp; done))).trans (by first | (simp [go_sem, *]; done) | (go_keep; done)); have kw51 : w5.cell? ⟨w.heap.size, 1, none⟩ = some (.int .i64 b) := (hcc.out _ _ (by first | omega | (simp; omega) | (simp; done))).trans (by first | (simp [go_sem, *]; done) | (go_keep; done)); have kw52 : w5.cell? ⟨w.heap.size, 2, none⟩ = some (.int .i64 c) := (hcc.out _ _ (by first | omega | (simp; omega) | (simp; done))).trans (by first | (simp [go_sem, *]; done) | (go_keep; done)); have kw53 : w5.cell? ⟨w.heap.size, 3, none⟩ = some (.int .i64 d) := (hcc.out _ _ (by first | omega | (simp; omega) | (simp; done))).trans (by first | (simp [go_sem, *]; done) | (go_keep; done)); have kw54 : w5.cell? ⟨w3.heap.size, 0, none⟩ = some (.int .i64 y.lo) := (hcc.out _ _ (by first | omega | (simp; omega) | (simp; done))).trans (by first | (simp [go_sem, *]; done) | (go_keep; done)); have kw55 : w5.cell? ⟨w3.heap.size, 1, none⟩ = some (.int .i64 y.hi) := (hcc.out _ _ (by first | omega | (simp; omega) | (simp; done))).trans (by first | (simp [go_sem, *]; done) | (go_keep; done)); have kw56 : w5.cell? ⟨w4.heap.size, 0, none⟩ = some (.int .i64 y.lo) := (hcc.out _ _ (by first | omega | (simp; omega) | (simp; done))).trans (by first | (simp [go_sem, *]; done) | (go_keep; done)); have kw57 : w5.cell? ⟨w4.heap.size, 1, none⟩ = some (.int .i64 y.hi) := (hcc.out _ _ (by first | omega | (simp; omega) | (simp; done))).trans (by first | (simp [go_sem, *]; done) | (go_keep; done)); have zw50 : w.heap.size < w5.heap.size := (by first | omega | (simp at hsz; omega)); have zw51 : w3.heap.size < w5.heap.size := (by first | omega | (simp at hsz; omega)); have zw52 : w4.heap.size < w5.heap.size := (by first | omega | (simp at hsz; omega))) | (go_at_call 61; refine (d3 _).mono ?_; rintro e w6 ⟨rfl, hb⟩; have hcc := Lib.hid (fun b o (h : b < _) => hb.cell (p := ⟨b, o, none⟩) h); have hsz := hb.size; (try simp at hsz); have kw60 : w6.cell? ⟨w.heap.size, 0, none⟩ = some (.int .i64 a) := (hcc.out _ _ (by first | omega | (simp; omega) | (simp; done))).trans (by first | (simp [go_sem, *]; done) | (go_keep; done)); have kw61 : w6.cell? ⟨w.heap.size, 1, none⟩ = some (.int .i64 b) := (hcc.out _ _ (by first | omega | (simp; omega) | (simp; done))).trans (by first | (simp [go_sem, *]; done) | (go_keep; done)); have kw62 : w6.cell? ⟨w.heap.size, 2, none⟩ = some (.int .i64 c) := (hcc.out _ _ (by first | omega | (simp; omega) | (simp; done))).trans (by first | (simp [go_sem, *]; done) | (go_keep; done)); have kw63 : w6.cell? ⟨w.heap.size, 3, none⟩ = some (.int .i64 d) := (hcc.out _ _ (by first | omega | (simp; omega) | (simp; done))).trans (by first | (simp [go_sem, *]; done) | (go_keep; done)); have kw64 : w6.cell? ⟨w3.heap.size, 0, none⟩ = some (.int .i64 y.lo) := (hcc.out _ _ (by first | omega | (simp; omega) | (simp; done))).trans (by first | (simp [go_sem, *]; done) | (go_keep; done)); have kw65 : w6.cell? ⟨w3.heap.size, 1, none⟩ = some (.int .i64 y.hi) := (hcc.out _ _ (by first | omega | (simp; omega) | (simp; done))).trans (by first | (simp [go_sem, *]; done) | (go_keep; done)); have kw66 : w6.cell? ⟨w4.heap.size, 0, none⟩ = some (.int .i64 y.lo) := (hcc.out _ _ (by first | omega | (simp; omega) | (simp; done))).trans (by first | (simp [go_sem, *]; done) | (go_keep; done)); have kw67 : w6.cell? ⟨w4.heap.size, 1, none⟩ = some (.int .i64 y.hi) := (hcc.out _ _ (by first | omega | (simp; omega) | (simp; done))).trans (by first | (simp [go_sem, *]; done) | (go_keep; done)); have zw60 : w.heap.size < w6.heap.size := (by first | omega | (simp at hsz; omega)); have zw61 : w3.heap.size < w6.heap.size := (by first | omega | (simp at hsz; omega)); have zw62 : w4.heap.size < w6.heap.size := (by first | omega | (simp at hsz; omega))) | (go_at_call 22; refine (cW _).mono ?_; rintro e w7 ⟨rfl, hb⟩; have hcc := Lib.hid (fun b o (h : b < _) => hb.cell (p := ⟨b, o, none⟩) h); have kw70 : w7.cell? ⟨w.heap.size, 0, none⟩ = some (.int .i64 a) := (hcc.out _ _ (by first | omega | (simp; omega) | (simp; done))).trans (by first | (simp [go_sem, *]; done) | (go_keep; done)); have kw71 : w7.cell? ⟨w.heap.size, 1, none⟩ = some (.int .i64 b) := (hcc.out _ _ (by first | omega | (simp; omega) | (simp; done))).trans (by first | (simp [go_sem, *]; done) | (go_keep; done)); have kw72 : w7.cell? ⟨w.heap.size, 2, none⟩ = some (.int .i64 c) := (hcc.out _ _ (by first | omega | (simp; omega) | (simp; done))).trans (by first | (simp [go_sem, *]; done) | (go_keep; done)); have kw73 : w7.cell? ⟨w.heap.size, 3, none⟩ = some (.int .i64 d) := (hcc.out _ _ (by first | omega | (simp; omega) | (simp; done))).trans (by first | (simp [go_sem, *]; done) | (go_keep; done)); have kw74 : w7.cell? ⟨w3.heap.size, 0, none⟩ = some (.int .i64 y.lo) := (hcc.out _ _ (by first | omega | (simp; omega) | (simp; done))).trans (by first | (simp [go_sem, *]; done) | (go_keep; done)); have kw75 : w7.cell? ⟨w3.heap.size, 1, none⟩ = some (.int .i64 y.hi) := (hcc.out _ _ (by first | omega | (simp; omega) | (simp; done))).trans (by first | (simp [go_sem, *]; done) | (go_keep; done)); have kw76 : w7.cell? ⟨w4.heap.size, 0, none⟩ = some (.int .i64 y.lo) := (hcc.out _ _ (by first | omega | (simp; omega) | (simp; done))).trans (by first | (simp [go_sem, *]; done) | (go_keep; done)); have kw77 : w7.cell? ⟨w4.heap.size, 1, none⟩ = some (.int .i64 y.hi) := (hcc.out _ _ (by first | omega | (simp; omega) | (simp; done))).trans (by first | (simp [go_sem, *]; done) | (go_keep; done))))
  all_goals
    go_wp2_with fail
    go_ret
    exact ⟨rfl, by repeat (first | exact hB4 | refine Below.drew ?_ | refine below_drewN ?_ _ | refine Below.setCell ?_ (by first | omega | (simp; omega) | simp) _ | refine Below.alloc ?_ (by first | omega | (simp; omega) | simp) _ | refine chainB (by assumption) ?_)⟩
end Go.Proofs.Ytamelpfhbnkggaa

/-
  slant.
-/
import Derived.Test.YthogahdnidjelaaPull
import Derived.Deep.CutRange
namespace Go.Proofs.Ythogahdnidjelaa
open Go.RowKit Go.Shelf
set_option linter.unusedSimpArgs false
theorem slant_math {lo hi v : Int} (h0 : 0 ≤ lo) (h1 : lo ≤ hi) (h2 : hi ≤ 268435456) (v0 : -268435456 ≤ v) (v1 : v ≤ 268435456) :
    distS 0 0 0 0 lo hi v v = ⟨isq (lo * lo + v * v), isqUp (hi * hi + v * v), 0⟩ := by
  have a : vX 0 0 0 0 = true := by decide
  have b : vX lo hi v v = true := by rw [vX_iff]; unfold gX; simp only [vB_iff]; omega
  unfold distS
  rw [if_pos ⟨a, b⟩]
  have e1 : gLo 0 0 lo hi = lo := by unfold gLo; omega
  have e2 : gHi 0 0 lo hi = hi := by unfold gHi; omega
  have e3 : gLo 0 0 v v * gLo 0 0 v v = v * v := by
    unfold gLo
    rcases Int.le_total 0 v with h | h
    · rw [show max 0 (max (v - 0) (0 - v)) = v by omega]
    · rw [show max 0 (max (v - 0) (0 - v)) = -v by omega, Int.neg_mul_neg]
  have e4 : gHi 0 0 v v * gHi 0 0 v v = v * v := by
    unfold gHi
    rcases Int.le_total 0 v with h | h
    · rw [show max (v - 0) (0 - v) = v by omega]
    · rw [show max (v - 0) (0 - v) = -v by omega, Int.neg_mul_neg]
  unfold sqLo sqHi
  rw [e1, e2, e3, e4]
set_option maxRecDepth 100000 in
set_option maxHeartbeats 4000000 in
theorem slant_any (lo hi v : Int) (h0 : 0 ≤ lo) (h1 : lo ≤ hi) (h2 : hi ≤ 268435456) (v0 : -268435456 ≤ v) (v1 : v ≤ 268435456) (w : World) :
    Calls Try.prog 99 #[.agg #[.int .i64 lo, .int .i64 hi], .int .i64 v] w fun e w' => e = .returned (.agg #[.int .i64 (isq (lo * lo + v * v)), .int .i64 (isqUp (hi * hi + v * v))]) ∧ Below w.heap.size w w' := by
  have c1 := fun w => exactly_any v w
  have c2 := fun w => bdistance_any 0 0 0 0 lo hi v v w
  rw [slant_math h0 h1 h2 v0 v1] at c2
  dsimp only at c2
  generalize isq (lo * lo + v * v) = x at c2 ⊢
  generalize isqUp (hi * hi + v * v) = y at c2 ⊢
  clear h0 h1 h2 v0 v1
  go_enter Try.func99, Try.ntmps99
  go_upto_region 1 with fail
  go_cut [5] from 6 (fun s5 wc => ∃ B, s5 = Value.pointer (some ⟨B, 0, none⟩) ∧ B < wc.heap.size ∧ w.heap.size + 1 < B ∧ wc.cell? ⟨B, 0, none⟩ = some (.int .i64 lo) ∧ wc.cell? ⟨B, 1, none⟩ = some (.int .i64 hi) ∧ wc.cell? ⟨B, 2, none⟩ = some (.int .i64 v) ∧ wc.cell? ⟨B, 3, none⟩ = some (.int .i64 v) ∧ Below (w.heap.size + 2) ((w.alloc (.cells #[.int .i64 lo, .int .i64 hi] 41)).alloc (.cells #[.int .i64 0, .int .i64 0] 41)) wc)
  case first => as_aux_lemma =>
    go_region_held3 (fun w' => w'.cell? ⟨w.heap.size, 0, none⟩ = some (.int .i64 lo) ∧ w'.cell? ⟨w.heap.size, 1, none⟩ = some (.int .i64 hi)) ((first | (simp [go_sem, *]; done) | (refine ⟨?_, ?_⟩ <;> (rw [hcc.out _ _ (by first | omega | (simp; omega) | simp)]; simp [go_sem, *]))))
      (first | (go_at_call 73; refine (c1 _).mono ?_; rintro e w1 ⟨rfl, hb⟩; have hcc := Lib.hid (fun b o (h : b < _) => hb.cell (p := ⟨b, o, none⟩) h); have hff := Lib.hid (fun b o (h : b < _) => hb.frozen (p := ⟨b, o, none⟩) h); have hszw1 := hb.size; (try simp at hszw1); have kw10 : w1.cell? ⟨w.heap.size, 0, none⟩ = some (.int .i64 lo) := (hcc.out _ _ (by first | omega | (simp; omega) | (simp; done))).trans (by first | (simp [go_sem, *]; done) | (go_keep; done)); have kw11 : w1.cell? ⟨w.heap.size, 1, none⟩ = some (.int .i64 hi) := (hcc.out _ _ (by first | omega | (simp; omega) | (simp; done))).trans (by first | (simp [go_sem, *]; done) | (go_keep; done)); have zw10 : w.heap.size < w1.heap.size := (by first | omega | (simp at hszw1; omega)); have zw11 : (w.heap.size + 1) < w1.heap.size := (by first | omega | (simp at hszw1; omega)); have uw100 := hcc.out (w.heap.size + 2) 0; (try simp [go_sem] at uw100); have vw100 := hff.out (w.heap.size + 2) 0; (try simp [go_sem] at vw100); have uw101 := hcc.out (w.heap.size + 2) 1; (try simp [go_sem] at uw101); have vw101 := hff.out (w.heap.size + 2) 1; (try simp [go_sem] at vw101); have uw102 := hcc.out (w.heap.size + 2) 2; (try simp [go_sem] at uw102); have vw102 := hff.out (w.heap.size + 2) 2; (try simp [go_sem] at vw102); have uw103 := hcc.out (w.heap.size + 2) 3; (try simp [go_sem] at uw103); have vw103 := hff.out (w.heap.size + 2) 3; (try simp [go_sem] at vw103); (try have gw10a : ¬ w.heap.size + 2 = w1.heap.size := by omega); (try have gw10b : ¬ w1.heap.size = w.heap.size + 2 := by omega); (try have lw10 : w.heap.size + 2 < w1.heap.size := by omega); (try have gew1685 : ¬ w.heap.size = w1.heap.size := by omega); (try have gfw1685 : ¬ w1.heap.size = w.heap.size := by omega); (try have gew1238 : ¬ (w.heap.size + 1) = w1.heap.size := by omega); (try have gfw1238 : ¬ w1.heap.size = (w.heap.size + 1) := by omega)))
    all_goals
      go_wp2_with fail
      go_meet
      case rel => exact ⟨_, rfl, by first | omega | (simp; done) | (simp; omega), by first | omega | (simp; done) | (simp; omega), by simp [go_sem, *], by simp [go_sem, *], by simp [go_sem, *], by simp [go_sem, *], by repeat (first | exact Below.refl _ _ | refine Below.drew ?_ | refine Below.setCell ?_ (by first | omega | (simp; omega) | simp) _ | refine Below.alloc ?_ (by first | omega | (simp; omega) | simp) _ | (refine Below.trans ?_ (hb.mono (by first | omega | (simp; omega) | simp))))⟩
  case rest => as_aux_lemma =>
    obtain ⟨B, rfl, z, zz, b0, b1, b2, b3, hBc⟩ := hcut
    have r0 : wc.cell? ⟨w.heap.size + 1, 0, none⟩ = some (.int .i64 0) := (hBc.cell (p := ⟨w.heap.size + 1, 0, none⟩) (by simp)).trans (by simp [go_sem])
    have r1 : wc.cell? ⟨w.heap.size + 1, 1, none⟩ = some (.int .i64 0) := (hBc.cell (p := ⟨w.heap.size + 1, 1, none⟩) (by simp)).trans (by simp [go_sem])
    have f0 : wc.frozen? ⟨w.heap.size + 1, 0, none⟩ = false := (hBc.frozen (p := ⟨w.heap.size + 1, 0, none⟩) (by simp)).trans (by simp [go_sem])
    have f1 : wc.frozen? ⟨w.heap.size + 1, 1, none⟩ = false := (hBc.frozen (p := ⟨w.heap.size + 1, 1, none⟩) (by simp)).trans (by simp [go_sem])
    have hB1 : Below w.heap.size w wc := by
      refine Below.trans ?_ (hBc.mono (by omega))
      repeat (first | exact Below.refl _ _ | refine Below.alloc ?_ (by first | omega | (simp; omega) | simp) _)
    have hsz := hBc.size
    simp at hsz
    clear hBc
    go_wp2_with fail
    refine (c2 _).mono ?_
    rintro e w2 ⟨rfl, hb⟩
    obtain ⟨hc, hf⟩ := bcell hb
    have r0' := (hc (w.heap.size + 1) 0 (by omega)).trans r0
    have r1' := (hc (w.heap.size + 1) 1 (by omega)).trans r1
    have f0' := (hf (w.heap.size + 1) 0 (by omega)).trans f0
    have f1' := (hf (w.heap.size + 1) 1 (by omega)).trans f1
    have hz2 := hb.size
    have hB2 : Below w.heap.size w w2 := hB1.trans (hb.mono (by omega))
    have z9 : w.heap.size + 1 < w2.heap.size := by omega
    have q1 : ¬ w.heap.size + 1 = w2.heap.size := by omega
    have q2 : ¬ w2.heap.size = w.heap.size + 1 := by omega
    clear hc hf hb r0 r1 f0 f1
    go_wp2_with fail
    refine bodyPost_ret (v := .agg #[.int .i64 x, .int .i64 y]) (by simp [results, Try.results99, go_sem, *]) rfl ⟨rfl, ?_⟩
    repeat (first | exact hB2 | refine Below.drew ?_ | refine Below.setCell ?_ (by first | omega | (simp; omega) | simp) _ | refine Below.alloc ?_ (by first | omega | (simp; omega) | simp) _)
end Go.Proofs.Ythogahdnidjelaa

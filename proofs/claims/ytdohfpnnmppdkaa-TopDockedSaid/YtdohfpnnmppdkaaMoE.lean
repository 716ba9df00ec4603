/-
  MoE: the watch circle's top (layer 2), ported from its own seat, in the cable seat (Pull, Slant, Add, MRows, BelowP, Shape, Total, ShapeMath).
-/
import Derived.Test.YtdohfpnnmppdkaaMoD
import Derived.Deep.CutRange
import Derived.BigRegion
import Derived.OwnWalk
namespace Go.Proofs.Ytdohfpnnmppdkaa.Moo
open Go.RowKit Go.Shelf
set_option linter.unusedSimpArgs false
/-- a sums in memory: at the head of block B -/
structure SumsAt (W : World) (B : Nat) (free : Bool) (lift lo hi wd : Int) : Prop where
  lt : B < W.heap.size
  c0 : W.cell? ⟨B, 0, none⟩ = some (.bool free)
  c1 : W.cell? ⟨B, 1, none⟩ = some (.int .i64 lift)
  c2 : W.cell? ⟨B, 2, none⟩ = some (.int .i64 lo)
  c3 : W.cell? ⟨B, 3, none⟩ = some (.int .i64 hi)
  c4 : W.cell? ⟨B, 4, none⟩ = some (.int .i64 wd)
  f1 : W.frozen? ⟨B, 1, none⟩ = false
  f2 : W.frozen? ⟨B, 2, none⟩ = false
  f3 : W.frozen? ⟨B, 3, none⟩ = false
  f4 : W.frozen? ⟨B, 4, none⟩ = false
theorem SumsAt.at {W W' : World} {B : Nat} {free : Bool} {lift lo hi wd : Int} (h : SumsAt W B free lift lo hi wd) (hb : Below W.heap.size W W') : SumsAt W' B free lift lo hi wd := by
  have z := h.lt
  exact ⟨Nat.lt_of_lt_of_le z hb.size, (hb.cell (p := ⟨B, 0, none⟩) z).trans h.c0, (hb.cell (p := ⟨B, 1, none⟩) z).trans h.c1, (hb.cell (p := ⟨B, 2, none⟩) z).trans h.c2, (hb.cell (p := ⟨B, 3, none⟩) z).trans h.c3, (hb.cell (p := ⟨B, 4, none⟩) z).trans h.c4,
    (hb.frozen (p := ⟨B, 1, none⟩) z).trans h.f1, (hb.frozen (p := ⟨B, 2, none⟩) z).trans h.f2, (hb.frozen (p := ⟨B, 3, none⟩) z).trans h.f3, (hb.frozen (p := ⟨B, 4, none⟩) z).trans h.f4⟩
def plo (free : Bool) (lo hi wd : Int) : Int := if free = true then max 0 (wd - hi) else lo
set_option maxHeartbeats 1000000 in
theorem pull_any (B : Nat) (free : Bool) (lift lo hi wd : Int) (h0 : -2305843009213693952 ≤ hi) (h1 : hi ≤ 2305843009213693952) (w0 : -2305843009213693952 ≤ wd) (w1 : wd ≤ 2305843009213693952) (w : World) (hS : SumsAt w B free lift lo hi wd) :
    Calls Try.prog 200 #[.pointer (some ⟨B, 0, none⟩)] w fun e w' => e = .returned (.agg #[.int .i64 (plo free lo hi wd), .int .i64 hi]) ∧ Below w.heap.size w w' := by
  obtain ⟨z, k0, k1, k2, k3, k4, -, -, -, -⟩ := hS
  have g1 : ¬ w.heap.size = B := by omega
  have g2 : ¬ B = w.heap.size := by omega
  have g3 : ¬ w.heap.size + 1 = B := by omega
  have g4 : ¬ B = w.heap.size + 1 := by omega
  cases free
  · rw [show plo false lo hi wd = lo from rfl]
    go_enter Try.func200, Try.ntmps200
    go_wp2_with fail
    refine bodyPost_ret (v := .agg #[.int .i64 lo, .int .i64 hi]) (by simp [results, Try.results200, go_sem, *]) rfl ⟨rfl, ?_⟩
    repeat (first | exact Below.refl _ _ | refine Below.drew ?_ | refine Below.setCell ?_ (by first | omega | (simp; omega) | simp) _ | refine Below.alloc ?_ (by first | omega | (simp; omega) | simp) _)
  · rw [show plo true lo hi wd = max 0 (wd - hi) from rfl]
    have W1 : IntKind.i64.wrap (wd - hi) = wd - hi := by rw [IntKind.wrap_i64]; omega
    go_enter Try.func200, Try.ntmps200
    go_wp2_with fail
    go_region
    all_goals
      go_wp2_with fail
      refine bodyPost_ret (v := .agg #[.int .i64 (max 0 (wd - hi)), .int .i64 hi]) (by simp [results, Try.results200, go_sem, *]) rfl ⟨rfl, ?_⟩
      repeat (first | exact Below.refl _ _ | refine Below.drew ?_ | refine Below.setCell ?_ (by first | omega | (simp; omega) | simp) _ | refine Below.alloc ?_ (by first | omega | (simp; omega) | simp) _)
end Go.Proofs.Ytdohfpnnmppdkaa.Moo
namespace Go.Proofs.Ytdohfpnnmppdkaa.Moo
open Go.RowKit Go.Shelf
set_option linter.unusedSimpArgs false
theorem slant_math {lo hi v : Int} (h0 : 0 ≤ lo) (h1 : lo ≤ hi) (h2 : hi ≤ 268435456) (v0 : -268435456 ≤ v) (v1 : v ≤ 268435456) :
    distS 0 0 0 0 lo hi v v = ⟨isq (lo * lo + v * v), isqUp (hi * hi + v * v), 0⟩ := by
  have a : vX 0 0 0 0 = true := by decide
  have b : vX lo hi v v = true := by rw [vX_iff]; unfold gX; simp only [vB_iff]; omega
  unfold distS
  rw [if_pos ⟨a, b⟩]
  have e1 : gLo 0 0 lo hi = lo := by unfold gLo; omega
  have e2 : gHi 0 0 lo hi = hi := by unfold gHi; omega
  have e3 : gLo 0 0 v v * gLo 0 0 v v = v * v := by
    unfold gLo
    rcases Int.le_total 0 v with h | h
    · rw [show max 0 (max (v - 0) (0 - v)) = v by omega]
    · rw [show max 0 (max (v - 0) (0 - v)) = -v by omega, Int.neg_mul_neg]
  have e4 : gHi 0 0 v v * gHi 0 0 v v = v * v := by
    unfold gHi
    rcases Int.le_total 0 v with h | h
    · rw [show max (v - 0) (0 - v) = v by omega]
    · rw [show max (v - 0) (0 - v) = -v by omega, Int.neg_mul_neg]
  unfold sqLo sqHi
  rw [e1, e2, e3, e4]
set_option maxRecDepth 100000 in
set_option maxHeartbeats 4000000 in
theorem slant_any (lo hi v : Int) (h0 : 0 ≤ lo) (h1 : lo ≤ hi) (h2 : hi ≤ 268435456) (v0 : -268435456 ≤ v) (v1 : v ≤ 268435456) (w : World) :
    Calls Try.prog 201 #[.agg #[.int .i64 lo, .int .i64 hi], .int .i64 v] w fun e w' => e = .returned (.agg #[.int .i64 (isq (lo * lo + v * v)), .int .i64 (isqUp (hi * hi + v * v))]) ∧ Below w.heap.size w w' := by
  have c1 := fun w => exactly_any v w
  have c2 := fun w => bdistance_any 0 0 0 0 lo hi v v w
  rw [slant_math h0 h1 h2 v0 v1] at c2
  dsimp only at c2
  generalize isq (lo * lo + v * v) = x at c2 ⊢
  generalize isqUp (hi * hi + v * v) = y at c2 ⊢
  clear h0 h1 h2 v0 v1
  go_enter Try.func201, Try.ntmps201
  go_upto_region 1 with fail
  go_cut [5] from 6 (fun s5 wc => ∃ B, s5 = Value.pointer (some ⟨B, 0, none⟩) ∧ B < wc.heap.size ∧ w.heap.size + 1 < B ∧ wc.cell? ⟨B, 0, none⟩ = some (.int .i64 lo) ∧ wc.cell? ⟨B, 1, none⟩ = some (.int .i64 hi) ∧ wc.cell? ⟨B, 2, none⟩ = some (.int .i64 v) ∧ wc.cell? ⟨B, 3, none⟩ = some (.int .i64 v) ∧ Below (w.heap.size + 2) ((w.alloc (.cells #[.int .i64 lo, .int .i64 hi] 23)).alloc (.cells #[.int .i64 0, .int .i64 0] 23)) wc)
  case first => as_aux_lemma =>
    go_region_held3 (fun w' => w'.cell? ⟨w.heap.size, 0, none⟩ = some (.int .i64 lo) ∧ w'.cell? ⟨w.heap.size, 1, none⟩ = some (.int .i64 hi)) ((first | (simp [go_sem, *]; done) | (refine ⟨?_, ?_⟩ <;> (rw [hcc.out _ _ (by first | omega | (simp; omega) | simp)]; simp [go_sem, *]))))
      (first | (go_at_call 167; refine (c1 _).mono ?_; rintro e w1 ⟨rfl, hb⟩; have hcc := Lib.hid (fun b o (h : b < _) => hb.cell (p := ⟨b, o, none⟩) h); have hff := Lib.hid (fun b o (h : b < _) => hb.frozen (p := ⟨b, o, none⟩) h); have hszw1 := hb.size; (try simp at hszw1); have kw10 : w1.cell? ⟨w.heap.size, 0, none⟩ = some (.int .i64 lo) := (hcc.out _ _ (by first | omega | (simp; omega) | (simp; done))).trans (by first | (simp [go_sem, *]; done) | (go_keep; done)); have kw11 : w1.cell? ⟨w.heap.size, 1, none⟩ = some (.int .i64 hi) := (hcc.out _ _ (by first | omega | (simp; omega) | (simp; done))).trans (by first | (simp [go_sem, *]; done) | (go_keep; done)); have zw10 : w.heap.size < w1.heap.size := (by first | omega | (simp at hszw1; omega)); have zw11 : (w.heap.size + 1) < w1.heap.size := (by first | omega | (simp at hszw1; omega)); have uw100 := hcc.out (w.heap.size + 2) 0; (try simp [go_sem] at uw100); have vw100 := hff.out (w.heap.size + 2) 0; (try simp [go_sem] at vw100); have uw101 := hcc.out (w.heap.size + 2) 1; (try simp [go_sem] at uw101); have vw101 := hff.out (w.heap.size + 2) 1; (try simp [go_sem] at vw101); have uw102 := hcc.out (w.heap.size + 2) 2; (try simp [go_sem] at uw102); have vw102 := hff.out (w.heap.size + 2) 2; (try simp [go_sem] at vw102); have uw103 := hcc.out (w.heap.size + 2) 3; (try simp [go_sem] at uw103); have vw103 := hff.out (w.heap.size + 2) 3; (try simp [go_sem] at vw103); (try have gw10a : ¬ w.heap.size + 2 = w1.heap.size := by omega); (try have gw10b : ¬ w1.heap.size = w.heap.size + 2 := by omega); (try have lw10 : w.heap.size + 2 < w1.heap.size := by omega); (try have gew1685 : ¬ w.heap.size = w1.heap.size := by omega); (try have gfw1685 : ¬ w1.heap.size = w.heap.size := by omega); (try have gew1238 : ¬ (w.heap.size + 1) = w1.heap.size := by omega); (try have gfw1238 : ¬ w1.heap.size = (w.heap.size + 1) := by omega)))
    all_goals
      go_wp2_with fail
      go_meet
      case rel => exact ⟨_, rfl, by first | omega | (simp; done) | (simp; omega), by first | omega | (simp; done) | (simp; omega), by simp [go_sem, *], by simp [go_sem, *], by simp [go_sem, *], by simp [go_sem, *], by repeat (first | exact Below.refl _ _ | refine Below.drew ?_ | refine Below.setCell ?_ (by first | omega | (simp; omega) | simp) _ | refine Below.alloc ?_ (by first | omega | (simp; omega) | simp) _ | (refine Below.trans ?_ (hb.mono (by first | omega | (simp; omega) | simp))))⟩
  case rest => as_aux_lemma =>
    obtain ⟨B, rfl, z, zz, b0, b1, b2, b3, hBc⟩ := hcut
    have r0 : wc.cell? ⟨w.heap.size + 1, 0, none⟩ = some (.int .i64 0) := (hBc.cell (p := ⟨w.heap.size + 1, 0, none⟩) (by simp)).trans (by simp [go_sem])
    have r1 : wc.cell? ⟨w.heap.size + 1, 1, none⟩ = some (.int .i64 0) := (hBc.cell (p := ⟨w.heap.size + 1, 1, none⟩) (by simp)).trans (by simp [go_sem])
    have f0 : wc.frozen? ⟨w.heap.size + 1, 0, none⟩ = false := (hBc.frozen (p := ⟨w.heap.size + 1, 0, none⟩) (by simp)).trans (by simp [go_sem])
    have f1 : wc.frozen? ⟨w.heap.size + 1, 1, none⟩ = false := (hBc.frozen (p := ⟨w.heap.size + 1, 1, none⟩) (by simp)).trans (by simp [go_sem])
    have hB1 : Below w.heap.size w wc := by
      refine Below.trans ?_ (hBc.mono (by omega))
      repeat (first | exact Below.refl _ _ | refine Below.alloc ?_ (by first | omega | (simp; omega) | simp) _)
    have hsz := hBc.size
    simp at hsz
    clear hBc
    go_wp2_with fail
    refine (c2 _).mono ?_
    rintro e w2 ⟨rfl, hb⟩
    obtain ⟨hc, hf⟩ := bcell hb
    have r0' := (hc (w.heap.size + 1) 0 (by omega)).trans r0
    have r1' := (hc (w.heap.size + 1) 1 (by omega)).trans r1
    have f0' := (hf (w.heap.size + 1) 0 (by omega)).trans f0
    have f1' := (hf (w.heap.size + 1) 1 (by omega)).trans f1
    have hz2 := hb.size
    have hB2 : Below w.heap.size w w2 := hB1.trans (hb.mono (by omega))
    have z9 : w.heap.size + 1 < w2.heap.size := by omega
    have q1 : ¬ w.heap.size + 1 = w2.heap.size := by omega
    have q2 : ¬ w2.heap.size = w.heap.size + 1 := by omega
    clear hc hf hb r0 r1 f0 f1
    go_wp2_with fail
    refine bodyPost_ret (v := .agg #[.int .i64 x, .int .i64 y]) (by simp [results, Try.results201, go_sem, *]) rfl ⟨rfl, ?_⟩
    repeat (first | exact hB2 | refine Below.drew ?_ | refine Below.setCell ?_ (by first | omega | (simp; omega) | simp) _ | refine Below.alloc ?_ (by first | omega | (simp; omega) | simp) _)
end Go.Proofs.Ytdohfpnnmppdkaa.Moo
namespace Go.Proofs.Ytdohfpnnmppdkaa.Moo
open Go.RowKit Go.Shelf
set_option linter.unusedSimpArgs false
theorem Below.set_both {B : Nat} {W W' : World} (h : Below B W W') (p : Addr) (u : Value) : Below B (W.setCell p u) (W'.setCell p u) := by
  refine ⟨h.os, h.tape, h.output, by have := h.size; simpa [World.setCell] using this, fun k hk => ?_⟩
  simp only [World.setCell, Array.getElem?_modify]
  rw [h.block k hk]
/-- the four numbers of a sums set anew -/
def setS (W : World) (B : Nat) (lift lo hi wd : Int) : World :=
  (((W.setCell ⟨B, 1, none⟩ (.int .i64 lift)).setCell ⟨B, 2, none⟩ (.int .i64 lo)).setCell ⟨B, 3, none⟩ (.int .i64 hi)).setCell ⟨B, 4, none⟩ (.int .i64 wd)
set_option maxRecDepth 100000 in
set_option maxHeartbeats 4000000 in
theorem add_any (B : Nat) (free : Bool) (lift lo hi wd : Int) (x : El) (a : Pr) (hx : vE x = true) (ha : okC a = true)
    (l0 : -1073741824 ≤ lift ∧ lift ≤ 1073741824) (l1 : 0 ≤ lo ∧ lo ≤ 1073741824) (l2 : 0 ≤ hi ∧ hi ≤ 1073741824) (w : World) (hS : SumsAt w B free lift lo hi wd) :
    Calls Try.prog 199 #[.pointer (some ⟨B, 0, none⟩), elv x, prv a] w fun e w' => e = .returned (.tuple #[]) ∧ Below w.heap.size (setS w B (lift + x.lift) (lo + fLo x a) (hi + fHi x a) (max wd (fLo x a + fHi x a))) w' := by
  have c1 := fun w => force_any x a hx ha w
  obtain ⟨-, ⟨t0, t1⟩, -, -⟩ := (vE_iff x).1 hx
  obtain ⟨f0, f1, f2⟩ := force_bd hx ha
  generalize fLo x a = p at *
  generalize fHi x a = q at *
  obtain ⟨x0, x1, x2, x3⟩ := x
  obtain ⟨y0, y1⟩ := a
  unfold prv elv at *
  dsimp only at *
  have W1 : IntKind.i64.wrap (lift + x1) = lift + x1 := by rw [IntKind.wrap_i64]; omega
  have W2 : IntKind.i64.wrap (lo + p) = lo + p := by rw [IntKind.wrap_i64]; omega
  have W3 : IntKind.i64.wrap (hi + q) = hi + q := by rw [IntKind.wrap_i64]; omega
  have W4 : IntKind.i64.wrap (p + q) = p + q := by rw [IntKind.wrap_i64]; omega
  obtain ⟨z, k0, k1, k2, k3, k4, ff1, ff2, ff3, ff4⟩ := hS
  clear hx ha
  have g1 : ¬ w.heap.size = B := by omega
  have g2 : ¬ B = w.heap.size := by omega
  have g3 : ¬ w.heap.size + 1 = B := by omega
  have g4 : ¬ B = w.heap.size + 1 := by omega
  go_enter Try.func199, Try.ntmps199
  go_wp2_with fail
  refine (c1 _).mono ?_
  rintro e w1 ⟨rfl, hb⟩
  obtain ⟨hc, hf⟩ := bcell hb
  have k1_00 : w1.cell? ⟨B, 0, none⟩ = some (.bool free) := by rw [hc _ _ (by first | omega | (simp; omega) | simp)]; simp [go_sem, *]
  have k1_01 : w1.cell? ⟨B, 1, none⟩ = some (.int .i64 lift) := by rw [hc _ _ (by first | omega | (simp; omega) | simp)]; simp [go_sem, *]
  have f1_01 : w1.frozen? ⟨B, 1, none⟩ = false := by rw [hf _ _ (by first | omega | (simp; omega) | simp)]; simp [go_sem, *]
  have k1_02 : w1.cell? ⟨B, 2, none⟩ = some (.int .i64 lo) := by rw [hc _ _ (by first | omega | (simp; omega) | simp)]; simp [go_sem, *]
  have f1_02 : w1.frozen? ⟨B, 2, none⟩ = false := by rw [hf _ _ (by first | omega | (simp; omega) | simp)]; simp [go_sem, *]
  have k1_03 : w1.cell? ⟨B, 3, none⟩ = some (.int .i64 hi) := by rw [hc _ _ (by first | omega | (simp; omega) | simp)]; simp [go_sem, *]
  have f1_03 : w1.frozen? ⟨B, 3, none⟩ = false := by rw [hf _ _ (by first | omega | (simp; omega) | simp)]; simp [go_sem, *]
  have k1_04 : w1.cell? ⟨B, 4, none⟩ = some (.int .i64 wd) := by rw [hc _ _ (by first | omega | (simp; omega) | simp)]; simp [go_sem, *]
  have f1_04 : w1.frozen? ⟨B, 4, none⟩ = false := by rw [hf _ _ (by first | omega | (simp; omega) | simp)]; simp [go_sem, *]
  have z1_0 : B < w1.heap.size := by have := hb.size; (try simp at this); omega
  have k1_10 : w1.cell? ⟨w.heap.size, 0, none⟩ = some (.int .i64 x0) := by rw [hc _ _ (by first | omega | (simp; omega) | simp)]; simp [go_sem, *]
  have k1_11 : w1.cell? ⟨w.heap.size, 1, none⟩ = some (.int .i64 x1) := by rw [hc _ _ (by first | omega | (simp; omega) | simp)]; simp [go_sem, *]
  have k1_12 : w1.cell? ⟨w.heap.size, 2, none⟩ = some (.int .i64 x2) := by rw [hc _ _ (by first | omega | (simp; omega) | simp)]; simp [go_sem, *]
  have k1_13 : w1.cell? ⟨w.heap.size, 3, none⟩ = some (.int .i64 x3) := by rw [hc _ _ (by first | omega | (simp; omega) | simp)]; simp [go_sem, *]
  have z1_1 : w.heap.size < w1.heap.size := by have := hb.size; (try simp at this); omega
  have k1_20 : w1.cell? ⟨(w.heap.size + 1), 0, none⟩ = some (.int .i64 y0) := by rw [hc _ _ (by first | omega | (simp; omega) | simp)]; simp [go_sem, *]
  have k1_21 : w1.cell? ⟨(w.heap.size + 1), 1, none⟩ = some (.int .i64 y1) := by rw [hc _ _ (by first | omega | (simp; omega) | simp)]; simp [go_sem, *]
  have z1_2 : (w.heap.size + 1) < w1.heap.size := by have := hb.size; (try simp at this); omega
  have hB1 : Below w.heap.size w w1 := by repeat (first | exact (Below.refl _ _) | refine Below.drew ?_ | refine below_drewN ?_ _ | refine Below.setCell ?_ (by first | omega | (simp; omega) | simp) _ | refine Below.alloc ?_ (by first | omega | (simp; omega) | simp) _ | refine chainB (by assumption) ?_)
  have hs1 : w.heap.size ≤ w1.heap.size := hB1.size
  clear hc hf hb 
  have g5 : ¬ w1.heap.size = B := by omega
  have g6 : ¬ B = w1.heap.size := by omega
  have g7 : ¬ w1.heap.size = w.heap.size := by omega
  have g8 : ¬ w.heap.size = w1.heap.size := by omega
  clear k0 k1 k2 k3 k4 ff1 ff2 ff3 ff4
  go_wp2_with fail
  go_region
  go_wp2_with fail
  go_region
  go_wp2_with fail
  go_region
  go_wp2_with fail
  go_end0
  refine ⟨rfl, ?_⟩
  unfold setS
  repeat (first | exact hB1 | refine Below.drew ?_ | refine Below.set_both ?_ _ _ | refine Below.alloc ?_ (by first | omega | (simp; omega) | simp) _)
end Go.Proofs.Ytdohfpnnmppdkaa.Moo
namespace Go.Proofs.Ytdohfpnnmppdkaa.Moo
open Go.RowKit Go.Shelf
set_option linter.unusedSimpArgs false
theorem infoSp : (Try.prog.info? 23).map (fun i => (i.zero, i.size, i.bytes)) = some (some (.agg #[.int .i64 0, .int .i64 0]), 2, 16) := by kernel_rfl
def flatP (cs : List Pr) : List Value := cs.flatMap fun p => [.int .i64 p.lo, .int .i64 p.hi]
theorem flatP_snoc (cs : List Pr) (x : Pr) : flatP (cs ++ [x]) = flatP cs ++ [.int .i64 x.lo, .int .i64 x.hi] := by simp [flatP]
theorem flatP_get : ∀ (cs : List Pr) (k : Nat), k < cs.length → (flatP cs)[k * 2]? = some (.int .i64 (pr cs k).lo) ∧ (flatP cs)[k * 2 + 1]? = some (.int .i64 (pr cs k).hi)
  | [], k, h => by simp at h
  | c :: cs, 0, _ => by simp [flatP, pr]
  | c :: cs, k + 1, h => by
    have ih := flatP_get cs k (by simpa using h)
    have e : flatP (c :: cs) = .int .i64 c.lo :: .int .i64 c.hi :: flatP cs := by simp [flatP]
    have e2 : pr (c :: cs) (k + 1) = pr cs k := by simp [pr]
    rw [e, e2, show (k + 1) * 2 = k * 2 + 1 + 1 by omega, show k * 2 + 1 + 1 + 1 = (k * 2 + 1) + 1 + 1 by omega]
    simpa using ih
theorem two_new (W : World) (x y : Value) : ∀ (j : Nat) (u : Value), [x, y][j]? = some u → (W.alloc (.cells #[x, y] 23)).cell? ((⟨W.heap.size, 0, none⟩ : Addr).add j) = some u := by
  intro j u hj
  match j, hj with
  | 0, hj => simp at hj; subst hj; simp [Addr.add]
  | 1, hj => simp at hj; subst hj; simp [Addr.add]
theorem prs_of_owns {W : World} {base : Nat} {v : Value} {cs : List Pr} (h : W.ownsRow base 23 2 v cs.length (flatP cs)) : Prs W.heap.size W v cs := by
  rcases h.2 with ⟨rfl, h0⟩ | ⟨g, cap, cur, rfl, hb, hg, r1, r2, r3, r4⟩
  · exact ⟨none, 0, by rw [h0], by omega, fun j hj => by omega⟩
  · refine ⟨_, cap, rfl, r1, fun j hj => ⟨g, 0, rfl, (Array.getElem?_eq_some_iff.1 hg).1, ?_⟩⟩
    obtain ⟨e1, e2⟩ := flatP_get cs j hj
    have h4 : ∀ i, i < cs.length * 2 → cur.toList[i]? = (flatP cs)[i]? := by
      intro i hi
      rw [← r4, List.getElem?_take_of_lt hi]
    rw [Nat.zero_add]
    simp only [World.cell?, hg]
    refine ⟨?_, ?_⟩
    · have := (h4 (j * 2) (by omega)).trans e1; simpa using this
    · have := (h4 (j * 2 + 1) (by omega)).trans e2; simpa using this
/-- a row of the call's own stays if its block stays -/
theorem own_keep {W W' : World} {base : Nat} {e : TypeId} {size n : Nat} {v : Value} {xs : List Value} (h : W.ownsRow base e size v n xs) (hs : ∀ j, v.ownBlock = some j → W'.heap[j]? = W.heap[j]?) : W'.ownsRow base e size v n xs := by
  refine ⟨h.1, ?_⟩
  rcases h.2 with ⟨rfl, h0⟩ | ⟨g, cap, cur, rfl, hb, hg, r1, r2, r3, r4⟩
  · exact .inl ⟨rfl, h0⟩
  · exact .inr ⟨g, cap, cur, rfl, hb, (hs g rfl).trans hg, r1, r2, r3, r4⟩
theorem setS_size (W : World) (B : Nat) (a b c d : Int) : (setS W B a b c d).heap.size = W.heap.size := by
  unfold setS
  simp
theorem setS_other (W : World) (B : Nat) (a b c d : Int) {k : Nat} (h : k ≠ B) : (setS W B a b c d).heap[k]? = W.heap[k]? := by
  unfold setS
  rw [Below.heap_setCell _ _ _ _ h, Below.heap_setCell _ _ _ _ h, Below.heap_setCell _ _ _ _ h, Below.heap_setCell _ _ _ _ h]
theorem setS_step {n : Nat} {W0 W W' : World} {B : Nat} {a b c d : Int} (h : Below n W0 W) (hn : n ≤ B) (hs : n ≤ W.heap.size) (hb : Below W.heap.size (setS W B a b c d) W') : Below n W0 W' := by
  refine Below.trans (b := setS W B a b c d) ?_ (hb.mono hs)
  unfold setS
  exact (((h.setCell hn _).setCell hn _).setCell hn _).setCell hn _
theorem SumsAt.step {W W' : World} {B : Nat} {free : Bool} {lift lo hi wd a b c d : Int} (h : SumsAt W B free lift lo hi wd) (hb : Below W.heap.size (setS W B a b c d) W') : SumsAt W' B free a b c d := by
  have z := h.lt
  have hz := hb.size
  rw [setS_size] at hz
  obtain ⟨-, k0, k1, k2, k3, k4, f1, f2, f3, f4⟩ := h
  refine ⟨by omega, (hb.cell (p := ⟨B, 0, none⟩) z).trans ?_, (hb.cell (p := ⟨B, 1, none⟩) z).trans ?_, (hb.cell (p := ⟨B, 2, none⟩) z).trans ?_, (hb.cell (p := ⟨B, 3, none⟩) z).trans ?_, (hb.cell (p := ⟨B, 4, none⟩) z).trans ?_,
    (hb.frozen (p := ⟨B, 1, none⟩) z).trans ?_, (hb.frozen (p := ⟨B, 2, none⟩) z).trans ?_, (hb.frozen (p := ⟨B, 3, none⟩) z).trans ?_, (hb.frozen (p := ⟨B, 4, none⟩) z).trans ?_⟩ <;> (unfold setS; simp [go_sem, *])
/-- what is laid below each element -/
def rowL (G : Nat → Pr) : Nat → List Pr
  | 0 => []
  | k + 1 => rowL G k ++ [G (k + 1)]
theorem rowL_len (G : Nat → Pr) : ∀ k, (rowL G k).length = k
  | 0 => rfl
  | k + 1 => by simp [rowL, rowL_len G k]
theorem rowL_get (G : Nat → Pr) : ∀ n k, k < n → pr (rowL G n) k = G (k + 1)
  | 0, k, h => by omega
  | n + 1, k, h => by
    unfold pr
    simp only [rowL]
    rcases Nat.lt_or_ge k n with g | g
    · rw [List.getElem?_append_left (by rw [rowL_len]; exact g)]
      exact rowL_get G n k g
    · obtain rfl : k = n := by omega
      rw [List.getElem?_append_right (by rw [rowL_len]; exact Nat.le_refl _), rowL_len]
      simp
def pulG (free : Bool) (zs : List El) (cs : List Pr) (k : Nat) : Pr := ⟨hLo free zs cs k, sHi zs cs k⟩
/-- the sums below the first k elements in memory -/
def RigAt (W : World) (B : Nat) (free : Bool) (zs : List El) (cs : List Pr) (k : Nat) : Prop := SumsAt W B free (lifTo zs k) (sLo zs cs k) (sHi zs cs k) (wid zs cs k)
theorem find_pull {zs : List El} {cs : List Pr} (h : Rig zs cs) (free : Bool) (B : Nat) {k : Nat} (hk : k ≤ zs.length) (w : World) (hS : RigAt w B free zs cs k) :
    Calls Try.prog 200 #[.pointer (some ⟨B, 0, none⟩)] w fun e w' => e = .returned (prv (pulG free zs cs k)) ∧ Below w.heap.size w w' := by
  have b := sums_bd h k hk
  have m := h.most
  exact pull_any B free _ _ _ _ (by omega) (by omega) (by omega) (by omega) w hS
theorem rig_add {zs : List El} {cs : List Pr} (h : Rig zs cs) (free : Bool) (B : Nat) {k : Nat} (hk : k < zs.length) (w : World) (hS : RigAt w B free zs cs k) :
    Calls Try.prog 199 #[.pointer (some ⟨B, 0, none⟩), elv (el zs k), prv (pr cs k)] w fun e w' => e = .returned (.tuple #[]) ∧ RigAt w' B free zs cs (k + 1) ∧
      Below w.heap.size (setS w B (lifTo zs (k + 1)) (sLo zs cs (k + 1)) (sHi zs cs (k + 1)) (wid zs cs (k + 1))) w' := by
  have b := sums_bd h k (by omega)
  have m := h.most
  have l := lif_bd h (k := k) (by omega)
  refine (add_any B free _ _ _ _ (el zs k) (pr cs k) (h.els k hk) (h.cur k hk) (by omega) (by omega) (by omega) w hS).mono ?_
  rintro e w' ⟨he, hb⟩
  exact ⟨he, SumsAt.step hS hb, hb⟩
end Go.Proofs.Ytdohfpnnmppdkaa.Moo
namespace Go.Proofs.Ytdohfpnnmppdkaa.Moo
open Go.RowKit Go.Shelf
set_option linter.unusedSimpArgs false
theorem own_below {W W' : World} {base : Nat} {e : TypeId} {size n : Nat} {v : Value} {xs : List Value} (h : W.ownsRow base e size v n xs) (hb : Below W.heap.size W W') : W'.ownsRow base e size v n xs :=
  own_keep h fun j hj => hb.block j (h.lt j hj).2
theorem own_step {W W' : World} {B : Nat} {a b c d : Int} {e : TypeId} {size n : Nat} {v : Value} {xs : List Value} (h : W.ownsRow (B + 1) e size v n xs) (hb : Below W.heap.size (setS W B a b c d) W') : W'.ownsRow (B + 1) e size v n xs :=
  own_keep h fun j hj => by
    have := h.lt j hj
    rw [hb.block j this.2, setS_other _ _ _ _ _ _ (by omega)]
theorem SumsAt.block {W W' : World} {B : Nat} {free : Bool} {a b c d : Int} (h : SumsAt W B free a b c d) (hs : W.heap.size ≤ W'.heap.size) (hb : W'.heap[B]? = W.heap[B]?) : SumsAt W' B free a b c d := by
  have ec : ∀ o, W'.cell? ⟨B, o, none⟩ = W.cell? ⟨B, o, none⟩ := fun o => by simp only [World.cell?, hb]
  have ef : ∀ o, W'.frozen? ⟨B, o, none⟩ = W.frozen? ⟨B, o, none⟩ := fun o => by simp only [World.frozen?, hb]
  obtain ⟨z, k0, k1, k2, k3, k4, f1, f2, f3, f4⟩ := h
  exact ⟨by omega, (ec 0).trans k0, (ec 1).trans k1, (ec 2).trans k2, (ec 3).trans k3, (ec 4).trans k4, (ef 1).trans f1, (ef 2).trans f2, (ef 3).trans f3, (ef 4).trans f4⟩
theorem setS_cell {W W' : World} {B : Nat} {a b c d : Int} (hb : Below W.heap.size (setS W B a b c d) W') {p : Addr} (h : p.block < W.heap.size) (hne : p.block ≠ B) : W'.cell? p = W.cell? p := by
  rw [hb.cell h]
  unfold World.cell?
  rw [setS_other _ _ _ _ _ _ hne]
theorem SumsAt.new (w : World) (o : Obj) (free : Bool) : SumsAt ((w.alloc o).alloc (.cells #[.bool free, .int .i64 0, .int .i64 0, .int .i64 0, .int .i64 0] 176)) (w.heap.size + 1) free 0 0 0 0 := by
  constructor <;> simp [go_sem]
end Go.Proofs.Ytdohfpnnmppdkaa.Moo
namespace Go.Proofs.Ytdohfpnnmppdkaa.Moo
open Go.RowKit Go.Shelf
set_option linter.unusedSimpArgs false
/-- the squares of the least and of the greatest tension below the first k elements -/
def leG (free : Bool) (zs : List El) (cs : List Pr) (k : Nat) : Int := hLo free zs cs k * hLo free zs cs k + lifTo zs k * lifTo zs k
def moG (zs : List El) (cs : List Pr) (k : Nat) : Int := sHi zs cs k * sHi zs cs k + lifTo zs k * lifTo zs k
/-- offset and rise of an element -/
noncomputable def offG (free : Bool) (zs : List El) (cs : List Pr) : Nat → Pr
  | 0 => ⟨0, 0⟩
  | k + 1 => ⟨(el zs k).len * hLo free zs cs (k + 1) / isqUp (leG free zs cs (k + 1)),
      min (((el zs k).len * sHi zs cs (k + 1) + isq (moG zs cs (k + 1)) - 1) / isq (moG zs cs (k + 1))) (el zs k).len⟩
noncomputable def risG (free : Bool) (zs : List El) (cs : List Pr) : Nat → Pr
  | 0 => ⟨0, 0⟩
  | k + 1 => ⟨(el zs k).len * lifTo zs (k + 1) / isqUp (moG zs cs (k + 1)),
      min (((el zs k).len * lifTo zs (k + 1) + isq (leG free zs cs (k + 1)) - 1) / isq (leG free zs cs (k + 1))) (el zs k).len⟩
def lenTo (zs : List El) : Nat → Int
  | 0 => 0
  | k + 1 => lenTo zs k + (el zs k).len
theorem lenTo_bd {zs : List El} {cs : List Pr} (h : Rig zs cs) : ∀ k, k ≤ zs.length → 0 ≤ lenTo zs k ∧ lenTo zs k ≤ 1048576 * (k : Int)
  | 0, _ => by simp [lenTo]
  | k + 1, hk => by
    have ih := lenTo_bd h k (by omega)
    have := ((vE_iff _).1 (h.els k (by omega))).1
    simp only [lenTo]
    omega
structure ShapeAt (W : World) (B : Nat) (free : Bool) (zs : List El) (cs : List Pr) (j : Nat) (L : Int) (vo vr : Value) (m n : Nat) : Prop where
  rig : RigAt W B free zs cs j
  c5 : W.cell? ⟨B, 5, none⟩ = some (.int .i64 L)
  c6 : W.cell? ⟨B, 6, none⟩ = some vo
  c7 : W.cell? ⟨B, 7, none⟩ = some vr
  f5 : W.frozen? ⟨B, 5, none⟩ = false
  f6 : W.frozen? ⟨B, 6, none⟩ = false
  f7 : W.frozen? ⟨B, 7, none⟩ = false
  ro : W.ownsRow (B + 1) 23 2 vo m (flatP (rowL (offG free zs cs) m))
  rr : W.ownsRow (B + 1) 23 2 vr n (flatP (rowL (risG free zs cs) n))
  dist : vo.ownBlock = none ∨ vo.ownBlock ≠ vr.ownBlock
theorem ShapeAt.at {W W' : World} {B : Nat} {free : Bool} {zs : List El} {cs : List Pr} {j : Nat} {L : Int} {vo vr : Value} {m n : Nat} (h : ShapeAt W B free zs cs j L vo vr m n) (hb : Below W.heap.size W W') : ShapeAt W' B free zs cs j L vo vr m n := by
  have z := h.rig.lt
  obtain ⟨r, c5, c6, c7, f5, f6, f7, ro, rr, d⟩ := h
  exact ⟨SumsAt.at r hb, (hb.cell (p := ⟨B, 5, none⟩) z).trans c5, (hb.cell (p := ⟨B, 6, none⟩) z).trans c6, (hb.cell (p := ⟨B, 7, none⟩) z).trans c7,
    (hb.frozen (p := ⟨B, 5, none⟩) z).trans f5, (hb.frozen (p := ⟨B, 6, none⟩) z).trans f6, (hb.frozen (p := ⟨B, 7, none⟩) z).trans f7, own_below ro hb, own_below rr hb, d⟩
theorem ShapeAt.add {W W' : World} {B : Nat} {free : Bool} {zs : List El} {cs : List Pr} {j : Nat} {L : Int} {vo vr : Value} {m n : Nat} {a b c d : Int} (h : ShapeAt W B free zs cs j L vo vr m n)
    (hr : RigAt W' B free zs cs (j + 1)) (hb : Below W.heap.size (setS W B a b c d) W') : ShapeAt W' B free zs cs (j + 1) L vo vr m n := by
  have z := h.rig.lt
  obtain ⟨r, c5, c6, c7, f5, f6, f7, ro, rr, dd⟩ := h
  have ec : ∀ o, 5 ≤ o → W'.cell? ⟨B, o, none⟩ = W.cell? ⟨B, o, none⟩ := fun o ho => by
    rw [hb.cell (p := ⟨B, o, none⟩) z]
    unfold setS
    rw [World.cell?_setCell_other _ _ _ _ (by first | (simp; done) | (simp; omega)), World.cell?_setCell_other _ _ _ _ (by first | (simp; done) | (simp; omega)), World.cell?_setCell_other _ _ _ _ (by first | (simp; done) | (simp; omega)), World.cell?_setCell_other _ _ _ _ (by first | (simp; done) | (simp; omega))]
  have ef : ∀ o, W'.frozen? ⟨B, o, none⟩ = W.frozen? ⟨B, o, none⟩ := fun o => by
    rw [hb.frozen (p := ⟨B, o, none⟩) z]
    unfold setS
    simp [go_sem]
  exact ⟨hr, (ec 5 (by omega)).trans c5, (ec 6 (by omega)).trans c6, (ec 7 (by omega)).trans c7, (ef 5).trans f5, (ef 6).trans f6, (ef 7).trans f7, own_step ro hb, own_step rr hb, dd⟩
theorem own_set {W : World} {B o : Nat} {u : Value} {e : TypeId} {size n : Nat} {v : Value} {xs : List Value} (h : W.ownsRow (B + 1) e size v n xs) : (W.setCell ⟨B, o, none⟩ u).ownsRow (B + 1) e size v n xs :=
  own_keep h fun j hj => Below.heap_setCell _ _ _ _ (by have := (h.lt j hj).1; simp; omega)
theorem SumsAt.set {W : World} {B o : Nat} {u : Value} {free : Bool} {a b c d : Int} (h : SumsAt W B free a b c d) (ho : 5 ≤ o) : SumsAt (W.setCell ⟨B, o, none⟩ u) B free a b c d := by
  obtain ⟨z, k0, k1, k2, k3, k4, f1, f2, f3, f4⟩ := h
  refine ⟨by simpa using z, ?_, ?_, ?_, ?_, ?_, ?_, ?_, ?_, ?_⟩
  · rw [World.cell?_setCell_other _ _ _ _ (by first | (simp; done) | (simp; omega))]; exact k0
  · rw [World.cell?_setCell_other _ _ _ _ (by first | (simp; done) | (simp; omega))]; exact k1
  · rw [World.cell?_setCell_other _ _ _ _ (by first | (simp; done) | (simp; omega))]; exact k2
  · rw [World.cell?_setCell_other _ _ _ _ (by first | (simp; done) | (simp; omega))]; exact k3
  · rw [World.cell?_setCell_other _ _ _ _ (by first | (simp; done) | (simp; omega))]; exact k4
  · simpa [go_sem] using f1
  · simpa [go_sem] using f2
  · simpa [go_sem] using f3
  · simpa [go_sem] using f4
theorem ShapeAt.len {W : World} {B : Nat} {free : Bool} {zs : List El} {cs : List Pr} {j : Nat} {L L' : Int} {vo vr : Value} {m n : Nat} (h : ShapeAt W B free zs cs j L vo vr m n) : ShapeAt (W.setCell ⟨B, 5, none⟩ (.int .i64 L')) B free zs cs j L' vo vr m n := by
  have z := h.rig.lt
  obtain ⟨r, c5, c6, c7, f5, f6, f7, ro, rr, d⟩ := h
  exact ⟨SumsAt.set r (by decide), by simp [go_sem, *], by simp [go_sem, *], by simp [go_sem, *], by simpa [go_sem] using f5, by simpa [go_sem] using f6, by simpa [go_sem] using f7, own_set ro, own_set rr, d⟩
theorem ShapeAt.offs {W W3 : World} {B : Nat} {free : Bool} {zs : List El} {cs : List Pr} {j : Nat} {L : Int} {vo vr : Value} {m n g cap : Nat} (h : ShapeAt W B free zs cs j L vo vr m n)
    (hown : W3.ownsRow (B + 1) 23 2 (.slice (some ⟨g, 0, none⟩) (m + 1) cap) (m + 1) (flatP (rowL (offG free zs cs) (m + 1)))) (hgrow : W.grownBy W3 vo.ownBlock) (hat : vo.ownBlock = some g ∨ g = W.heap.size) :
    ShapeAt (W3.setCell ⟨B, 6, none⟩ (.slice (some ⟨g, 0, none⟩) (m + 1) cap)) B free zs cs j L (.slice (some ⟨g, 0, none⟩) (m + 1) cap) vr (m + 1) n := by
  have z := h.rig.lt
  obtain ⟨r, c5, c6, c7, f5, f6, f7, ro, rr, d⟩ := h
  have hB : vo.ownBlock ≠ some B := fun e => by have := (ro.lt _ e).1; omega
  have hblk : W3.heap[B]? = W.heap[B]? := hgrow.block B z (fun e => hB e.symm)
  have ec : ∀ o, W3.cell? ⟨B, o, none⟩ = W.cell? ⟨B, o, none⟩ := fun o => by simp only [World.cell?, hblk]
  have ef : ∀ o, W3.frozen? ⟨B, o, none⟩ = W.frozen? ⟨B, o, none⟩ := fun o => by simp only [World.frozen?, hblk]
  have r3 : RigAt W3 B free zs cs j := SumsAt.block r hgrow.size hblk
  have rr3 := rr.kept hgrow (by rcases d with d | d <;> rcases hv : vr.ownBlock with _ | q <;> first | exact .inl rfl | exact .inr (by rw [d]; simp) | exact .inr (by rw [← hv]; exact fun e => d e.symm))
  refine ⟨SumsAt.set r3 (by decide), ?_, ?_, ?_, ?_, ?_, ?_, own_set hown, own_set rr3, ?_⟩
  · rw [World.cell?_setCell_other _ _ _ _ (by simp)]; exact (ec 5).trans c5
  · have := (ec 6).trans c6
    simp [go_sem, this]
  · rw [World.cell?_setCell_other _ _ _ _ (by simp)]; exact (ec 7).trans c7
  · simpa [go_sem] using (ef 5).trans f5
  · simpa [go_sem] using (ef 6).trans f6
  · simpa [go_sem] using (ef 7).trans f7
  · right
    show some g ≠ vr.ownBlock
    rcases hat with e | e
    · rw [← e]
      rcases d with d | d
      · rw [d] at e; cases e
      · exact d
    · subst e
      intro k
      have := (rr.lt _ k.symm).2
      omega
theorem ShapeAt.riss {W W3 : World} {B : Nat} {free : Bool} {zs : List El} {cs : List Pr} {j : Nat} {L : Int} {vo vr : Value} {m n g cap : Nat} (h : ShapeAt W B free zs cs j L vo vr m n)
    (hown : W3.ownsRow (B + 1) 23 2 (.slice (some ⟨g, 0, none⟩) (n + 1) cap) (n + 1) (flatP (rowL (risG free zs cs) (n + 1)))) (hgrow : W.grownBy W3 vr.ownBlock) (hat : vr.ownBlock = some g ∨ g = W.heap.size) :
    ShapeAt (W3.setCell ⟨B, 7, none⟩ (.slice (some ⟨g, 0, none⟩) (n + 1) cap)) B free zs cs j L vo (.slice (some ⟨g, 0, none⟩) (n + 1) cap) m (n + 1) := by
  have z := h.rig.lt
  obtain ⟨r, c5, c6, c7, f5, f6, f7, ro, rr, d⟩ := h
  have hB : vr.ownBlock ≠ some B := fun e => by have := (rr.lt _ e).1; omega
  have hblk : W3.heap[B]? = W.heap[B]? := hgrow.block B z (fun e => hB e.symm)
  have ec : ∀ o, W3.cell? ⟨B, o, none⟩ = W.cell? ⟨B, o, none⟩ := fun o => by simp only [World.cell?, hblk]
  have ef : ∀ o, W3.frozen? ⟨B, o, none⟩ = W.frozen? ⟨B, o, none⟩ := fun o => by simp only [World.frozen?, hblk]
  have r3 : RigAt W3 B free zs cs j := SumsAt.block r hgrow.size hblk
  have ro3 := ro.kept hgrow d
  refine ⟨SumsAt.set r3 (by decide), ?_, ?_, ?_, ?_, ?_, ?_, own_set ro3, own_set hown, ?_⟩
  · rw [World.cell?_setCell_other _ _ _ _ (by simp)]; exact (ec 5).trans c5
  · rw [World.cell?_setCell_other _ _ _ _ (by simp)]; exact (ec 6).trans c6
  · have := (ec 7).trans c7
    simp [go_sem, this]
  · simpa [go_sem] using (ef 5).trans f5
  · simpa [go_sem] using (ef 6).trans f6
  · simpa [go_sem] using (ef 7).trans f7
  · rcases hat with e | e
    · rw [show (Value.slice (some ⟨g, 0, none⟩) (n + 1) cap).ownBlock = some g from rfl, ← e]
      exact d
    · subst e
      right
      intro k
      have := (ro.lt W.heap.size k).2
      omega
theorem isq_pos {x : Int} (h : 1 ≤ x) : 1 ≤ isq x := by
  obtain ⟨a, b, c⟩ := isq_spec (x := x) (by omega)
  rcases Int.lt_or_le (isq x) 1 with hl | hl
  · have e : isq x = 0 := by omega
    rw [e] at c
    omega
  · exact hl
end Go.Proofs.Ytdohfpnnmppdkaa.Moo
namespace Go.Proofs.Ytdohfpnnmppdkaa.Moo
open Go.RowKit Go.Shelf
set_option linter.unusedSimpArgs false
def totLo (cs : List Pr) : Nat → Int
  | 0 => 0
  | k + 1 => totLo cs k + (pr cs k).lo
def totHi (cs : List Pr) : Nat → Int
  | 0 => 0
  | k + 1 => totHi cs k + (pr cs k).hi
theorem tot_bd {cs : List Pr} {m : Int} (hm : 0 ≤ m) (h : ∀ k, k < cs.length → 0 ≤ (pr cs k).lo ∧ (pr cs k).lo ≤ m ∧ 0 ≤ (pr cs k).hi ∧ (pr cs k).hi ≤ m) : ∀ k, k ≤ cs.length → 0 ≤ totLo cs k ∧ totLo cs k ≤ m * (k : Int) ∧ 0 ≤ totHi cs k ∧ totHi cs k ≤ m * (k : Int)
  | 0, _ => by simp [totLo, totHi]
  | k + 1, hk => by
    have ih := tot_bd hm h k (by omega)
    have := h k (by omega)
    have e : m * ((k + 1 : Nat) : Int) = m * (k : Int) + m := by rw [Int.natCast_add, Int.mul_add]; simp
    simp only [totLo, totHi]
    rw [e]
    omega
set_option maxRecDepth 10000 in
set_option maxHeartbeats 4000000 in
theorem total_any (cv : Value) (cs : List Pr) (hl : cs.length ≤ 40) (h : ∀ k, k < cs.length → 0 ≤ (pr cs k).lo ∧ (pr cs k).lo ≤ 1048576 ∧ 0 ≤ (pr cs k).hi ∧ (pr cs k).hi ≤ 1048576) (w : World) (hC : Prs w.heap.size w cv cs) :
    Calls Try.prog 133 #[cv] w fun e w' => e = .returned (.agg #[.int .i64 (totLo cs cs.length), .int .i64 (totHi cs cs.length)]) ∧ Below w.heap.size w w' := by
  obtain ⟨c, cap2, rfl, -, hcur⟩ := hC
  have HU := Lib.hid hcur
  have HD := Lib.hid (tot_bd (m := 1048576) (by decide) h)
  have HT := Lib.hid h
  clear hcur h
  generalize cs.length = len at *
  go_enter Try.func133, Try.ntmps133
  go_wp2_with fail
  go_loopw [8] (fun i wr => ∃ k : Nat, k ≤ len ∧ i = .int .i64 k ∧ wr.cell? ⟨w.heap.size + 1, 0, none⟩ = some (.int .i64 (totLo cs k)) ∧ wr.cell? ⟨w.heap.size + 1, 1, none⟩ = some (.int .i64 (totHi cs k)) ∧ wr.frozen? ⟨w.heap.size + 1, 0, none⟩ = false ∧ wr.frozen? ⟨w.heap.size + 1, 1, none⟩ = false ∧ wr.cell? ⟨w.heap.size, 0, none⟩ = some (.int .i64 0) ∧ wr.cell? ⟨w.heap.size, 1, none⟩ = some (.int .i64 0) ∧ wr.frozen? ⟨w.heap.size, 0, none⟩ = false ∧ wr.frozen? ⟨w.heap.size, 1, none⟩ = false ∧ w.heap.size + 2 ≤ wr.heap.size ∧ Below w.heap.size w wr) (fun i _ => len - (intOf i).toNat)
  case atStart => exact ⟨0, Nat.zero_le _, rfl, by simp [go_sem, totLo], by simp [go_sem, totHi], by simp [go_sem], by simp [go_sem], by simp [go_sem], by simp [go_sem], by simp [go_sem], by simp [go_sem], by simp, ((Below.refl _ _).alloc (Nat.le_refl _) _).alloc (by simp) _⟩
  case round =>
    obtain ⟨k, hk, rfl, t0, t1, f0, f1, r0, r1, g0, g1, hz, hB⟩ := hrel
    by_cases hlt : k < len
    · obtain ⟨b2, off2, rfl, hb2, u0, u1⟩ := HU.out k hlt
      have hbd := HD.out k (by omega)
      have hxx := HT.out k hlt
      have HL := Lib.hid (show totLo cs (k + 1) = totLo cs k + (pr cs k).lo from rfl)
      have HH := Lib.hid (show totHi cs (k + 1) = totHi cs k + (pr cs k).hi from rfl)
      generalize pr cs k = y at *
      obtain ⟨y0, y1⟩ := y
      dsimp only at *
      generalize totLo cs k = tl at *
      generalize totHi cs k = th at *
      have n0 := (hB.cell (p := ⟨b2, off2 + k * 2, none⟩) hb2).trans u0
      have n1 := (hB.cell (p := ⟨b2, off2 + k * 2 + 1, none⟩) hb2).trans u1
      clear u0 u1
      have W1 : IntKind.i64.wrap (tl + y0) = tl + y0 := by rw [IntKind.wrap_i64]; omega
      have W2 : IntKind.i64.wrap (th + y1) = th + y1 := by rw [IntKind.wrap_i64]; omega
      have z1 : w.heap.size < wr.heap.size := by omega
      have z2 : w.heap.size + 1 < wr.heap.size := by omega
      have q1 : ¬ wr.heap.size = w.heap.size := by omega
      have q2 : ¬ w.heap.size = wr.heap.size := by omega
      have q3 : ¬ wr.heap.size = w.heap.size + 1 := by omega
      have q4 : ¬ w.heap.size + 1 = wr.heap.size := by omega
      go_wp2_with fail
      go_region
      go_wp2_with fail
      go_roundw
      case rel => exact ⟨k + 1, by omega, by go_num, by rw [HL.out]; simp [go_sem, *], by rw [HH.out]; simp [go_sem, *], by simp [go_sem, *], by simp [go_sem, *], by simp [go_sem, *], by simp [go_sem, *], by simp [go_sem, *], by simp [go_sem, *], by simp; omega, by repeat (first | exact hB | refine Below.drew ?_ | refine Below.setCell ?_ (by simp) _ | refine Below.alloc ?_ (by first | omega | (simp; omega)) _)⟩
      case measure => simp [intOf]; omega
    · obtain rfl : k = len := by omega
      have z1 : w.heap.size < wr.heap.size := by omega
      go_wp2_with fail
      refine bodyPost_ret (v := .agg #[.int .i64 (totLo cs k), .int .i64 (totHi cs k)]) (by simp [results, Try.results133, go_sem, *]) rfl ⟨rfl, ?_⟩
      repeat (first | exact hB | refine Below.setCell ?_ (by simp) _)
end Go.Proofs.Ytdohfpnnmppdkaa.Moo
namespace Go.Proofs.Ytdohfpnnmppdkaa.Moo
open Go.RowKit Go.Shelf
set_option linter.unusedSimpArgs false
theorem isq_mono {x y : Int} (h0 : 0 ≤ x) (h : x ≤ y) : isq x ≤ isq y := by
  obtain ⟨a, b, c⟩ := isq_spec h0
  obtain ⟨d, e, f⟩ := isq_spec (x := y) (by omega)
  rcases Int.lt_or_le (isq y) (isq x) with hl | hl
  · have := sq_mono (a := isq y + 1) (b := isq x) (by omega) (by omega); omega
  · exact hl
theorem isqUp_ge {x : Int} (h0 : 0 ≤ x) : isq x ≤ isqUp x ∧ x ≤ isqUp x * isqUp x := by
  obtain ⟨a, b, c⟩ := isq_spec h0
  unfold isqUp
  split
  · exact ⟨by omega, by omega⟩
  · exact ⟨by omega, by omega⟩
theorem le_isqUp {x v : Int} (hv : 0 ≤ v) (h : v * v ≤ x) : v ≤ isqUp x := by
  have h0 : 0 ≤ x := by have := Int.mul_nonneg hv hv; omega
  have g := (isqUp_ge h0).2
  have g2 := (isqUp_ge h0).1
  have g3 := (isq_spec h0).1
  exact sq_le_of (by omega) (by omega)
theorem div_le_len {X v m : Int} (hX : 0 ≤ X) (hv : 0 ≤ v) (hm : v ≤ m) (hp : 1 ≤ m) : 0 ≤ X * v / m ∧ X * v / m ≤ X := by
  have h1 : X * v ≤ X * m := Int.mul_le_mul_of_nonneg_left hm hX
  refine ⟨Int.ediv_nonneg (Int.mul_nonneg hX hv) (by omega), ?_⟩
  have := Int.ediv_le_ediv (by omega : 0 < m) h1
  rwa [Int.mul_ediv_cancel _ (by omega)] at this
theorem div_le_up {n s m : Int} (hn : 0 ≤ n) (hs : 1 ≤ s) (hm : s ≤ m) : n / m ≤ (n + s - 1) / s := by
  have h1 : n / m ≤ n / s := by
    have a : n / m * s ≤ n / m * m := Int.mul_le_mul_of_nonneg_left hm (Int.ediv_nonneg hn (by omega))
    have b : n / m * m ≤ n := Int.ediv_mul_le _ (by omega)
    exact Int.le_ediv_of_mul_le (by omega) (by omega)
  have h2 : n / s ≤ (n + s - 1) / s := Int.ediv_le_ediv (by omega) (by omega)
  omega
theorem le_pos {zs : List El} {cs : List Pr} (h : Rig zs cs) (hst : ∀ k, k < zs.length → 1 ≤ lifTo zs (k + 1)) (free : Bool) {k : Nat} (hk : k < zs.length) :
    lifTo zs (k + 1) * lifTo zs (k + 1) ≤ leG free zs cs (k + 1) ∧ leG free zs cs (k + 1) ≤ moG zs cs (k + 1) ∧ 1 ≤ leG free zs cs (k + 1) ∧ hLo free zs cs (k + 1) * hLo free zs cs (k + 1) ≤ leG free zs cs (k + 1) := by
  have p := pull_bd h free (k := k + 1) (by omega)
  have v1 := hst k hk
  have a := Int.mul_nonneg p.1 p.1
  have b := sq_mono p.1 p.2.2.1
  have c : 1 ≤ lifTo zs (k + 1) * lifTo zs (k + 1) := by have := Int.mul_le_mul v1 v1 (by decide) (by omega); simpa using this
  unfold leG moG
  omega
theorem ris_bd {zs : List El} {cs : List Pr} (h : Rig zs cs) (hst : ∀ k, k < zs.length → 1 ≤ lifTo zs (k + 1)) (free : Bool) {k : Nat} (hk : k < zs.length) :
    0 ≤ (risG free zs cs (k + 1)).lo ∧ (risG free zs cs (k + 1)).lo ≤ (risG free zs cs (k + 1)).hi ∧ (risG free zs cs (k + 1)).hi ≤ (el zs k).len ∧ (el zs k).len ≤ 1048576 := by
  have hx := ((vE_iff _).1 (h.els k hk)).1
  obtain ⟨a, b, c, d⟩ := le_pos h hst free hk
  have v1 := hst k hk
  have s1 := isq_pos c
  have s2 : isq (leG free zs cs (k + 1)) ≤ isqUp (moG zs cs (k + 1)) := Int.le_trans (isq_mono (by omega) b) (isqUp_ge (by omega)).1
  have s3 : lifTo zs (k + 1) ≤ isqUp (moG zs cs (k + 1)) := le_isqUp (by omega) (by omega)
  obtain ⟨t1, t2⟩ := div_le_len hx.1 (v := lifTo zs (k + 1)) (by omega) s3 (by omega)
  have t3 := div_le_up (n := (el zs k).len * lifTo zs (k + 1)) (Int.mul_nonneg hx.1 (by omega)) s1 s2
  simp only [risG]
  omega
/-- the sums of the rises of the first k elements -/
theorem tot_mono {cs : List Pr} (h : ∀ k, k < cs.length → (pr cs k).lo ≤ (pr cs k).hi) : ∀ k, k ≤ cs.length → totLo cs k ≤ totHi cs k
  | 0, _ => by simp [totLo, totHi]
  | k + 1, hk => by
    have ih := tot_mono h k (by omega)
    have := h k (by omega)
    simp only [totLo, totHi]
    omega
noncomputable def rises (free : Bool) (zs : List El) (cs : List Pr) : List Pr := rowL (risG free zs cs) zs.length
noncomputable def offsets (free : Bool) (zs : List El) (cs : List Pr) : List Pr := rowL (offG free zs cs) zs.length
theorem rises_bd {zs : List El} {cs : List Pr} (h : Rig zs cs) (hst : ∀ k, k < zs.length → 1 ≤ lifTo zs (k + 1)) (free : Bool) : ∀ k, k < (rises free zs cs).length → 0 ≤ (pr (rises free zs cs) k).lo ∧ (pr (rises free zs cs) k).lo ≤ 1048576 ∧ 0 ≤ (pr (rises free zs cs) k).hi ∧ (pr (rises free zs cs) k).hi ≤ 1048576 := by
  intro k hk
  unfold rises at *
  rw [rowL_len] at hk
  rw [rowL_get _ _ _ hk]
  have := ris_bd h hst free hk
  omega
theorem rises_tot {zs : List El} {cs : List Pr} (h : Rig zs cs) (hst : ∀ k, k < zs.length → 1 ≤ lifTo zs (k + 1)) (free : Bool) :
    0 ≤ totLo (rises free zs cs) zs.length ∧ totLo (rises free zs cs) zs.length ≤ totHi (rises free zs cs) zs.length ∧ totHi (rises free zs cs) zs.length ≤ 41943040 := by
  have hl : (rises free zs cs).length = zs.length := by unfold rises; rw [rowL_len]
  have a := tot_bd (m := 1048576) (by decide) (rises_bd h hst free) zs.length (by omega)
  have b := tot_mono (cs := rises free zs cs) (fun k hk => by
    unfold rises at *
    rw [rowL_len] at hk
    rw [rowL_get _ _ _ hk]
    have := ris_bd h hst free hk
    omega) zs.length (by omega)
  have := h.most
  omega
end Go.Proofs.Ytdohfpnnmppdkaa.Moo

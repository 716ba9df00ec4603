/-
  shapeOf.
-/
import Derived.Test.YthogahdnidjelaaLay
import Derived.Test.YthogahdnidjelaaCur
import Derived.StillTailTactics
namespace Go.Proofs.Ythogahdnidjelaa
open Go.RowKit Go.Shelf
set_option linter.unusedSimpArgs false
/-- what shapeOf returns: a value that bears these offsets and rises -/
def IsShape (W : World) (v : Value) (free : Bool) (zs : List El) (cs : List Pr) : Prop :=
  ∃ lift lo hi wd vo vr, v = .agg #[.bool free, .int .i64 lift, .int .i64 lo, .int .i64 hi, .int .i64 wd, .int .i64 (lenTo zs zs.length), vo, vr] ∧
    Prs W.heap.size W vo (rowL (offG free zs cs) zs.length) ∧ Prs W.heap.size W vr (rowL (risG free zs cs) zs.length)
theorem IsShape.mk {W : World} {v : Value} {free : Bool} {zs : List El} {cs : List Pr} (lift lo hi wd : Int) (vo vr : Value) (h1 : v = .agg #[.bool free, .int .i64 lift, .int .i64 lo, .int .i64 hi, .int .i64 wd, .int .i64 (lenTo zs zs.length), vo, vr])
    (h2 : Prs W.heap.size W vo (rowL (offG free zs cs) zs.length)) (h3 : Prs W.heap.size W vr (rowL (risG free zs cs) zs.length)) : IsShape W v free zs cs := ⟨lift, lo, hi, wd, vo, vr, h1, h2, h3⟩
def shape0 : Value := .agg #[.bool false, .int .i64 0, .int .i64 0, .int .i64 0, .int .i64 0, .int .i64 0, .slice none 0 0, .slice none 0 0]
theorem own_low {W : World} {b o : Nat} {u : Value} {base : Nat} {e : TypeId} {size n : Nat} {v : Value} {xs : List Value} (h : W.ownsRow base e size v n xs) (hlt : b < base) : (W.setCell ⟨b, o, none⟩ u).ownsRow base e size v n xs :=
  own_keep h fun j hj => Below.heap_setCell _ _ _ _ (by have := (h.lt j hj).1; show j ≠ b; omega)
theorem ShapeAt.new (w : World) (free : Bool) (zs : List El) (cs : List Pr) : ShapeAt (w.alloc (.cells #[.bool free, .int .i64 0, .int .i64 0, .int .i64 0, .int .i64 0, .int .i64 0, .slice none 0 0, .slice none 0 0] 102)) w.heap.size free zs cs 0 0 (.slice none 0 0) (.slice none 0 0) 0 0 := by
  refine ⟨by constructor <;> simp [go_sem, lifTo, sLo, sHi, wid], by simp [go_sem], by simp [go_sem], by simp [go_sem], by simp [go_sem], by simp [go_sem], by simp [go_sem], World.ownsRow_nil _ _ _ _, World.ownsRow_nil _ _ _ _, .inl rfl⟩
set_option maxRecDepth 100000 in
set_option maxHeartbeats 8000000 in
theorem shapeOf_any (d an fr : Int) (sv cv : Value) (zs : List El) (cs : List Pr) (free : Bool) (w : World) (hI : Els w.heap.size w sv zs) (hC : Prs w.heap.size w cv cs) :
    Calls Try.prog 69 #[.agg #[.int .i64 d, sv, .int .i64 an, .int .i64 fr], cv, .bool free] w fun e w' => ∃ v, e = .returned (.tuple #[v, .int .i64 (staE d zs an fr cs)]) ∧
      (staE d zs an fr cs = 0 → IsShape w' v free zs cs) ∧ (staE d zs an fr cs ≠ 0 → v = shape0) ∧ Below w.heap.size w w' := by
  have c1 := fun w' (hb : Below w.heap.size w w') => checkStanding_any d an fr sv cv zs cs w' (hI.at hb) (hC.at hb)
  have HOK := Lib.hid (fun (h : staE d zs an fr cs = 0) => staE_ok h)
  obtain ⟨a, cap, rfl, -, hcell⟩ := hI
  obtain ⟨c, cap2, rfl, -, hcur⟩ := hC
  have HC := Lib.hid hcell
  have HU := Lib.hid hcur
  clear hcell hcur
  generalize staE d zs an fr cs = E at *
  by_cases hE : E = 0
  rotate_left
  · clear HOK HC HU
    generalize zs.length = len at *
    generalize cs.length = len2 at *
    have HE := Lib.hid hE
    have hbq : (E != 0) = true := by simpa using hE
    clear hE
    go_enter Try.func69, Try.ntmps69
    go_wp2_with fail
    refine (c1 _ (by repeat (first | exact Below.refl _ _ | refine Below.alloc ?_ (by first | omega | (simp; done) | (simp; omega)) _))).mono ?_
    rintro e w1 ⟨rfl, hb⟩
    obtain ⟨hc, hf⟩ := bcell hb
    have hz := hb.size
    simp only [World.size_alloc] at hz
    have k0 : w1.cell? ⟨w.heap.size + 1, 0, none⟩ = some (.bool false) := by rw [hc _ _ (by first | omega | (simp; done) | (simp; omega))]; simp [go_sem]
    have f0 : w1.frozen? ⟨w.heap.size + 1, 0, none⟩ = false := by rw [hf _ _ (by first | omega | (simp; done) | (simp; omega))]; simp [go_sem]
    have k1 : w1.cell? ⟨w.heap.size + 1, 1, none⟩ = some (.int .i64 0) := by rw [hc _ _ (by first | omega | (simp; done) | (simp; omega))]; simp [go_sem]
    have f1 : w1.frozen? ⟨w.heap.size + 1, 1, none⟩ = false := by rw [hf _ _ (by first | omega | (simp; done) | (simp; omega))]; simp [go_sem]
    have k2 : w1.cell? ⟨w.heap.size + 1, 2, none⟩ = some (.int .i64 0) := by rw [hc _ _ (by first | omega | (simp; done) | (simp; omega))]; simp [go_sem]
    have f2 : w1.frozen? ⟨w.heap.size + 1, 2, none⟩ = false := by rw [hf _ _ (by first | omega | (simp; done) | (simp; omega))]; simp [go_sem]
    have k3 : w1.cell? ⟨w.heap.size + 1, 3, none⟩ = some (.int .i64 0) := by rw [hc _ _ (by first | omega | (simp; done) | (simp; omega))]; simp [go_sem]
    have f3 : w1.frozen? ⟨w.heap.size + 1, 3, none⟩ = false := by rw [hf _ _ (by first | omega | (simp; done) | (simp; omega))]; simp [go_sem]
    have k4 : w1.cell? ⟨w.heap.size + 1, 4, none⟩ = some (.int .i64 0) := by rw [hc _ _ (by first | omega | (simp; done) | (simp; omega))]; simp [go_sem]
    have f4 : w1.frozen? ⟨w.heap.size + 1, 4, none⟩ = false := by rw [hf _ _ (by first | omega | (simp; done) | (simp; omega))]; simp [go_sem]
    have k5 : w1.cell? ⟨w.heap.size + 1, 5, none⟩ = some (.int .i64 0) := by rw [hc _ _ (by first | omega | (simp; done) | (simp; omega))]; simp [go_sem]
    have f5 : w1.frozen? ⟨w.heap.size + 1, 5, none⟩ = false := by rw [hf _ _ (by first | omega | (simp; done) | (simp; omega))]; simp [go_sem]
    have k6 : w1.cell? ⟨w.heap.size + 1, 6, none⟩ = some (.slice none 0 0) := by rw [hc _ _ (by first | omega | (simp; done) | (simp; omega))]; simp [go_sem]
    have f6 : w1.frozen? ⟨w.heap.size + 1, 6, none⟩ = false := by rw [hf _ _ (by first | omega | (simp; done) | (simp; omega))]; simp [go_sem]
    have k7 : w1.cell? ⟨w.heap.size + 1, 7, none⟩ = some (.slice none 0 0) := by rw [hc _ _ (by first | omega | (simp; done) | (simp; omega))]; simp [go_sem]
    have f7 : w1.frozen? ⟨w.heap.size + 1, 7, none⟩ = false := by rw [hf _ _ (by first | omega | (simp; done) | (simp; omega))]; simp [go_sem]
    have hB1 : Below w.heap.size w w1 := by repeat (first | exact Below.refl _ _ | refine Below.alloc ?_ (by first | omega | (simp; done) | (simp; omega)) _ | refine chainB (by assumption) ?_)
    have HB := Lib.hid hB1
    clear hc hf hb hB1 c1
    go_wp2_with fail
    have hfin : Below w.heap.size w ((((((((w1.setCell ⟨w.heap.size + 1, 0, none⟩ (.bool false)).setCell ⟨w.heap.size + 1, 1, none⟩ (.int .i64 0)).setCell ⟨w.heap.size + 1, 2, none⟩ (.int .i64 0)).setCell ⟨w.heap.size + 1, 3, none⟩ (.int .i64 0)).setCell ⟨w.heap.size + 1, 4, none⟩ (.int .i64 0)).setCell ⟨w.heap.size + 1, 5, none⟩ (.int .i64 0)).setCell ⟨w.heap.size + 1, 6, none⟩ (.slice none 0 0)).setCell ⟨w.heap.size + 1, 7, none⟩ (.slice none 0 0)) :=
      Below.setCell (Below.setCell (Below.setCell (Below.setCell (Below.setCell (Below.setCell (Below.setCell (Below.setCell HB.out (by simp) _) (by simp) _) (by simp) _) (by simp) _) (by simp) _) (by simp) _) (by simp) _) (by simp) _
    refine bodyPost_ret (v := .tuple #[shape0, .int .i64 E]) ?_ rfl ⟨shape0, rfl, fun h => absurd h HE.out, fun _ => rfl, hfin⟩
    unfold shape0
    clear hfin
    simp [results, Try.results69, go_sem, k0, k1, k2, k3, k4, k5, k6, k7]
  subst hE
  obtain ⟨hrig, hsta, -, -⟩ := HOK.out rfl
  have hlen := hrig.same
  have hl := hrig.most
  have CL := Lib.hid (fun B k hk vo vr W hS => lay_any hrig ((standB_iff hrig.pos).1 hsta) free B (k := k) hk vo vr W hS)
  clear HOK hsta hrig
  rw [hlen] at HU
  generalize hLen : zs.length = len at *
  generalize cs.length = len2 at *
  subst hlen
  go_enter Try.func69, Try.ntmps69
  go_wp2_with fail
  refine (c1 _ (by repeat (first | exact Below.refl _ _ | refine Below.alloc ?_ (by first | omega | (simp; done) | (simp; omega)) _))).mono ?_
  rintro e w1 ⟨rfl, hb⟩
  obtain ⟨hc, hf⟩ := bcell hb
  have hz := hb.size
  simp only [World.size_alloc] at hz
  have k0 : w1.cell? ⟨w.heap.size + 1, 0, none⟩ = some (.bool false) := by rw [hc _ _ (by first | omega | (simp; done) | (simp; omega))]; simp [go_sem]
  have f0 : w1.frozen? ⟨w.heap.size + 1, 0, none⟩ = false := by rw [hf _ _ (by first | omega | (simp; done) | (simp; omega))]; simp [go_sem]
  have k1 : w1.cell? ⟨w.heap.size + 1, 1, none⟩ = some (.int .i64 0) := by rw [hc _ _ (by first | omega | (simp; done) | (simp; omega))]; simp [go_sem]
  have f1 : w1.frozen? ⟨w.heap.size + 1, 1, none⟩ = false := by rw [hf _ _ (by first | omega | (simp; done) | (simp; omega))]; simp [go_sem]
  have k2 : w1.cell? ⟨w.heap.size + 1, 2, none⟩ = some (.int .i64 0) := by rw [hc _ _ (by first | omega | (simp; done) | (simp; omega))]; simp [go_sem]
  have f2 : w1.frozen? ⟨w.heap.size + 1, 2, none⟩ = false := by rw [hf _ _ (by first | omega | (simp; done) | (simp; omega))]; simp [go_sem]
  have k3 : w1.cell? ⟨w.heap.size + 1, 3, none⟩ = some (.int .i64 0) := by rw [hc _ _ (by first | omega | (simp; done) | (simp; omega))]; simp [go_sem]
  have f3 : w1.frozen? ⟨w.heap.size + 1, 3, none⟩ = false := by rw [hf _ _ (by first | omega | (simp; done) | (simp; omega))]; simp [go_sem]
  have k4 : w1.cell? ⟨w.heap.size + 1, 4, none⟩ = some (.int .i64 0) := by rw [hc _ _ (by first | omega | (simp; done) | (simp; omega))]; simp [go_sem]
  have f4 : w1.frozen? ⟨w.heap.size + 1, 4, none⟩ = false := by rw [hf _ _ (by first | omega | (simp; done) | (simp; omega))]; simp [go_sem]
  have k5 : w1.cell? ⟨w.heap.size + 1, 5, none⟩ = some (.int .i64 0) := by rw [hc _ _ (by first | omega | (simp; done) | (simp; omega))]; simp [go_sem]
  have f5 : w1.frozen? ⟨w.heap.size + 1, 5, none⟩ = false := by rw [hf _ _ (by first | omega | (simp; done) | (simp; omega))]; simp [go_sem]
  have k6 : w1.cell? ⟨w.heap.size + 1, 6, none⟩ = some (.slice none 0 0) := by rw [hc _ _ (by first | omega | (simp; done) | (simp; omega))]; simp [go_sem]
  have f6 : w1.frozen? ⟨w.heap.size + 1, 6, none⟩ = false := by rw [hf _ _ (by first | omega | (simp; done) | (simp; omega))]; simp [go_sem]
  have k7 : w1.cell? ⟨w.heap.size + 1, 7, none⟩ = some (.slice none 0 0) := by rw [hc _ _ (by first | omega | (simp; done) | (simp; omega))]; simp [go_sem]
  have f7 : w1.frozen? ⟨w.heap.size + 1, 7, none⟩ = false := by rw [hf _ _ (by first | omega | (simp; done) | (simp; omega))]; simp [go_sem]
  have sl1 : w1.cell? ⟨w.heap.size, 1, none⟩ = some (.slice a len2 cap) := by rw [hc _ _ (by first | omega | (simp; done) | (simp; omega))]; simp [go_sem]
  have hB1 : Below w.heap.size w w1 := by repeat (first | exact Below.refl _ _ | refine Below.alloc ?_ (by first | omega | (simp; done) | (simp; omega)) _ | refine chainB (by assumption) ?_)
  have HB := Lib.hid hB1
  have HW1 := Lib.hid (show ∀ o, w1.cell? ⟨w.heap.size + 1, o, none⟩ = w1.cell? ⟨w.heap.size + 1, o, none⟩ from fun _ => rfl)
  have z1 : w.heap.size < w1.heap.size := by omega
  have z2 : w.heap.size + 1 < w1.heap.size := by omega
  have HS0 := Lib.hid (ShapeAt.new w1 free zs cs)
  clear hc hf hb hB1 c1
  go_wp2_with fail
  go_loopw [25] (fun i wr => ∃ (k : Nat) (vo vr : Value), k ≤ len2 ∧ i = .int .i64 k ∧ ShapeAt wr w1.heap.size free zs cs k (lenTo zs k) vo vr k k ∧ Below w1.heap.size w1 wr) (fun i _ => len2 - (intOf i).toNat)
  case atStart => exact ⟨0, _, _, Nat.zero_le _, rfl, HS0.out, (Below.refl _ _).alloc (Nat.le_refl _) _⟩
  case round =>
    obtain ⟨k, vo, vr, hk, rfl, hS, hB⟩ := hrel
    have hsz := hB.size
    have hlt0 := hS.rig.lt
    by_cases hlt : k < len2
    · obtain ⟨b, off, rfl, hb, e0, e1, e2, e3⟩ := HC.out k hlt
      obtain ⟨b2, off2, rfl, hb2, u0, u1⟩ := HU.out k hlt
      have cl := CL.out w1.heap.size k hlt vo vr
      unfold elv prv at cl
      generalize el zs k = x at *
      generalize pr cs k = y at *
      obtain ⟨x0, x1, x2, x3⟩ := x
      obtain ⟨y0, y1⟩ := y
      dsimp only at *
      have hBB := HB.out.trans (hB.mono (by omega))
      have m0 := (hBB.cell (p := ⟨b, off + k * 4, none⟩) hb).trans e0
      have m1 := (hBB.cell (p := ⟨b, off + k * 4 + 1, none⟩) hb).trans e1
      have m2 := (hBB.cell (p := ⟨b, off + k * 4 + 2, none⟩) hb).trans e2
      have m3 := (hBB.cell (p := ⟨b, off + k * 4 + 3, none⟩) hb).trans e3
      have n0 := (hBB.cell (p := ⟨b2, off2 + k * 2, none⟩) hb2).trans u0
      have n1 := (hBB.cell (p := ⟨b2, off2 + k * 2 + 1, none⟩) hb2).trans u1
      clear e0 e1 e2 e3 u0 u1 hBB sl1
      have q1 : ¬ wr.heap.size = b2 := by omega
      have q2 : ¬ b2 = wr.heap.size := by omega
      have q3 : b2 < wr.heap.size := by omega
      have HS := Lib.hid hS
      have HBr := Lib.hid hB
      clear hS hB
      clear k0 f0 k1 f1 k2 f2 k3 f3 k4 f4 k5 f5 k6 f6 k7 f7
      go_wp2_with fail
      go_region_with (first | (go_at_call 100; refine Calls.mono (cl _ (HS.out.at (by repeat (first | exact Below.refl _ _ | refine Below.drew ?_ | refine Below.alloc ?_ (Nat.le_refl _) _)))) ?_; rintro e w2 ⟨rfl, vo', vr', hS2, hb2'⟩))
      all_goals
        go_wp2_with fail
        go_roundw
        case rel => exact ⟨k + 1, vo', vr', by omega, by go_num, hS2, (HBr.out.trans (by repeat (first | exact Below.refl _ _ | refine Below.drew ?_ | refine Below.alloc ?_ (by first | omega | (simp; omega)) _))).trans hb2'⟩
        case measure => simp [intOf]; omega
    · obtain rfl : k = len2 := by omega
      obtain ⟨-, c0, c1, c2, c3, c4, -, -, -, -⟩ := hS.rig
      have c5 := hS.c5
      have c6 := hS.c6
      have c7 := hS.c7
      have ro := hS.ro
      have rr := hS.rr
      obtain ⟨ao, no, co, hvo⟩ : ∃ a n c, vo = .slice a n c := by
        obtain ⟨a, c, e, -⟩ := prs_of_owns (cs := rowL (offG free zs cs) k) (by rw [rowL_len]; exact ro)
        exact ⟨_, _, _, e⟩
      obtain ⟨ar, nr, cr, hvr⟩ : ∃ a n c, vr = .slice a n c := by
        obtain ⟨a, c, e, -⟩ := prs_of_owns (cs := rowL (risG free zs cs) k) (by rw [rowL_len]; exact rr)
        exact ⟨_, _, _, e⟩
      subst hvo
      subst hvr
      have t0 := (hB.cell (p := ⟨w.heap.size + 1, 0, none⟩) z2).trans k0
      have g0 := (hB.frozen (p := ⟨w.heap.size + 1, 0, none⟩) z2).trans f0
      have t1 := (hB.cell (p := ⟨w.heap.size + 1, 1, none⟩) z2).trans k1
      have g1 := (hB.frozen (p := ⟨w.heap.size + 1, 1, none⟩) z2).trans f1
      have t2 := (hB.cell (p := ⟨w.heap.size + 1, 2, none⟩) z2).trans k2
      have g2 := (hB.frozen (p := ⟨w.heap.size + 1, 2, none⟩) z2).trans f2
      have t3 := (hB.cell (p := ⟨w.heap.size + 1, 3, none⟩) z2).trans k3
      have g3 := (hB.frozen (p := ⟨w.heap.size + 1, 3, none⟩) z2).trans f3
      have t4 := (hB.cell (p := ⟨w.heap.size + 1, 4, none⟩) z2).trans k4
      have g4 := (hB.frozen (p := ⟨w.heap.size + 1, 4, none⟩) z2).trans f4
      have t5 := (hB.cell (p := ⟨w.heap.size + 1, 5, none⟩) z2).trans k5
      have g5 := (hB.frozen (p := ⟨w.heap.size + 1, 5, none⟩) z2).trans f5
      have t6 := (hB.cell (p := ⟨w.heap.size + 1, 6, none⟩) z2).trans k6
      have g6 := (hB.frozen (p := ⟨w.heap.size + 1, 6, none⟩) z2).trans f6
      have t7 := (hB.cell (p := ⟨w.heap.size + 1, 7, none⟩) z2).trans k7
      have g7 := (hB.frozen (p := ⟨w.heap.size + 1, 7, none⟩) z2).trans f7
      clear k0 f0 k1 f1 k2 f2 k3 f3 k4 f4 k5 f5 k6 f6 k7 f7
      have zz : w.heap.size + 1 < wr.heap.size := by omega
      have hBB := HB.out.trans (hB.mono (by omega))
      have HBB := Lib.hid hBB
      have RO := Lib.hid (ro)
      have RR := Lib.hid (rr)
      clear hS hB hBB HC HU CL HS0 ro rr sl1
      have HZ := Lib.hid hLen
      clear hLen
      generalize lifTo zs k = q1 at *
      generalize sLo zs cs k = q2 at *
      generalize sHi zs cs k = q3 at *
      generalize wid zs cs k = q4 at *
      generalize hq5 : lenTo zs k = q5 at *
      have HQ5 := Lib.hid hq5
      clear hq5
      go_wp2_with fail
      refine bodyPost_ret (v := .tuple #[.agg #[.bool free, .int .i64 q1, .int .i64 q2, .int .i64 q3, .int .i64 q4, .int .i64 q5, .slice ao no co, .slice ar nr cr], .int .i64 0]) ?_ rfl ⟨_, rfl, fun _ => ?_, fun h => absurd rfl h, ?_⟩
      rotate_left
      · refine IsShape.mk q1 q2 q3 q4 (.slice ao no co) (.slice ar nr cr) ?_ ?_ ?_
        rotate_left
        · rw [HZ.out]
          exact prs_of_owns (by rw [rowL_len]; exact own_low (own_low (own_low (own_low (own_low (own_low (own_low (own_low RO.out (by omega)) (by omega)) (by omega)) (by omega)) (by omega)) (by omega)) (by omega)) (by omega))
        · rw [HZ.out]
          exact prs_of_owns (by rw [rowL_len]; exact own_low (own_low (own_low (own_low (own_low (own_low (own_low (own_low RR.out (by omega)) (by omega)) (by omega)) (by omega)) (by omega)) (by omega)) (by omega)) (by omega))
        · rw [HZ.out, HQ5.out]
      · exact Below.setCell (Below.setCell (Below.setCell (Below.setCell (Below.setCell (Below.setCell (Below.setCell (Below.setCell HBB.out (by simp) _) (by simp) _) (by simp) _) (by simp) _) (by simp) _) (by simp) _) (by simp) _) (by simp) _
      · simp [results, Try.results69, go_sem, t0, t1, t2, t3, t4, t5, t6, t7]
end Go.Proofs.Ythogahdnidjelaa

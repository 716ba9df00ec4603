/-
  Clock: the reference's Sound and At.
-/
import Derived.Test.YtcchmjbedppfnaaRkH
import Derived.Test.YtcchmjbedppfnaaCkP
namespace Go.Proofs.Ytcchmjbedppfnaa
open Go.RowKit Go.Shelf
set_option linter.unusedSimpArgs false
theorem RctP.sd {r : Int} {os : List Of} {i k : Int} (h : RctP r os i k) : decide (i < 0) = sdB r os := by
  obtain ⟨z, hz, ⟨h1, rfl, rfl⟩ | ⟨h1, rfl, rfl⟩⟩ := h
  · rcases hz.sd with ⟨-, h⟩ | ⟨h, -⟩
    · rw [h]; rfl
    · rw [h1] at h; exact absurd h (by decide)
  · rcases hz.sd with ⟨h, -⟩ | ⟨-, -, h⟩
    · rw [h] at h1; exact absurd h1 (by decide)
    · rw [h, decide_eq_false (by omega)]
set_option maxRecDepth 100000 in
set_option maxHeartbeats 2000000 in
theorem rsound_any (p r : Int) (sv : Value) (xs : List Xc) (h0 : lrnE p r xs = 0) (w : World) (hX : Xcs w.heap.size w sv xs) :
    Calls Try.prog 84 #[.agg #[.int .i64 p, .int .i64 r, sv]] w fun e w' => e = .returned (.bool (sdB r (ofA r xs))) ∧ Below w.heap.size w w' := by
  have c90 := Lib.hid (fun W (hb : Below w.heap.size w W) => rcontradiction_any p r sv xs h0 W (hX.at hb))
  have HS := Lib.hid (fun i k (h : RctP r (ofA r xs) i k) => h.sd)
  generalize RctP r (ofA r xs) = PP at *
  generalize sdB r (ofA r xs) = sd at *
  obtain ⟨a, cap, hsv⟩ := hX.form
  subst hsv
  have HA := Lib.hid (show Below w.heap.size w (w.alloc (.cells #[.int .i64 p, .int .i64 r, .slice a xs.length cap] 28)) from (Below.refl _ _).alloc (Nat.le_refl _) _)
  clear hX h0
  generalize xs.length = len at *
  go_enter Try.func84, Try.ntmps84
  go_wp2_with fail
  refine (c90.out _ HA.out).mono ?_
  rintro e w1 ⟨i, k, rfl, hP, hb⟩
  have HB := Lib.hid (HA.out.trans (hb.mono HA.out.size))
  have HSi := Lib.hid (HS.out i k hP)
  clear hb
  go_wp2_with fail
  go_ret
  exact ⟨ret_bool HSi.out, HB.out⟩
theorem meets_start {B : Int} {y : Int × Int} {ys : List (Int × Int)} {f g : Int × Int} (hy : (-B ≤ y.1 ∧ y.1 ≤ B) ∧ (-B ≤ y.2 ∧ y.2 ≤ B)) (hf : f.1 ≤ -B ∧ B ≤ f.2) (hg : g.1 ≤ -B ∧ B ≤ g.2) : meets f (y :: ys) = meets g (y :: ys) := by
  have e : meetS f y = meetS g y := by
    unfold meetS
    rw [show max f.1 y.1 = max g.1 y.1 by omega, show min f.2 y.2 = min g.2 y.2 by omega]
  show meets (meetS f y) ys = meets (meetS g y) ys
  rw [e]
theorem ratK_at {r t : Int} {xs : List Xc} (hv : Valid r (ofA r xs)) (h1 : 1 ≤ xs.length) (ht : -4503599627370496 ≤ t ∧ t ≤ 4503599627370496) : ratK r t xs xs.length = atS r t (ofA r xs) := by
  have hb := bnd_bd hv ht
  have h2 : 1 ≤ (ofA r xs).length := by rw [show (ofA r xs).length = xs.length from ofTo_len r xs _]; exact h1
  show meets _ ((ofA r xs).map (bnd r t)) = meets _ ((ofA r xs).map (bnd r t))
  cases hos : ofA r xs with
  | nil => rw [hos] at h2; simp at h2
  | cons o os =>
    rw [hos, List.map_cons] at hb
    rw [List.map_cons]
    exact meets_start (hb _ (List.mem_cons_self ..)) (by decide) (by decide)
set_option maxRecDepth 100000 in
set_option maxHeartbeats 4000000 in
theorem rAt_any (p r t : Int) (sv : Value) (xs : List Xc) (w : World) (hX : Xcs w.heap.size w sv xs) :
    Calls Try.prog 25 #[.agg #[.int .i64 p, .int .i64 r, sv], .int .i64 t] w fun e w' => e = .returned (atR p r xs t).out ∧ Below w.heap.size w w' := by
  have c29 := Lib.hid (fun W (hb : Below w.heap.size w W) => rcheckClock_any p r sv xs W (hX.at hb))
  have c83 := fun W => risTime_any t W
  have c84 := Lib.hid (fun (h0 : lrnE p r xs = 0) W (hb : Below w.heap.size w W) => rsound_any p r sv xs h0 W (hX.at hb))
  have c85 := Lib.hid (fun (h0 : lrnE p r xs = 0) (ht : tmB t = true) W (hb : Below w.heap.size w W) => rat_any p r t sv xs (lrnE_ok h0).2.2.1 (lrnE_ok h0).1.2 (lrnE_ok h0).2.2.2 (by have := (tmB_iff t).1 ht; omega) W (hX.at hb))
  have HRK := Lib.hid (fun (h0 : lrnE p r xs = 0) (ht : tmB t = true) => ratK_at (t := t) (valid_of h0) (lrnE_ok h0).1.1 (by have := (tmB_iff t).1 ht; omega))
  unfold atR
  obtain ⟨a, cap, hsv⟩ := hX.form
  subst hsv
  obtain ⟨A, hA⟩ : ∃ A, A = (w.alloc (.cells #[.int .i64 p, .int .i64 r, .slice a xs.length cap] 28)).alloc (.cells #[.int .i64 0, .int .i64 0] 23) := ⟨_, rfl⟩
  have hzA : A.heap.size = w.heap.size + 2 := by rw [hA]; simp
  have HBA := Lib.hid (show Below w.heap.size w A by rw [hA]; exact ((Below.refl _ _).alloc (Nat.le_refl _) _).alloc (by simp) _)
  have hRA : Bx2 A (w.heap.size + 1) (.int .i64 0) (.int .i64 0) := by
    rw [hA]
    have q := Bx2.new (w.alloc (.cells #[.int .i64 p, .int .i64 r, .slice a xs.length cap] 28)) (.int .i64 0) (.int .i64 0)
    rwa [World.size_alloc] at q
  have k0 : A.cell? ⟨w.heap.size, 0, none⟩ = some (.int .i64 p) := by rw [hA]; simp [go_sem]
  have k1 : A.cell? ⟨w.heap.size, 1, none⟩ = some (.int .i64 r) := by rw [hA]; simp [go_sem]
  have k2 : A.cell? ⟨w.heap.size, 2, none⟩ = some (.slice a xs.length cap) := by rw [hA]; simp [go_sem]
  have KK := Lib.hid (show ∀ W, Below A.heap.size A W → W.cell? ⟨w.heap.size, 0, none⟩ = some (.int .i64 p) ∧ W.cell? ⟨w.heap.size, 1, none⟩ = some (.int .i64 r) ∧ W.cell? ⟨w.heap.size, 2, none⟩ = some (.slice a xs.length cap) from fun W h => ⟨(h.cell (p := ⟨w.heap.size, 0, none⟩) (by show w.heap.size < A.heap.size; omega)).trans k0, (h.cell (p := ⟨w.heap.size, 1, none⟩) (by show w.heap.size < A.heap.size; omega)).trans k1, (h.cell (p := ⟨w.heap.size, 2, none⟩) (by show w.heap.size < A.heap.size; omega)).trans k2⟩)
  have KR := Lib.hid (show ∀ W, Below A.heap.size A W → (W.cell? ⟨w.heap.size + 1, 0, none⟩ = some (.int .i64 0) ∧ W.cell? ⟨w.heap.size + 1, 1, none⟩ = some (.int .i64 0)) ∧ W.frozen? ⟨w.heap.size + 1, 0, none⟩ = false ∧ W.frozen? ⟨w.heap.size + 1, 1, none⟩ = false from fun W h => ⟨⟨(hRA.keep h).c0, (hRA.keep h).c1⟩, (hRA.keep h).f0 0, (hRA.keep h).f0 1⟩)
  have HUP := Lib.hid (show ∀ W, Below A.heap.size A W → Below w.heap.size w W from fun W h => HBA.out.trans (h.mono HBA.out.size))
  have HEND := Lib.hid (show ∀ W v0 v1, Below A.heap.size A W → Below w.heap.size w ((W.setCell ⟨w.heap.size + 1, 0, none⟩ v0).setCell ⟨w.heap.size + 1, 1, none⟩ v1) from fun W v0 v1 h =>
    ((HBA.out.trans (h.mono HBA.out.size)).setCell (p := ⟨w.heap.size + 1, 0, none⟩) (by show w.heap.size ≤ w.heap.size + 1; omega) _).setCell (p := ⟨w.heap.size + 1, 1, none⟩) (by show w.heap.size ≤ w.heap.size + 1; omega) _)
  clear hX hRA hzA k0 k1 k2
  generalize hE : lrnE p r xs = E0 at *
  clear hE
  generalize ratK r t xs xs.length = zk at *
  generalize sdB r (ofA r xs) = sd at *
  generalize atS r t (ofA r xs) = z at *
  generalize htm : tmB t = tm at *
  generalize xs.length = len at *
  clear htm
  obtain ⟨q, hq⟩ : ∃ q : R3, q = if E0 = 0 then (if tm = true then (if sd = true then ⟨z.1, z.2, 0⟩ else ⟨0, 0, 5⟩) else ⟨0, 0, 3⟩) else ⟨0, 0, E0⟩ := ⟨_, rfl⟩
  rw [← hq]
  have HQ := Lib.hid hq
  clear hq
  generalize hqo : q.out = qo at *
  have HQO := Lib.hid (show qo = .tuple #[.agg #[.int .i64 q.lo, .int .i64 q.hi], .int .i64 q.e] from hqo.symm)
  clear hqo
  go_enter Try.func25, Try.ntmps25
  go_wp2_with fail
  try rw [← hA]
  obtain ⟨g0, g1, g2⟩ := KK.out _ (Below.refl _ _)
  clear hA
  go_wp2_with fail
  refine (c29.out _ HBA.out).mono ?_
  rintro e w1 ⟨rfl, hb⟩
  have HB1 := Lib.hid hb
  obtain ⟨g0, g1, g2⟩ := KK.out _ hb
  clear hb
  by_cases h0 : E0 = 0
  rotate_left
  · have hb0 : (E0 != 0) = true := by simpa using h0
    go_wp2_with fail
    refine (c29.out _ (HUP.out _ HB1.out)).mono ?_
    rintro e w2 ⟨rfl, hb⟩
    have HB2 := Lib.hid (HB1.out.trans (hb.mono HB1.out.size))
    obtain ⟨⟨r0, r1⟩, r2, r3⟩ := KR.out _ HB2.out
    clear hb
    go_wp2_with fail
    refine bodyPost_ret (v := .tuple #[.agg #[.int .i64 0, .int .i64 0], .int .i64 E0]) (by simp [results, Try.results25, go_sem, r0, r1]) rfl ⟨?_, HEND.out _ _ _ HB2.out⟩
    rw [HQO.out, HQ.out, if_neg h0]
  subst h0
  go_wp2_with fail
  refine (c83 _).mono ?_
  rintro e w2 ⟨rfl, hw2⟩
  have hw3 := hw2.symm
  subst hw3
  cases tm
  · obtain ⟨⟨r0, r1⟩, r2, r3⟩ := KR.out _ HB1.out
    go_wp2_with fail
    refine bodyPost_ret (v := .tuple #[.agg #[.int .i64 0, .int .i64 0], .int .i64 3]) (by simp [results, Try.results25, go_sem, r0, r1]) rfl ⟨?_, HEND.out _ _ _ HB1.out⟩
    rw [HQO.out, HQ.out]; rfl
  go_wp2_with fail
  refine (c84.out (by first | rfl | trivial) _ (HUP.out _ HB1.out)).mono ?_
  rintro e w3 ⟨rfl, hb⟩
  have HB3 := Lib.hid (HB1.out.trans (hb.mono HB1.out.size))
  obtain ⟨⟨r0, r1⟩, r2, r3⟩ := KR.out _ HB3.out
  obtain ⟨g0, g1, g2⟩ := KK.out _ HB3.out
  clear hb
  cases sd
  · go_wp2_with fail
    refine bodyPost_ret (v := .tuple #[.agg #[.int .i64 0, .int .i64 0], .int .i64 5]) (by simp [results, Try.results25, go_sem, r0, r1]) rfl ⟨?_, HEND.out _ _ _ HB3.out⟩
    rw [HQO.out, HQ.out]; rfl
  have hzz := HRK.out (by first | rfl | trivial) (by first | rfl | trivial)
  subst hzz
  have HC := Lib.hid (c85.out (by first | rfl | trivial) (by first | rfl | trivial) _ (HUP.out _ HB3.out))
  unfold spv at HC
  clear r0 r1 r2 r3
  go_wp2_with fail
  refine HC.out.mono ?_
  rintro e w4 ⟨rfl, hb4⟩
  have HB4 := Lib.hid (HB3.out.trans (hb4.mono HB3.out.size))
  obtain ⟨⟨r0, r1⟩, r2, r3⟩ := KR.out _ HB4.out
  clear hb4
  go_wp2_with fail
  refine bodyPost_ret (v := .tuple #[.agg #[.int .i64 zk.1, .int .i64 zk.2], .int .i64 0]) (by simp [results, Try.results25, go_sem, r0, r1]) rfl ⟨?_, HEND.out _ _ _ HB4.out⟩
  rw [HQO.out, HQ.out]; rfl
end Go.Proofs.Ytcchmjbedppfnaa

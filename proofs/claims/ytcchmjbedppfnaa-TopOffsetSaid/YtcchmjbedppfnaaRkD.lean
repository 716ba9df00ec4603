/-
  Clock: the reference's Offset.
-/
import Derived.Test.YtcchmjbedppfnaaRkC
namespace Go.Proofs.Ytcchmjbedppfnaa
open Go.RowKit Go.Shelf
set_option linter.unusedSimpArgs false
set_option maxRecDepth 100000 in
set_option maxHeartbeats 8000000 in
theorem roffset23_any (x : Xc) (r : Int) (w : World) :
    Calls Try.prog 23 #[x.val, .int .i64 r] w fun e w' => e = .returned (offR r x).out ∧ Below w.heap.size w w' := by
  have cX := fun W => rcheckX_any x W
  have c78 := Lib.hid (fun h1 h2 W => roffset_any x r h1 h2 W)
  unfold offR
  obtain ⟨A, hA⟩ : ∃ A, A = (w.alloc (.cells #[.int .i64 x.se, .int .i64 x.he, .int .i64 x.an, .int .i64 x.ba, .int .i64 x.fLo, .int .i64 x.fHi, .int .i64 x.hLo, .int .i64 x.hHi] 25)).alloc (.cells #[.int .i64 0, .int .i64 0] 23) := ⟨_, rfl⟩
  have hzA : A.heap.size = w.heap.size + 2 := by rw [hA]; simp
  have HBA := Lib.hid (show Below w.heap.size w A by rw [hA]; exact ((Below.refl _ _).alloc (Nat.le_refl _) _).alloc (by simp) _)
  have hRA : Bx2 A (w.heap.size + 1) (.int .i64 0) (.int .i64 0) := by
    rw [hA]
    have q := Bx2.new (w.alloc (.cells #[.int .i64 x.se, .int .i64 x.he, .int .i64 x.an, .int .i64 x.ba, .int .i64 x.fLo, .int .i64 x.fHi, .int .i64 x.hLo, .int .i64 x.hHi] 25)) (.int .i64 0) (.int .i64 0)
    rwa [World.size_alloc] at q
  have KK := Lib.hid (show ∀ W, Below A.heap.size A W → W.cell? ⟨w.heap.size, 0, none⟩ = some (.int .i64 x.se) ∧ W.cell? ⟨w.heap.size, 1, none⟩ = some (.int .i64 x.he) ∧ W.cell? ⟨w.heap.size, 2, none⟩ = some (.int .i64 x.an) ∧ W.cell? ⟨w.heap.size, 3, none⟩ = some (.int .i64 x.ba) ∧ W.cell? ⟨w.heap.size, 4, none⟩ = some (.int .i64 x.fLo) ∧ W.cell? ⟨w.heap.size, 5, none⟩ = some (.int .i64 x.fHi) ∧ W.cell? ⟨w.heap.size, 6, none⟩ = some (.int .i64 x.hLo) ∧ W.cell? ⟨w.heap.size, 7, none⟩ = some (.int .i64 x.hHi) from fun W h => by
    have e : ∀ o, W.cell? ⟨w.heap.size, o, none⟩ = A.cell? ⟨w.heap.size, o, none⟩ := fun o => h.cell (p := ⟨w.heap.size, o, none⟩) (by rw [hzA]; simp)
    refine ⟨?_, ?_, ?_, ?_, ?_, ?_, ?_, ?_⟩ <;> (rw [e, hA]; simp [go_sem]))
  have KR := Lib.hid (show ∀ W, Below A.heap.size A W → (W.cell? ⟨w.heap.size + 1, 0, none⟩ = some (.int .i64 0) ∧ W.cell? ⟨w.heap.size + 1, 1, none⟩ = some (.int .i64 0)) ∧ W.frozen? ⟨w.heap.size + 1, 0, none⟩ = false ∧ W.frozen? ⟨w.heap.size + 1, 1, none⟩ = false from fun W h => ⟨⟨(hRA.keep h).c0, (hRA.keep h).c1⟩, (hRA.keep h).f0 0, (hRA.keep h).f0 1⟩)
  have HEND := Lib.hid (show ∀ W v0 v1, Below A.heap.size A W → Below w.heap.size w ((W.setCell ⟨w.heap.size + 1, 0, none⟩ v0).setCell ⟨w.heap.size + 1, 1, none⟩ v1) from fun W v0 v1 h =>
    ((HBA.out.trans (h.mono HBA.out.size)).setCell (p := ⟨w.heap.size + 1, 0, none⟩) (by show w.heap.size ≤ w.heap.size + 1; omega) _).setCell (p := ⟨w.heap.size + 1, 1, none⟩) (by show w.heap.size ≤ w.heap.size + 1; omega) _)
  clear hRA hzA
  by_cases hx : xcB x = true
  rotate_left
  · rw [if_neg hx]
    have cX' : ∀ W, Calls Try.prog 27 #[x.val] W fun e w' => e = .returned (.int .i64 2) ∧ Below W.heap.size W w' := fun W => by have q := cX W; rw [if_neg hx] at q; exact q
    clear cX hx c78
    unfold Xc.val R3.out at *
    go_enter Try.func23, Try.ntmps23
    go_wp2_with fail
    try rw [← hA]
    clear hA
    refine (cX' _).mono ?_
    rintro e w1 ⟨rfl, hb⟩
    have HB1 := Lib.hid hb
    obtain ⟨k0, k1, k2, k3, k4, k5, k6, k7⟩ := KK.out _ hb
    clear hb
    go_wp2_with fail
    refine (cX' _).mono ?_
    rintro e w2 ⟨rfl, hb⟩
    have hb2 := HB1.out.trans (hb.mono HB1.out.size)
    have HB2 := Lib.hid hb2
    obtain ⟨⟨q0, q1⟩, q2, q3⟩ := KR.out _ hb2
    clear hb hb2 k0 k1 k2 k3 k4 k5 k6 k7
    go_wp2_with fail
    refine bodyPost_ret (v := .tuple #[.agg #[.int .i64 0, .int .i64 0], .int .i64 2]) (by simp [results, Try.results23, go_sem, q0, q1]) rfl ⟨rfl, HEND.out _ _ _ HB2.out⟩
  rw [if_pos hx]
  have cX' : ∀ W, Calls Try.prog 27 #[x.val] W fun e w' => e = .returned (.int .i64 0) ∧ Below W.heap.size W w' := fun W => by have q := cX W; rw [if_pos hx] at q; exact q
  clear cX
  by_cases hr : rtB r = true
  rotate_left
  · rw [if_neg hr]
    have hrr : r < 0 ∨ (¬ r < 0 ∧ 1000000 < r) := by
      have := rtB_iff r
      by_cases q : 0 ≤ r ∧ r ≤ 1000000
      · exact absurd (this.2 q) hr
      · omega
    clear hr hx c78
    unfold Xc.val R3.out at *
    rcases hrr with hr1 | ⟨hr1, hr2⟩
    all_goals
      go_enter Try.func23, Try.ntmps23
      go_wp2_with fail
      try rw [← hA]
      clear hA
      refine (cX' _).mono ?_
      rintro e w1 ⟨rfl, hb⟩
      have HB1 := Lib.hid hb
      obtain ⟨⟨q0, q1⟩, q2, q3⟩ := KR.out _ hb
      clear hb
      go_wp2_with fail
      refine bodyPost_ret (v := .tuple #[.agg #[.int .i64 0, .int .i64 0], .int .i64 3]) (by simp [results, Try.results23, go_sem, q0, q1]) rfl ⟨rfl, HEND.out _ _ _ HB1.out⟩
  rw [if_pos hr]
  have c78' := c78.out hx hr
  obtain ⟨hr0, hr1⟩ := (rtB_iff r).1 hr
  have hr2 : ¬ r < 0 := by omega
  have hr3 : ¬ 1000000 < r := by omega
  clear c78 hx hr hr0 hr1
  unfold spv at c78'
  dsimp only at c78'
  generalize hq : (if offL r x ≤ offH r x then (⟨offL r x, offH r x, 0⟩ : R3) else ⟨0, 0, 5⟩) = q at *
  generalize offL r x = oL at *
  generalize offH r x = oH at *
  have HQ := Lib.hid hq
  clear hq
  generalize hqo : q.out = qo at *
  have HQO := Lib.hid (show qo = .tuple #[.agg #[.int .i64 q.lo, .int .i64 q.hi], .int .i64 q.e] from hqo.symm)
  clear hqo
  unfold Xc.val at *
  go_enter Try.func23, Try.ntmps23
  go_wp2_with fail
  try rw [← hA]
  clear hA
  refine (cX' _).mono ?_
  rintro e w1 ⟨rfl, hb⟩
  have HB1 := Lib.hid hb
  obtain ⟨k0, k1, k2, k3, k4, k5, k6, k7⟩ := KK.out _ hb
  clear hb
  go_wp2_with fail
  refine (c78' _).mono ?_
  rintro e w2 ⟨rfl, hb⟩
  have hb2 := HB1.out.trans (hb.mono HB1.out.size)
  have hb2a := hb2.alloc hb2.size (.cells #[.int .i64 oL, .int .i64 oH] 23)
  have HB2 := Lib.hid hb2a
  obtain ⟨⟨q0, q1⟩, q2, q3⟩ := KR.out _ hb2a
  clear hb hb2 hb2a k0 k1 k2 k3 k4 k5 k6 k7
  by_cases hle : oL ≤ oH
  · have hlt : ¬ oH < oL := by omega
    go_wp2_with fail
    refine bodyPost_ret (v := .tuple #[.agg #[.int .i64 oL, .int .i64 oH], .int .i64 0]) (by simp [results, Try.results23, go_sem, q0, q1]) rfl ⟨?_, HEND.out _ _ _ HB2.out⟩
    rw [HQO.out, ← HQ.out, if_pos hle]
  · have hlt : oH < oL := by omega
    go_wp2_with fail
    refine bodyPost_ret (v := .tuple #[.agg #[.int .i64 0, .int .i64 0], .int .i64 5]) (by simp [results, Try.results23, go_sem, q0, q1]) rfl ⟨?_, HEND.out _ _ _ HB2.out⟩
    rw [HQO.out, ← HQ.out, if_neg (by omega)]
end Go.Proofs.Ytcchmjbedppfnaa

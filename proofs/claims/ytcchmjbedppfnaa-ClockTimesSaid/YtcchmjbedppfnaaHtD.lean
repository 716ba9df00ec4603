/-
  Clock: the reference's Time.
-/
import Derived.Test.YtcchmjbedppfnaaHtC
namespace Go.Proofs.Ytcchmjbedppfnaa
open Go.RowKit Go.Shelf
set_option linter.unusedSimpArgs false
set_option maxRecDepth 100000 in
set_option maxHeartbeats 8000000 in
theorem rtime38_any (lv : Value) (cs : List Cl) (c t : Int) (w : World) (hC : Cls w.heap.size w lv cs) :
    Calls Try.prog 38 #[lv, .agg #[.int .i64 c, .int .i64 t]] w fun e w' => e = .returned (timeR cs c t).out ∧ Below w.heap.size w w' := by
  have c42 := Lib.hid (fun W (hb : Below w.heap.size w W) => rcheckHouse_any lv cs W (hC.at hb))
  have c83 := fun W => risTime_any t W
  have c100 := Lib.hid (fun (h0 : entE cs = 0) (hc : 0 ≤ c ∧ c < (cs.length : Int)) (ht : 0 ≤ t ∧ t ≤ 1125899906842624) W (hb : Below w.heap.size w W) => rtime_any lv cs c t h0 hc ht W (hC.at hb))
  have HQ := Lib.hid (show timeR cs c t = if entE cs = 0 then (if (0 ≤ c ∧ c ≤ (cs.length : Int) - 1) ∧ tmB t = true then ⟨(tmS (cs.map knC) (cs.length + 1) c (t, t)).1, (tmS (cs.map knC) (cs.length + 1) c (t, t)).2, 0⟩ else ⟨0, 0, 3⟩) else ⟨0, 0, entE cs⟩ from by
    unfold timeR timR
    rw [List.length_map])
  have HLE := Lib.hid (show entE cs = 0 → cs.length ≤ 32 from fun h => (entE_ok h).1.2)
  generalize timeR cs c t = q at *
  generalize hqo : q.out = qo at *
  have HQO := Lib.hid (show qo = .tuple #[.agg #[.int .i64 q.lo, .int .i64 q.hi], .int .i64 q.e] from hqo.symm)
  clear hqo
  obtain ⟨a, cap, hsv⟩ := hC.form
  subst hsv
  clear hC
  obtain ⟨A, hA⟩ : ∃ A, A = (w.alloc (.cells #[.int .i64 c, .int .i64 t] 49)).alloc (.cells #[.int .i64 0, .int .i64 0] 23) := ⟨_, rfl⟩
  have hzA : A.heap.size = w.heap.size + 2 := by rw [hA]; simp
  have HBA := Lib.hid (show Below w.heap.size w A by rw [hA]; exact ((Below.refl _ _).alloc (Nat.le_refl _) _).alloc (by simp) _)
  have hRA : Bx2 A (w.heap.size + 1) (.int .i64 0) (.int .i64 0) := by
    rw [hA]
    have q := Bx2.new (w.alloc (.cells #[.int .i64 c, .int .i64 t] 49)) (.int .i64 0) (.int .i64 0)
    rwa [World.size_alloc] at q
  have k0 : A.cell? ⟨w.heap.size, 0, none⟩ = some (.int .i64 c) := by rw [hA]; simp [go_sem]
  have k1 : A.cell? ⟨w.heap.size, 1, none⟩ = some (.int .i64 t) := by rw [hA]; simp [go_sem]
  have KR := Lib.hid (show ∀ W, Below A.heap.size A W → (W.cell? ⟨w.heap.size + 1, 0, none⟩ = some (.int .i64 0) ∧ W.cell? ⟨w.heap.size + 1, 1, none⟩ = some (.int .i64 0)) ∧ W.frozen? ⟨w.heap.size + 1, 0, none⟩ = false ∧ W.frozen? ⟨w.heap.size + 1, 1, none⟩ = false from fun W h => ⟨⟨(hRA.keep h).c0, (hRA.keep h).c1⟩, (hRA.keep h).f0 0, (hRA.keep h).f0 1⟩)
  have KA := Lib.hid (show ∀ W, Below A.heap.size A W → W.cell? ⟨w.heap.size, 0, none⟩ = some (.int .i64 c) ∧ W.cell? ⟨w.heap.size, 1, none⟩ = some (.int .i64 t) from fun W h => ⟨(h.cell (p := ⟨w.heap.size, 0, none⟩) (by show w.heap.size < A.heap.size; omega)).trans k0, (h.cell (p := ⟨w.heap.size, 1, none⟩) (by show w.heap.size < A.heap.size; omega)).trans k1⟩)
  have HUP := Lib.hid (show ∀ W, Below A.heap.size A W → Below w.heap.size w W from fun W h => HBA.out.trans (h.mono HBA.out.size))
  have HEND := Lib.hid (show ∀ W v0 v1, Below A.heap.size A W → Below w.heap.size w ((W.setCell ⟨w.heap.size + 1, 0, none⟩ v0).setCell ⟨w.heap.size + 1, 1, none⟩ v1) from fun W v0 v1 h =>
    ((HBA.out.trans (h.mono HBA.out.size)).setCell (p := ⟨w.heap.size + 1, 0, none⟩) (by show w.heap.size ≤ w.heap.size + 1; omega) _).setCell (p := ⟨w.heap.size + 1, 1, none⟩) (by show w.heap.size ≤ w.heap.size + 1; omega) _)
  clear hRA hzA k0 k1
  generalize entE cs = E0 at *
  generalize tmS (cs.map knC) (cs.length + 1) c (t, t) = z at *
  have HTM := Lib.hid (tmB_iff t)
  generalize htm : tmB t = tm at *
  clear htm
  generalize cs.length = len at *
  by_cases h0 : E0 = 0
  rotate_left
  · have hb0 : (E0 != 0) = true := by simpa using h0
    go_enter Try.func38, Try.ntmps38
    go_wp2_with fail
    try rw [← hA]
    clear hA
    refine (c42.out _ HBA.out).mono ?_
    rintro e w1 ⟨rfl, hb⟩
    have HB1 := Lib.hid hb
    clear hb
    go_wp2_with fail
    refine (c42.out _ (HUP.out _ HB1.out)).mono ?_
    rintro e w2 ⟨rfl, hb⟩
    have HB2 := Lib.hid (HB1.out.trans (hb.mono HB1.out.size))
    obtain ⟨⟨r0, r1⟩, r2, r3⟩ := KR.out _ HB2.out
    clear hb
    go_wp2_with fail
    refine bodyPost_ret (v := .tuple #[.agg #[.int .i64 0, .int .i64 0], .int .i64 E0]) (by simp [results, Try.results38, go_sem, r0, r1]) rfl ⟨?_, HEND.out _ _ _ HB2.out⟩
    rw [HQO.out, HQ.out, if_neg h0]
  have c100b := Lib.hid (c100.out h0)
  have hl32 := HLE.out h0
  have HQ0 := Lib.hid (show q = if (0 ≤ c ∧ c ≤ (len : Int) - 1) ∧ tm = true then ⟨z.1, z.2, 0⟩ else ⟨0, 0, 3⟩ by rw [HQ.out, if_pos h0])
  clear HQ c100 HLE
  subst h0
  by_cases hc0 : c < 0
  · have hq : q = ⟨0, 0, 3⟩ := by rw [HQ0.out, if_neg (by omega)]
    subst hq
    go_enter Try.func38, Try.ntmps38
    go_wp2_with fail
    try rw [← hA]
    clear hA
    refine (c42.out _ HBA.out).mono ?_
    rintro e w1 ⟨rfl, hb⟩
    have HB1 := Lib.hid hb
    obtain ⟨g0, g1⟩ := KA.out _ hb
    obtain ⟨⟨r0, r1⟩, r2, r3⟩ := KR.out _ hb
    clear hb
    go_wp2_with fail
    refine bodyPost_ret (v := .tuple #[.agg #[.int .i64 0, .int .i64 0], .int .i64 3]) (by simp [results, Try.results38, go_sem, r0, r1]) rfl ⟨by rw [HQO.out], HEND.out _ _ _ HB1.out⟩
  by_cases hc1 : (len : Int) ≤ c
  · have hq : q = ⟨0, 0, 3⟩ := by rw [HQ0.out, if_neg (by omega)]
    subst hq
    go_enter Try.func38, Try.ntmps38
    go_wp2_with fail
    try rw [← hA]
    clear hA
    refine (c42.out _ HBA.out).mono ?_
    rintro e w1 ⟨rfl, hb⟩
    have HB1 := Lib.hid hb
    obtain ⟨g0, g1⟩ := KA.out _ hb
    obtain ⟨⟨r0, r1⟩, r2, r3⟩ := KR.out _ hb
    clear hb
    go_wp2_with fail
    refine bodyPost_ret (v := .tuple #[.agg #[.int .i64 0, .int .i64 0], .int .i64 3]) (by simp [results, Try.results38, go_sem, r0, r1]) rfl ⟨by rw [HQO.out], HEND.out _ _ _ HB1.out⟩
  cases tm
  · have hq : q = ⟨0, 0, 3⟩ := by rw [HQ0.out, if_neg (by simp)]
    subst hq
    go_enter Try.func38, Try.ntmps38
    go_wp2_with fail
    try rw [← hA]
    clear hA
    refine (c42.out _ HBA.out).mono ?_
    rintro e w1 ⟨rfl, hb⟩
    have HB1 := Lib.hid hb
    obtain ⟨g0, g1⟩ := KA.out _ hb
    obtain ⟨⟨r0, r1⟩, r2, r3⟩ := KR.out _ hb
    clear hb
    go_wp2_with fail
    refine (c83 _).mono ?_
    rintro e w2 ⟨rfl, hw2⟩
    have hw3 := hw2.symm
    subst hw3
    go_wp2_with fail
    refine bodyPost_ret (v := .tuple #[.agg #[.int .i64 0, .int .i64 0], .int .i64 3]) (by simp [results, Try.results38, go_sem, r0, r1]) rfl ⟨by rw [HQO.out], HEND.out _ _ _ HB1.out⟩
  have HC0 := Lib.hid (c100b.out ⟨by omega, by omega⟩ (HTM.out.1 (by first | rfl | trivial)))
  have hq : q = ⟨z.1, z.2, 0⟩ := by rw [HQ0.out, if_pos ⟨by omega, rfl⟩]
  subst hq
  obtain ⟨z0, z1⟩ := z
  unfold spv at HC0
  dsimp only at *
  go_enter Try.func38, Try.ntmps38
  go_wp2_with fail
  try rw [← hA]
  clear hA
  refine (c42.out _ HBA.out).mono ?_
  rintro e w1 ⟨rfl, hb⟩
  have HB1 := Lib.hid hb
  obtain ⟨g0, g1⟩ := KA.out _ hb
  clear hb
  go_wp2_with fail
  refine (c83 _).mono ?_
  rintro e w2 ⟨rfl, hw2⟩
  have hw3 := hw2.symm
  subst hw3
  go_wp2_with fail
  refine (HC0.out _ (HUP.out _ HB1.out)).mono ?_
  rintro e w3 ⟨rfl, hb⟩
  have HB3 := Lib.hid (HB1.out.trans (hb.mono HB1.out.size))
  obtain ⟨⟨r0, r1⟩, r2, r3⟩ := KR.out _ HB3.out
  clear hb
  go_wp2_with fail
  refine bodyPost_ret (v := .tuple #[.agg #[.int .i64 z0, .int .i64 z1], .int .i64 0]) (by simp [results, Try.results38, go_sem, r0, r1]) rfl ⟨by rw [HQO.out], HEND.out _ _ _ HB3.out⟩
end Go.Proofs.Ytcchmjbedppfnaa

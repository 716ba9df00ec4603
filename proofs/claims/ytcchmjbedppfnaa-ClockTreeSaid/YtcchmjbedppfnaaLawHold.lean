/-
  Clock: the walk of ClockHolds.
-/
import Derived.Test.YtcchmjbedppfnaaHoldMd
import Derived.Test.YtcchmjbedppfnaaLawSlow
namespace Go.Proofs.Ytcchmjbedppfnaa
open Go.RowKit Go.Shelf
set_option linter.unusedSimpArgs false
theorem ctr_none {p r : Int} {xs : List Xc} {i k f : Int} (h0 : lrnE p r xs = 0) (hs : sdB r (ofA r xs) = true) (h : CtrP p r xs i k f) : f = 5 := by
  rcases h with ⟨h, -⟩ | ⟨-, z, hz, h⟩
  · exact absurd h0 h
  · rcases h with ⟨-, -, -, h⟩ | ⟨h1, -⟩
    · exact h
    · rcases hz.sd with ⟨rfl, -⟩ | ⟨-, -, h⟩
      · exact absurd h1 (by decide)
      · rw [hs] at h; exact absurd h (by decide)
theorem at_yes {p r t : Int} {xs : List Xc} (h0 : lrnE p r xs = 0) (hs : sdB r (ofA r xs) = true) (ht : 0 ≤ t ∧ t ≤ 1125899906842624) : atR p r xs t = ⟨(atS r t (ofA r xs)).1, (atS r t (ofA r xs)).2, 0⟩ := by
  unfold atR
  rw [if_pos h0, if_pos ((tmB_iff t).2 ht), if_pos hs]
set_option maxRecDepth 100000 in
set_option maxHeartbeats 8000000 in
theorem law_holds (st q at_ : Int) (sv lv : Value) (sl : List Int) (ks : List Tk) (hst : -2147483648 ≤ st ∧ st ≤ 2147483647) (hq : 0 ≤ q ∧ q ≤ 4294967295) (ha : 0 ≤ at_ ∧ at_ ≤ 4294967295) (w : World) (hS : I8s w.heap.size w sv sl) (hK : Tks w.heap.size w lv ks) :
    Calls Try.prog 7 #[.agg #[.int .i32 st, sv], .int .u32 q, lv, .int .u32 at_] w fun e w' => e = .returned (.bool true) ∧ Below w.heap.size w w' := by
  have c21 := fun W => works_any W
  obtain ⟨r, hr⟩ : ∃ r, r = q % 1000001 := ⟨_, rfl⟩
  obtain ⟨n, hn⟩ : ∃ n, n = at_ % 20000000 := ⟨_, rfl⟩
  have hrb : 0 ≤ r ∧ r ≤ 1000000 := by omega
  have hnb : 0 ≤ n ∧ n ≤ 19999999 := by omega
  have hm1 : q.tmod 1000001 = r := by rw [hr]; exact Int.tmod_eq_emod_of_nonneg hq.1
  have hm2 : at_.tmod 20000000 = n := by rw [hn]; exact Int.tmod_eq_emod_of_nonneg ha.1
  have wq : wrap64 q = q := wrap64_id (by omega) (by omega)
  have wa : wrap64 at_ = at_ := wrap64_id (by omega) (by omega)
  have wr : wrap64 r = r := wrap64_id (by omega) (by omega)
  have wn : wrap64 n = n := wrap64_id (by omega) (by omega)
  have hL := truO_lip (st := st) (r := r) (sl := sl) hrb.1 hS.slow
  have hOb := truO_bd (a := n) (st := st) (r := r) (sl := sl) hrb hS.slow hst
  have c50 := Lib.hid (fun W (hb : Below w.heap.size w W) => made_any st (-1) r sv lv sl ks hst hrb W (hS.at hb) (hK.at hb))
  have c51 := Lib.hid (fun W (hb : Below w.heap.size w W) => truth_any st r n sv sl hst hrb ⟨by omega, by omega⟩ W (hS.at hb))
  obtain ⟨sa, sc, hsv⟩ := hS.form
  subst hsv
  obtain ⟨ka, kc, hlv⟩ := hK.form
  subst hlv
  clear hS hK hr hn
  have HL := Lib.hid hL
  have HOB := Lib.hid hOb
  clear hL hOb
  unfold MadR at c50
  generalize truO st r sl = O at *
  generalize sl.length = ns at *
  generalize ks.length = nk at *
  obtain ⟨A, hA⟩ : ∃ A, A = w.alloc (.cells #[.int .i32 st, .slice sa ns sc] 67) := ⟨_, rfl⟩
  have HBA := Lib.hid (show Below w.heap.size w A by rw [hA]; exact (Below.refl _ _).alloc (Nat.le_refl _) _)
  have k0 : A.cell? ⟨w.heap.size, 0, none⟩ = some (.int .i32 st) := by rw [hA]; simp [go_sem]
  have k1 : A.cell? ⟨w.heap.size, 1, none⟩ = some (.slice sa ns sc) := by rw [hA]; simp [go_sem]
  have hzA : w.heap.size < A.heap.size := by rw [hA]; simp
  have KK := Lib.hid (show ∀ W, Below A.heap.size A W → W.cell? ⟨w.heap.size, 0, none⟩ = some (.int .i32 st) ∧ W.cell? ⟨w.heap.size, 1, none⟩ = some (.slice sa ns sc) from fun W h => ⟨(h.cell (p := ⟨w.heap.size, 0, none⟩) hzA).trans k0, (h.cell (p := ⟨w.heap.size, 1, none⟩) hzA).trans k1⟩)
  have HUP := Lib.hid (show ∀ W, Below A.heap.size A W → Below w.heap.size w W from fun W h => HBA.out.trans (h.mono HBA.out.size))
  clear hzA
  go_enter Try.func7, Try.ntmps7
  go_upto_region 1 with fail
  rw [← hA]
  clear hA
  go_wp2_with fail
  refine (c50.out _ HBA.out).mono ?_
  rintro e w1 ⟨v1, xs, rfl, hX, hin, hlen, hb⟩
  have HB1 := Lib.hid hb
  have hz1 := hb.size
  obtain ⟨va, vc, hvv⟩ := hX.form
  subst hvv
  have HX := Lib.hid hX
  have HIN := Lib.hid hin
  clear hX hin hb k0 k1
  by_cases h0 : lrnE (-1) r xs = 0
  rotate_left
  · have hd : decide (lrnE (-1) r xs = 0) = false := decide_eq_false h0
    rw [hd]
    have HB1a := Lib.hid (HB1.out.alloc hz1 (.cells #[.int .i64 (-1), .int .i64 r, .slice va xs.length vc] 28))
    clear hd h0
    generalize xs.length = nx at *
    go_wp2_with fail
    refine (c21 _).mono ?_
    rintro e wz ⟨rfl, hbz⟩
    have HBZ := Lib.hid (HB1a.out.trans (hbz.mono HB1a.out.size))
    clear hbz
    go_wp2_with fail
    go_ret
    exact ⟨rfl, HUP.out _ HBZ.out⟩
  have hd : decide (lrnE (-1) r xs = 0) = true := decide_eq_true h0
  rw [hd]
  have hInX : ∀ x ∈ xs, InX r O x := fun x hx => (HIN.out x hx).1
  have hs := sd_in h0 HL.out hInX
  have hat := at_yes (t := n) h0 hs ⟨by omega, by omega⟩
  have htm := time_one (t := n) h0 hs ⟨by omega, by omega⟩
  have hin := at_in (t := n) HL.out hInX (by have := HOB.out; omega)
  have hnr := at_near (t := n) h0 (fun x hx => (HIN.out x hx).2) (by omega)
  have HCT := Lib.hid (fun i k f (h : CtrP (-1) r xs i k f) => ctr_none h0 hs h)
  have c30 := Lib.hid (fun W (hX : Xcs W.heap.size W (.slice va xs.length vc) xs) => contra30_any (-1) r (.slice va xs.length vc) xs W hX)
  have c24 := Lib.hid (fun W (hX : Xcs W.heap.size W (.slice va xs.length vc) xs) => at24_any (-1) r n (.slice va xs.length vc) xs W hX)
  have c37 := Lib.hid (fun W (hX : Xcs W.heap.size W (.slice va xs.length vc) xs) => time37_any (.slice (some ⟨W.heap.size, 0, none⟩) 1 1) [⟨-1, r, xs⟩] 0 n (W.alloc (.cells #[.int .i64 (-1), .int .i64 r, .slice va xs.length vc] 28)) (cls_one W (-1) r (.slice va xs.length vc) xs hX))
  rw [hat] at c24
  rw [htm] at c37
  unfold R3.out at c24 c37
  dsimp only at c24 c37
  have HX1 := Lib.hid (fun W (hb : Below w1.heap.size w1 W) => HX.out.at hb)
  clear hd h0 hs hat htm hInX HX HIN HL
  obtain ⟨hO1, hO2⟩ := HOB.out
  obtain ⟨hi1, hi2⟩ := hin
  obtain ⟨hn1, hn2⟩ := hnr
  generalize CtrP (-1) r xs = CP at *
  generalize (atS r n (ofA r xs)).1 = lo at *
  generalize (atS r n (ofA r xs)).2 = hi at *
  generalize O n = T at *
  generalize (fun W (hb : Below w1.heap.size w1 W) => HX1.out W hb) = _q at *
  have HXG := Lib.hid (show ∃ P : World → Prop, (∀ W, Below w1.heap.size w1 W → P W) ∧ (∀ W, P W → Xcs W.heap.size W (.slice va xs.length vc) xs) from ⟨_, HX1.out, fun _ h => h⟩)
  obtain ⟨P, hP1, hP2⟩ := HXG.out
  have c30' := Lib.hid (fun W hb => c30.out W (hP2 W (hP1 W hb)))
  have c24' := Lib.hid (fun W hb => c24.out W (hP2 W (hP1 W hb)))
  have c37' := Lib.hid (fun W hb => c37.out W (hP2 W (hP1 W hb)))
  clear c30 c24 c37 HXG hP1 hP2 HX1
  generalize xs.length = nx at *
  have m1 : wrap64 (lo * 1000000000) = lo * 1000000000 := wrap64_id (by omega) (by omega)
  have m2 : wrap64 (hi * 1000000000) = hi * 1000000000 := wrap64_id (by omega) (by omega)
  have m3 : wrap64 (n * 1000000000) = n * 1000000000 := wrap64_id (by omega) (by omega)
  have m4 : wrap64 (n * 1000000000 + T) = n * 1000000000 + T := wrap64_id (by omega) (by omega)
  have m5 : wrap64 ((n + lo) * 1000000000) = (n + lo) * 1000000000 := wrap64_id (by omega) (by omega)
  have m6 : wrap64 ((n + hi) * 1000000000) = (n + hi) * 1000000000 := wrap64_id (by omega) (by omega)
  have p1 : ¬ T < lo * 1000000000 := by omega
  have p2 : ¬ hi * 1000000000 < T := by omega
  have p3 : (n + lo) * 1000000000 ≤ n * 1000000000 + T := by omega
  have p4 : n * 1000000000 + T ≤ (n + hi) * 1000000000 := by omega
  clear hO1 hO2 hi1 hi2 hn1 hn2 hm1 hrb hq ha
  obtain ⟨V, hV⟩ : ∃ V, V = w1.alloc (.cells #[.int .i64 (-1), .int .i64 r, .slice va nx vc] 28) := ⟨_, rfl⟩
  have hbV : Below w1.heap.size w1 V := by rw [hV]; exact (Below.refl _ _).alloc (Nat.le_refl _) _
  have hVB : V.heap[w1.heap.size]? = some (.cells #[.int .i64 (-1), .int .i64 r, .slice va nx vc] 28 (0, 0)) := by rw [hV]; exact World.alloc_heap_new _ _
  go_upto_region 3 with fail
  try rw [← hV]
  have hVl : w1.heap.size < V.heap.size := by rw [hV]; simp
  have HBV := Lib.hid (HB1.out.trans (hbV.mono hz1))
  have HV1 := Lib.hid hbV
  have HG := Lib.hid (show ∀ W, Below V.heap.size V W → W.cell? ⟨w1.heap.size, 0, none⟩ = some (.int .i64 (-1)) ∧ W.cell? ⟨w1.heap.size, 1, none⟩ = some (.int .i64 r) ∧ W.cell? ⟨w1.heap.size, 2, none⟩ = some (.slice va nx vc) from fun W h => ⟨(h.cell (p := ⟨w1.heap.size, 0, none⟩) hVl).trans (cellH hVB 0), (h.cell (p := ⟨w1.heap.size, 1, none⟩) hVl).trans (cellH hVB 1), (h.cell (p := ⟨w1.heap.size, 2, none⟩) hVl).trans (cellH hVB 2)⟩)
  have HU1 := Lib.hid (show ∀ W, Below V.heap.size V W → Below w1.heap.size w1 W from fun W h => HV1.out.trans (h.mono HV1.out.size))
  have HUA := Lib.hid (show ∀ W, Below V.heap.size V W → Below A.heap.size A W from fun W h => HBV.out.trans (h.mono HBV.out.size))
  clear hV hbV hVB hVl hz1 hlen
  obtain ⟨g0, g1, g2⟩ := HG.out _ (Below.refl _ _)
  go_wp2_with fail
  refine (c30'.out _ (HU1.out _ (Below.refl _ _))).mono ?_
  rintro e w2 ⟨i9, k9, f9, rfl, hcp, hb⟩
  have hf := HCT.out _ _ _ hcp
  subst hf
  have HB2 := Lib.hid hb
  obtain ⟨g0, g1, g2⟩ := HG.out _ hb
  clear hb hcp
  go_wp2_with fail
  refine (c24'.out _ (HU1.out _ HB2.out)).mono ?_
  rintro e w3 ⟨rfl, hb⟩
  have HB3 := Lib.hid (HB2.out.trans (hb.mono HB2.out.size))
  clear hb
  go_upto_region 8 with fail
  obtain ⟨V3, hV3⟩ : ∃ V3, V3 = w3.alloc (.cells #[.int .i64 lo, .int .i64 hi] 23) := ⟨_, rfl⟩
  try rw [← hV3]
  have hb3 : Below w3.heap.size w3 V3 := by rw [hV3]; exact (Below.refl _ _).alloc (Nat.le_refl _) _
  have HX3 := Lib.hid (show Bx2 V3 w3.heap.size (.int .i64 lo) (.int .i64 hi) by rw [hV3]; exact Bx2.new _ _ _)
  have HB3a := Lib.hid (HB3.out.trans (hb3.mono HB3.out.size))
  clear hb3 hV3
  obtain ⟨g0, g1, g2⟩ := HG.out _ HB3a.out
  go_wp2_with fail
  refine (c37'.out _ (HU1.out _ HB3a.out)).mono ?_
  rintro e w4 ⟨rfl, hb⟩
  have hbq : Below V3.heap.size V3 w4 := ((Below.refl _ _).alloc (Nat.le_refl _) (.cells #[.int .i64 (-1), .int .i64 r, .slice va nx vc] 28)).trans (hb.mono (by simp))
  have HB4 := Lib.hid (HB3a.out.trans (hbq.mono HB3a.out.size))
  have HX4 := Lib.hid (HX3.out.keep hbq)
  clear hb hbq
  go_upto_region 9 with fail
  obtain ⟨V4, hV4⟩ : ∃ V4, V4 = w4.alloc (.cells #[.int .i64 (n + lo), .int .i64 (n + hi)] 23) := ⟨_, rfl⟩
  try rw [← hV4]
  have hb4 : Below w4.heap.size w4 V4 := by rw [hV4]; exact (Below.refl _ _).alloc (Nat.le_refl _) _
  have HX5 := Lib.hid (show Bx2 V4 w4.heap.size (.int .i64 (n + lo)) (.int .i64 (n + hi)) by rw [hV4]; exact Bx2.new _ _ _)
  have HX4a := Lib.hid (HX4.out.keep hb4)
  have HB4a := Lib.hid (HB4.out.trans (hb4.mono HB4.out.size))
  clear hb4 hV4 g0 g1 g2
  obtain ⟨k0, k1⟩ := KK.out _ (HUA.out _ HB4a.out)
  go_wp2_with fail
  refine (c51.out _ (HUP.out _ (HUA.out _ HB4a.out))).mono ?_
  rintro e w5 ⟨rfl, hb⟩
  have HB5 := Lib.hid (HB4a.out.trans (hb.mono HB4a.out.size))
  have q0 := (HX4a.out.keep hb).c0
  have q1 := (HX4a.out.keep hb).c1
  have q2 := (HX5.out.keep hb).c0
  have q3 := (HX5.out.keep hb).c1
  clear hb
  go_wp2_with fail
  refine (c21 _).mono ?_
  rintro e wz ⟨rfl, hbz⟩
  have HBZ := Lib.hid (HB5.out.trans (hbz.mono HB5.out.size))
  clear hbz
  go_wp2_with fail
  go_ret
  exact ⟨rfl, HUP.out _ (HUA.out _ HBZ.out)⟩
end Go.Proofs.Ytcchmjbedppfnaa

/-
  TopInside: the walk.
-/
import Derived.Test.YthegcbpmammokaaGlM
import Derived.Deep.CutBlock
namespace Go.Proofs.Ythegcbpmammokaa
open Go.RowKit
set_option linter.unusedSimpArgs false
set_option maxHeartbeats 16000000
set_option maxRecDepth 100000
theorem boxed_three (w : World) (c1 c2 c3 : Array Value) (t1 t2 t3 : TypeId) (A : World) (hA : A = ((w.alloc (.cells c1 t1)).alloc (.cells c2 t2)).alloc (.cells c3 t3)) : (∀ o, A.cell? ⟨w.heap.size, o, none⟩ = c1[o]?) ∧ (∀ o, A.cell? ⟨w.heap.size + 1, o, none⟩ = c2[o]?) ∧ (∀ o, A.cell? ⟨w.heap.size + 2, o, none⟩ = c3[o]?) ∧
    A.heap.size = w.heap.size + 3 ∧ Below w.heap.size w A := by
  obtain ⟨h1, h2, h3, h4⟩ := boxed_two w c1 c2 t1 t2
  subst hA
  have hb := (Below.refl ((w.alloc (.cells c1 t1)).alloc (.cells c2 t2)).heap.size ((w.alloc (.cells c1 t1)).alloc (.cells c2 t2))).alloc (Nat.le_refl _) (.cells c3 t3)
  refine ⟨fun o => (hb.cell (p := ⟨w.heap.size, o, none⟩) (by show w.heap.size < _; omega)).trans (h1 o), fun o => (hb.cell (p := ⟨w.heap.size + 1, o, none⟩) (by show w.heap.size + 1 < _; omega)).trans (h2 o), fun o => ?_, by simp, h4.trans (hb.mono (by omega))⟩
  have h := World.alloc_heap_new ((w.alloc (.cells c1 t1)).alloc (.cells c2 t2)) (.cells c3 t3)
  rw [h3] at h
  exact cellHB h o
/-- every run has at most 20 boxes -/
def Sht (rs : List (List Q4)) : Prop := ∀ k, k < rs.length → (rn rs k).length ≤ 20
theorem law_inside (s : Sea) (sa : Option Addr) (sc : Nat) (cv rv : Value) (vs vd v0 v1 v2 v3 vr t pf pu : Int) (y : Q4) (rs : List (List Q4)) (w : World) (hC : Q4s w.heap.size w cv s.cs) (hR : Rns w.heap.size w rv rs) :
    Calls Try.prog 4 #[.agg #[.int .i64 s.nx, .int .i64 s.ny, .int .i64 s.cell, .int .i64 s.slot, .int .i64 s.slots, .int .i64 s.layers, .int .i64 s.most, .slice sa s.sl sc, cv], .agg #[.int .i64 vs, .int .i64 vd, .int .i64 v0, .int .i64 v1, .int .i64 v2, .int .i64 v3, .int .i64 vr], .int .i64 t, rv, .agg #[.int .i64 y.a, .int .i64 y.b, .int .i64 y.c, .int .i64 y.d, .int .i64 pf, .int .i64 pu]] w fun e w' => e = .returned (.bool true) ∧ Below w.heap.size w w' := by
  have c14 := Lib.hid (fun W (hb : Below w.heap.size w W) => visited14_any s sa sc cv rv rs W (hC.at hb) (hR.at hb))
  have c15 := Lib.hid (fun (h : seaP s) W (hb : Below w.heap.size w W) => rcheckSea_ok s h sa sc cv W (hC.at hb))
  have HVR := Lib.hid (fun W e w' => show VsR s rs W e w' ↔ ∃ v, e = .returned (.tuple #[v, .int .i64 (visE s rs)]) ∧ (visE s rs ≠ 0 → v = .slice none 0 0) ∧ (visE s rs = 0 → ∃ n : Nat, s.nx * s.ny = (n : Int) ∧ SlA w' v (viT s.nx s.cell rs n)) ∧ Below W.heap.size W w' from Iff.rfl)
  have HSP := Lib.hid (fun (h : visE s rs = 0) => seaE_get (two_zero h).1)
  have HRP := Lib.hid (fun (h : visE s rs = 0) => (runE_get (two_zero h).2).2)
  have HSQ := Lib.hid (show seaP s → (1 ≤ s.nx ∧ s.nx ≤ 12) ∧ (1 ≤ s.ny ∧ s.ny ≤ 12) ∧ (100 ≤ s.cell ∧ s.cell ≤ 65536) from fun h => ⟨h.1.1, h.1.2.1, h.1.2.2.1⟩)
  obtain ⟨ca, cc, rfl⟩ := hC.form
  obtain ⟨ra, rc, rfl⟩ := hR.form
  have HG := Lib.hid (fun k hk => show ∃ b off s, ra = some ⟨b, off, none⟩ ∧ b < w.heap.size ∧ w.cell? ⟨b, off + k, none⟩ = some s ∧ Q4s w.heap.size w s (rn rs k) from hR.get k hk)
  have HSH := Lib.hid (show Sht rs ↔ ∀ k, k < rs.length → (rn rs k).length ≤ 20 from Iff.rfl)
  clear hC hR
  have HRL0 := Lib.hid (show rs.length = rs.length from rfl)
  generalize hrl : rs.length = rl at *
  have HRL := Lib.hid hrl
  clear hrl HRL0
  generalize Sht rs = SH at *
  generalize visE s rs = VE at *
  generalize VsR s rs = VR at *
  generalize seaP s = SP at *
  generalize s.cs.length = cl at *
  generalize s.nx = nx at *
  generalize s.ny = ny at *
  generalize s.cell = cell at *
  generalize s.slot = slot at *
  generalize s.slots = slots at *
  generalize s.layers = layers at *
  generalize s.most = most at *
  generalize s.sl = sl at *
  have c5 := Lib.hid (fun W => large_any nx ny cell slot slots layers most sa ca sl sc cl cc W)
  have HY := Lib.hid (show y = ⟨y.a, y.b, y.c, y.d⟩ from rfl)
  generalize hya : y.a = ya at *
  generalize hyb : y.b = yb at *
  generalize hyc : y.c = yc at *
  generalize hyd : y.d = yd at *
  have HYY := Lib.hid (show y.a = ya ∧ y.b = yb ∧ y.c = yc ∧ y.d = yd from ⟨hya, hyb, hyc, hyd⟩)
  clear hya hyb hyc hyd HY
  obtain ⟨A, hA⟩ : ∃ A, A = ((w.alloc (.cells #[.int .i64 nx, .int .i64 ny, .int .i64 cell, .int .i64 slot, .int .i64 slots, .int .i64 layers, .int .i64 most, .slice sa sl sc, .slice ca cl cc] 25)).alloc (.cells #[.int .i64 vs, .int .i64 vd, .int .i64 v0, .int .i64 v1, .int .i64 v2, .int .i64 v3, .int .i64 vr] 41)).alloc (.cells #[.int .i64 ya, .int .i64 yb, .int .i64 yc, .int .i64 yd, .int .i64 pf, .int .i64 pu] 44) := ⟨_, rfl⟩
  obtain ⟨ks, kv, kp, hzA, hBA⟩ := boxed_three w _ _ _ _ _ _ A hA
  have HBW := Lib.hid (show ∀ W, Below A.heap.size A W → Below w.heap.size w W from fun W h => hBA.trans (h.mono hBA.size))
  have KS := Lib.hid (show ∀ W, Below A.heap.size A W → W.cell? ⟨w.heap.size, 0, none⟩ = some (.int .i64 nx) ∧ W.cell? ⟨w.heap.size, 1, none⟩ = some (.int .i64 ny) ∧ W.cell? ⟨w.heap.size, 2, none⟩ = some (.int .i64 cell) ∧ W.cell? ⟨w.heap.size, 3, none⟩ = some (.int .i64 slot) ∧ W.cell? ⟨w.heap.size, 4, none⟩ = some (.int .i64 slots) ∧ W.cell? ⟨w.heap.size, 5, none⟩ = some (.int .i64 layers) ∧ W.cell? ⟨w.heap.size, 6, none⟩ = some (.int .i64 most) ∧ W.cell? ⟨w.heap.size, 7, none⟩ = some (.slice sa sl sc) ∧ W.cell? ⟨w.heap.size, 8, none⟩ = some (.slice ca cl cc) from fun W h => ⟨(h.cell (p := ⟨w.heap.size, 0, none⟩) (by show w.heap.size < A.heap.size; omega)).trans (ks 0), (h.cell (p := ⟨w.heap.size, 1, none⟩) (by show w.heap.size < A.heap.size; omega)).trans (ks 1), (h.cell (p := ⟨w.heap.size, 2, none⟩) (by show w.heap.size < A.heap.size; omega)).trans (ks 2), (h.cell (p := ⟨w.heap.size, 3, none⟩) (by show w.heap.size < A.heap.size; omega)).trans (ks 3), (h.cell (p := ⟨w.heap.size, 4, none⟩) (by show w.heap.size < A.heap.size; omega)).trans (ks 4), (h.cell (p := ⟨w.heap.size, 5, none⟩) (by show w.heap.size < A.heap.size; omega)).trans (ks 5), (h.cell (p := ⟨w.heap.size, 6, none⟩) (by show w.heap.size < A.heap.size; omega)).trans (ks 6), (h.cell (p := ⟨w.heap.size, 7, none⟩) (by show w.heap.size < A.heap.size; omega)).trans (ks 7), (h.cell (p := ⟨w.heap.size, 8, none⟩) (by show w.heap.size < A.heap.size; omega)).trans (ks 8)⟩)
  have KV := Lib.hid (show ∀ W, Below A.heap.size A W → W.cell? ⟨w.heap.size + 1, 0, none⟩ = some (.int .i64 vs) ∧ W.cell? ⟨w.heap.size + 1, 1, none⟩ = some (.int .i64 vd) ∧ W.cell? ⟨w.heap.size + 1, 2, none⟩ = some (.int .i64 v0) ∧ W.cell? ⟨w.heap.size + 1, 3, none⟩ = some (.int .i64 v1) ∧ W.cell? ⟨w.heap.size + 1, 4, none⟩ = some (.int .i64 v2) ∧ W.cell? ⟨w.heap.size + 1, 5, none⟩ = some (.int .i64 v3) ∧ W.cell? ⟨w.heap.size + 1, 6, none⟩ = some (.int .i64 vr) from fun W h => ⟨(h.cell (p := ⟨w.heap.size + 1, 0, none⟩) (by show w.heap.size + 1 < A.heap.size; omega)).trans (kv 0), (h.cell (p := ⟨w.heap.size + 1, 1, none⟩) (by show w.heap.size + 1 < A.heap.size; omega)).trans (kv 1), (h.cell (p := ⟨w.heap.size + 1, 2, none⟩) (by show w.heap.size + 1 < A.heap.size; omega)).trans (kv 2), (h.cell (p := ⟨w.heap.size + 1, 3, none⟩) (by show w.heap.size + 1 < A.heap.size; omega)).trans (kv 3), (h.cell (p := ⟨w.heap.size + 1, 4, none⟩) (by show w.heap.size + 1 < A.heap.size; omega)).trans (kv 4), (h.cell (p := ⟨w.heap.size + 1, 5, none⟩) (by show w.heap.size + 1 < A.heap.size; omega)).trans (kv 5), (h.cell (p := ⟨w.heap.size + 1, 6, none⟩) (by show w.heap.size + 1 < A.heap.size; omega)).trans (kv 6)⟩)
  have KP := Lib.hid (show ∀ W, Below A.heap.size A W → W.cell? ⟨w.heap.size + 2, 0, none⟩ = some (.int .i64 ya) ∧ W.cell? ⟨w.heap.size + 2, 1, none⟩ = some (.int .i64 yb) ∧ W.cell? ⟨w.heap.size + 2, 2, none⟩ = some (.int .i64 yc) ∧ W.cell? ⟨w.heap.size + 2, 3, none⟩ = some (.int .i64 yd) ∧ W.cell? ⟨w.heap.size + 2, 4, none⟩ = some (.int .i64 pf) ∧ W.cell? ⟨w.heap.size + 2, 5, none⟩ = some (.int .i64 pu) from fun W h => ⟨(h.cell (p := ⟨w.heap.size + 2, 0, none⟩) (by show w.heap.size + 2 < A.heap.size; omega)).trans (kp 0), (h.cell (p := ⟨w.heap.size + 2, 1, none⟩) (by show w.heap.size + 2 < A.heap.size; omega)).trans (kp 1), (h.cell (p := ⟨w.heap.size + 2, 2, none⟩) (by show w.heap.size + 2 < A.heap.size; omega)).trans (kp 2), (h.cell (p := ⟨w.heap.size + 2, 3, none⟩) (by show w.heap.size + 2 < A.heap.size; omega)).trans (kp 3), (h.cell (p := ⟨w.heap.size + 2, 4, none⟩) (by show w.heap.size + 2 < A.heap.size; omega)).trans (kp 4), (h.cell (p := ⟨w.heap.size + 2, 5, none⟩) (by show w.heap.size + 2 < A.heap.size; omega)).trans (kp 5)⟩)
  have HST := Lib.hid (show ∀ W W', Below A.heap.size A W → Below W.heap.size W W' → Below A.heap.size A W' from fun W W' h h' => h.trans (h'.mono h.size))
  have c6 := Lib.hid (fun W (h : Below A.heap.size A W) => (works03_any W).mono fun e w' (q : e = .returned (.bool true) ∧ Below W.heap.size W w') => (⟨q.1, HBW.out _ (HST.out _ _ h q.2)⟩ : e = .returned (.bool true) ∧ Below w.heap.size w w'))
  clear ks kv kp hzA hBA
  obtain ⟨s0, s1, s2, s3, s4, s5, s6, s7, s8⟩ := KS.out _ (Below.refl _ _)
  go_enter Try.func4, Try.ntmps4
  go_upto_region 1 with fail
  rw [← hA]
  clear hA
  go_wp2_with fail
  refine (c5.out _).mono ?_
  rintro e w1 ⟨rfl, hb⟩
  have HB1 := Lib.hid hb
  clear hb c5 s0 s1 s2 s3 s4 s5 s6 s7 s8
  generalize (decide (200 < sl) || decide (3000 < cl)) = lg
  cases lg
  rotate_left
  · go_wp2_with fail
    refine (c6.out _ HB1.out).mono ?_
    rintro e w6 ⟨rfl, hb6⟩
    have HB6 := Lib.hid hb6
    clear hb6
    go_wp2_with fail
    go_ret
    exact ⟨rfl, HB6.out⟩
  by_cases h3 : 3 < rl
  · have h3i : (3 : Int) < (rl : Int) := by omega
    go_wp2_with fail
    refine (c6.out _ HB1.out).mono ?_
    rintro e w6 ⟨rfl, hb6⟩
    have HB6 := Lib.hid hb6
    clear hb6
    go_wp2_with fail
    go_ret
    exact ⟨rfl, HB6.out⟩
  have h3i : ¬ (3 : Int) < (rl : Int) := by omega
  go_upto_block 0 with fail
  go_cut [11] from 43 to 55 (fun c11 wc => SH ∧ wc = w1)
  case first => as_aux_lemma =>
    clear c14 c15 HVR HSP HRP HSQ
    go_wp2_with fail
    go_loopw [11] (fun i wr => ∃ k : Nat, k ≤ rl ∧ i = .int .i64 k ∧ (∀ j, j < k → (rn rs j).length ≤ 20) ∧ wr = w1) (fun i _ => rl - (intOf i).toNat)
    case atStart => exact ⟨0, Nat.zero_le _, rfl, fun j h => absurd h (Nat.not_lt_zero _), rfl⟩
    case round =>
      obtain ⟨k, hk, rfl, hin, hw⟩ := hrel
      have hw2 := hw.symm
      subst hw2
      have HIN := Lib.hid hin
      clear hin hw
      by_cases hlt : k < rl
      · have hki : (k : Int) < (rl : Int) := by omega
        obtain ⟨b, off, s5, rfl, hb, g0, g1⟩ := HG.out k hlt
        have m0 := ((HBW.out _ HB1.out).cell (p := ⟨b, off + k, none⟩) hb).trans g0
        obtain ⟨a1, c1, rfl⟩ := g1.form
        generalize hln : (rn rs k).length = ln at *
        have HLN := Lib.hid hln
        clear hln g0 g1
        by_cases h20 : 20 < ln
        · have h7 : (20 : Int) < (ln : Int) := by omega
          go_wp2_with fail
          refine (c6.out _ HB1.out).mono ?_
          rintro e w6 ⟨rfl, hb6⟩
          have HB6 := Lib.hid hb6
          clear hb6
          go_wp2_with fail
          go_ret
          exact ⟨rfl, HB6.out⟩
        · have h7 : ¬ (20 : Int) < (ln : Int) := by omega
          go_wp2_with fail
          go_roundw
          case rel => exact ⟨k + 1, by omega, by go_num, fun j hj => (by by_cases e : j = k; (subst e; rw [HLN.out]; omega); exact HIN.out j (by omega)), by first | rfl | trivial⟩
          case measure => simp [intOf]; omega
      · obtain rfl : k = rl := by omega
        go_wp2_with fail
        go_meet
        case rel => exact ⟨HSH.out.2 HIN.out, rfl⟩
  case rest => as_aux_lemma =>
    obtain ⟨hsh, hwc⟩ := hcut
    have hwc2 := hwc.symm
    subst hwc2
    have HL20 := Lib.hid (HSH.out.1 hsh)
    clear hsh hwc HSH
    go_upto_block 2 with fail
    go_cut [12, 13, 14, 15, 16, 17, 18, 19, 20, 21] from 56 to 133 (fun c12 c13 c14 c15 c16 c17 c18 c19 c20 c21 wn => Below A.heap.size A wn)
    case first => as_aux_lemma =>
      clear c14 c15 HVR HSP HRP HSQ
      go_wp2_with fail
      go_loopw [12] (fun i wr => ∃ k : Nat, k ≤ rl ∧ i = .int .i64 k ∧ Below A.heap.size A wr) (fun i _ => rl - (intOf i).toNat)
      case atStart => exact ⟨0, Nat.zero_le _, rfl, HB1.out⟩
      case round =>
        obtain ⟨i, hi, rfl, hB⟩ := hrel
        have HB := Lib.hid hB
        clear hB
        by_cases hlt : i < rl
        rotate_left
        · obtain rfl : i = rl := by omega
          go_wp2_with fail
          go_meet
          case rel => exact HB.out
        have hki : (i : Int) < (rl : Int) := by omega
        have hk0 : (0 : Int) ≤ (i : Int) := by omega
        obtain ⟨b, off, s5, rfl, hb, g0, g1⟩ := HG.out i hlt
        have HG0 := Lib.hid g0
        have HG1 := Lib.hid g1
        have h20 := HL20.out i hlt
        obtain ⟨a1, c1, rfl⟩ := g1.form
        clear g0 g1
        have cF := Lib.hid (fun W (hb : Below w.heap.size w W) => fetched11_any vs vd v0 v1 v2 v3 vr t pf pu y _ (rn rs i) W (HG1.out.at hb))
        have HFE := Lib.hid (show fedE vs vd v0 v1 v2 v3 vr t pf pu y (rn rs i) = fstE (four (vehE vs vd v0 v1 v2 v3 vr) (tmE t) (boxE (rn rs i)) (pkE y.a y.b y.c y.d pf pu)) 4 from rfl)
        have HFV := Lib.hid (show fedV vs vd v0 v1 v2 v3 vr t pf pu y (rn rs i) = if fedE vs vd v0 v1 v2 v3 vr t pf pu y (rn rs i) = 0 then fetV t vd pf pu (rn rs i) y else 0 from rfl)
        have HFG := Lib.hid (fun (h : fedE vs vd v0 v1 v2 v3 vr t pf pu y (rn rs i) = 0) => four_zero h)
        generalize fedV vs vd v0 v1 v2 v3 vr t pf pu y (rn rs i) = xv at *
        generalize fedE vs vd v0 v1 v2 v3 vr t pf pu y (rn rs i) = xe at *
        rw [HYY.out.1, HYY.out.2.1, HYY.out.2.2.1, HYY.out.2.2.2] at cF HFG
        generalize hln : (rn rs i).length = ln at *
        have HLN := Lib.hid hln
        clear hln HFE
        have KC := Lib.hid (show ∀ W, Below A.heap.size A W → W.cell? ⟨w.heap.size + 1, 0, none⟩ = some (.int .i64 vs) ∧ W.cell? ⟨w.heap.size + 1, 1, none⟩ = some (.int .i64 vd) ∧ W.cell? ⟨w.heap.size + 1, 2, none⟩ = some (.int .i64 v0) ∧ W.cell? ⟨w.heap.size + 1, 3, none⟩ = some (.int .i64 v1) ∧ W.cell? ⟨w.heap.size + 1, 4, none⟩ = some (.int .i64 v2) ∧ W.cell? ⟨w.heap.size + 1, 5, none⟩ = some (.int .i64 v3) ∧ W.cell? ⟨w.heap.size + 1, 6, none⟩ = some (.int .i64 vr) ∧ W.cell? ⟨b, off + i, none⟩ = some (.slice a1 ln c1) ∧ W.cell? ⟨w.heap.size + 2, 0, none⟩ = some (.int .i64 ya) ∧ W.cell? ⟨w.heap.size + 2, 1, none⟩ = some (.int .i64 yb) ∧ W.cell? ⟨w.heap.size + 2, 2, none⟩ = some (.int .i64 yc) ∧ W.cell? ⟨w.heap.size + 2, 3, none⟩ = some (.int .i64 yd) ∧ W.cell? ⟨w.heap.size + 2, 4, none⟩ = some (.int .i64 pf) ∧ W.cell? ⟨w.heap.size + 2, 5, none⟩ = some (.int .i64 pu) from fun W h => by obtain ⟨u0, u1, u2, u3, u4, u5, u6⟩ := KV.out W h; exact ⟨u0, u1, u2, u3, u4, u5, u6, ((HBW.out W h).cell (p := ⟨b, off + i, none⟩) hb).trans HG0.out, KP.out W h⟩)
        obtain ⟨v_0, v_1, v_2, v_3, v_4, v_5, v_6, m0, p_0, p_1, p_2, p_3, p_4, p_5⟩ := KC.out _ HB.out
        go_wp2_with fail
        refine wp_region_held_drew (S := fun w' => w'.cell? ⟨w.heap.size + 1, 0, none⟩ = some (.int .i64 vs) ∧ w'.cell? ⟨w.heap.size + 1, 1, none⟩ = some (.int .i64 vd) ∧ w'.cell? ⟨w.heap.size + 1, 2, none⟩ = some (.int .i64 v0) ∧ w'.cell? ⟨w.heap.size + 1, 3, none⟩ = some (.int .i64 v1) ∧ w'.cell? ⟨w.heap.size + 1, 4, none⟩ = some (.int .i64 v2) ∧ w'.cell? ⟨w.heap.size + 1, 5, none⟩ = some (.int .i64 v3) ∧ w'.cell? ⟨w.heap.size + 1, 6, none⟩ = some (.int .i64 vr) ∧ w'.cell? ⟨b, off + i, none⟩ = some (.slice a1 ln c1) ∧ w'.cell? ⟨w.heap.size + 2, 0, none⟩ = some (.int .i64 ya) ∧ w'.cell? ⟨w.heap.size + 2, 1, none⟩ = some (.int .i64 yb) ∧ w'.cell? ⟨w.heap.size + 2, 2, none⟩ = some (.int .i64 yc) ∧ w'.cell? ⟨w.heap.size + 2, 3, none⟩ = some (.int .i64 yd) ∧ w'.cell? ⟨w.heap.size + 2, 4, none⟩ = some (.int .i64 pf) ∧ w'.cell? ⟨w.heap.size + 2, 5, none⟩ = some (.int .i64 pu)) (by kernel_rfl) ⟨by simpa [go_sem] using v_0, by simpa [go_sem] using v_1, by simpa [go_sem] using v_2, by simpa [go_sem] using v_3, by simpa [go_sem] using v_4, by simpa [go_sem] using v_5, by simpa [go_sem] using v_6, by simpa [go_sem] using m0, by simpa [go_sem] using p_0, by simpa [go_sem] using p_1, by simpa [go_sem] using p_2, by simpa [go_sem] using p_3, by simpa [go_sem] using p_4, by simpa [go_sem] using p_5⟩ (fun hHeld => ?_)
        refine wpAnyH_take (i := 0) (oi := _) (v := Value.agg #[Value.int .i64 vs, Value.int .i64 vd, Value.int .i64 v0, Value.int .i64 v1, Value.int .i64 v2, Value.int .i64 v3, Value.int .i64 vr]) rfl (by kernel_rfl) (by kernel_rfl) (by kernel_rfl) (fun _ _ _ h => h) (Or.inl ⟨by rfl, fun w' hSw => ?_⟩) hHeld ?_
        · obtain ⟨t0, t1, t2, t3, t4, t5, t6, t7, t8, t9, t10, t11, t12, t13⟩ := hSw
          go_simp
          try simp [*]
          try (intro hh; exfalso; omega)
          try omega
        try simp only [Act.put, List.setIfInBounds_toArray, List.set_cons_zero, List.set_cons_succ, List.getElem_toArray, List.getElem_cons_succ, List.getElem_cons_zero]
        refine wpAnyH_take (i := 1) (oi := _) (v := Value.int .i64 t) rfl (by kernel_rfl) (by kernel_rfl) (by kernel_rfl) (fun _ _ _ h => h) (Or.inl ⟨by rfl, fun w' hSw => ?_⟩) hHeld ?_
        · obtain ⟨t0, t1, t2, t3, t4, t5, t6, t7, t8, t9, t10, t11, t12, t13⟩ := hSw
          go_simp
          try simp [*]
          try (intro hh; exfalso; omega)
          try omega
        try simp only [Act.put, List.setIfInBounds_toArray, List.set_cons_zero, List.set_cons_succ, List.getElem_toArray, List.getElem_cons_succ, List.getElem_cons_zero]
        refine wpAnyH_take (i := 2) (oi := _) (v := Value.slice (some ⟨b, off, none⟩) rl rc) rfl (by kernel_rfl) (by kernel_rfl) (by kernel_rfl) (fun _ _ _ h => h) (Or.inl ⟨by rfl, fun w' hSw => ?_⟩) hHeld ?_
        · obtain ⟨t0, t1, t2, t3, t4, t5, t6, t7, t8, t9, t10, t11, t12, t13⟩ := hSw
          go_simp
          try simp [*]
          try (intro hh; exfalso; omega)
          try omega
        try simp only [Act.put, List.setIfInBounds_toArray, List.set_cons_zero, List.set_cons_succ, List.getElem_toArray, List.getElem_cons_succ, List.getElem_cons_zero]
        refine wpAnyH_take (i := 3) (oi := _) (v := Value.int .i64 i) rfl (by kernel_rfl) (by kernel_rfl) (by kernel_rfl) (fun _ _ _ h => h) (Or.inl ⟨by rfl, fun w' hSw => ?_⟩) hHeld ?_
        · obtain ⟨t0, t1, t2, t3, t4, t5, t6, t7, t8, t9, t10, t11, t12, t13⟩ := hSw
          go_simp
          try simp [*]
          try (intro hh; exfalso; omega)
          try omega
        try simp only [Act.put, List.setIfInBounds_toArray, List.set_cons_zero, List.set_cons_succ, List.getElem_toArray, List.getElem_cons_succ, List.getElem_cons_zero]
        refine wpAnyH_take (i := 4) (oi := _) (v := Value.pointer (some ⟨b, off + i, none⟩)) rfl (by kernel_rfl) (by kernel_rfl) (by kernel_rfl) (fun _ _ _ h => h) (Or.inl ⟨by rfl, fun w' hSw => ?_⟩) hHeld ?_
        · obtain ⟨t0, t1, t2, t3, t4, t5, t6, t7, t8, t9, t10, t11, t12, t13⟩ := hSw
          go_simp
          try simp [*]
          try (intro hh; exfalso; omega)
          try omega
        try simp only [Act.put, List.setIfInBounds_toArray, List.set_cons_zero, List.set_cons_succ, List.getElem_toArray, List.getElem_cons_succ, List.getElem_cons_zero]
        refine wpAnyH_take (i := 5) (oi := _) (v := Value.slice a1 ln c1) rfl (by kernel_rfl) (by kernel_rfl) (by kernel_rfl) (fun _ _ _ h => h) (Or.inl ⟨by rfl, fun w' hSw => ?_⟩) hHeld ?_
        · obtain ⟨t0, t1, t2, t3, t4, t5, t6, t7, t8, t9, t10, t11, t12, t13⟩ := hSw
          go_simp
          try simp [*]
          try (intro hh; exfalso; omega)
          try omega
        try simp only [Act.put, List.setIfInBounds_toArray, List.set_cons_zero, List.set_cons_succ, List.getElem_toArray, List.getElem_cons_succ, List.getElem_cons_zero]
        refine wpAnyH_take (i := 6) (oi := _) (v := Value.agg #[Value.int .i64 ya, Value.int .i64 yb, Value.int .i64 yc, Value.int .i64 yd, Value.int .i64 pf, Value.int .i64 pu]) rfl (by kernel_rfl) (by kernel_rfl) (by kernel_rfl) (fun _ _ _ h => h) (Or.inl ⟨by rfl, fun w' hSw => ?_⟩) hHeld ?_
        · obtain ⟨t0, t1, t2, t3, t4, t5, t6, t7, t8, t9, t10, t11, t12, t13⟩ := hSw
          go_simp
          try simp [*]
          try (intro hh; exfalso; omega)
          try omega
        try simp only [Act.put, List.setIfInBounds_toArray, List.set_cons_zero, List.set_cons_succ, List.getElem_toArray, List.getElem_cons_succ, List.getElem_cons_zero]
        have HD := Lib.hid (show Below A.heap.size A wr.drew from HB.out.drew)
        refine wpAnyH_ready (rs := [7]) (by kernel_rfl) (by simp) ?_
        refine AllReadyH.cons (o := _) rfl (fun K hK => ?_) AllReadyH.nil
        go_simp
        go_at_call 11
        refine Calls.mono (cF.out _ (HBW.out _ HD.out)) ?_
        rintro e w5 ⟨rfl, hb5⟩
        have HB5 := Lib.hid (show Below A.heap.size A w5 from HST.out _ _ HD.out hb5)
        clear hb5 cF
        clear hHeld
        refine hK.out _ _ (KC.out _ HB5.out) (fun hHeld => ?_)
        clear hK K
        try simp only [Act.put, List.setIfInBounds_toArray, List.set_cons_zero, List.set_cons_succ, List.getElem_toArray, List.getElem_cons_succ, List.getElem_cons_zero]
        refine wpAnyH_take (i := 8) (oi := _) (v := .tuple #[.int .i64 xv, .int .i64 xe]) rfl (by kernel_rfl) (by kernel_rfl) (by kernel_rfl) (fun _ _ _ h => h) (Or.inl ⟨by rfl, fun w' hSw => ?_⟩) hHeld ?_
        · obtain ⟨t0, t1, t2, t3, t4, t5, t6, t7, t8, t9, t10, t11, t12, t13⟩ := hSw
          go_simp
          try simp [*]
          try (intro hh; exfalso; omega)
          try omega
        try simp only [Act.put, List.setIfInBounds_toArray, List.set_cons_zero, List.set_cons_succ, List.getElem_toArray, List.getElem_cons_succ, List.getElem_cons_zero]
        refine wpAnyH_take (i := 9) (oi := _) (v := .int .i64 xv) rfl (by kernel_rfl) (by kernel_rfl) (by kernel_rfl) (fun _ _ _ h => h) (Or.inl ⟨by rfl, fun w' hSw => ?_⟩) hHeld ?_
        · obtain ⟨t0, t1, t2, t3, t4, t5, t6, t7, t8, t9, t10, t11, t12, t13⟩ := hSw
          go_simp
          try simp [*]
          try (intro hh; exfalso; omega)
          try omega
        try simp only [Act.put, List.setIfInBounds_toArray, List.set_cons_zero, List.set_cons_succ, List.getElem_toArray, List.getElem_cons_succ, List.getElem_cons_zero]
        refine wpAnyH_take (i := 10) (oi := _) (v := .int .i64 xe) rfl (by kernel_rfl) (by kernel_rfl) (by kernel_rfl) (fun _ _ _ h => h) (Or.inl ⟨by rfl, fun w' hSw => ?_⟩) hHeld ?_
        · obtain ⟨t0, t1, t2, t3, t4, t5, t6, t7, t8, t9, t10, t11, t12, t13⟩ := hSw
          go_simp
          try simp [*]
          try (intro hh; exfalso; omega)
          try omega
        try simp only [Act.put, List.setIfInBounds_toArray, List.set_cons_zero, List.set_cons_succ, List.getElem_toArray, List.getElem_cons_succ, List.getElem_cons_zero]
        refine wpAnyH_take (i := 11) (oi := _) (v := .int .i64 xv) rfl (by kernel_rfl) (by kernel_rfl) (by kernel_rfl) (fun _ _ _ h => h) (Or.inl ⟨by rfl, fun w' hSw => ?_⟩) hHeld ?_
        · obtain ⟨t0, t1, t2, t3, t4, t5, t6, t7, t8, t9, t10, t11, t12, t13⟩ := hSw
          go_simp
          try simp [*]
          try (intro hh; exfalso; omega)
          try omega
        try simp only [Act.put, List.setIfInBounds_toArray, List.set_cons_zero, List.set_cons_succ, List.getElem_toArray, List.getElem_cons_succ, List.getElem_cons_zero]
        refine wpAnyH_take (i := 12) (oi := _) (v := .int .i64 xe) rfl (by kernel_rfl) (by kernel_rfl) (by kernel_rfl) (fun _ _ _ h => h) (Or.inl ⟨by rfl, fun w' hSw => ?_⟩) hHeld ?_
        · obtain ⟨t0, t1, t2, t3, t4, t5, t6, t7, t8, t9, t10, t11, t12, t13⟩ := hSw
          go_simp
          try simp [*]
          try (intro hh; exfalso; omega)
          try omega
        try simp only [Act.put, List.setIfInBounds_toArray, List.set_cons_zero, List.set_cons_succ, List.getElem_toArray, List.getElem_cons_succ, List.getElem_cons_zero]
        refine wpAnyH_done (by kernel_rfl) ?_ _
        clear hHeld
        clear v_0 v_1 v_2 v_3 v_4 v_5 v_6 m0 p_0 p_1 p_2 p_3 p_4 p_5
        by_cases hxe : xe = 0
        rotate_left
        · have hne : (xe != 0) = true := by simpa using hxe
          have hx0 : xv = 0 := by rw [HFV.out, if_neg hxe]
          subst hx0
          clear hxe HFV HFG
          go_wp2_with fail
          go_roundw
          case rel => exact ⟨i + 1, by omega, by go_num, HB5.out⟩
          case measure => simp [intOf]; omega
        subst hxe
        have hfv := HFV.out
        rw [if_pos rfl] at hfv
        have HXV := Lib.hid hfv
        obtain ⟨hve, hte, hbe, hpe⟩ := HFG.out (by trivial)
        have htb := tmE_get hte
        have hvb := (vehE_get hve).2
        have hbx := (boxE_get hbe).2
        obtain ⟨hpa, hpb, hpc, hpd⟩ := pkE_get hpe
        clear hfv HFV HFG hve hte hbe hpe
        have HAR := Lib.hid (chkX_get hpa)
        have HBX := Lib.hid hbx
        have HFY := Lib.hid (fun k h => fetA_yes (t := t) (d := vd) (f := pf) (u := pu) (zs := rn rs i) (y := y) (k := k) h)
        have HFN := Lib.hid (fun k h => fetA_no (t := t) (d := vd) (f := pf) (u := pu) (zs := rn rs i) (y := y) (k := k) h)
        have HFL := Lib.hid (fun k => fetA_len t vd pf pu (rn rs i) y k)
        have HF0 := Lib.hid (show fetA t vd pf pu (rn rs i) y 0 = [] from rfl)
        have HFA := Lib.hid (fetA_any t vd pf pu (rn rs i) y (by rw [HLN.out]; omega))
        rw [HLN.out] at HFA
        have HTM := Lib.hid (fun (k : Nat) => show tmD t vd (k + 1) = t + ((k + 1 : Nat) : Int) * vd from rfl)
        have HTB := Lib.hid (fun (k : Nat) (hk : k ≤ 65) => tmD_bd htb hvb hk)
        have c12 := Lib.hid (fun (z : Q4) (h1 : vB z.a z.b = true) (h2 : vB z.c z.d = true) W => within12_any z y (by rw [HYY.out.1, HYY.out.2.1]; exact inS_e h1 HAR.out.1) (by rw [HYY.out.2.2.1, HYY.out.2.2.2]; exact inS_e h2 HAR.out.2) W)
        rw [HYY.out.1, HYY.out.2.1, HYY.out.2.2.1, HYY.out.2.2.2] at c12
        have c13 := Lib.hid (fun l v W hv => any_any l v W hv)
        generalize fetA t vd pf pu (rn rs i) y = T at *
        generalize fetV t vd pf pu (rn rs i) y = fv at *
        generalize tmD t vd = TM at *
        clear hpa hbx
        obtain ⟨i0, hi0, hz0, hz1, hz2⟩ := info_parts infoA
        have hB5z := HB5.out.size
        go_wp2_with fail
        go_loopw [15, 16] (fun v c wr => ∃ k : Nat, k ≤ ln ∧ c = .int .i64 k ∧ wr.ownsRow A.heap.size 46 1 v (T k).length (numv (T k)) ∧ Below A.heap.size A wr) (fun _ c _ => ln - (intOf c).toNat)
        case atStart => exact ⟨0, Nat.zero_le _, rfl, by rw [HF0.out]; exact World.ownsRow_nil _ _ _ _, HB5.out⟩
        case round =>
          obtain ⟨k, hk, rfl, hrow, hB⟩ := hrel
          have HBk := Lib.hid hB
          have HRow := Lib.hid hrow
          have hsz := hB.size
          clear hB hrow
          obtain ⟨v_0, v_1, v_2, v_3, v_4, v_5, v_6, m0, p_0, p_1, p_2, p_3, p_4, p_5⟩ := KC.out _ HBk.out
          by_cases hltk : k < ln
          rotate_left
          · obtain rfl : k = ln := by omega
            have hl := HFL.out k
            have hsl := sla_of_owns (by omega) HRow.out
            have hc := c13.out _ _ _ hsl
            rw [HFA.out, ← HXV.out] at hc
            obtain ⟨a2, c2, rfl⟩ := own_form HRow.out
            clear hsl c13 c12 HFY HFN HTM HTB v_0 v_1 v_2 v_3 v_4 v_5 v_6 p_0 p_1 p_2 p_3 p_4 p_5
            generalize (T k).length = tl at *
            dsimp only at hc
            go_wp2_with fail
            refine hc.mono ?_
            rintro e w7 ⟨rfl, hw7⟩
            subst hw7
            clear hc
            go_wp2_with fail
            go_roundw
            case rel => exact ⟨i + 1, by omega, by go_num, HBk.out⟩
            case measure => simp [intOf]; omega
          have hkki : (k : Int) < (ln : Int) := by omega
          have hkk0 : (0 : Int) ≤ (k : Int) := by omega
          have htm := HTM.out k
          have htmb := HTB.out (k + 1) (by omega)
          have hfy := HFY.out k
          have hfn := HFN.out k
          have hl := HFL.out k
          generalize TM (k + 1) = M at *
          have hm1 : ((k + 1 : Nat) : Int) = (k : Int) + 1 := by push_cast; rfl
          rw [hm1] at htm
          clear hm1
          obtain ⟨D, hD⟩ : ∃ D, ((k : Int) + 1) * vd = D := ⟨_, rfl⟩
          rw [hD] at htm
          have hw1 : wrap64 (((k : Int) + 1) * vd) = D := by rw [hD]; unfold wrap64; omega
          have hw2 : wrap64 (t + D) = M := by rw [← htm]; unfold wrap64; omega
          clear hD htm
          have HFYk := Lib.hid hfy
          have HFNk := Lib.hid hfn
          clear hfy hfn
          go_upto_region 20 with fail
          try simp only [hw1, hw2]
          clear hw1 hw2
          by_cases hin1 : M < pf
          · have HT := Lib.hid (HFNk.out (fun h => by omega))
            clear htmb
            go_wp2_with fail
            go_roundw
            case rel => exact ⟨k + 1, by omega, by go_num, by rw [HT.out]; exact HRow.out, HBk.out⟩
            case measure => simp [intOf]; omega
          by_cases hin2 : pu < M
          · have HT := Lib.hid (HFNk.out (fun h => by omega))
            clear htmb
            go_wp2_with fail
            go_roundw
            case rel => exact ⟨k + 1, by omega, by go_num, by rw [HT.out]; exact HRow.out, HBk.out⟩
            case measure => simp [intOf]; omega
          have HT := Lib.hid (HFYk.out ⟨by omega, by omega⟩)
          obtain ⟨bz, offz, rfl, hbz, z0, z1, z2, z3⟩ := HG1.out.get k (by rw [HLN.out]; exact hltk)
          have hzk := chkX_get (HBX.out k (by rw [HLN.out]; exact hltk))
          have cI := Lib.hid (c12.out (q4 (rn rs i) k) hzk.1 hzk.2)
          clear hzk htmb
          generalize insV (q4 (rn rs i) k) y = iv at *
          generalize (q4 (rn rs i) k).a = za at *
          generalize (q4 (rn rs i) k).b = zb at *
          generalize (q4 (rn rs i) k).c = zc at *
          generalize (q4 (rn rs i) k).d = zd at *
          have KZ := Lib.hid (show ∀ W, Below A.heap.size A W → W.cell? ⟨b, off + i, none⟩ = some (.slice (some ⟨bz, offz, none⟩) ln c1) ∧ W.cell? ⟨bz, offz + k * 4, none⟩ = some (.int .i64 za) ∧ W.cell? ⟨bz, offz + k * 4 + 1, none⟩ = some (.int .i64 zb) ∧ W.cell? ⟨bz, offz + k * 4 + 2, none⟩ = some (.int .i64 zc) ∧ W.cell? ⟨bz, offz + k * 4 + 3, none⟩ = some (.int .i64 zd) ∧ W.cell? ⟨w.heap.size + 2, 0, none⟩ = some (.int .i64 ya) ∧ W.cell? ⟨w.heap.size + 2, 1, none⟩ = some (.int .i64 yb) ∧ W.cell? ⟨w.heap.size + 2, 2, none⟩ = some (.int .i64 yc) ∧ W.cell? ⟨w.heap.size + 2, 3, none⟩ = some (.int .i64 yd) from fun W h => ⟨((HBW.out W h).cell (p := ⟨b, off + i, none⟩) hb).trans HG0.out, ((HBW.out W h).cell (p := ⟨bz, _, none⟩) hbz).trans z0, ((HBW.out W h).cell (p := ⟨bz, _, none⟩) hbz).trans z1, ((HBW.out W h).cell (p := ⟨bz, _, none⟩) hbz).trans z2, ((HBW.out W h).cell (p := ⟨bz, _, none⟩) hbz).trans z3, (KP.out W h).1, (KP.out W h).2.1, (KP.out W h).2.2.1, (KP.out W h).2.2.2.1⟩)
          generalize hnl : numv (T k) = nl at *
          have HNL := Lib.hid hnl
          generalize htl : (T k).length = tl at *
          have HTLk := Lib.hid htl
          clear hnl htl z0 z1 z2 z3
          obtain ⟨n0, n1, n2, n3, n4, n5, n6, n7, n8⟩ := KZ.out _ HBk.out
          go_wp2_with fail
          refine wp_region_held_drew (S := fun w' => w'.cell? ⟨b, off + i, none⟩ = some (.slice (some ⟨bz, offz, none⟩) ln c1) ∧ w'.cell? ⟨bz, offz + k * 4, none⟩ = some (.int .i64 za) ∧ w'.cell? ⟨bz, offz + k * 4 + 1, none⟩ = some (.int .i64 zb) ∧ w'.cell? ⟨bz, offz + k * 4 + 2, none⟩ = some (.int .i64 zc) ∧ w'.cell? ⟨bz, offz + k * 4 + 3, none⟩ = some (.int .i64 zd) ∧ w'.cell? ⟨w.heap.size + 2, 0, none⟩ = some (.int .i64 ya) ∧ w'.cell? ⟨w.heap.size + 2, 1, none⟩ = some (.int .i64 yb) ∧ w'.cell? ⟨w.heap.size + 2, 2, none⟩ = some (.int .i64 yc) ∧ w'.cell? ⟨w.heap.size + 2, 3, none⟩ = some (.int .i64 yd)) (by kernel_rfl) ⟨by simpa [go_sem] using n0, by simpa [go_sem] using n1, by simpa [go_sem] using n2, by simpa [go_sem] using n3, by simpa [go_sem] using n4, by simpa [go_sem] using n5, by simpa [go_sem] using n6, by simpa [go_sem] using n7, by simpa [go_sem] using n8⟩ (fun hHeld => ?_)
          refine wpAnyH_take (i := 0) (oi := _) (v := Value.slice (some ⟨b, off, none⟩) rl rc) rfl (by kernel_rfl) (by kernel_rfl) (by kernel_rfl) (fun _ _ _ h => h) (Or.inl ⟨by rfl, fun w' hSw => ?_⟩) hHeld ?_
          · obtain ⟨t0, t1, t2, t3, t4, t5, t6, t7, t8⟩ := hSw
            go_simp
            try simp [*]
            try (intro hh; exfalso; omega)
            try omega
          try simp only [Act.put, List.setIfInBounds_toArray, List.set_cons_zero, List.set_cons_succ, List.getElem_toArray, List.getElem_cons_succ, List.getElem_cons_zero]
          refine wpAnyH_take (i := 1) (oi := _) (v := Value.int .i64 i) rfl (by kernel_rfl) (by kernel_rfl) (by kernel_rfl) (fun _ _ _ h => h) (Or.inl ⟨by rfl, fun w' hSw => ?_⟩) hHeld ?_
          · obtain ⟨t0, t1, t2, t3, t4, t5, t6, t7, t8⟩ := hSw
            go_simp
            try simp [*]
            try (intro hh; exfalso; omega)
            try omega
          try simp only [Act.put, List.setIfInBounds_toArray, List.set_cons_zero, List.set_cons_succ, List.getElem_toArray, List.getElem_cons_succ, List.getElem_cons_zero]
          refine wpAnyH_take (i := 2) (oi := _) (v := Value.pointer (some ⟨b, off + i, none⟩)) rfl (by kernel_rfl) (by kernel_rfl) (by kernel_rfl) (fun _ _ _ h => h) (Or.inl ⟨by rfl, fun w' hSw => ?_⟩) hHeld ?_
          · obtain ⟨t0, t1, t2, t3, t4, t5, t6, t7, t8⟩ := hSw
            go_simp
            try simp [*]
            try (intro hh; exfalso; omega)
            try omega
          try simp only [Act.put, List.setIfInBounds_toArray, List.set_cons_zero, List.set_cons_succ, List.getElem_toArray, List.getElem_cons_succ, List.getElem_cons_zero]
          refine wpAnyH_take (i := 3) (oi := _) (v := Value.slice (some ⟨bz, offz, none⟩) ln c1) rfl (by kernel_rfl) (by kernel_rfl) (by kernel_rfl) (fun _ _ _ h => h) (Or.inl ⟨by rfl, fun w' hSw => ?_⟩) hHeld ?_
          · obtain ⟨t0, t1, t2, t3, t4, t5, t6, t7, t8⟩ := hSw
            go_simp
            try simp [*]
            try (intro hh; exfalso; omega)
            try omega
          try simp only [Act.put, List.setIfInBounds_toArray, List.set_cons_zero, List.set_cons_succ, List.getElem_toArray, List.getElem_cons_succ, List.getElem_cons_zero]
          refine wpAnyH_take (i := 4) (oi := _) (v := Value.int .i64 k) rfl (by kernel_rfl) (by kernel_rfl) (by kernel_rfl) (fun _ _ _ h => h) (Or.inl ⟨by rfl, fun w' hSw => ?_⟩) hHeld ?_
          · obtain ⟨t0, t1, t2, t3, t4, t5, t6, t7, t8⟩ := hSw
            go_simp
            try simp [*]
            try (intro hh; exfalso; omega)
            try omega
          try simp only [Act.put, List.setIfInBounds_toArray, List.set_cons_zero, List.set_cons_succ, List.getElem_toArray, List.getElem_cons_succ, List.getElem_cons_zero]
          refine wpAnyH_take (i := 5) (oi := _) (v := Value.pointer (some ⟨bz, offz + k * 4, none⟩)) rfl (by kernel_rfl) (by kernel_rfl) (by kernel_rfl) (fun _ _ _ h => h) (Or.inl ⟨by rfl, fun w' hSw => ?_⟩) hHeld ?_
          · obtain ⟨t0, t1, t2, t3, t4, t5, t6, t7, t8⟩ := hSw
            go_simp
            try simp [*]
            try (intro hh; exfalso; omega)
            try omega
          try simp only [Act.put, List.setIfInBounds_toArray, List.set_cons_zero, List.set_cons_succ, List.getElem_toArray, List.getElem_cons_succ, List.getElem_cons_zero]
          refine wpAnyH_take (i := 6) (oi := _) (v := Value.agg #[Value.int .i64 za, Value.int .i64 zb, Value.int .i64 zc, Value.int .i64 zd]) rfl (by kernel_rfl) (by kernel_rfl) (by kernel_rfl) (fun _ _ _ h => h) (Or.inl ⟨by rfl, fun w' hSw => ?_⟩) hHeld ?_
          · obtain ⟨t0, t1, t2, t3, t4, t5, t6, t7, t8⟩ := hSw
            go_simp
            try simp [*]
            try (intro hh; exfalso; omega)
            try omega
          try simp only [Act.put, List.setIfInBounds_toArray, List.set_cons_zero, List.set_cons_succ, List.getElem_toArray, List.getElem_cons_succ, List.getElem_cons_zero]
          refine wpAnyH_take (i := 7) (oi := _) (v := Value.pointer (some ⟨w.heap.size + 2, 0, none⟩)) rfl (by kernel_rfl) (by kernel_rfl) (by kernel_rfl) (fun _ _ _ h => h) (Or.inl ⟨by rfl, fun w' hSw => ?_⟩) hHeld ?_
          · obtain ⟨t0, t1, t2, t3, t4, t5, t6, t7, t8⟩ := hSw
            go_simp
            try simp [*]
            try (intro hh; exfalso; omega)
            try omega
          try simp only [Act.put, List.setIfInBounds_toArray, List.set_cons_zero, List.set_cons_succ, List.getElem_toArray, List.getElem_cons_succ, List.getElem_cons_zero]
          refine wpAnyH_take (i := 8) (oi := _) (v := Value.agg #[Value.int .i64 ya, Value.int .i64 yb, Value.int .i64 yc, Value.int .i64 yd]) rfl (by kernel_rfl) (by kernel_rfl) (by kernel_rfl) (fun _ _ _ h => h) (Or.inl ⟨by rfl, fun w' hSw => ?_⟩) hHeld ?_
          · obtain ⟨t0, t1, t2, t3, t4, t5, t6, t7, t8⟩ := hSw
            go_simp
            try simp [*]
            try (intro hh; exfalso; omega)
            try omega
          try simp only [Act.put, List.setIfInBounds_toArray, List.set_cons_zero, List.set_cons_succ, List.getElem_toArray, List.getElem_cons_succ, List.getElem_cons_zero]
          have HD2 := Lib.hid (show Below A.heap.size A wr.drew from HBk.out.drew)
          refine wpAnyH_ready (rs := [9]) (by kernel_rfl) (by simp) ?_
          refine AllReadyH.cons (o := _) rfl (fun K hK => ?_) AllReadyH.nil
          go_simp
          go_at_call 12
          refine Calls.mono (cI.out _) ?_
          rintro e w8 ⟨rfl, hb8⟩
          have HB8 := Lib.hid (show Below A.heap.size A w8 from HST.out _ _ HD2.out hb8)
          have HRow8 := Lib.hid (own_below (own_below HRow.out (Below.refl _ _).drew) hb8)
          clear hb8 cI
          clear hHeld
          refine hK.out _ _ (KZ.out _ HB8.out) (fun hHeld => ?_)
          clear hK K
          try simp only [Act.put, List.setIfInBounds_toArray, List.set_cons_zero, List.set_cons_succ, List.getElem_toArray, List.getElem_cons_succ, List.getElem_cons_zero]
          refine wpAnyH_take (i := 10) (oi := _) (v := .tuple #[.int .i64 iv, .bool true]) rfl (by kernel_rfl) (by kernel_rfl) (by kernel_rfl) (fun _ _ _ h => h) (Or.inl ⟨by rfl, fun w' hSw => ?_⟩) hHeld ?_
          · obtain ⟨t0, t1, t2, t3, t4, t5, t6, t7, t8⟩ := hSw
            go_simp
            try simp [*]
            try (intro hh; exfalso; omega)
            try omega
          try simp only [Act.put, List.setIfInBounds_toArray, List.set_cons_zero, List.set_cons_succ, List.getElem_toArray, List.getElem_cons_succ, List.getElem_cons_zero]
          refine wpAnyH_take (i := 11) (oi := _) (v := .int .i64 iv) rfl (by kernel_rfl) (by kernel_rfl) (by kernel_rfl) (fun _ _ _ h => h) (Or.inl ⟨by rfl, fun w' hSw => ?_⟩) hHeld ?_
          · obtain ⟨t0, t1, t2, t3, t4, t5, t6, t7, t8⟩ := hSw
            go_simp
            try simp [*]
            try (intro hh; exfalso; omega)
            try omega
          try simp only [Act.put, List.setIfInBounds_toArray, List.set_cons_zero, List.set_cons_succ, List.getElem_toArray, List.getElem_cons_succ, List.getElem_cons_zero]
          refine wpAnyH_take (i := 12) (oi := _) (v := .bool true) rfl (by kernel_rfl) (by kernel_rfl) (by kernel_rfl) (fun _ _ _ h => h) (Or.inl ⟨by rfl, fun w' hSw => ?_⟩) hHeld ?_
          · obtain ⟨t0, t1, t2, t3, t4, t5, t6, t7, t8⟩ := hSw
            go_simp
            try simp [*]
            try (intro hh; exfalso; omega)
            try omega
          try simp only [Act.put, List.setIfInBounds_toArray, List.set_cons_zero, List.set_cons_succ, List.getElem_toArray, List.getElem_cons_succ, List.getElem_cons_zero]
          refine wpAnyH_take (i := 13) (oi := _) (v := .int .i64 iv) rfl (by kernel_rfl) (by kernel_rfl) (by kernel_rfl) (fun _ _ _ h => h) (Or.inl ⟨by rfl, fun w' hSw => ?_⟩) hHeld ?_
          · obtain ⟨t0, t1, t2, t3, t4, t5, t6, t7, t8⟩ := hSw
            go_simp
            try simp [*]
            try (intro hh; exfalso; omega)
            try omega
          try simp only [Act.put, List.setIfInBounds_toArray, List.set_cons_zero, List.set_cons_succ, List.getElem_toArray, List.getElem_cons_succ, List.getElem_cons_zero]
          refine wpAnyH_take (i := 14) (oi := _) (v := .bool true) rfl (by kernel_rfl) (by kernel_rfl) (by kernel_rfl) (fun _ _ _ h => h) (Or.inl ⟨by rfl, fun w' hSw => ?_⟩) hHeld ?_
          · obtain ⟨t0, t1, t2, t3, t4, t5, t6, t7, t8⟩ := hSw
            go_simp
            try simp [*]
            try (intro hh; exfalso; omega)
            try omega
          try simp only [Act.put, List.setIfInBounds_toArray, List.set_cons_zero, List.set_cons_succ, List.getElem_toArray, List.getElem_cons_succ, List.getElem_cons_zero]
          refine wpAnyH_done (by kernel_rfl) ?_ _
          clear hHeld
          clear n0 n1 n2 n3 n4 n5 n6 n7 n8
          have hs8 := HB8.out.size
          go_wp2_with (at_builtin; refine wpList_append_own _ rfl _ _ 49 rfl A.heap.size 46 i0 (.int .i64 0) 1 8 Try.underlying49 hi0 hz0 hz1 hz2 rfl (by decide) _ _ _ rfl (HRow8.out.alloc _) ⟨w8.heap.size, 0, none⟩ 1 1 [.int .i64 iv] rfl rfl (one_newA _ _) (by simp [Value.oneCell']) (by unfold maxLen; omega) (by omega) (by simp; omega) ?_; intro v' w9 hrow' hgrow _)
          have hB9 : Below A.heap.size A w9 := (HB8.out.alloc hs8 _).grown hgrow (by simp; omega) (fun j hj => (HRow8.out.lt j hj).1)
          go_roundw
          case rel => exact ⟨k + 1, by omega, by go_num, by rw [HT.out, numv_snoc, HNL.out, List.length_append, HTLk.out]; exact hrow', hB9⟩
          case measure => simp [intOf]; omega
    case rest => as_aux_lemma =>
      have HBc := Lib.hid (show Below A.heap.size A wc from hcut)
      clear hcut HB1 KV KP HYY
      obtain ⟨s0, s1, s2, s3, s4, s5, s6, s7, s8⟩ := KS.out _ HBc.out
      go_wp2_with fail
      refine (c14.out _ (HBW.out _ HBc.out)).mono ?_
      intro e w2 hvr
      obtain ⟨vS, rfl, hne, hzr, hb⟩ := (HVR.out _ _ _).1 hvr
      have HB2 := Lib.hid (HST.out _ _ HBc.out hb)
      have HNE := Lib.hid hne
      have HZR := Lib.hid hzr
      clear hvr hb hne hzr s0 s1 s2 s3 s4 s5 s6 s7 s8 c14 HVR
      by_cases hve : VE = 0
      rotate_left
      · have hneb : (VE != 0) = true := by simpa using hve
        obtain rfl : vS = .slice none 0 0 := HNE.out hve
        clear hve HNE HZR
        go_wp2_with fail
        refine (c6.out _ HB2.out).mono ?_
        rintro e w6 ⟨rfl, hb6⟩
        have HB6 := Lib.hid hb6
        clear hb6
        go_wp2_with fail
        go_ret
        exact ⟨rfl, HB6.out⟩
      subst hve
      have hsp := HSP.out (by trivial)
      obtain ⟨hnx, hny, hce⟩ := HSQ.out hsp
      have hrp := HRP.out (by trivial)
      have HRB := Lib.hid hrp
      obtain ⟨n, hn, hsla⟩ := HZR.out (by trivial)
      have c15s := Lib.hid (fun W hb => c15.out hsp W hb)
      have hNb := mul_bd hnx hny
      rw [hn] at hNb
      have hvl := viT_len nx cell rs n
      have HVG := Lib.hid (fun c (hc : c < n) => viT_get nx cell rs hc)
      clear hrp hsp HSP HRP HSQ HZR HNE c15
      rcases hsla with ⟨ad, cap, rfl, hnil⟩ | ⟨bs, offs, caps, rfl, -, hbs, hcs⟩
      · exfalso
        rw [hnil] at hvl
        simp at hvl
        omega
      rw [hvl] at hcs ⊢
      have HCS := Lib.hid hcs
      have HBS := Lib.hid hbs
      have hw1 : wrap64 (nx * ny) = (n : Int) := by rw [hn]; unfold wrap64; omega
      clear hvl hcs hbs hn
      obtain ⟨s0, s1, s2, s3, s4, s5, s6, s7, s8⟩ := KS.out _ HB2.out
      go_wp2_with fail
      refine (c15s.out _ (HBW.out _ HB2.out)).mono ?_
      rintro e w3 ⟨rfl, hb⟩
      have HB3 := Lib.hid (HST.out _ _ HB2.out hb)
      have HB23 := Lib.hid hb
      clear hb c15s s0 s1 s2 s3 s4 s5 s6 s7 s8
      have HSEE := Lib.hid (show ∀ W, Below w3.heap.size w3 W → ∀ c, c < n → W.cell? ⟨bs, offs + c, none⟩ = some (.int .i64 ((viT nx cell rs n)[c]?.getD 0)) from fun W h c hc => ((HB23.out.trans (h.mono HB23.out.size)).cell (p := ⟨bs, offs + c, none⟩) HBS.out).trans (HCS.out c hc))
      clear HCS HBS
      obtain ⟨s0, s1, s2, s3, s4, s5, s6, s7, s8⟩ := KS.out _ HB3.out
      go_wp2_with fail
      try simp only [hw1]
      clear hw1 s0 s1 s2 s3 s4 s5 s6 s7 s8
      go_loopw [24] (fun i wr => ∃ c : Nat, c ≤ n ∧ i = .int .i64 c ∧ Below w3.heap.size w3 wr) (fun i _ => n - (intOf i).toNat)
      case atStart => exact ⟨0, Nat.zero_le _, rfl, Below.refl _ _⟩
      case round =>
        obtain ⟨c, hc, rfl, hB⟩ := hrel
        have HB := Lib.hid hB
        clear hB
        by_cases hlt : c < n
        rotate_left
        · obtain rfl : c = n := by omega
          go_wp2_with fail
          refine (c6.out _ (HST.out _ _ HB3.out HB.out)).mono ?_
          rintro e w6 ⟨rfl, hb6⟩
          have HB6 := Lib.hid hb6
          clear hb6
          go_wp2_with fail
          go_ret
          exact ⟨rfl, HB6.out⟩
        have hci : (c : Int) < (n : Int) := by omega
        obtain ⟨⟨a1, a2⟩, b1, b2⟩ := cX_bd hnx hce c
        obtain ⟨⟨a3, a4⟩, b3, b4⟩ := cY_bd hnx hce (c := c) (by omega)
        have hcok := cellQ_ok hnx hce (c := c) (by omega)
        have HCOK := Lib.hid hcok
        have c12 := Lib.hid (fun (z : Q4) (h1 : vB z.a z.b = true) (h2 : vB z.c z.d = true) W => within12_any z (cellQ nx cell c) (inS_e h1 HCOK.out.1) (inS_e h2 HCOK.out.2) W)
        have HFA := Lib.hid (flaT_any rs (cellQ nx cell c) (by rw [HRL.out]; omega) (fun k hk => HL20.out k (by rw [← HRL.out]; exact hk)))
        rw [HRL.out] at HFA
        have HVGc := Lib.hid (HVG.out c hlt)
        have hxx : (cellQ nx cell c).a = cX nx cell c ∧ (cellQ nx cell c).b = cX nx cell c + cell ∧ (cellQ nx cell c).c = cY nx cell c ∧ (cellQ nx cell c).d = cY nx cell c + cell := ⟨rfl, rfl, rfl, rfl⟩
        have t1 : ((c : Int).tmod nx) = (c : Int) % nx := Int.tmod_eq_emod_of_nonneg (by omega)
        have t2 : ((c : Int).tdiv nx) = (c : Int) / nx := Int.tdiv_eq_ediv_of_nonneg (by omega)
        have hx : cX nx cell c = (c : Int) % nx * cell := rfl
        have hy : cY nx cell c = (c : Int) / nx * cell := rfl
        generalize cX nx cell c = X at *
        generalize cY nx cell c = Y at *
        generalize cellQ nx cell c = cq at *
        rw [hxx.1, hxx.2.1, hxx.2.2.1, hxx.2.2.2] at c12
        have HF0 := Lib.hid (show flaT rs cq 0 = [] from rfl)
        have HFS := Lib.hid (fun k => show flaT rs cq (k + 1) = flaT rs cq k ++ ansR (rn rs k) cq from rfl)
        have HFL := Lib.hid (flaT_len rs cq (fun k hk => HL20.out k (by rw [← HRL.out]; exact hk)))
        rw [HRL.out] at HFL
        have HTS := Lib.hid (fun i k (hk : k < (rn rs i).length) => ansT_succ (y := cq) hk)
        have HT0 := Lib.hid (fun i => ansT_zero (rn rs i) cq)
        have HTL := Lib.hid (fun i k => ansT_len (rn rs i) cq k)
        have HTA := Lib.hid (fun i => ansT_all (rn rs i) cq)
        have HSEEc := Lib.hid (fun W h => HSEE.out W h c hlt)
        rw [HVGc.out] at HSEEc
        have c13 := Lib.hid (fun l v W hv => any_any l v W hv)
        generalize flaT rs cq = F at *
        generalize visV rs cq = vz at *
        clear hcok HCOK hxx HVGc
        generalize hr : (c : Int) % nx = r at *
        generalize hq : (c : Int) / nx = q at *
        have hnz : ¬ nx = 0 := by omega
        have hnb : (nx == 0) = false := by simp; omega
        have w1x : IntKind.i64.wrap (r * cell) = X := by rw [← hx, IntKind.wrap_i64]; omega
        have w2x : IntKind.i64.wrap (q * cell) = Y := by rw [← hy, IntKind.wrap_i64]; omega
        have w3x : IntKind.i64.wrap r = r := by rw [IntKind.wrap_i64]; omega
        have w4x : IntKind.i64.wrap q = q := by rw [IntKind.wrap_i64]; omega
        have HBr := Lib.hid (HST.out _ _ HB3.out HB.out)
        obtain ⟨s0, s1, s2, s3, s4, s5, s6, s7, s8⟩ := KS.out _ HBr.out
        clear hx hy hr hq
        go_wp2_with fail
        go_quiet (fail)
        clear w1x w2x w3x w4x t1 t2 s0 s1 s2 s3 s4 s5 s6 s7 s8
        obtain ⟨V1, hV1⟩ : ∃ V1, V1 = wr.drewN nq := ⟨_, rfl⟩
        rw [← hV1]
        have HV1 := Lib.hid (show Below w3.heap.size w3 V1 by rw [hV1]; exact below_drewN HB.out _)
        clear hV1
        have HBv := Lib.hid (HST.out _ _ HB3.out HV1.out)
        obtain ⟨s0, s1, s2, s3, s4, s5, s6, s7, s8⟩ := KS.out _ HBv.out
        go_upto_region 38 with fail
        obtain ⟨V2, hV2⟩ : ∃ V2, V2 = V1.alloc (.cells #[.int .i64 X, .int .i64 (X + cell), .int .i64 Y, .int .i64 (Y + cell)] 29) := ⟨_, rfl⟩
        try rw [← hV2]
        have HV2 := Lib.hid (show Below w3.heap.size w3 V2 by rw [hV2]; exact HV1.out.alloc HV1.out.size _)
        have kc : ∀ o, V2.cell? ⟨V1.heap.size, o, none⟩ = (#[.int .i64 X, .int .i64 (X + cell), .int .i64 Y, .int .i64 (Y + cell)] : Array Value)[o]? := fun o => cellHB (by rw [hV2]; exact World.alloc_heap_new V1 _) o
        have hlt2 : V1.heap.size < V2.heap.size := by rw [hV2]; simp
        clear hV2 s0 s1 s2 s3 s4 s5 s6 s7 s8
        generalize V1.heap.size = BC at *
        have KQ := Lib.hid (show ∀ W, Below V2.heap.size V2 W → W.cell? ⟨BC, 0, none⟩ = some (.int .i64 X) ∧ W.cell? ⟨BC, 1, none⟩ = some (.int .i64 (X + cell)) ∧ W.cell? ⟨BC, 2, none⟩ = some (.int .i64 Y) ∧ W.cell? ⟨BC, 3, none⟩ = some (.int .i64 (Y + cell)) from fun W h => ⟨(h.cell (p := ⟨BC, 0, none⟩) hlt2).trans (kc 0), (h.cell (p := ⟨BC, 1, none⟩) hlt2).trans (kc 1), (h.cell (p := ⟨BC, 2, none⟩) hlt2).trans (kc 2), (h.cell (p := ⟨BC, 3, none⟩) hlt2).trans (kc 3)⟩)
        have HBA2 := Lib.hid (show ∀ W, Below V2.heap.size V2 W → Below A.heap.size A W from fun W h => HST.out _ _ HB3.out (HV2.out.trans (h.mono HV2.out.size)))
        have HB32 := Lib.hid (show ∀ W, Below V2.heap.size V2 W → Below w3.heap.size w3 W from fun W h => HV2.out.trans (h.mono HV2.out.size))
        clear kc hlt2
        generalize X + cell = X2 at *
        generalize Y + cell = Y2 at *
        obtain ⟨i0, hi0, hz0, hz1, hz2⟩ := info_parts infoA
        go_wp2_with fail
        go_loopw [28, 29] (fun v i wr => ∃ k : Nat, k ≤ rl ∧ i = .int .i64 k ∧ wr.ownsRow V2.heap.size 46 1 v (F k).length (numv (F k)) ∧ Below V2.heap.size V2 wr) (fun _ i _ => rl - (intOf i).toNat)
        case atStart => exact ⟨0, Nat.zero_le _, rfl, by rw [HF0.out]; exact World.ownsRow_nil _ _ _ _, Below.refl _ _⟩
        case round =>
          obtain ⟨i, hi, rfl, hrow, hB⟩ := hrel
          have HBi := Lib.hid hB
          have HRow := Lib.hid hrow
          clear hB hrow
          by_cases hlti : i < rl
          rotate_left
          · obtain rfl : i = rl := by omega
            have hl := HFL.out i (Nat.le_refl _)
            have hsl := sla_of_owns (by omega) HRow.out
            have hc13 := c13.out _ _ _ hsl
            rw [HFA.out] at hc13
            obtain ⟨a2x, c2x, rfl⟩ := own_form HRow.out
            have m9 := HSEEc.out _ (HB32.out _ HBi.out)
            clear hsl c13 c12
            generalize (F i).length = tl at *
            dsimp only at hc13
            go_wp2_with fail
            refine hc13.mono ?_
            rintro e w7 ⟨rfl, hw7⟩
            have hw8 := hw7.symm
            subst hw8
            clear hc13
            go_wp2_with fail
            go_roundw
            case rel => exact ⟨c + 1, by omega, by go_num, HB32.out _ HBi.out⟩
            case measure => simp [intOf]; omega
          have hii : (i : Int) < (rl : Int) := by omega
          have hi0x : (0 : Int) ≤ (i : Int) := by omega
          obtain ⟨b, off, s5, rfl, hb, g0, g1⟩ := HG.out i hlti
          have h20 := HL20.out i hlti
          have hbe := (boxE_get (HRB.out i hlti)).2
          have HBE := Lib.hid hbe
          have HG0 := Lib.hid g0
          have HG1 := Lib.hid g1
          obtain ⟨a1x, c1x, rfl⟩ := g1.form
          clear g0 g1 hbe
          have HTSi := Lib.hid (HTS.out i)
          have HTAi := Lib.hid (HTA.out i)
          have HTLi := Lib.hid (HTL.out i)
          generalize hln : (rn rs i).length = ln at *
          have HLN := Lib.hid hln
          clear hln
          have hfl := HFL.out i (by omega)
          have HFSi := Lib.hid (show F (i + 1) = F i ++ ansT (rn rs i) cq ln by rw [HTAi.out]; exact HFS.out i)
          go_wp2_with fail
          go_loopw [28, 30] (fun v k wr => ∃ m : Nat, m ≤ ln ∧ k = .int .i64 m ∧ wr.ownsRow V2.heap.size 46 1 v (F i ++ ansT (rn rs i) cq m).length (numv (F i ++ ansT (rn rs i) cq m)) ∧ Below V2.heap.size V2 wr) (fun _ k _ => ln - (intOf k).toNat)
          case atStart => exact ⟨0, Nat.zero_le _, rfl, by rw [HT0.out i, List.append_nil]; exact HRow.out, HBi.out⟩
          case round =>
            obtain ⟨m, hm, rfl, hrow, hB⟩ := hrel
            have HBm := Lib.hid hB
            have HRowm := Lib.hid hrow
            have hsz := hB.size
            have m0 := ((HBW.out _ (HBA2.out _ HBm.out)).cell (p := ⟨b, off + i, none⟩) hb).trans HG0.out
            clear hB hrow
            by_cases hltm : m < ln
            rotate_left
            · obtain rfl : m = ln := by omega
              go_wp2_with fail
              go_roundw
              case rel => exact ⟨i + 1, by omega, by go_num, by rw [HFSi.out]; exact HRowm.out, HBm.out⟩
              case measure => simp [intOf]; omega
            have hmi : (m : Int) < (ln : Int) := by omega
            have hm0 : (0 : Int) ≤ (m : Int) := by omega
            obtain ⟨bz, offz, rfl, hbz, z0, z1, z2, z3⟩ := HG1.out.get m (by rw [HLN.out]; exact hltm)
            have hzk := chkX_get (HBE.out m hltm)
            have cI := Lib.hid (c12.out (q4 (rn rs i) m) hzk.1 hzk.2)
            have hts := HTSi.out m hltm
            have HL3 := Lib.hid (show F i ++ ansT (rn rs i) cq (m + 1) = F i ++ ansT (rn rs i) cq m ++ [insV (q4 (rn rs i) m) cq] by rw [hts, List.append_assoc])
            have hl3 : (F i ++ ansT (rn rs i) cq m).length ≤ 1000 := by have := HTLi.out m; rw [List.length_append]; omega
            clear hzk hts m0
            generalize insV (q4 (rn rs i) m) cq = iv at *
            generalize (q4 (rn rs i) m).a = za at *
            generalize (q4 (rn rs i) m).b = zb at *
            generalize (q4 (rn rs i) m).c = zc at *
            generalize (q4 (rn rs i) m).d = zd at *
            have KZ := Lib.hid (show ∀ W, Below V2.heap.size V2 W → W.cell? ⟨b, off + i, none⟩ = some (.slice (some ⟨bz, offz, none⟩) ln c1x) ∧ W.cell? ⟨bz, offz + m * 4, none⟩ = some (.int .i64 za) ∧ W.cell? ⟨bz, offz + m * 4 + 1, none⟩ = some (.int .i64 zb) ∧ W.cell? ⟨bz, offz + m * 4 + 2, none⟩ = some (.int .i64 zc) ∧ W.cell? ⟨bz, offz + m * 4 + 3, none⟩ = some (.int .i64 zd) ∧ W.cell? ⟨BC, 0, none⟩ = some (.int .i64 X) ∧ W.cell? ⟨BC, 1, none⟩ = some (.int .i64 X2) ∧ W.cell? ⟨BC, 2, none⟩ = some (.int .i64 Y) ∧ W.cell? ⟨BC, 3, none⟩ = some (.int .i64 Y2) from fun W h => ⟨((HBW.out W (HBA2.out W h)).cell (p := ⟨b, off + i, none⟩) hb).trans HG0.out, ((HBW.out W (HBA2.out W h)).cell (p := ⟨bz, _, none⟩) hbz).trans z0, ((HBW.out W (HBA2.out W h)).cell (p := ⟨bz, _, none⟩) hbz).trans z1, ((HBW.out W (HBA2.out W h)).cell (p := ⟨bz, _, none⟩) hbz).trans z2, ((HBW.out W (HBA2.out W h)).cell (p := ⟨bz, _, none⟩) hbz).trans z3, KQ.out W h⟩)
            generalize F i ++ ansT (rn rs i) cq m = G at *
            generalize hnl : numv G = nl at *
            have HNL := Lib.hid hnl
            generalize htl : G.length = tl at *
            have HTLk := Lib.hid htl
            clear hnl htl z0 z1 z2 z3
            obtain ⟨n0, n1, n2, n3, n4, n5, n6, n7, n8⟩ := KZ.out _ HBm.out
            go_wp2_with fail
            refine wp_region_held_drew (S := fun w' => w'.cell? ⟨b, off + i, none⟩ = some (.slice (some ⟨bz, offz, none⟩) ln c1x) ∧ w'.cell? ⟨bz, offz + m * 4, none⟩ = some (.int .i64 za) ∧ w'.cell? ⟨bz, offz + m * 4 + 1, none⟩ = some (.int .i64 zb) ∧ w'.cell? ⟨bz, offz + m * 4 + 2, none⟩ = some (.int .i64 zc) ∧ w'.cell? ⟨bz, offz + m * 4 + 3, none⟩ = some (.int .i64 zd) ∧ w'.cell? ⟨BC, 0, none⟩ = some (.int .i64 X) ∧ w'.cell? ⟨BC, 1, none⟩ = some (.int .i64 X2) ∧ w'.cell? ⟨BC, 2, none⟩ = some (.int .i64 Y) ∧ w'.cell? ⟨BC, 3, none⟩ = some (.int .i64 Y2)) (by kernel_rfl) ⟨by simpa [go_sem] using n0, by simpa [go_sem] using n1, by simpa [go_sem] using n2, by simpa [go_sem] using n3, by simpa [go_sem] using n4, by simpa [go_sem] using n5, by simpa [go_sem] using n6, by simpa [go_sem] using n7, by simpa [go_sem] using n8⟩ (fun hHeld => ?_)
            refine wpAnyH_take (i := 0) (oi := _) (v := Value.slice (some ⟨b, off, none⟩) rl rc) rfl (by kernel_rfl) (by kernel_rfl) (by kernel_rfl) (fun _ _ _ h => h) (Or.inl ⟨by rfl, fun w' hSw => ?_⟩) hHeld ?_
            · obtain ⟨t0, t1, t2, t3, t4, t5, t6, t7, t8⟩ := hSw
              go_simp
              try simp [*]
              try (intro hh; exfalso; omega)
              try omega
            try simp only [Act.put, List.setIfInBounds_toArray, List.set_cons_zero, List.set_cons_succ, List.getElem_toArray, List.getElem_cons_succ, List.getElem_cons_zero]
            refine wpAnyH_take (i := 1) (oi := _) (v := Value.int .i64 i) rfl (by kernel_rfl) (by kernel_rfl) (by kernel_rfl) (fun _ _ _ h => h) (Or.inl ⟨by rfl, fun w' hSw => ?_⟩) hHeld ?_
            · obtain ⟨t0, t1, t2, t3, t4, t5, t6, t7, t8⟩ := hSw
              go_simp
              try simp [*]
              try (intro hh; exfalso; omega)
              try omega
            try simp only [Act.put, List.setIfInBounds_toArray, List.set_cons_zero, List.set_cons_succ, List.getElem_toArray, List.getElem_cons_succ, List.getElem_cons_zero]
            refine wpAnyH_take (i := 2) (oi := _) (v := Value.pointer (some ⟨b, off + i, none⟩)) rfl (by kernel_rfl) (by kernel_rfl) (by kernel_rfl) (fun _ _ _ h => h) (Or.inl ⟨by rfl, fun w' hSw => ?_⟩) hHeld ?_
            · obtain ⟨t0, t1, t2, t3, t4, t5, t6, t7, t8⟩ := hSw
              go_simp
              try simp [*]
              try (intro hh; exfalso; omega)
              try omega
            try simp only [Act.put, List.setIfInBounds_toArray, List.set_cons_zero, List.set_cons_succ, List.getElem_toArray, List.getElem_cons_succ, List.getElem_cons_zero]
            refine wpAnyH_take (i := 3) (oi := _) (v := Value.slice (some ⟨bz, offz, none⟩) ln c1x) rfl (by kernel_rfl) (by kernel_rfl) (by kernel_rfl) (fun _ _ _ h => h) (Or.inl ⟨by rfl, fun w' hSw => ?_⟩) hHeld ?_
            · obtain ⟨t0, t1, t2, t3, t4, t5, t6, t7, t8⟩ := hSw
              go_simp
              try simp [*]
              try (intro hh; exfalso; omega)
              try omega
            try simp only [Act.put, List.setIfInBounds_toArray, List.set_cons_zero, List.set_cons_succ, List.getElem_toArray, List.getElem_cons_succ, List.getElem_cons_zero]
            refine wpAnyH_take (i := 4) (oi := _) (v := Value.int .i64 m) rfl (by kernel_rfl) (by kernel_rfl) (by kernel_rfl) (fun _ _ _ h => h) (Or.inl ⟨by rfl, fun w' hSw => ?_⟩) hHeld ?_
            · obtain ⟨t0, t1, t2, t3, t4, t5, t6, t7, t8⟩ := hSw
              go_simp
              try simp [*]
              try (intro hh; exfalso; omega)
              try omega
            try simp only [Act.put, List.setIfInBounds_toArray, List.set_cons_zero, List.set_cons_succ, List.getElem_toArray, List.getElem_cons_succ, List.getElem_cons_zero]
            refine wpAnyH_take (i := 5) (oi := _) (v := Value.pointer (some ⟨bz, offz + m * 4, none⟩)) rfl (by kernel_rfl) (by kernel_rfl) (by kernel_rfl) (fun _ _ _ h => h) (Or.inl ⟨by rfl, fun w' hSw => ?_⟩) hHeld ?_
            · obtain ⟨t0, t1, t2, t3, t4, t5, t6, t7, t8⟩ := hSw
              go_simp
              try simp [*]
              try (intro hh; exfalso; omega)
              try omega
            try simp only [Act.put, List.setIfInBounds_toArray, List.set_cons_zero, List.set_cons_succ, List.getElem_toArray, List.getElem_cons_succ, List.getElem_cons_zero]
            refine wpAnyH_take (i := 6) (oi := _) (v := Value.agg #[Value.int .i64 za, Value.int .i64 zb, Value.int .i64 zc, Value.int .i64 zd]) rfl (by kernel_rfl) (by kernel_rfl) (by kernel_rfl) (fun _ _ _ h => h) (Or.inl ⟨by rfl, fun w' hSw => ?_⟩) hHeld ?_
            · obtain ⟨t0, t1, t2, t3, t4, t5, t6, t7, t8⟩ := hSw
              go_simp
              try simp [*]
              try (intro hh; exfalso; omega)
              try omega
            try simp only [Act.put, List.setIfInBounds_toArray, List.set_cons_zero, List.set_cons_succ, List.getElem_toArray, List.getElem_cons_succ, List.getElem_cons_zero]
            refine wpAnyH_take (i := 7) (oi := _) (v := Value.agg #[Value.int .i64 X, Value.int .i64 X2, Value.int .i64 Y, Value.int .i64 Y2]) rfl (by kernel_rfl) (by kernel_rfl) (by kernel_rfl) (fun _ _ _ h => h) (Or.inl ⟨by rfl, fun w' hSw => ?_⟩) hHeld ?_
            · obtain ⟨t0, t1, t2, t3, t4, t5, t6, t7, t8⟩ := hSw
              go_simp
              try simp [*]
              try (intro hh; exfalso; omega)
              try omega
            try simp only [Act.put, List.setIfInBounds_toArray, List.set_cons_zero, List.set_cons_succ, List.getElem_toArray, List.getElem_cons_succ, List.getElem_cons_zero]
            have HD2 := Lib.hid (show Below V2.heap.size V2 wr.drew from HBm.out.drew)
            refine wpAnyH_ready (rs := [8]) (by kernel_rfl) (by simp) ?_
            refine AllReadyH.cons (o := _) rfl (fun K hK => ?_) AllReadyH.nil
            go_simp
            go_at_call 12
            refine Calls.mono (cI.out _) ?_
            rintro e w8 ⟨rfl, hb8⟩
            have HB8 := Lib.hid (show Below V2.heap.size V2 w8 from HD2.out.trans (hb8.mono HD2.out.size))
            have HRow8 := Lib.hid (own_below (own_below HRowm.out (Below.refl _ _).drew) hb8)
            clear hb8 cI
            clear hHeld
            refine hK.out _ _ (KZ.out _ HB8.out) (fun hHeld => ?_)
            clear hK K
            try simp only [Act.put, List.setIfInBounds_toArray, List.set_cons_zero, List.set_cons_succ, List.getElem_toArray, List.getElem_cons_succ, List.getElem_cons_zero]
            refine wpAnyH_take (i := 9) (oi := _) (v := .tuple #[.int .i64 iv, .bool true]) rfl (by kernel_rfl) (by kernel_rfl) (by kernel_rfl) (fun _ _ _ h => h) (Or.inl ⟨by rfl, fun w' hSw => ?_⟩) hHeld ?_
            · obtain ⟨t0, t1, t2, t3, t4, t5, t6, t7, t8⟩ := hSw
              go_simp
              try simp [*]
              try (intro hh; exfalso; omega)
              try omega
            try simp only [Act.put, List.setIfInBounds_toArray, List.set_cons_zero, List.set_cons_succ, List.getElem_toArray, List.getElem_cons_succ, List.getElem_cons_zero]
            refine wpAnyH_take (i := 10) (oi := _) (v := .int .i64 iv) rfl (by kernel_rfl) (by kernel_rfl) (by kernel_rfl) (fun _ _ _ h => h) (Or.inl ⟨by rfl, fun w' hSw => ?_⟩) hHeld ?_
            · obtain ⟨t0, t1, t2, t3, t4, t5, t6, t7, t8⟩ := hSw
              go_simp
              try simp [*]
              try (intro hh; exfalso; omega)
              try omega
            try simp only [Act.put, List.setIfInBounds_toArray, List.set_cons_zero, List.set_cons_succ, List.getElem_toArray, List.getElem_cons_succ, List.getElem_cons_zero]
            refine wpAnyH_take (i := 11) (oi := _) (v := .bool true) rfl (by kernel_rfl) (by kernel_rfl) (by kernel_rfl) (fun _ _ _ h => h) (Or.inl ⟨by rfl, fun w' hSw => ?_⟩) hHeld ?_
            · obtain ⟨t0, t1, t2, t3, t4, t5, t6, t7, t8⟩ := hSw
              go_simp
              try simp [*]
              try (intro hh; exfalso; omega)
              try omega
            try simp only [Act.put, List.setIfInBounds_toArray, List.set_cons_zero, List.set_cons_succ, List.getElem_toArray, List.getElem_cons_succ, List.getElem_cons_zero]
            refine wpAnyH_take (i := 12) (oi := _) (v := .int .i64 iv) rfl (by kernel_rfl) (by kernel_rfl) (by kernel_rfl) (fun _ _ _ h => h) (Or.inl ⟨by rfl, fun w' hSw => ?_⟩) hHeld ?_
            · obtain ⟨t0, t1, t2, t3, t4, t5, t6, t7, t8⟩ := hSw
              go_simp
              try simp [*]
              try (intro hh; exfalso; omega)
              try omega
            try simp only [Act.put, List.setIfInBounds_toArray, List.set_cons_zero, List.set_cons_succ, List.getElem_toArray, List.getElem_cons_succ, List.getElem_cons_zero]
            refine wpAnyH_take (i := 13) (oi := _) (v := .bool true) rfl (by kernel_rfl) (by kernel_rfl) (by kernel_rfl) (fun _ _ _ h => h) (Or.inl ⟨by rfl, fun w' hSw => ?_⟩) hHeld ?_
            · obtain ⟨t0, t1, t2, t3, t4, t5, t6, t7, t8⟩ := hSw
              go_simp
              try simp [*]
              try (intro hh; exfalso; omega)
              try omega
            try simp only [Act.put, List.setIfInBounds_toArray, List.set_cons_zero, List.set_cons_succ, List.getElem_toArray, List.getElem_cons_succ, List.getElem_cons_zero]
            refine wpAnyH_done (by kernel_rfl) ?_ _
            clear hHeld
            clear n0 n1 n2 n3 n4 n5 n6 n7 n8
            have hs8 := HB8.out.size
            go_wp2_with (at_builtin; refine wpList_append_own _ rfl _ _ 49 rfl V2.heap.size 46 i0 (.int .i64 0) 1 8 Try.underlying49 hi0 hz0 hz1 hz2 rfl (by decide) _ _ _ rfl (HRow8.out.alloc _) ⟨w8.heap.size, 0, none⟩ 1 1 [.int .i64 iv] rfl rfl (one_newA _ _) (by simp [Value.oneCell']) (by unfold maxLen; omega) (by omega) (by simp; omega) ?_; intro v' w9 hrow' hgrow _)
            have hB9 : Below V2.heap.size V2 w9 := (HB8.out.alloc hs8 _).grown hgrow (by simp; omega) (fun j hj => (HRow8.out.lt j hj).1)
            go_roundw
            case rel => exact ⟨m + 1, by omega, by go_num, by rw [HL3.out, numv_snoc, HNL.out, List.length_append, HTLk.out]; exact hrow', hB9⟩
            case measure => simp [intOf]; omega
end Go.Proofs.Ythegcbpmammokaa

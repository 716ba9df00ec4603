/-
  Cables: the place of a fault, in the reference.
-/
import Derived.Test.YtdohfpnnmppdkaaLcC
import Derived.Test.YtdohfpnnmppdkaaLcA
namespace Go.Proofs.Ytdohfpnnmppdkaa
open Go.RowKit Go.Shelf
set_option linter.unusedSimpArgs false
open Go.RowKit Go.Shelf
set_option linter.unusedSimpArgs false
attribute [local go_sem] Oper.semAt_some
theorem locR_comA {l : List Ms} (h0 : 0 < l.length) (h : ¬ 32 < l.length) (he : errL l = 0) : locR l = if (comA l l.length).2 < (comA l l.length).1 then ⟨0, 0, 16⟩ else ⟨(comA l l.length).1, (comA l l.length).2, 0⟩ := by
  rw [locR_ok h0 h he, comA_all h0]
set_option maxRecDepth 100000 in
set_option maxHeartbeats 16000000 in
theorem refLocate_any (v : Value) (l : List Ms) (w : World) (hM : MsA w.heap.size w v l) :
    Calls Try.prog 47 #[v] w fun e w' => e = .returned (.tuple #[.agg #[.int .i64 (locR l).lo, .int .i64 (locR l).hi], .int .i64 (locR l).e]) ∧ Below w.heap.size w w' := by
  obtain ⟨a, cap, rfl, hcap, hcc⟩ := hM
  obtain ⟨A, hA⟩ : ∃ A, A = w.alloc (.cells #[.int .i64 0, .int .i64 0] 23) := ⟨_, rfl⟩
  have HBA := Lib.hid (show Below w.heap.size w A by rw [hA]; exact (Below.refl _ _).alloc (Nat.le_refl _) _)
  have HXA := Lib.hid (show Bx2 A w.heap.size (.int .i64 0) (.int .i64 0) by rw [hA]; exact Bx2.new _ _ _)
  have HEND := Lib.hid (show ∀ W u0 u1, Below A.heap.size A W → Below w.heap.size w ((W.setCell ⟨w.heap.size, 0, none⟩ u0).setCell ⟨w.heap.size, 1, none⟩ u1) from fun W u0 u1 h => ((HBA.out.trans (h.mono HBA.out.size)).setCell (p := ⟨w.heap.size, 0, none⟩) (Nat.le_refl _) _).setCell (p := ⟨w.heap.size, 1, none⟩) (Nat.le_refl _) _)
  have KX := Lib.hid (show ∀ W, Below A.heap.size A W → (W.cell? ⟨w.heap.size, 0, none⟩ = some (.int .i64 0) ∧ W.cell? ⟨w.heap.size, 1, none⟩ = some (.int .i64 0)) ∧ (W.frozen? ⟨w.heap.size, 0, none⟩ = false ∧ W.frozen? ⟨w.heap.size, 1, none⟩ = false) ∧ ∀ u0 u1, ((W.setCell ⟨w.heap.size, 0, none⟩ u0).setCell ⟨w.heap.size, 1, none⟩ u1).cell? ⟨w.heap.size, 0, none⟩ = some u0 ∧ ((W.setCell ⟨w.heap.size, 0, none⟩ u0).setCell ⟨w.heap.size, 1, none⟩ u1).cell? ⟨w.heap.size, 1, none⟩ = some u1 from fun W h => by
    have q := HXA.out.keep h
    exact ⟨⟨q.c0, q.c1⟩, ⟨q.f0 0, q.f0 1⟩, fun u0 u1 => ⟨(q.set u0 u1).c0, (q.set u0 u1).c1⟩⟩)
  by_cases h0 : l.length = 0
  · rw [locR_nil h0]
    have h0' : ((l.length : Int) == 0) = true := by rw [h0]; rfl
    obtain ⟨⟨x0, x1⟩, ⟨f0, f1⟩, HS⟩ := KX.out _ (Below.refl _ _)
    have HSS := Lib.hid (HS (.int .i64 0) (.int .i64 0))
    clear hcc hcap HS
    generalize l.length = n at *
    subst h0
    go_enter Try.func47, Try.ntmps47
    go_upto_region 1 with fail
    rw [← hA]
    clear hA
    go_wp2_with fail
    refine bodyPost_ret (v := .tuple #[.agg #[.int .i64 0, .int .i64 0], .int .i64 5]) (by simp [results, Try.results47, go_sem, HSS.out.1, HSS.out.2]) rfl ⟨rfl, HEND.out _ _ _ (Below.refl _ _)⟩
  by_cases h32 : 32 < l.length
  · rw [locR_many h32]
    have h32' : (32 : Int) < (l.length : Int) := by omega
    have h0' : ((l.length : Int) == 0) = false := beq_eq_false_iff_ne.2 (by omega)
    obtain ⟨⟨x0, x1⟩, ⟨f0, f1⟩, HS⟩ := KX.out _ (Below.refl _ _)
    have HSS := Lib.hid (HS (.int .i64 0) (.int .i64 0))
    clear hcc hcap HS h0
    generalize l.length = n at *
    go_enter Try.func47, Try.ntmps47
    go_upto_region 1 with fail
    rw [← hA]
    clear hA
    go_wp2_with fail
    refine bodyPost_ret (v := .tuple #[.agg #[.int .i64 0, .int .i64 0], .int .i64 6]) (by simp [results, Try.results47, go_sem, HSS.out.1, HSS.out.2]) rfl ⟨rfl, HEND.out _ _ _ (Below.refl _ _)⟩
  have h0' : ((l.length : Int) == 0) = false := beq_eq_false_iff_ne.2 (by omega)
  have HC := Lib.hid (show ∀ W k, Below w.heap.size w W → k < l.length → ∃ b off, a = some ⟨b, off, none⟩ ∧ b < w.heap.size ∧ W.cell? ⟨b, off + k * 5, none⟩ = some (.int .i64 (ms l k).kd) ∧ W.cell? ⟨b, off + k * 5 + 1, none⟩ = some (.int .i64 (ms l k).v0) ∧ W.cell? ⟨b, off + k * 5 + 2, none⟩ = some (.int .i64 (ms l k).v1) ∧ W.cell? ⟨b, off + k * 5 + 3, none⟩ = some (.int .i64 (ms l k).b0) ∧ W.cell? ⟨b, off + k * 5 + 4, none⟩ = some (.int .i64 (ms l k).b1) from fun W k hb hk => by
    obtain ⟨b, off, e, hlt, c0, c1, c2, c3, c4⟩ := hcc k hk
    exact ⟨b, off, e, hlt, (hb.cell (p := ⟨b, _, none⟩) hlt).trans c0, (hb.cell (p := ⟨b, _, none⟩) hlt).trans c1, (hb.cell (p := ⟨b, _, none⟩) hlt).trans c2, (hb.cell (p := ⟨b, _, none⟩) hlt).trans c3, (hb.cell (p := ⟨b, _, none⟩) hlt).trans c4⟩)
  have HER := Lib.hid (fun k (hk : k < l.length) he h1 => locR_err (l := l) (by omega) h32 (k := k) hk he h1)
  have HST := Lib.hid (fun k (hk : k < l.length) he h1 => errL_step (l := l) (k := k) hk he h1)
  have HALL := Lib.hid (show errL (l.take l.length) = 0 → errL l = 0 from fun h => by rwa [List.take_length] at h)
  have HCA := Lib.hid (fun he => locR_comA (l := l) (by omega) h32 he)
  have HEZ := Lib.hid (fun (he : errL l = 0) k (hk : k < l.length) => errL_zero.1 he (ms l k) (by unfold ms; simp [hk]))
  have HSU := Lib.hid (fun k (hk : k < l.length) => show comA l (k + 1) = (max (comA l k).1 (dsM (ms l k)).lo, min (comA l k).2 (dsM (ms l k)).hi) from comA_succ hk)
  have HCZ := Lib.hid (show comA l 0 = ((dsM (ms l 0)).lo, (dsM (ms l 0)).hi) from rfl)
  have HD := Lib.hid (show ∀ k, dsM (ms l k) = dsS (ms l k).kd (ms l k).v0 (ms l k).v1 (ms l k).b0 (ms l k).b1 from fun _ => rfl)
  clear hcc hcap
  generalize hnn : l.length = n at *
  clear hnn
  have h32' : ¬ (32 : Int) < (n : Int) := by omega
  go_enter Try.func47, Try.ntmps47
  go_upto_region 1 with fail
  rw [← hA]
  clear hA
  go_wp2_with fail
  go_loopw [4] (fun iv wr => ∃ k : Nat, k ≤ n ∧ iv = .int .i64 k ∧ errL (l.take k) = 0 ∧ Below A.heap.size A wr) (fun iv _ => n - (intOf iv).toNat)
  case atStart => exact ⟨0, Nat.zero_le _, rfl, rfl, Below.refl _ _⟩
  case round =>
    obtain ⟨k, hk, rfl, hel, hB⟩ := hrel
    have HEL := Lib.hid hel
    have HB := Lib.hid hB
    clear hel hB
    by_cases hlt : k < n
    · have hki : (k : Int) < (n : Int) := by omega
      obtain ⟨b, off, rfl, hbl, c0, c1, c2, c3, c4⟩ := HC.out wr k (HBA.out.trans (HB.out.mono HBA.out.size)) hlt
      have c45 := fun W => refDistance_any (ms l k).kd (ms l k).v0 (ms l k).v1 (ms l k).b0 (ms l k).b1 W
      rw [← HD.out k] at c45
      have HERk := Lib.hid (fun h1 => HER.out k hlt HEL.out h1)
      have HSTk := Lib.hid (fun h1 => HST.out k hlt HEL.out h1)
      generalize (dsM (ms l k)).lo = lo at *
      generalize (dsM (ms l k)).hi = hi' at *
      generalize (dsM (ms l k)).e = er at *
      clear HCA HEZ HSU HCZ
      go_wp2_with fail
      refine (c45 _).mono ?_
      rintro e w3 ⟨rfl, hb3⟩
      have HB3 := Lib.hid (HB.out.trans (hb3.mono HB.out.size))
      clear hb3 c0 c1 c2 c3 c4
      obtain ⟨U, hU⟩ : ∃ U, U = w3.alloc (.cells #[.int .i64 lo, .int .i64 hi'] 23) := ⟨_, rfl⟩
      have HBU := Lib.hid (show Below A.heap.size A U by rw [hU]; exact HB3.out.alloc HB3.out.size _)
      go_upto_region 9 with fail
      try rw [← hU]
      clear hU
      by_cases he : er = 0
      · subst he
        have HST2 := Lib.hid (HSTk.out rfl)
        go_wp2_with fail
        go_roundw
        case rel => exact ⟨k + 1, by omega, by go_num, HST2.out, HBU.out⟩
        case measure => simp [intOf]; omega
      · have HRR := Lib.hid (HERk.out he)
        have he' : (er != 0) = true := by simpa using he
        obtain ⟨⟨x0, x1⟩, ⟨f0, f1⟩, HS⟩ := KX.out _ HBU.out
        have HSS := Lib.hid (HS (.int .i64 0) (.int .i64 0))
        clear he HS
        go_wp2_with fail
        refine bodyPost_ret (v := .tuple #[.agg #[.int .i64 0, .int .i64 0], .int .i64 er]) (by simp [results, Try.results47, go_sem, HSS.out.1, HSS.out.2]) rfl ⟨by rw [HRR.out], HEND.out _ _ _ HBU.out⟩
    · obtain rfl : k = n := by omega
      have HE0 := Lib.hid (HALL.out HEL.out)
      have hk0 : 0 < k := by omega
      have HR := Lib.hid (HCA.out HE0.out)
      have HZ := Lib.hid (fun j hj => HEZ.out HE0.out j hj)
      clear HCA HEZ HALL HER HST HEL
      obtain ⟨b, off, rfl, hbl, c0, c1, c2, c3, c4⟩ := HC.out wr 0 (HBA.out.trans (HB.out.mono HBA.out.size)) hk0
      have HC2 := Lib.hid (show ∀ W j, Below w.heap.size w W → j < k → W.cell? ⟨b, off + j * 5, none⟩ = some (.int .i64 (ms l j).kd) ∧ W.cell? ⟨b, off + j * 5 + 1, none⟩ = some (.int .i64 (ms l j).v0) ∧ W.cell? ⟨b, off + j * 5 + 2, none⟩ = some (.int .i64 (ms l j).v1) ∧ W.cell? ⟨b, off + j * 5 + 3, none⟩ = some (.int .i64 (ms l j).b0) ∧ W.cell? ⟨b, off + j * 5 + 4, none⟩ = some (.int .i64 (ms l j).b1) from fun W j hW hj => by
        obtain ⟨b', off', e, _, d0, d1, d2, d3, d4⟩ := HC.out W j hW hj
        simp only [Option.some.injEq, Addr.mk.injEq] at e
        obtain ⟨rfl, rfl, -⟩ := e
        exact ⟨d0, d1, d2, d3, d4⟩)
      have c45 := fun W => refDistance_any (ms l 0).kd (ms l 0).v0 (ms l 0).v1 (ms l 0).b0 (ms l 0).b1 W
      rw [← HD.out 0] at c45
      simp only [Nat.zero_mul, Nat.add_zero] at c0 c1 c2 c3 c4
      have hE0 := HZ.out 0 hk0
      rw [hE0] at c45
      clear hE0 HC hbl
      have h1 : (comA l 0).1 = (dsM (ms l 0)).lo := by rw [HCZ.out]
      have h2 : (comA l 0).2 = (dsM (ms l 0)).hi := by rw [HCZ.out]
      rw [← h1, ← h2] at c45
      clear h1 h2 HCZ
      have hki : ¬ (k : Int) < (k : Int) := by omega
      have hkp : (0 : Int) < (k : Int) := by omega
      go_wp2_with fail
      refine (c45 _).mono ?_
      rintro e w3 ⟨rfl, hb3⟩
      have HB3 := Lib.hid (HB.out.trans (hb3.mono HB.out.size))
      clear hb3 c0 c1 c2 c3 c4 c45
      obtain ⟨U, hU⟩ : ∃ U, U = w3.alloc (.cells #[.int .i64 (comA l 0).1, .int .i64 (comA l 0).2] 23) := ⟨_, rfl⟩
      have HBU := Lib.hid (show Below A.heap.size A U by rw [hU]; exact HB3.out.alloc HB3.out.size _)
      have HXU := Lib.hid (show Bx2 U w3.heap.size (.int .i64 (comA l 0).1) (.int .i64 (comA l 0).2) by rw [hU]; exact Bx2.new _ _ _)
      have HLT := Lib.hid (show w3.heap.size < U.heap.size by rw [hU]; simp)
      have HGE := Lib.hid HB3.out.size
      go_upto_region 12 with fail
      try rw [← hU]
      clear hU HB3
      generalize hQ : w3.heap.size = Q at *
      clear hQ
      go_wp2_with fail
      go_loopw [9] (fun iv wr => ∃ j : Nat, j ≤ k ∧ iv = .int .i64 j ∧ Bx2 wr Q (.int .i64 (comA l j).1) (.int .i64 (comA l j).2) ∧ U.heap.size ≤ wr.heap.size ∧ Below A.heap.size A wr) (fun iv _ => k - (intOf iv).toNat)
      case atStart => exact ⟨0, Nat.zero_le _, rfl, HXU.out, Nat.le_refl _, HBU.out⟩
      case round =>
        obtain ⟨j, hj, rfl, hX, hsz, hBj⟩ := hrel
        have HX := Lib.hid hX
        have HSZ := Lib.hid hsz
        have HBj := Lib.hid hBj
        clear hX hsz hBj
        by_cases hlj : j < k
        · have hji : (j : Int) < (k : Int) := by omega
          obtain ⟨c0, c1, c2, c3, c4⟩ := HC2.out _ j (HBA.out.trans (HBj.out.mono HBA.out.size)) hlj
          have c45 := fun W => refDistance_any (ms l j).kd (ms l j).v0 (ms l j).v1 (ms l j).b0 (ms l j).b1 W
          rw [← HD.out j, HZ.out j hlj] at c45
          have HSJ := Lib.hid (HSU.out j hlj)
          generalize (dsM (ms l j)).lo = lo at *
          generalize (dsM (ms l j)).hi = hi' at *
          generalize (comA l j).1 = p0 at *
          generalize (comA l j).2 = p1 at *
          clear HR
          go_wp2_with fail
          refine (c45 _).mono ?_
          rintro e w4 ⟨rfl, hb4⟩
          have HX4 := Lib.hid (HX.out.keep hb4)
          have HB4 := Lib.hid (HBj.out.trans (hb4.mono HBj.out.size))
          have HSZ4 := Lib.hid (show U.heap.size ≤ w4.heap.size from Nat.le_trans HSZ.out hb4.size)
          clear hb4 c0 c1 c2 c3 c4 c45
          obtain ⟨V, hV⟩ : ∃ V, V = w4.alloc (.cells #[.int .i64 lo, .int .i64 hi'] 23) := ⟨_, rfl⟩
          have hbV : Below w4.heap.size w4 V := by rw [hV]; exact (Below.refl _ _).alloc (Nat.le_refl _) _
          have HXV := Lib.hid (HX4.out.keep hbV)
          have HYV := Lib.hid (show Bx2 V w4.heap.size (.int .i64 lo) (.int .i64 hi') by rw [hV]; exact Bx2.new _ _ _)
          have HBV := Lib.hid (show Below A.heap.size A V by rw [hV]; exact HB4.out.alloc HB4.out.size _)
          have HSV := Lib.hid (show U.heap.size ≤ V.heap.size from Nat.le_trans HSZ4.out hbV.size)
          go_upto_region 16 with fail
          try rw [← hV]
          clear hV hbV
          have y0 := HXV.out.c0
          have y1 := HXV.out.c1
          have yf0 := HXV.out.f0 0
          have yf1 := HXV.out.f0 1
          have z0 := HYV.out.c0
          have z1 := HYV.out.c1
          have HXS := Lib.hid (HXV.out.set (.int .i64 (max p0 lo)) (.int .i64 (min p1 hi')))
          have HBS := Lib.hid (show Below A.heap.size A ((V.setCell ⟨Q, 0, none⟩ (.int .i64 (max p0 lo))).setCell ⟨Q, 1, none⟩ (.int .i64 (min p1 hi'))) from (HBV.out.setCell (p := ⟨Q, 0, none⟩) HGE.out _).setCell (p := ⟨Q, 1, none⟩) HGE.out _)
          have HSS := Lib.hid (show U.heap.size ≤ ((V.setCell ⟨Q, 0, none⟩ (.int .i64 (max p0 lo))).setCell ⟨Q, 1, none⟩ (.int .i64 (min p1 hi'))).heap.size by simpa using HSV.out)
          go_wp2_with fail
          go_roundw
          case rel => exact ⟨j + 1, by omega, by go_num, by rw [HSJ.out]; exact HXS.out, HSS.out, HBS.out⟩
          case measure => simp [intOf]; omega
        · obtain rfl : j = k := by omega
          have y0 := HX.out.c0
          have y1 := HX.out.c1
          obtain ⟨⟨x0, x1⟩, ⟨f0, f1⟩, HS⟩ := KX.out _ HBj.out
          have HR' := HR.out
          clear HR HSU HD
          generalize (comA l j).1 = p0 at *
          generalize (comA l j).2 = p1 at *
          by_cases hE : p1 < p0
          · have HSS := Lib.hid (HS (.int .i64 0) (.int .i64 0))
            have HR := Lib.hid (HR'.trans (if_pos hE))
            clear HS HR'
            go_wp2_with fail
            refine bodyPost_ret (v := .tuple #[.agg #[.int .i64 0, .int .i64 0], .int .i64 16]) (by simp [results, Try.results47, go_sem, HSS.out.1, HSS.out.2]) rfl ⟨by rw [HR.out], HEND.out _ _ _ HBj.out⟩
          · have HSS := Lib.hid (HS (.int .i64 p0) (.int .i64 p1))
            have HR := Lib.hid (HR'.trans (if_neg hE))
            clear HS HR'
            go_wp2_with fail
            refine bodyPost_ret (v := .tuple #[.agg #[.int .i64 p0, .int .i64 p1], .int .i64 0]) (by simp [results, Try.results47, go_sem, HSS.out.1, HSS.out.2]) rfl ⟨by rw [HR.out], HEND.out _ _ _ HBj.out⟩
end Go.Proofs.Ytdohfpnnmppdkaa

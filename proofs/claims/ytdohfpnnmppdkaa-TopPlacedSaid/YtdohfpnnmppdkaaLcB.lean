/-
  Cables: the common part of distances.
-/
import Derived.Test.YtdohfpnnmppdkaaLocMath
import Derived.Test.YtdohfpnnmppdkaaCcA
namespace Go.Proofs.Ytdohfpnnmppdkaa
open Go.RowKit Go.Shelf
set_option linter.unusedSimpArgs false
attribute [local go_sem] Oper.semAt_some
theorem vB_keep {a b c d : Int} (h1 : vB a b = true) (h2 : vB c d = true) (h : ¬ min b d < max a c) : vB (max a c) (min b d) = true := by
  rw [vB_iff] at *
  omega
set_option maxRecDepth 100000 in
set_option maxHeartbeats 16000000 in
/-- the common part of n + 1 valid spans -/
theorem common_any (v : Value) (n : Nat) (hn : n ≤ 100) (f : Nat → Int × Int) (hf : ∀ k, k ≤ n → vB (f k).1 (f k).2 = true) (w : World) (hS : Sv w.heap.size w v (n + 1) f) :
    Calls Try.prog 114 #[v] w fun e w' => e = .returned (.tuple #[.agg #[.int .i64 (if (comN f n).2 < (comN f n).1 then 0 else (comN f n).1), .int .i64 (if (comN f n).2 < (comN f n).1 then 0 else (comN f n).2)], .int .i64 (if (comN f n).2 < (comN f n).1 then 16 else 0)]) ∧ Below w.heap.size w w' := by
  obtain ⟨a, cap, rfl, hcap, hcc⟩ := hS
  obtain ⟨b, off, rfl, hb, c0, c1⟩ := hcc 0 (by omega)
  have HC := Lib.hid (show ∀ W k, Below w.heap.size w W → k < n → W.cell? ⟨b, off + 2 + k * 2, none⟩ = some (.int .i64 (f (k + 1)).1) ∧ W.cell? ⟨b, off + 2 + k * 2 + 1, none⟩ = some (.int .i64 (f (k + 1)).2) from fun W k hW hk => by
    obtain ⟨b', off', e, hb', d0, d1⟩ := hcc (k + 1) (by omega)
    simp only [Option.some.injEq, Addr.mk.injEq] at e
    obtain ⟨rfl, rfl, -⟩ := e
    rw [show off + 2 + k * 2 = off + (k + 1) * 2 by omega]
    exact ⟨(hW.cell (p := ⟨b, _, none⟩) hb).trans d0, (hW.cell (p := ⟨b, _, none⟩) hb).trans d1⟩)
  have HF := Lib.hid hf
  have HM := Lib.hid (fun k (h : k ≤ n) => comN_mono f k n h)
  have HN := Lib.hid (show ∀ k, comN f (k + 1) = (max (comN f k).1 (f (k + 1)).1, min (comN f k).2 (f (k + 1)).2) from fun _ => rfl)
  have H0 := Lib.hid (show comN f 0 = f 0 from rfl)
  have HR1 := Lib.hid (show (comN f n).2 < (comN f n).1 → (if (comN f n).2 < (comN f n).1 then (0 : Int) else (comN f n).1) = 0 ∧ (if (comN f n).2 < (comN f n).1 then (0 : Int) else (comN f n).2) = 0 ∧ (if (comN f n).2 < (comN f n).1 then (16 : Int) else 0) = 16 from fun h => ⟨if_pos h, if_pos h, if_pos h⟩)
  have HR2 := Lib.hid (show ¬ (comN f n).2 < (comN f n).1 → (if (comN f n).2 < (comN f n).1 then (0 : Int) else (comN f n).1) = (comN f n).1 ∧ (if (comN f n).2 < (comN f n).1 then (0 : Int) else (comN f n).2) = (comN f n).2 ∧ (if (comN f n).2 < (comN f n).1 then (16 : Int) else 0) = 0 from fun h => ⟨if_neg h, if_neg h, if_neg h⟩)
  generalize (if (comN f n).2 < (comN f n).1 then (0 : Int) else (comN f n).1) = R1 at *
  generalize (if (comN f n).2 < (comN f n).1 then (0 : Int) else (comN f n).2) = R2 at *
  generalize (if (comN f n).2 < (comN f n).1 then (16 : Int) else 0) = R3 at *
  simp only [Nat.zero_mul, Nat.add_zero] at c0 c1
  rw [← H0.out] at c0 c1
  clear hcc hf
  obtain ⟨A, hA⟩ : ∃ A, A = w.alloc (.cells #[.int .i64 0, .int .i64 0] 23) := ⟨_, rfl⟩
  have HBA := Lib.hid (show Below w.heap.size w A by rw [hA]; exact (Below.refl _ _).alloc (Nat.le_refl _) _)
  have HXA := Lib.hid (show Bx2 A w.heap.size (.int .i64 0) (.int .i64 0) by rw [hA]; exact Bx2.new _ _ _)
  obtain ⟨A2, hA2⟩ : ∃ A2, A2 = A.alloc (.cells #[.int .i64 (comN f 0).1, .int .i64 (comN f 0).2] 23) := ⟨_, rfl⟩
  have HBA2 := Lib.hid (show Below w.heap.size w A2 by rw [hA2]; exact HBA.out.alloc HBA.out.size _)
  have HXA2 := Lib.hid (show Bx2 A2 w.heap.size (.int .i64 0) (.int .i64 0) by rw [hA2]; exact HXA.out.keep ((Below.refl _ _).alloc (Nat.le_refl _) _))
  have HYA2 := Lib.hid (show Bx2 A2 A.heap.size (.int .i64 (comN f 0).1) (.int .i64 (comN f 0).2) by rw [hA2]; exact Bx2.new _ _ _)
  have HZ := Lib.hid (show A.heap.size = w.heap.size + 1 by rw [hA]; simp)
  have c0A := (HBA.out.cell (p := ⟨b, off, none⟩) hb).trans c0
  have c1A := (HBA.out.cell (p := ⟨b, off + 1, none⟩) hb).trans c1
  by_cases hc1 : cap = 1
  · obtain rfl : n = 0 := by omega
    subst hc1
    clear HC
    go_enter Try.func114, Try.ntmps114
    go_upto_region 1 with fail
    rw [← hA]
    clear hA
    go_upto_region 2 with fail
    try rw [← hA2]
    clear hA2 c0 c1 c0A c1A
    generalize hAB : A.heap.size = BA at *
    go_wp2_with fail
    go_loopw [15] (fun iv wr => iv = .int .i64 0 ∧ wr = A2) (fun _ _ => 0)
    case atStart => exact ⟨rfl, rfl⟩
    case round =>
      obtain ⟨rfl, rfl⟩ := hrel
      have HV := Lib.hid (show vB (comN f 0).1 (comN f 0).2 = true by rw [H0.out]; exact HF.out 0 (Nat.le_refl _))
      have HX := HXA2
      have HY := HYA2
      have HB := HBA2
      have HR := Lib.hid (HR2.out (by have := (vB_iff _ _).1 HV.out; omega))
      clear HR1 HR2 HM HN H0 HF HV
      generalize (comN f 0).1 = p0 at *
      generalize (comN f 0).2 = p1 at *
      have y0 := HY.out.c0
      have y1 := HY.out.c1
      have x0 := HX.out.c0
      have x1 := HX.out.c1
      have xf0 := HX.out.f0 0
      have xf1 := HX.out.f0 1
      have HS := Lib.hid (And.intro (HX.out.set (.int .i64 p0) (.int .i64 p1)).c0 (HX.out.set (.int .i64 p0) (.int .i64 p1)).c1)
      go_wp2_with fail
      refine bodyPost_ret (v := .tuple #[.agg #[.int .i64 p0, .int .i64 p1], .int .i64 0]) (by simp [results, Try.results114, go_sem, HS.out.1, HS.out.2]) rfl ⟨by rw [HR.out.1, HR.out.2.1, HR.out.2.2], (HB.out.setCell (p := ⟨w.heap.size, 0, none⟩) (Nat.le_refl _) _).setCell (p := ⟨w.heap.size, 1, none⟩) (Nat.le_refl _) _⟩
  go_enter Try.func114, Try.ntmps114
  go_upto_region 1 with fail
  rw [← hA]
  clear hA
  go_upto_region 2 with fail
  try rw [← hA2]
  clear hA2 c0 c1 c0A c1A
  generalize hAB : A.heap.size = BA at *
  go_wp2_with fail
  go_loopw [15] (fun iv wr => ∃ k : Nat, k ≤ n ∧ iv = .int .i64 k ∧ vB (comN f k).1 (comN f k).2 = true ∧ Bx2 wr w.heap.size (.int .i64 0) (.int .i64 0) ∧ Bx2 wr BA (.int .i64 (comN f k).1) (.int .i64 (comN f k).2) ∧ Below w.heap.size w wr) (fun iv _ => n - (intOf iv).toNat)
  case atStart => exact ⟨0, Nat.zero_le _, rfl, by rw [H0.out]; exact HF.out 0 (Nat.zero_le _), HXA2.out, HYA2.out, HBA2.out⟩
  case round =>
    obtain ⟨k, hk, rfl, hv, hX, hY, hB⟩ := hrel
    have HV := Lib.hid hv
    have HX := Lib.hid hX
    have HY := Lib.hid hY
    have HB := Lib.hid hB
    clear hv hX hY hB
    by_cases hlt : k < n
    · have hki : (k : Int) < (n : Int) := by omega
      obtain ⟨d0, d1⟩ := HC.out wr k HB.out hlt
      have HNk := Lib.hid (HN.out k)
      have HFk := Lib.hid (HF.out (k + 1) (by omega))
      have HMk := Lib.hid (HM.out (k + 1) (by omega))
      rw [HNk.out] at HMk
      have c143 := fun W => bmeet_any (comN f k).1 (comN f k).2 (f (k + 1)).1 (f (k + 1)).2 W
      have HBM := Lib.hid (show bmeetS (comN f k).1 (comN f k).2 (f (k + 1)).1 (f (k + 1)).2 = (if min (comN f k).2 (f (k + 1)).2 < max (comN f k).1 (f (k + 1)).1 then ⟨0, 0, 5⟩ else ⟨max (comN f k).1 (f (k + 1)).1, min (comN f k).2 (f (k + 1)).2, 0⟩) by unfold bmeetS; rw [if_pos ⟨HV.out, HFk.out⟩])
      rw [HBM.out] at c143
      have HKEEP := Lib.hid (fun h => vB_keep HV.out HFk.out h)
      dsimp only at HMk
      generalize (comN f k).1 = p0 at *
      generalize (comN f k).2 = p1 at *
      generalize (f (k + 1)).1 = d0' at *
      generalize (f (k + 1)).2 = d1' at *
      obtain ⟨V, hV⟩ : ∃ V, V = wr.alloc (.cells #[.int .i64 d0', .int .i64 d1'] 23) := ⟨_, rfl⟩
      have hbV : Below wr.heap.size wr V := by rw [hV]; exact (Below.refl _ _).alloc (Nat.le_refl _) _
      have HBV := Lib.hid (HB.out.trans (hbV.mono HB.out.size))
      have HXV := Lib.hid (HX.out.keep hbV)
      have HYV := Lib.hid (HY.out.keep hbV)
      have HDV := Lib.hid (show Bx2 V wr.heap.size (.int .i64 d0') (.int .i64 d1') by rw [hV]; exact Bx2.new _ _ _)
      go_upto_region 5 with fail
      try rw [← hV]
      clear hV hbV d0 d1
      have y0 := HYV.out.c0
      have y1 := HYV.out.c1
      have z0 := HDV.out.c0
      have z1 := HDV.out.c1
      by_cases hE : min p1 d1' < max p0 d0'
      · have c2 := fun W => c143 W
        simp only [if_pos hE] at c2
        have HR := Lib.hid (HR1.out (by have := HMk.out; omega))
        clear HBM HNk HKEEP HMk c143 hE HR1 HR2
        go_wp2_with fail
        refine (c2 _).mono ?_
        rintro e w3 ⟨rfl, hb3⟩
        have HX3 := Lib.hid (HXV.out.keep hb3)
        have HB3 := Lib.hid (HBV.out.trans (hb3.mono HBV.out.size))
        clear hb3 y0 y1 z0 z1
        obtain ⟨U, hU⟩ : ∃ U, U = w3.alloc (.cells #[.int .i64 0, .int .i64 0] 23) := ⟨_, rfl⟩
        have hbU : Below w3.heap.size w3 U := by rw [hU]; exact (Below.refl _ _).alloc (Nat.le_refl _) _
        have HXU := Lib.hid (HX3.out.keep hbU)
        have HBU := Lib.hid (HB3.out.trans (hbU.mono HB3.out.size))
        go_upto_region 6 with fail
        try rw [← hU]
        clear hU hbU
        have x0 := HXU.out.c0
        have x1 := HXU.out.c1
        have xf0 := HXU.out.f0 0
        have xf1 := HXU.out.f0 1
        have s0 := (HXU.out.set (.int .i64 0) (.int .i64 0)).c0
        have s1 := (HXU.out.set (.int .i64 0) (.int .i64 0)).c1
        have HS := Lib.hid (And.intro s0 s1)
        clear s0 s1
        go_wp2_with fail
        refine bodyPost_ret (v := .tuple #[.agg #[.int .i64 0, .int .i64 0], .int .i64 16]) (by simp [results, Try.results114, go_sem, HS.out.1, HS.out.2]) rfl ⟨by rw [HR.out.1, HR.out.2.1, HR.out.2.2], (HBU.out.setCell (p := ⟨w.heap.size, 0, none⟩) (Nat.le_refl _) _).setCell (p := ⟨w.heap.size, 1, none⟩) (Nat.le_refl _) _⟩
      · have c2 := fun W => c143 W
        simp only [if_neg hE] at c2
        have HV2 := Lib.hid (show vB (comN f (k + 1)).1 (comN f (k + 1)).2 = true by rw [HNk.out]; exact HKEEP.out hE)
        clear HBM HKEEP HMk c143 hE HR1 HR2
        go_wp2_with fail
        refine (c2 _).mono ?_
        rintro e w3 ⟨rfl, hb3⟩
        have HX3 := Lib.hid (HXV.out.keep hb3)
        have HY3 := Lib.hid (HYV.out.keep hb3)
        have HB3 := Lib.hid (HBV.out.trans (hb3.mono HBV.out.size))
        clear hb3 y0 y1 z0 z1
        obtain ⟨m0, hm0⟩ : ∃ m, m = max p0 d0' := ⟨_, rfl⟩
        obtain ⟨m1, hm1⟩ : ∃ m, m = min p1 d1' := ⟨_, rfl⟩
        rw [← hm0, ← hm1] at HNk
        rw [← hm0, ← hm1]
        clear hm0 hm1 c2
        obtain ⟨U, hU⟩ : ∃ U, U = w3.alloc (.cells #[.int .i64 m0, .int .i64 m1] 23) := ⟨_, rfl⟩
        have hbU : Below w3.heap.size w3 U := by rw [hU]; exact (Below.refl _ _).alloc (Nat.le_refl _) _
        have HXU := Lib.hid (HX3.out.keep hbU)
        have HYU := Lib.hid (HY3.out.keep hbU)
        have HZU := Lib.hid (show Bx2 U w3.heap.size (.int .i64 m0) (.int .i64 m1) by rw [hU]; exact Bx2.new _ _ _)
        have HBU := Lib.hid (HB3.out.trans (hbU.mono HB3.out.size))
        go_upto_region 6 with fail
        try rw [← hU]
        clear hU hbU
        have y0 := HYU.out.c0
        have y1 := HYU.out.c1
        have yf0 := HYU.out.f0 0
        have yf1 := HYU.out.f0 1
        have z0 := HZU.out.c0
        have z1 := HZU.out.c1
        have hne : w.heap.size ≠ BA := by have := HZ.out; omega
        have HYS := Lib.hid (HYU.out.set (.int .i64 m0) (.int .i64 m1))
        have HXS := Lib.hid (show Bx2 ((U.setCell ⟨BA, 0, none⟩ (.int .i64 m0)).setCell ⟨BA, 1, none⟩ (.int .i64 m1)) w.heap.size (.int .i64 0) (.int .i64 0) from (HXU.out.far hne).far hne)
        have HBS := Lib.hid (show Below w.heap.size w ((U.setCell ⟨BA, 0, none⟩ (.int .i64 m0)).setCell ⟨BA, 1, none⟩ (.int .i64 m1)) from (HBU.out.setCell (p := ⟨BA, 0, none⟩) (by show w.heap.size ≤ BA; have := HZ.out; omega) _).setCell (p := ⟨BA, 1, none⟩) (by show w.heap.size ≤ BA; have := HZ.out; omega) _)
        clear hne
        go_wp2_with fail
        go_roundw
        case rel => exact ⟨k + 1, by omega, by go_num, HV2.out, HXS.out, by rw [HNk.out]; exact HYS.out, HBS.out⟩
        case measure => simp [intOf]; omega
    · obtain rfl : k = n := by omega
      have HR := Lib.hid (HR2.out (by have := (vB_iff _ _).1 HV.out; omega))
      clear HR1 HR2 HM HN H0 HF HV
      generalize (comN f k).1 = p0 at *
      generalize (comN f k).2 = p1 at *
      have y0 := HY.out.c0
      have y1 := HY.out.c1
      have x0 := HX.out.c0
      have x1 := HX.out.c1
      have xf0 := HX.out.f0 0
      have xf1 := HX.out.f0 1
      have HS := Lib.hid (And.intro (HX.out.set (.int .i64 p0) (.int .i64 p1)).c0 (HX.out.set (.int .i64 p0) (.int .i64 p1)).c1)
      go_wp2_with fail
      refine bodyPost_ret (v := .tuple #[.agg #[.int .i64 p0, .int .i64 p1], .int .i64 0]) (by simp [results, Try.results114, go_sem, HS.out.1, HS.out.2]) rfl ⟨by rw [HR.out.1, HR.out.2.1, HR.out.2.2], (HB.out.setCell (p := ⟨w.heap.size, 0, none⟩) (Nat.le_refl _) _).setCell (p := ⟨w.heap.size, 1, none⟩) (Nat.le_refl _) _⟩
end Go.Proofs.Ytdohfpnnmppdkaa

/-
  Cables: Share and CheckShare are what the reference says.
-/
import Derived.Test.YtdohfpnnmppdkaaGreatZall
namespace Go.Proofs.YtdohfpnnmppdkaaGreat
open Go.RowKit Go.Shelf
set_option linter.unusedSimpArgs false
attribute [local go_sem] Oper.semAt_some
theorem share57_all (sl sh : Int) (sv qv kv : Value) (ns : List Nd) (rs ks : List Int) (w : World) (hr : rs.length ≤ 1000) (hN : Nds w.heap.size w sv ns) (hQ : Il w.heap.size w qv rs) (hK : Il w.heap.size w kv ks) :
    Calls Tryz.prog 7 #[.agg #[.int .i64 sl, .int .i64 sh, sv], qv, kv] w (NumR (shaE sl sh ns rs ks) (fun j => (shF (par ns) (limF ns) (ti rs) (ordO (ti ks) ns.length)).2 j) ns.length w) := by
  by_cases hE : shaE sl sh ns rs ks = 0
  · refine (share57_ok sl sh sv qv kv ns rs ks w hN hQ hK hE).mono fun e w' h => ?_
    obtain ⟨v, he, hi, hb⟩ := h
    unfold NumR
    refine ⟨v, by rw [hE]; exact he, ?_, hb⟩
    rw [if_pos hE]
    exact hi
  · refine (share57_bad sl sh sv qv kv ns rs ks w hr hN hQ hK hE).mono fun e w' h => ?_
    obtain ⟨he, hb⟩ := h
    unfold NumR
    refine ⟨_, he, ?_, hb⟩
    rw [if_neg hE]
theorem sk_il {n₀ : Nat} {W : World} {v : Value} {zs : List Int} (h : Sk .i64 n₀ W v zs) : Il n₀ W v zs := by
  obtain ⟨a, c, e, hle, hz⟩ := h
  exact ⟨a, c, e, hle, fun k hk => (hz k hk).2⟩
/-- what a call hands back, as a list -/
def NumL (E : Int) (f : Nat → Int) (n : Nat) : List Int := if E = 0 then fL f n else []
theorem NumL_len (E : Int) (f : Nat → Int) (n : Nat) (hn : n ≤ 1000) : (NumL E f n).length ≤ 1000 := by
  unfold NumL
  split
  · rw [fL_len]; exact hn
  · simp
theorem numL_il {E : Int} {f : Nat → Int} {n : Nat} {W : World} {v : Value} (h : if E = 0 then Il W.heap.size W v (fL f n) else v = .slice none 0 0) : Il W.heap.size W v (NumL E f n) := by
  unfold NumL
  by_cases hE : E = 0
  · rw [if_pos hE] at h ⊢; exact h
  · rw [if_neg hE] at h ⊢; subst h; exact il_nil _ _
set_option maxRecDepth 100000 in
set_option maxHeartbeats 16000000 in
theorem shares_any (sl sh : Int) (sv qv kv gv : Value) (ns : List Nd) (rs ks gs : List Int) (w : World) (hN : Nds w.heap.size w sv ns) (hQ : Il w.heap.size w qv rs) (hK : Il w.heap.size w kv ks) (hG : Il w.heap.size w gv gs) :
    Calls Tryz.prog 3 #[.agg #[.int .i64 sl, .int .i64 sh, sv], qv, kv, gv] w fun e w' => e = .returned (.bool true) ∧ Below w.heap.size w w' := by
  have cF := Lib.hid (fun W => fine_any W)
  obtain ⟨EE, hEE⟩ : ∃ E, E = shaE sl sh ns rs ks := ⟨_, rfl⟩
  obtain ⟨L, hL⟩ : ∃ L, L = NumL EE (fun j => (shF (par ns) (limF ns) (ti rs) (ordO (ti ks) ns.length)).2 j) ns.length := ⟨_, rfl⟩
  have cS := Lib.hid (show rs.length ≤ 100 → ∀ W, Below w.heap.size w W → Calls Tryz.prog 7 #[.agg #[.int .i64 sl, .int .i64 sh, sv], qv, kv] W fun e w' => ∃ v, e = .returned (.tuple #[v, .int .i64 EE]) ∧ Il w'.heap.size w' v L ∧ Below W.heap.size W w' from fun hr W h => by
    refine (share57_all sl sh sv qv kv ns rs ks W (by omega) (hN.at h) (hQ.at h) (hK.at h)).mono fun e w' hp => ?_
    unfold NumR at hp
    rw [← hEE] at hp
    obtain ⟨v, he, hi, hb⟩ := hp
    exact ⟨v, he, by rw [hL]; exact numL_il hi, hb⟩)
  have cR := Lib.hid (show ∀ W, Below w.heap.size w W → Calls Tryz.prog 8 #[.agg #[.int .i64 sl, .int .i64 sh, sv], qv, kv] W fun e w' => ∃ v, e = .returned (.tuple #[v, .int .i64 EE]) ∧ Il w'.heap.size w' v L ∧ Below W.heap.size W w' from fun W h => by
    refine (refshare_all sl sh sv qv kv ns rs ks W (hN.at h) (hQ.at h) (hK.at h)).mono fun e w' hp => ?_
    unfold NumR at hp
    rw [← hEE] at hp
    obtain ⟨v, he, hi, hb⟩ := hp
    exact ⟨v, he, by rw [hL]; exact numL_il hi, hb⟩)
  have cK := Lib.hid (show gs.length ≤ 100 → ∀ W, Below w.heap.size w W → Calls Tryz.prog 9 #[.agg #[.int .i64 sl, .int .i64 sh, sv], gv] W fun e w' => ∃ K E, e = .returned (.tuple #[.int .i64 K, .int .i64 E]) ∧ ChkP sl sh ns gs K E ∧ Below W.heap.size W w' from fun hg W h => check9_all sl sh sv gv ns gs (by omega) W (hN.at h) (hG.at h))
  have cX := Lib.hid (show ∀ W, Below w.heap.size w W → Calls Tryz.prog 10 #[.agg #[.int .i64 sl, .int .i64 sh, sv], gv] W fun e w' => ∃ K E, e = .returned (.tuple #[.int .i64 K, .int .i64 E]) ∧ ChkP sl sh ns gs K E ∧ Below W.heap.size W w' from fun W h => ref10_all sl sh sv gv ns gs W (hN.at h) (hG.at h))
  have HLL := Lib.hid (show lng ns.length = false → L.length ≤ 1000 from fun h => by
    rw [hL]
    refine NumL_len _ _ _ ?_
    unfold lng at h
    simp at h
    omega)
  have cL := Lib.hid (show ∀ av bv W, L.length ≤ 1000 → Il W.heap.size W av L → Il W.heap.size W bv L → Calls Tryz.prog 11 #[av, bv] W fun e w' => e = .returned (.bool true) ∧ Below W.heap.size W w' from fun av bv W hl h1 h2 => by
    have q := longs_any av bv L L W h1 h2 hl
    rw [decide_eq_true rfl] at q
    exact q)
  have HON := Lib.hid (show ∀ K E K' E', ChkP sl sh ns gs K E → ChkP sl sh ns gs K' E' → K = K' ∧ E = E' from fun K E K' E' h h' => h.one h')
  obtain ⟨a, cap, hsv⟩ := hN.form
  subst hsv
  have c5 := Lib.hid (fun W => long_any sl sh a ns.length cap W)
  obtain ⟨qa, qc, rfl⟩ := hQ.form
  obtain ⟨ka, kc, rfl⟩ := hK.form
  obtain ⟨ga, gc, rfl⟩ := hG.form
  clear hN hQ hK hG hEE hL
  generalize ChkP sl sh ns gs = PP at *
  generalize hLN : lng ns.length = LN at *
  clear hLN
  generalize ns.length = n at *
  generalize rs.length = rn at *
  generalize ks.length = kn at *
  generalize gs.length = gn at *
  obtain ⟨A, hA⟩ : ∃ A, A = w.alloc (.cells #[.int .i64 sl, .int .i64 sh, .slice a n cap] 26) := ⟨_, rfl⟩
  have HBA := Lib.hid (show Below w.heap.size w A by rw [hA]; exact ((Below.refl _ _).alloc (Nat.le_refl _) _))
  have hltA : w.heap.size < A.heap.size := by rw [hA]; simp
  have q0 : A.cell? ⟨w.heap.size, 0, none⟩ = some (.int .i64 sl) := by rw [hA]; exact (cellHB (World.alloc_heap_new w _) 0).trans (by simp)
  have q1 : A.cell? ⟨w.heap.size, 1, none⟩ = some (.int .i64 sh) := by rw [hA]; exact (cellHB (World.alloc_heap_new w _) 1).trans (by simp)
  have q2 : A.cell? ⟨w.heap.size, 2, none⟩ = some (.slice a n cap) := by rw [hA]; exact (cellHB (World.alloc_heap_new w _) 2).trans (by simp)
  have KK := Lib.hid (show ∀ W, Below A.heap.size A W → W.cell? ⟨w.heap.size, 0, none⟩ = some (.int .i64 sl) ∧ W.cell? ⟨w.heap.size, 1, none⟩ = some (.int .i64 sh) ∧ W.cell? ⟨w.heap.size, 2, none⟩ = some (.slice a n cap) from fun W h => ⟨(h.cell (p := ⟨w.heap.size, 0, none⟩) hltA).trans q0, (h.cell (p := ⟨w.heap.size, 1, none⟩) hltA).trans q1, (h.cell (p := ⟨w.heap.size, 2, none⟩) hltA).trans q2⟩)
  clear hltA q0 q1 q2
  have HUP := Lib.hid (show ∀ W, Below A.heap.size A W → Below w.heap.size w W from fun W h => HBA.out.trans (h.mono HBA.out.size))
  obtain ⟨k0, k1, k2⟩ := KK.out _ (Below.refl _ _)
  by_cases hbig : LN = true ∨ 100 < rn ∨ 100 < kn ∨ 100 < gn
  · clear cS cR cK cX cL HLL HON
    have fin : ∀ W, Below A.heap.size A W → Calls Tryz.prog 6 #[] W fun e w' => e = .returned (.bool true) ∧ Below w.heap.size w w' := fun W h => (cF.out W).mono fun e w' hp => ⟨hp.1, HUP.out _ (h.trans (hp.2.mono h.size))⟩
    have HFN := Lib.hid fin
    clear fin
    cases LN
    · have hbig' : 100 < rn ∨ 100 < kn ∨ 100 < gn := by simpa using hbig
      clear hbig
      by_cases h1 : 100 < rn
      · have h1' : (100 : Int) < (rn : Int) := by omega
        clear hbig' h1
        go_enter Tryz.func3, Tryz.ntmps3
        go_upto_region 1 with fail
        rw [← hA]
        clear hA
        go_wp2_with fail
        refine (c5.out _).mono ?_
        rintro e w1 ⟨rfl, hb⟩
        have HB1 := Lib.hid hb
        clear hb k0 k1 k2
        go_wp2_with fail
        refine (HFN.out _ HB1.out).mono ?_
        rintro e w2 ⟨rfl, hb⟩
        go_wp2_with fail
        go_ret
        exact ⟨rfl, hb⟩
      · have h1' : ¬ (100 : Int) < (rn : Int) := by omega
        by_cases h2 : 100 < kn
        · have h2' : (100 : Int) < (kn : Int) := by omega
          clear hbig' h1 h2
          go_enter Tryz.func3, Tryz.ntmps3
          go_upto_region 1 with fail
          rw [← hA]
          clear hA
          go_wp2_with fail
          refine (c5.out _).mono ?_
          rintro e w1 ⟨rfl, hb⟩
          have HB1 := Lib.hid hb
          clear hb k0 k1 k2
          go_wp2_with fail
          refine (HFN.out _ HB1.out).mono ?_
          rintro e w2 ⟨rfl, hb⟩
          go_wp2_with fail
          go_ret
          exact ⟨rfl, hb⟩
        · have h2' : ¬ (100 : Int) < (kn : Int) := by omega
          have h3' : (100 : Int) < (gn : Int) := by omega
          clear hbig' h1 h2
          go_enter Tryz.func3, Tryz.ntmps3
          go_upto_region 1 with fail
          rw [← hA]
          clear hA
          go_wp2_with fail
          refine (c5.out _).mono ?_
          rintro e w1 ⟨rfl, hb⟩
          have HB1 := Lib.hid hb
          clear hb k0 k1 k2
          go_wp2_with fail
          refine (HFN.out _ HB1.out).mono ?_
          rintro e w2 ⟨rfl, hb⟩
          go_wp2_with fail
          go_ret
          exact ⟨rfl, hb⟩
    · clear hbig
      go_enter Tryz.func3, Tryz.ntmps3
      go_upto_region 1 with fail
      rw [← hA]
      clear hA
      go_wp2_with fail
      refine (c5.out _).mono ?_
      rintro e w1 ⟨rfl, hb⟩
      have HB1 := Lib.hid hb
      clear hb k0 k1 k2
      go_wp2_with fail
      refine (HFN.out _ HB1.out).mono ?_
      rintro e w2 ⟨rfl, hb⟩
      go_wp2_with fail
      go_ret
      exact ⟨rfl, hb⟩
  · have hln : LN = false := by
      cases LN
      · rfl
      · exact absurd (Or.inl rfl) hbig
    subst hln
    have h1' : ¬ (100 : Int) < (rn : Int) := fun h => hbig (.inr (.inl (by omega)))
    have h2' : ¬ (100 : Int) < (kn : Int) := fun h => hbig (.inr (.inr (.inl (by omega))))
    have h3' : ¬ (100 : Int) < (gn : Int) := fun h => hbig (.inr (.inr (.inr (by omega))))
    have dS := Lib.hid (cS.out (by omega))
    have dK := Lib.hid (cK.out (by omega))
    have hll := Lib.hid (HLL.out rfl)
    clear hbig cS cK HLL
    go_enter Tryz.func3, Tryz.ntmps3
    go_upto_region 1 with fail
    rw [← hA]
    clear hA
    go_wp2_with fail
    refine (c5.out _).mono ?_
    rintro e w1 ⟨rfl, hb⟩
    have HB1 := Lib.hid hb
    clear hb k0 k1 k2
    obtain ⟨k0, k1, k2⟩ := KK.out _ HB1.out
    go_wp2_with fail
    refine (dS.out _ (HUP.out _ HB1.out)).mono ?_
    rintro e w2 ⟨av, rfl, hi, hb⟩
    have HB2 := Lib.hid (HB1.out.trans (hb.mono HB1.out.size))
    have HIA := Lib.hid hi
    clear hb hi k0 k1 k2
    obtain ⟨k0, k1, k2⟩ := KK.out _ HB2.out
    go_wp2_with fail
    refine (cR.out _ (HUP.out _ HB2.out)).mono ?_
    rintro e w3 ⟨bv, rfl, hi, hb⟩
    have HB3 := Lib.hid (HB2.out.trans (hb.mono HB2.out.size))
    have HIA3 := Lib.hid (HIA.out.at hb)
    have HIB3 := Lib.hid hi
    clear hb hi k0 k1 k2 HIA
    obtain ⟨k0, k1, k2⟩ := KK.out _ HB3.out
    go_wp2_with fail
    refine (dK.out _ (HUP.out _ HB3.out)).mono ?_
    rintro e w4 ⟨K1, F1, rfl, hp1, hb⟩
    have HB4 := Lib.hid (HB3.out.trans (hb.mono HB3.out.size))
    have HIA4 := Lib.hid (HIA3.out.at hb)
    have HIB4 := Lib.hid (HIB3.out.at hb)
    have HP1 := Lib.hid hp1
    clear hb hp1 k0 k1 k2 HIA3 HIB3
    obtain ⟨k0, k1, k2⟩ := KK.out _ HB4.out
    go_wp2_with fail
    refine (cX.out _ (HUP.out _ HB4.out)).mono ?_
    rintro e w5 ⟨K2, F2, rfl, hp2, hb⟩
    have HB5 := Lib.hid (HB4.out.trans (hb.mono HB4.out.size))
    have HIA5 := Lib.hid (HIA4.out.at hb)
    have HIB5 := Lib.hid (HIB4.out.at hb)
    obtain ⟨e1, e2⟩ := HON.out _ _ _ _ HP1.out hp2
    subst e1 e2
    clear hb hp2 k0 k1 k2 HIA4 HIB4 HP1
    go_wp2_with fail
    refine (cL.out _ _ _ hll.out HIA5.out HIB5.out).mono ?_
    rintro e w6 ⟨rfl, hb⟩
    have HB6 := Lib.hid (HB5.out.trans (hb.mono HB5.out.size))
    clear hb
    go_wp2_with fail
    refine (cF.out _).mono ?_
    rintro e w7 ⟨rfl, hb⟩
    have HB7 := Lib.hid (HB6.out.trans (hb.mono HB6.out.size))
    clear hb
    go_wp2_with fail
    go_ret
    exact ⟨rfl, HUP.out _ HB7.out⟩
end Go.Proofs.YtdohfpnnmppdkaaGreat

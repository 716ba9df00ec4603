/-
  CutOwn: the common part of two sets lies in a row of the call's own (cable seat).
-/
import Derived.Test.YtdohfpnnmppdkaaBdA
namespace Go.Proofs.Ytdohfpnnmppdkaa.Bd
open Go.RowKit Go.Shelf
attribute [local go_sem] Oper.semAt_some
theorem own_keepB {w w' : World} {base : Nat} {e : TypeId} {size n : Nat} {v : Value} {xs : List Value} (h : w.ownsRow base e size v n xs) (hb : Below w.heap.size w w') : w'.ownsRow base e size v n xs :=
  h.kept (row := none) ⟨hb.os, hb.tape, hb.output, hb.size, fun k hk _ => hb.block k hk⟩ (by rcases Decidable.em (v.ownBlock = none) with h | h; exact .inl h; exact .inr h)
set_option maxHeartbeats 1000000 in
theorem few_own (base : Nat) (sv : Value) (zs : List (Int × Int)) (w : World) (hI : w.ownsRow base 23 2 sv zs.length (flat zs)) :
    Calls Try.prog 144 #[sv] w fun e w' => ∃ v, e = .returned (.tuple #[v, .int .i64 (fewE zs)]) ∧ w.ownsRow base 23 2 v (fewL zs).length (flat (fewL zs)) ∧ w' = w := by
  obtain ⟨a, cap, rfl⟩ : ∃ a c, sv = .slice a zs.length c := by
    rcases hI.2 with ⟨hv, h0⟩ | ⟨g, cap, cur, hv, _⟩
    · exact ⟨none, 0, by rw [h0]; exact hv⟩
    · exact ⟨_, cap, hv⟩
  by_cases h : 256 < zs.length
  · rw [show fewE zs = 6 from if_pos h, show fewL zs = [] from if_pos h]
    clear hI
    generalize zs.length = len at h
    go_enter Try.func144, Try.ntmps144
    go_wp2_with fail
    go_ret2
    exact ⟨_, rfl, World.ownsRow_nil _ _ _ _, rfl⟩
  · rw [show fewE zs = 0 from if_neg h, show fewL zs = zs from if_neg h]
    have HI := Lib.hid hI
    clear hI
    generalize hL : zs.length = len at h HI ⊢
    clear hL
    go_enter Try.func144, Try.ntmps144
    go_wp2_with fail
    go_ret2
    exact ⟨_, rfl, HI.out, rfl⟩
set_option maxRecDepth 10000 in
set_option maxHeartbeats 8000000 in
theorem cut_own (sv tv : Value) (s t : List (Int × Int)) (w : World) (hS : Spans w.heap.size w sv s) (hT : Spans w.heap.size w tv t) :
    Calls Try.prog 76 #[sv, tv] w fun e w' => ∃ v, e = .returned (.tuple #[v, .int .i64 (cutE s t)]) ∧ w'.ownsRow w.heap.size 23 2 v (cutV s t).length (flat (cutV s t)) ∧ Below w.heap.size w w' := by
  have c1 := checkSets_any sv tv s t w hS hT
  obtain ⟨a1, cap1, rfl, hcS⟩ := hS.slice
  obtain ⟨a2, cap2, rfl, hcT⟩ := hT.slice
  by_cases he : bothE s t = 0
  rotate_left
  · rw [show cutE s t = bothE s t from if_neg he, show cutV s t = [] from if_neg he]
    generalize bothE s t = r at c1 he ⊢
    clear hS hT hcS hcT
    generalize s.length = ls at c1
    generalize t.length = lt at c1
    go_enter Try.func76, Try.ntmps76
    go_wp2_with fail
    refine c1.mono ?_
    rintro e w1 ⟨rfl, hb⟩
    clear c1
    go_wp2_with fail
    go_ret2
    exact ⟨_, rfl, World.ownsRow_nil _ _ _ _, hb⟩
  · rw [show cutE s t = fewE (cutL s t) from if_pos he, show cutV s t = fewL (cutL s t) from if_pos he]
    obtain ⟨es, et⟩ := bothE_zero he
    obtain ⟨hl1, hn1⟩ := setE_zero es
    obtain ⟨hl2, hn2⟩ := setE_zero et
    rw [he] at c1
    have HS := Lib.hid hcS
    have HT := Lib.hid hcT
    have AS := Lib.hid (adj_of_nrm hn1)
    have AT := Lib.hid (adj_of_nrm hn2)
    have ST := Lib.hid (cut_start s t)
    have SL := Lib.hid (fun i j l hi hj => cut_left (i := i) (j := j) (l := l) hn1 hn2 hi hj)
    have SR := Lib.hid (fun i j l hi hj => cut_right (i := i) (j := j) (l := l) hn1 hn2 hi hj)
    have EE := Lib.hid (fun i j l => cut_end (s := s) (t := t) (i := i) (j := j) (l := l))
    obtain ⟨i0, hi0, hz0, hz1, hz2⟩ := info_parts infoSp
    clear hS hT hcS hcT he es et hn1 hn2
    generalize s.length = ls at c1 HS AS SL SR EE hl1 ⊢
    generalize t.length = lt at c1 HT AT SL SR EE hl2 ⊢
    go_enter Try.func76, Try.ntmps76
    go_wp2_with fail
    refine c1.mono ?_
    rintro e w1 ⟨rfl, hb⟩
    clear c1
    go_wp2_with fail
    go_loopw [7, 8, 9] (fun v a b wr => ∃ (i j : Nat) (l : List (Int × Int)), i ≤ ls ∧ j ≤ lt ∧ a = .int .i64 i ∧ b = .int .i64 j ∧ wr.ownsRow w.heap.size 23 2 v l.length (flat l) ∧ CutP s t i j l ∧ Below w.heap.size w wr)
      (fun _ a b _ => (ls - (intOf a).toNat) + (lt - (intOf b).toNat))
    case atStart => exact ⟨0, 0, [], Nat.zero_le _, Nat.zero_le _, rfl, rfl, World.ownsRow_nil _ _ _ _, ST.out, hb⟩
    case round =>
      clear hb
      obtain ⟨i, j, l, hi, hj, rfl, rfl, hrow, hP, hB⟩ := hrel
      have hP1 := hP.len
      by_cases hi1 : i < ls
      · by_cases hj1 : j < lt
        · obtain ⟨b1, off1, rfl, hbb1, c0, c1⟩ := HS.out i hi1
          obtain ⟨b2, off2, rfl, hbb2, c2, c3⟩ := HT.out j hj1
          have hsz := hB.size
          have k0 := (hB.cell (p := ⟨b1, off1 + i * 2, none⟩) hbb1).trans c0
          have k1 := (hB.cell (p := ⟨b1, off1 + i * 2 + 1, none⟩) hbb1).trans c1
          have k2 := (hB.cell (p := ⟨b2, off2 + j * 2, none⟩) hbb2).trans c2
          have k3 := (hB.cell (p := ⟨b2, off2 + j * 2 + 1, none⟩) hbb2).trans c3
          clear c0 c1 c2 c3
          obtain ⟨⟨o1, o2, o3⟩, -⟩ := AS.out i hi1
          obtain ⟨⟨o4, o5, o6⟩, -⟩ := AT.out j hj1
          have S1 := Lib.hid (SL.out i j l hi1 hj1 hP)
          have S2 := Lib.hid (SR.out i j l hi1 hj1 hP)
          rw [show s[i]?.getD (0, 0) = gt s i from rfl] at k0 k1
          rw [show t[j]?.getD (0, 0) = gt t j from rfl] at k2 k3
          clear hP
          generalize gt s i = x at k0 k1 o1 o2 o3 S1 S2
          generalize gt t j = y at k2 k3 o4 o5 o6 S1 S2
          obtain ⟨al, ah⟩ := x
          obtain ⟨bl, bh⟩ := y
          dsimp only at k0 k1 k2 k3 o1 o2 o3 o4 o5 o6 S1 S2
          have cM := fun w => meet_any al ah bl bh w
          have hm : meetS al ah bl bh = if min ah bh < max al bl then ⟨0, 0, 5⟩ else ⟨max al bl, min ah bh, 0⟩ := if_pos ⟨(vB_iff _ _).2 ⟨o3, o1, o2⟩, (vB_iff _ _).2 ⟨o6, o4, o5⟩⟩
          have HM := Lib.hid hm
          clear hm
          generalize meetS al ah bl bh = m at cM HM
          obtain ⟨ml, mh, me⟩ := m
          dsimp only at cM
          have n1 : ¬ b1 = wr.heap.size := by omega
          have n2 : ¬ wr.heap.size = b1 := by omega
          have n3 : ¬ b2 = wr.heap.size := by omega
          have n4 : ¬ wr.heap.size = b2 := by omega
          have n5 : b1 < wr.heap.size := by omega
          have n6 : b2 < wr.heap.size := by omega
          go_upto_region 7 with fail
          go_cut [10, 11] from 18 to 60 (fun s10 s11 wc => ∃ Bk, s10 = Value.pointer (some ⟨Bk, 0, none⟩) ∧ s11 = Value.int .i64 me ∧ wc.cell? ⟨Bk, 0, none⟩ = some (.int .i64 ml) ∧ wc.cell? ⟨Bk, 1, none⟩ = some (.int .i64 mh) ∧ Bk < wc.heap.size ∧ wr.heap.size ≤ Bk ∧ Below wr.heap.size wr wc)
          case first => as_aux_lemma =>
            clear HM S1 S2
            go_region_held3 (fun w' => w'.cell? ⟨b1, off1 + i * 2, none⟩ = some (.int .i64 al) ∧ w'.cell? ⟨b1, off1 + i * 2 + 1, none⟩ = some (.int .i64 ah) ∧ w'.cell? ⟨b2, off2 + j * 2, none⟩ = some (.int .i64 bl) ∧ w'.cell? ⟨b2, off2 + j * 2 + 1, none⟩ = some (.int .i64 bh)) ((first | (simp [go_sem, *]; done) | (go_keep; done)))
              (first | (go_at_call 143; refine (cM _).mono ?_; rintro e w2 ⟨rfl, hb⟩; have hcc := Lib.hid (fun b o (h : b < _) => hb.cell (p := ⟨b, o, none⟩) h); have hff := Lib.hid (fun b o (h : b < _) => hb.frozen (p := ⟨b, o, none⟩) h); have hyw2 := hb.size; (try simp at hyw2); have k0w2 : w2.cell? ⟨b1, off1 + i * 2, none⟩ = some (.int .i64 al) := (hcc.out _ _ (by first | omega | (simp; omega) | (simp; done))).trans (by first | (simp [go_sem, *]; done) | (go_keep; done)); have k1w2 : w2.cell? ⟨b1, off1 + i * 2 + 1, none⟩ = some (.int .i64 ah) := (hcc.out _ _ (by first | omega | (simp; omega) | (simp; done))).trans (by first | (simp [go_sem, *]; done) | (go_keep; done)); have k2w2 : w2.cell? ⟨b2, off2 + j * 2, none⟩ = some (.int .i64 bl) := (hcc.out _ _ (by first | omega | (simp; omega) | (simp; done))).trans (by first | (simp [go_sem, *]; done) | (go_keep; done)); have k3w2 : w2.cell? ⟨b2, off2 + j * 2 + 1, none⟩ = some (.int .i64 bh) := (hcc.out _ _ (by first | omega | (simp; omega) | (simp; done))).trans (by first | (simp [go_sem, *]; done) | (go_keep; done)); (try have g1w2 : ¬ wr.heap.size = w2.heap.size := by omega); (try have g2w2 : ¬ w2.heap.size = wr.heap.size := by omega); (try have l2w2 : wr.heap.size < w2.heap.size := by omega); have u3w2 := hcc.out wr.heap.size 0; (try simp [go_sem] at u3w2); have v3w2 := hff.out wr.heap.size 0; (try simp [go_sem] at v3w2); have u4w2 := hcc.out wr.heap.size 1; (try simp [go_sem] at u4w2); have v4w2 := hff.out wr.heap.size 1; (try simp [go_sem] at v4w2); have zz0w2 : b1 < w2.heap.size := (by omega); have zn0w2 : ¬ b1 = w2.heap.size := (by omega); have zm0w2 : ¬ w2.heap.size = b1 := (by omega); have zz1w2 : b2 < w2.heap.size := (by omega); have zn1w2 : ¬ b2 = w2.heap.size := (by omega); have zm1w2 : ¬ w2.heap.size = b2 := (by omega)))
            all_goals
              have hBw : Below wr.heap.size wr w2 := by repeat (first | exact Below.refl _ _ | refine Below.drew ?_ | refine Below.alloc ?_ (by first | omega | (simp; omega) | simp) _ | refine chainB (by assumption) ?_)
              have hsw := hBw.size
              go_wp2_with fail
              go_meet
              case rel => exact ⟨_, rfl, rfl, by simp [go_sem, *], by simp [go_sem, *], by first | omega | (simp; done) | (simp; omega), by first | omega | (simp; done) | (simp; omega), by repeat (first | exact hBw | refine Below.drew ?_ | refine Below.setCell ?_ (by first | omega | (simp; omega) | simp) _ | refine Below.alloc ?_ (by first | omega | (simp; omega) | simp) _)⟩
          case rest => as_aux_lemma =>
            obtain ⟨Bk, rfl, rfl, m0, m1, hBk, hBk2, hBc⟩ := hcut
            have hB3 : Below w.heap.size w wc := hB.trans (hBc.mono hsz)
            have hsz3 := hB3.size
            have hrow3 := own_keepB hrow hBc
            have c1 := (hB.cell (p := ⟨b1, off1 + i * 2 + 1, none⟩) hbb1).symm.trans k1
            have c3 := (hB.cell (p := ⟨b2, off2 + j * 2 + 1, none⟩) hbb2).symm.trans k3
            have f0 := (hB3.cell (p := ⟨b1, off1 + i * 2 + 1, none⟩) hbb1).trans c1
            have f1 := (hB3.cell (p := ⟨b2, off2 + j * 2 + 1, none⟩) hbb2).trans c3
            clear k0 k1 k2 k3 cM hrow n1 n2 n3 n4 n5 n6
            generalize hfl : flat l = fl at hrow3
            have HFL := Lib.hid hfl
            clear hfl
            by_cases hno : min ah bh < max al bl
            · have hM := HM.out
              rw [if_pos hno] at hM
              obtain ⟨rfl, rfl, rfl⟩ := R3.mk.inj hM
              have hp : part2 (al, ah) (bl, bh) = [] := if_neg (by show ¬ max al bl ≤ min ah bh; omega)
              rw [hp, List.append_nil] at S1 S2
              clear hM HM hp
              by_cases hcm : ah < bh
              · have HP := Lib.hid (S1.out hcm)
                clear S1 S2
                go_wp2_with fail
                go_quiet (fail)
                go_wp2_with fail
                go_roundw
                case rel => exact ⟨i + 1, j, l, by omega, by omega, by go_num, by go_num, own_keepB (by rw [HFL.out]; exact hrow3) (below_drewN (Below.refl _ _) _), HP.out, below_drewN hB3 _⟩
                case measure => simp [intOf]; omega
              · have HP := Lib.hid (S2.out (by show bh ≤ ah; omega))
                clear S1 S2
                go_wp2_with fail
                go_quiet (fail)
                go_wp2_with fail
                go_roundw
                case rel => exact ⟨i, j + 1, l, by omega, by omega, by go_num, by go_num, own_keepB (by rw [HFL.out]; exact hrow3) (below_drewN (Below.refl _ _) _), HP.out, below_drewN hB3 _⟩
                case measure => simp [intOf]; omega
            · have hM := HM.out
              rw [if_neg hno] at hM
              obtain ⟨rfl, rfl, rfl⟩ := R3.mk.inj hM
              have hp : part2 (al, ah) (bl, bh) = [(max al bl, min ah bh)] := if_pos (by show max al bl ≤ min ah bh; omega)
              rw [hp] at S1 S2
              clear hM HM hp f0 f1
              by_cases hcm : ah < bh
              · have HP := Lib.hid (S1.out hcm)
                clear S1 S2
                go_wp2_with (at_builtin; refine wpList_append_own _ rfl _ _ 36 rfl w.heap.size 23 i0 (.agg #[.int .i64 0, .int .i64 0]) 2 16 Try.underlying36 hi0 hz0 hz1 hz2 rfl (by decide) _ _ _ rfl (hrow3.alloc _) ⟨wc.heap.size, 0, none⟩ 1 1 [.int .i64 (max al bl), .int .i64 (min ah bh)] rfl rfl (two_new _ _ _) (by simp [Value.oneCell']) (by unfold maxLen; omega) (by omega) (by simp; omega) ?_; intro v' w4 hrow' hgrow _; have hB4 : Below w.heap.size w w4 := (hB3.alloc (by omega) _).grown hgrow (by simp; omega) (fun j hj => (hrow3.lt j hj).1); have e0 := (hB4.cell (p := ⟨b1, off1 + i * 2 + 1, none⟩) hbb1).trans c1; have e1 := (hB4.cell (p := ⟨b2, off2 + j * 2 + 1, none⟩) hbb2).trans c3)
                go_quiet (fail)
                go_wp2_with fail
                go_roundw
                case rel => exact ⟨i + 1, j, l ++ [(max al bl, min ah bh)], by omega, by omega, by go_num, by go_num, own_keepB (by rw [flat_app, flat_one, HFL.out, List.length_append]; exact hrow') (below_drewN (Below.refl _ _) _), HP.out, below_drewN hB4 _⟩
                case measure => simp [intOf]; omega
              · have HP := Lib.hid (S2.out (by show bh ≤ ah; omega))
                clear S1 S2
                go_wp2_with (at_builtin; refine wpList_append_own _ rfl _ _ 36 rfl w.heap.size 23 i0 (.agg #[.int .i64 0, .int .i64 0]) 2 16 Try.underlying36 hi0 hz0 hz1 hz2 rfl (by decide) _ _ _ rfl (hrow3.alloc _) ⟨wc.heap.size, 0, none⟩ 1 1 [.int .i64 (max al bl), .int .i64 (min ah bh)] rfl rfl (two_new _ _ _) (by simp [Value.oneCell']) (by unfold maxLen; omega) (by omega) (by simp; omega) ?_; intro v' w4 hrow' hgrow _; have hB4 : Below w.heap.size w w4 := (hB3.alloc (by omega) _).grown hgrow (by simp; omega) (fun j hj => (hrow3.lt j hj).1); have e0 := (hB4.cell (p := ⟨b1, off1 + i * 2 + 1, none⟩) hbb1).trans c1; have e1 := (hB4.cell (p := ⟨b2, off2 + j * 2 + 1, none⟩) hbb2).trans c3)
                go_quiet (fail)
                go_wp2_with fail
                go_roundw
                case rel => exact ⟨i, j + 1, l ++ [(max al bl, min ah bh)], by omega, by omega, by go_num, by go_num, own_keepB (by rw [flat_app, flat_one, HFL.out, List.length_append]; exact hrow') (below_drewN (Below.refl _ _) _), HP.out, below_drewN hB4 _⟩
                case measure => simp [intOf]; omega
        · have hR := Lib.hid (show cutL s t = l from EE.out i j l hP (.inr (by omega)))
          have cF := few_own w.heap.size _ l wr hrow
          rw [← hR.out] at cF
          clear hP EE SL SR
          go_wp2_with fail
          refine cF.mono ?_
          rintro e w5 ⟨v5, rfl, hI5, rfl⟩
          go_wp2_with fail
          go_ret2
          exact ⟨v5, rfl, hI5, hB⟩
      · have hR := Lib.hid (show cutL s t = l from EE.out i j l hP (.inl (by omega)))
        have cF := few_own w.heap.size _ l wr hrow
        rw [← hR.out] at cF
        clear hP EE SL SR
        go_wp2_with fail
        refine cF.mono ?_
        rintro e w5 ⟨v5, rfl, hI5, rfl⟩
        go_wp2_with fail
        go_ret2
        exact ⟨v5, rfl, hI5, hB⟩
end Go.Proofs.Ytdohfpnnmppdkaa.Bd

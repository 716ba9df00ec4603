/-
  MooringFound: the walk, given that 'fine' returns true.
-/
import Derived.Test.YthogahdnidjelaaFndApp
import Derived.BigQuiet
import Derived.Deep.QuietTactic
import Derived.Deep.CutRange
import Derived.Deep.CutBlock
namespace Go.Proofs.Ythogahdnidjelaa
open Go.RowKit Go.Shelf
set_option linter.unusedSimpArgs false
set_option maxRecDepth 100000 in
set_option maxHeartbeats 8000000 in
theorem law_found (hf : ∀ w, Calls Try.prog 15 #[] w fun e w' => e = .returned (.bool true) ∧ Below w.heap.size w w') (wd hg fi mo : Int) (hfi : 0 ≤ fi ∧ fi ≤ 65535) (hmo : 0 ≤ mo ∧ mo ≤ 65535) (sv hv : Value) (st : List Int) (hs : List Hr) (w : World) (hI : Nums w.heap.size w sv st) (hH : Hrs w.heap.size w hv hs) :
    Calls Try.prog 13 #[.agg #[.int .i64 wd, .int .i64 hg], sv, hv, .int .u16 fi, .int .u16 mo] w fun e w' => e = .returned (.bool true) ∧ Below w.heap.size w w' := by
  have c40 := Lib.hid (fun W (hb : Below w.heap.size w W) => wide_any sv hv st hs W (hI.at hb) (hH.at hb))
  have c42 := Lib.hid (fun (h : Slim st hs) W (hb : Below w.heap.size w W) => rwhere_any wd hg sv hv st hs (by have := h.1; omega) (fun k hk => by have := h.2.2.2 k hk; omega) W (hI.at hb) (hH.at hb))
  have c43 := Lib.hid (fun (h : Slim st hs) W (hb : Below w.heap.size w W) => found_any wd hg sv hv st hs (by have := h.1; omega) (fun k hk => by have := h.2.2.2 k hk; omega) W (hI.at hb) (hH.at hb))
  have HI := Lib.hid hI
  have HH := Lib.hid hH
  obtain ⟨a, cap, rfl⟩ := hI.form
  obtain ⟨a2, cap2, rfl, hcap2, -⟩ := hH
  have HCAP := Lib.hid hcap2
  clear hcap2
  have c41 := Lib.hid (fun (h : Slim st hs) (h0 : seaE wd hg st hs = 0) m (hm : m ≤ hs.length) W (hb : Below w.heap.size w W) => fwhere_take wd hg (.slice a st.length cap) a2 cap2 st hs (by have := h.1; omega) (fun k hk => by have := h.2.2.2 k hk; omega) h0 m hm W (HI.out.at hb) (HH.out.at hb))
  have d41 := Lib.hid (fun (h : Slim st hs) (h0 : seaE wd hg st hs = 0) (i : Nat) (c : Int) (hi : i < hs.length) (hc : 0 ≤ c ∧ c < wd * hg) W (hb : Below w.heap.size w W) mv (hM : Hrs W.heap.size W mv (moreH hs i c)) => where_more wd hg (.slice a st.length cap) mv st hs i c (by have := h.1; omega) (fun k hk => by have := h.2.2.2 k hk; omega) h0 hi hc W (HI.out.at hb) hM)
  have d43 := Lib.hid (fun (h : Slim st hs) (h0 : seaE wd hg st hs = 0) (i : Nat) (c : Int) (hi : i < hs.length) (hc : 0 ≤ c ∧ c < wd * hg) W (hb : Below w.heap.size w W) mv (hM : Hrs W.heap.size W mv (moreH hs i c)) => found_more wd hg (.slice a st.length cap) mv st hs i c (by have := h.1; omega) (fun k hk => by have := h.2.2.2 k hk; omega) h0 hi hc W (HI.out.at hb) hM)
  clear hI
  obtain ⟨A, hA⟩ : ∃ A, A = w.alloc (.cells #[.int .i64 wd, .int .i64 hg] 54) := ⟨_, rfl⟩
  have hzA : A.heap.size = w.heap.size + 1 := by rw [hA]; simp
  have KK := Lib.hid (show ∀ W, Below (w.heap.size + 1) A W → W.cell? ⟨w.heap.size, 0, none⟩ = some (.int .i64 wd) ∧ W.cell? ⟨w.heap.size, 1, none⟩ = some (.int .i64 hg) from fun W h => by
    refine ⟨(h.cell (p := ⟨w.heap.size, 0, none⟩) (Nat.lt_succ_self _)).trans ?_, (h.cell (p := ⟨w.heap.size, 1, none⟩) (Nat.lt_succ_self _)).trans ?_⟩ <;> (rw [hA]; simp [go_sem]))
  have HBA := Lib.hid (show ∀ W, Below (w.heap.size + 1) A W → Below w.heap.size w W from fun W h => by
    have e : Below w.heap.size w A := by rw [hA]; exact (Below.refl _ _).alloc (Nat.le_refl _) _
    exact e.trans (h.mono (Nat.le_succ _)))
  have HST := Lib.hid (show ∀ W W', Below (w.heap.size + 1) A W → Below W.heap.size W W' → Below (w.heap.size + 1) A W' from fun W W' h h' => h.trans (h'.mono (by have := h.size; omega)))
  have c15 := Lib.hid (fun W (h : Below (w.heap.size + 1) A W) => (hf W).mono fun e w' (q : e = .returned (.bool true) ∧ Below W.heap.size W w') => (⟨q.1, HBA.out _ (HST.out _ _ h q.2)⟩ : e = .returned (.bool true) ∧ Below w.heap.size w w'))
  clear hf
  have HSF := Lib.hid (show Slim st hs ↔ st.length ≤ 700 ∧ (hs.length ≤ 8 ∨ 48 < hs.length) ∧ hs.length ≤ 60 ∧ ∀ k, k < hs.length → (hr hs k).se.length ≤ 700 from Iff.rfl)
  generalize Slim st hs = SL at *
  generalize hl1 : st.length = l1 at *
  have HL1 := Lib.hid hl1
  generalize hl2 : hs.length = l2 at *
  have HL2 := Lib.hid hl2
  clear hl1 hl2
  by_cases h8 : 8 < l2
  · clear HI HH c42 c41 c43 d41 d43 HSF HL1 HL2
    go_enter Try.func13, Try.ntmps13
    go_wp2_with fail
    try rw [← hA]
    clear hA
    refine (c40.out _ (HBA.out _ (Below.refl _ _))).mono ?_
    rintro e w1 ⟨b, rfl, hsl, hb⟩
    have HB1 := Lib.hid (show Below (w.heap.size + 1) A w1 from hb.mono (by omega))
    clear hb c40 hsl
    cases b
    all_goals
      go_wp2_with fail
      refine (c15.out _ HB1.out).mono ?_
      rintro e w6 ⟨rfl, hb6⟩
      have HB6 := Lib.hid hb6
      clear hb6
      go_wp2_with fail
      go_ret
      exact ⟨rfl, HB6.out⟩
  go_enter Try.func13, Try.ntmps13
  go_wp2_with fail
  try rw [← hA]
  clear hA
  refine (c40.out _ (HBA.out _ (Below.refl _ _))).mono ?_
  rintro e w1 ⟨b, rfl, hsl, hb⟩
  have HB1 := Lib.hid (show Below (w.heap.size + 1) A w1 from hb.mono (by omega))
  have HSL := Lib.hid hsl
  clear hb c40 hsl
  cases b
  rotate_left
  · go_wp2_with fail
    refine (c15.out _ HB1.out).mono ?_
    rintro e w6 ⟨rfl, hb6⟩
    have HB6 := Lib.hid hb6
    clear hb6
    go_wp2_with fail
    go_ret
    exact ⟨rfl, HB6.out⟩
  have hS := HSL.out rfl
  obtain ⟨k0, k1⟩ := KK.out _ HB1.out
  go_wp2_with fail
  refine (c42.out hS _ (HBA.out _ HB1.out)).mono ?_
  rintro e w3 ⟨v3, rfl, hv3, hb⟩
  have HB3 := Lib.hid (HST.out _ _ HB1.out hb)
  obtain ⟨q3, d3, rfl⟩ := hv3.form
  clear hv3 hb k0 k1
  generalize hE : seaE wd hg st hs = E at *
  generalize (whV wd hg st hs).length = vl at *
  generalize whX wd hg st hs = xl at *
  by_cases hE0 : E = 0
  rotate_left
  · have he : (E != 0) = true := by simpa using hE0
    clear hE hE0 c41 c43 d41 d43
    go_wp2_with fail
    refine (c15.out _ HB3.out).mono ?_
    rintro e w6 ⟨rfl, hb6⟩
    have HB6 := Lib.hid hb6
    clear hb6
    go_wp2_with fail
    go_ret
    exact ⟨rfl, HB6.out⟩
  subst hE0
  have C41 := Lib.hid (fun m hm W hb => c41.out hS (by trivial) m hm W hb)
  have D41 := Lib.hid (fun i c hi hc W hb mv hM => d41.out hS (by trivial) i c hi hc W hb mv hM)
  have D43 := Lib.hid (fun i c hi hc W hb mv hM => d43.out hS (by trivial) i c hi hc W hb mv hM)
  have C43 := Lib.hid (fun W hb => c43.out hS W hb)
  clear c41 c42 c43 d41 d43
  have HE := Lib.hid hE
  obtain ⟨h48, hw, hh, har, hok⟩ := seaE_ok hE
  have hn' := whN_eq hw hh
  have hn576 := (whN_le hw hh).2
  have hn1 := (whN_le hw hh).1
  obtain ⟨s700, -, -, se700⟩ := HSF.out.1 hS
  have HSE7 := Lib.hid se700
  have HNN := Lib.hid hn'
  clear har hok h48 hE se700 HSF
  have HF0 := Lib.hid (fun n e (h : FoR wd hg st hs n e) => h.at0 HE.out)
  generalize FoR wd hg st hs = FR at *
  obtain ⟨k0, k1⟩ := KK.out _ HB3.out
  go_wp2_with fail
  refine (C43.out _ (HBA.out _ HB3.out)).mono ?_
  rintro e w4 ⟨nn, ee, rfl, hfr, hb⟩
  have HFS := Lib.hid (HF0.out _ _ hfr)
  have HB4 := Lib.hid (HST.out _ _ HB3.out hb)
  clear hfr hb k0 k1 C43 HF0
  go_upto_block 0 with fail
  go_cut [15, 16, 17, 18, 19, 20] from 65 to 91 (fun c15 c16 c17 c18 c19 c20 wc => ∃ (is : Bool) (want : Int), c15 = .int .i64 want ∧ c16 = .bool is ∧ FndE wd hg (mkL (whN wd hg) st st.length) hs is want ∧ Below (w.heap.size + 1) A wc)
  case first => as_aux_lemma =>
    have HWL := Lib.hid (fun k => whB_len wd hg st hs k)
    clear D41 D43 HSE7 hw hh hfi hmo c15
    go_wp2_with fail
    go_loopw [15, 16, 17] (fun c15 c16 c17 wr => ∃ (k : Nat) (is : Bool) (want : Int), k ≤ l2 + 1 ∧ c15 = .int .i64 want ∧ c16 = .bool is ∧ c17 = .int .i64 k ∧ FndT (fun j => anyB (stB wd hg (mkL (whN wd hg) st st.length) hs j)) (stL wd hg (mkL (whN wd hg) st st.length) hs) k is want ∧ Below (w.heap.size + 1) A wr) (fun _ _ c17 _ => l2 + 1 - (intOf c17).toNat)
    case atStart => exact ⟨0, false, 0, by omega, rfl, rfl, rfl, FndT.start _ _, HB4.out⟩
    case round =>
      obtain ⟨k, is, want, hk, rfl, rfl, rfl, hT, hBr⟩ := hrel
      have HT := Lib.hid hT
      have HBw := Lib.hid hBr
      have hsr := hBr.size
      rw [hzA] at hsr
      obtain ⟨k0, k1⟩ := KK.out _ hBr
      clear hBr hT
      by_cases hkl : k ≤ l2
      rotate_left
      · have hki : decide ((k : Int) ≤ (l2 : Int)) = false := decide_eq_false (by omega)
        have hki2 : ¬ (k : Int) ≤ (l2 : Int) := by omega
        cases is
        all_goals
          go_wp2_with fail
          go_meet
          case rel => exact ⟨_, want, rfl, rfl, HT.out.fin (by rw [HL2.out]; omega) (.inr (by rw [HL2.out]; omega)), HBw.out⟩
      have hki : (k : Int) ≤ (l2 : Int) := by omega
      cases is
      rotate_left
      · go_wp2_with fail
        go_meet
        case rel => exact ⟨true, want, rfl, rfl, HT.out.fin (by rw [HL2.out]; omega) (.inl rfl), HBw.out⟩
      have HC := Lib.hid (C41.out k hkl wr.drew (HBA.out _ HBw.out).drew)
      have hlf0 := Lib.hid (show whL wd hg st hs k = stL wd hg (mkL (whN wd hg) st st.length) hs k from rfl)
      generalize hlf : whL wd hg st hs k = lf at *
      have HLF := Lib.hid hlf
      clear hlf
      have hany := trL_empty (whB wd hg st hs k)
      rw [HWL.out] at hany
      generalize hrs : trL (whB wd hg st hs k) (whN wd hg) = res at *
      have HRS := Lib.hid hrs
      have HANY := Lib.hid hany
      clear hrs hany
      have hrl0 : res.length ≤ 576 := by rw [← HRS.out]; exact Nat.le_trans (trL_len _ _) (by omega)
      have hkc : (k : Int) ≤ (cap2 : Int) := by have := HCAP.out; have := HL2.out; omega
      go_wp2_with fail
      refine wp_region_held_drew (S := fun w' => w'.cell? ⟨w.heap.size, 0, none⟩ = some (.int .i64 wd) ∧ w'.cell? ⟨w.heap.size, 1, none⟩ = some (.int .i64 hg)) (by kernel_rfl) ⟨by simpa [go_sem] using k0, by simpa [go_sem] using k1⟩ (fun hHeld => ?_)
      refine wpAnyH_take (i := 0) (oi := _) (v := Value.agg #[Value.int .i64 wd, Value.int .i64 hg]) rfl (by kernel_rfl) (by kernel_rfl) (by kernel_rfl) (fun _ _ _ h => h) (Or.inl ⟨by rfl, fun w' hSw => ?_⟩) hHeld ?_
      · obtain ⟨t0, t1⟩ := hSw
        go_simp
        try simp [*]
        try (intro hh; exfalso; omega)
        try omega
      try simp only [Act.put, List.setIfInBounds_toArray, List.set_cons_zero, List.set_cons_succ, List.getElem_toArray, List.getElem_cons_succ, List.getElem_cons_zero]
      refine wpAnyH_take (i := 1) (oi := _) (v := Value.slice a l1 cap) rfl (by kernel_rfl) (by kernel_rfl) (by kernel_rfl) (fun _ _ _ h => h) (Or.inl ⟨by rfl, fun w' hSw => ?_⟩) hHeld ?_
      · obtain ⟨t0, t1⟩ := hSw
        go_simp
        try simp [*]
        try (intro hh; exfalso; omega)
        try omega
      try simp only [Act.put, List.setIfInBounds_toArray, List.set_cons_zero, List.set_cons_succ, List.getElem_toArray, List.getElem_cons_succ, List.getElem_cons_zero]
      refine wpAnyH_take (i := 2) (oi := _) (v := Value.slice a2 l2 cap2) rfl (by kernel_rfl) (by kernel_rfl) (by kernel_rfl) (fun _ _ _ h => h) (Or.inl ⟨by rfl, fun w' hSw => ?_⟩) hHeld ?_
      · obtain ⟨t0, t1⟩ := hSw
        go_simp
        try simp [*]
        try (intro hh; exfalso; omega)
        try omega
      try simp only [Act.put, List.setIfInBounds_toArray, List.set_cons_zero, List.set_cons_succ, List.getElem_toArray, List.getElem_cons_succ, List.getElem_cons_zero]
      refine wpAnyH_take (i := 3) (oi := _) (v := Value.int .i64 k) rfl (by kernel_rfl) (by kernel_rfl) (by kernel_rfl) (fun _ _ _ h => h) (Or.inl ⟨by rfl, fun w' hSw => ?_⟩) hHeld ?_
      · obtain ⟨t0, t1⟩ := hSw
        go_simp
        try simp [*]
        try (intro hh; exfalso; omega)
        try omega
      try simp only [Act.put, List.setIfInBounds_toArray, List.set_cons_zero, List.set_cons_succ, List.getElem_toArray, List.getElem_cons_succ, List.getElem_cons_zero]
      refine wpAnyH_take (i := 4) (oi := _) (v := Value.slice a2 k cap2) rfl (by kernel_rfl) (by kernel_rfl) (by kernel_rfl) (fun _ _ _ h => h) (Or.inl ⟨by rfl, fun w' hSw => ?_⟩) hHeld ?_
      · obtain ⟨t0, t1⟩ := hSw
        go_simp
        try simp [*]
        try (intro hh; exfalso; omega)
        try omega
      try simp only [Act.put, List.setIfInBounds_toArray, List.set_cons_zero, List.set_cons_succ, List.getElem_toArray, List.getElem_cons_succ, List.getElem_cons_zero]
      refine wpAnyH_ready (rs := [5]) (by kernel_rfl) (by simp) ?_
      refine AllReadyH.cons (o := _) rfl (fun K hK => ?_) AllReadyH.nil
      go_simp
      go_at_call 41
      refine Calls.mono HC.out ?_
      rintro e w5 ⟨v5, rfl, hP, hb⟩
      have HBn := Lib.hid (show Below (w.heap.size + 1) A w5 from HBw.out.drew.trans (hb.mono (by simpa using hsr)))
      have HP5 := Lib.hid hP
      obtain ⟨a5, c5, rfl⟩ := hP.form
      obtain ⟨q0, q1⟩ := KK.out _ HBn.out
      clear hb hP HC
      clear hHeld
      refine hK.out _ _ ⟨q0, q1⟩ (fun hHeld => ?_)
      clear hK K
      try simp only [Act.put, List.setIfInBounds_toArray, List.set_cons_zero, List.set_cons_succ, List.getElem_toArray, List.getElem_cons_succ, List.getElem_cons_zero]
      refine wpAnyH_take (i := 6) (oi := _) (v := .tuple #[.slice a5 res.length c5, .bool lf, .int .i64 0]) rfl (by kernel_rfl) (by kernel_rfl) (by kernel_rfl) (fun _ _ _ h => h) (Or.inl ⟨by rfl, fun w' hSw => ?_⟩) hHeld ?_
      · obtain ⟨t0, t1⟩ := hSw
        go_simp
        try simp [*]
        try (intro hh; exfalso; omega)
        try omega
      try simp only [Act.put, List.setIfInBounds_toArray, List.set_cons_zero, List.set_cons_succ, List.getElem_toArray, List.getElem_cons_succ, List.getElem_cons_zero]
      refine wpAnyH_take (i := 7) (oi := _) (v := .slice a5 res.length c5) rfl (by kernel_rfl) (by kernel_rfl) (by kernel_rfl) (fun _ _ _ h => h) (Or.inl ⟨by rfl, fun w' hSw => ?_⟩) hHeld ?_
      · obtain ⟨t0, t1⟩ := hSw
        go_simp
        try simp [*]
        try (intro hh; exfalso; omega)
        try omega
      try simp only [Act.put, List.setIfInBounds_toArray, List.set_cons_zero, List.set_cons_succ, List.getElem_toArray, List.getElem_cons_succ, List.getElem_cons_zero]
      refine wpAnyH_take (i := 8) (oi := _) (v := .bool lf) rfl (by kernel_rfl) (by kernel_rfl) (by kernel_rfl) (fun _ _ _ h => h) (Or.inl ⟨by rfl, fun w' hSw => ?_⟩) hHeld ?_
      · obtain ⟨t0, t1⟩ := hSw
        go_simp
        try simp [*]
        try (intro hh; exfalso; omega)
        try omega
      try simp only [Act.put, List.setIfInBounds_toArray, List.set_cons_zero, List.set_cons_succ, List.getElem_toArray, List.getElem_cons_succ, List.getElem_cons_zero]
      refine wpAnyH_take (i := 9) (oi := _) (v := .int .i64 0) rfl (by kernel_rfl) (by kernel_rfl) (by kernel_rfl) (fun _ _ _ h => h) (Or.inl ⟨by rfl, fun w' hSw => ?_⟩) hHeld ?_
      · obtain ⟨t0, t1⟩ := hSw
        go_simp
        try simp [*]
        try (intro hh; exfalso; omega)
        try omega
      try simp only [Act.put, List.setIfInBounds_toArray, List.set_cons_zero, List.set_cons_succ, List.getElem_toArray, List.getElem_cons_succ, List.getElem_cons_zero]
      refine wpAnyH_take (i := 10) (oi := _) (v := .slice a5 res.length c5) rfl (by kernel_rfl) (by kernel_rfl) (by kernel_rfl) (fun _ _ _ h => h) (Or.inl ⟨by rfl, fun w' hSw => ?_⟩) hHeld ?_
      · obtain ⟨t0, t1⟩ := hSw
        go_simp
        try simp [*]
        try (intro hh; exfalso; omega)
        try omega
      try simp only [Act.put, List.setIfInBounds_toArray, List.set_cons_zero, List.set_cons_succ, List.getElem_toArray, List.getElem_cons_succ, List.getElem_cons_zero]
      refine wpAnyH_take (i := 11) (oi := _) (v := .bool lf) rfl (by kernel_rfl) (by kernel_rfl) (by kernel_rfl) (fun _ _ _ h => h) (Or.inl ⟨by rfl, fun w' hSw => ?_⟩) hHeld ?_
      · obtain ⟨t0, t1⟩ := hSw
        go_simp
        try simp [*]
        try (intro hh; exfalso; omega)
        try omega
      try simp only [Act.put, List.setIfInBounds_toArray, List.set_cons_zero, List.set_cons_succ, List.getElem_toArray, List.getElem_cons_succ, List.getElem_cons_zero]
      refine wpAnyH_take (i := 12) (oi := _) (v := .int .i64 0) rfl (by kernel_rfl) (by kernel_rfl) (by kernel_rfl) (fun _ _ _ h => h) (Or.inl ⟨by rfl, fun w' hSw => ?_⟩) hHeld ?_
      · obtain ⟨t0, t1⟩ := hSw
        go_simp
        try simp [*]
        try (intro hh; exfalso; omega)
        try omega
      try simp only [Act.put, List.setIfInBounds_toArray, List.set_cons_zero, List.set_cons_succ, List.getElem_toArray, List.getElem_cons_succ, List.getElem_cons_zero]
      refine wpAnyH_done (by kernel_rfl) ?_ _
      clear hHeld
      clear k0 k1 q0 q1
      generalize hrl : res.length = rl at *
      have HRL := Lib.hid hrl
      clear hrl
      cases lf
      rotate_left
      · go_wp2_with fail
        go_meet
        case rel => exact ⟨false, want, rfl, rfl, HT.out.left hlf0.out.symm, HBn.out⟩
      · go_wp2_with fail
        go_roundw
        case rel => exact ⟨k + 1, _, k, by omega, rfl, rfl, by go_num, HT.out.step hlf0.out.symm _ (by have h1 := HANY.out; show _ = !anyB (whB wd hg st hs k); rw [h1, Bool.eq_iff_iff]; simp), HBn.out⟩
        case measure => simp [intOf]; omega
  case rest => as_aux_lemma =>
    obtain ⟨is, want, rfl, rfl, hE, hBc⟩ := hcut
    have HBc := Lib.hid hBc
    have HEE := Lib.hid hE
    clear hBc hE HB4
    go_upto_region 16 with fail
    go_cut [115] from 92 to 114 (fun s115 wn => s115 = .bool false ∧ wn = wc)
    case first => as_aux_lemma =>
      rcases HEE.out with ⟨rfl, hw2⟩ | ⟨rfl, hw2⟩
      · obtain ⟨rfl, rfl⟩ := FoS.one HFS.out hw2
        clear hw2
        go_wp2_with fail
        go_meet
        case rel => exact ⟨rfl, rfl⟩
      · obtain ⟨rfl, rfl⟩ := FoS.one HFS.out hw2
        clear hw2
        go_wp2_with fail
        go_meet
        case rel => exact ⟨rfl, rfl⟩
    case rest => as_aux_lemma =>
      obtain ⟨rfl, hwc⟩ := hcut
      have hwc2 := hwc.symm
      subst hwc2
      clear HEE
      by_cases hl20 : l2 = 0
      · have q : ((l2 : Int) == 0) = true := by simp; omega
        clear HH C41 D41 D43 HFS
        go_wp2_with fail
        refine (c15.out _ HBc.out).mono ?_
        rintro e w6 ⟨rfl, hb6⟩
        have HB6 := Lib.hid hb6
        clear hb6
        go_wp2_with fail
        go_ret
        exact ⟨rfl, HB6.out⟩
      have hl20i : ((l2 : Int) == 0) = false := by simp; omega
      obtain ⟨bh, offh, ss, rfl, hbh, -, hcap, hnum, hcell⟩ := hrs_open (HH.out) (by rw [HL2.out]; omega)
      obtain ⟨i0, hi0, hz0, hz1, hz2⟩ := info_parts infoHr
      have hone := flatH_one hs ss hs.length (fun k hk => by obtain ⟨x, y, e⟩ := (hnum k hk).form; rw [e]; rfl)
      have hfl := flatH_len hs ss hs.length
      have HCELL := Lib.hid hcell
      have HNUM := Lib.hid hnum
      have HCAP2 := Lib.hid hcap
      have HONE := Lib.hid hone
      have HGETF := Lib.hid (flatH_get hs ss hs.length)
      have HHRB := Lib.hid (fun W B Z (h : W.heap[B]? = some (.cells ((flatH hs ss hs.length).toArray ++ Z) 81 (0, 0))) => show HrB W B hs ss from ⟨Z, h⟩)
      clear hcell hnum hcap hone
      generalize hnw : flatH hs ss hs.length = news at *
      have HNW := Lib.hid hnw
      clear hnw
      rw [HL2.out] at hfl
      have hbw : bh < wc.heap.size := Nat.lt_of_lt_of_le hbh (HBA.out _ HBc.out).size
      have hl28 : l2 ≤ 8 := by omega
      have HS : Src Try.prog i0.size 55 (.slice (some ⟨bh, offh, none⟩) l2 cap2) l2 news (wc.alloc (.cells #[] 81)) := by
        refine Src.ofSlice _ u55 ⟨bh, offh, none⟩ l2 cap2 news (by rw [hfl, hz1]) (fun j u hu => ?_) HONE.out
        have g := HCELL.out j u hu
        rw [Addr.add_lit]
        have hb2 : Below w.heap.size w (wc.alloc (.cells #[] 81)) := (HBA.out _ HBc.out).alloc (HBA.out _ HBc.out).size _
        exact (hb2.cell (p := ⟨bh, offh + j, none⟩) hbh).trans g
      have hld : (Sem.run Try.prog (loadCellsFrom ⟨bh, offh, none⟩ 0 (l2 * 5) #[]) (wc.alloc (.cells #[] 81)).drew) = .ok news.toArray (wc.alloc (.cells #[] 81)).drew := by
        have h := HS.cellsD
        simpa [Builtin.firstCells, hz1, loadCells] using h
      have hsc : ¬ 281474976710656 < Builtin.nextslicecap l2 0 * Try.t81.bytes := by
        have e : Builtin.nextslicecap l2 0 = l2 := by unfold Builtin.nextslicecap; rw [if_pos (by omega)]
        rw [e, show Try.t81.bytes = 56 from rfl]; omega
      have hge := grownCap_ge (wc.alloc (.cells #[] 81)) l2 0 81
      have hgc : grownCap (wc.alloc (.cells #[] 81)) l2 0 81 = ((Question.appendCap l2 0 81).cut (wc.tape wc.drawn (Question.appendCap l2 0 81))) := rfl
      rw [hgc] at hge
      clear hgc
      go_upto_region 21 with fail
      clear hld hsc HS
      generalize ((Question.appendCap l2 0 81).cut (wc.tape wc.drawn (Question.appendCap l2 0 81))) = gc at *
      generalize Builtin.zeroCells #[Value.int IntKind.i64 0, Value.int IntKind.i64 0, Value.int IntKind.i64 0, Value.int IntKind.i64 0, Value.slice none 0 0] (gc - l2) = Z
      have HGC := Lib.hid hge
      clear hge
      obtain ⟨W1, hW1⟩ : ∃ W1, W1 = ((wc.alloc (Obj.cells #[] 81)).alloc (Obj.cells (news.toArray ++ Z) 81)).drew := ⟨_, rfl⟩
      have hM0 : HrB W1 (wc.heap.size + 1) hs ss := HHRB.out _ _ Z (by
        rw [hW1]
        have h := World.alloc_heap_new (wc.alloc (Obj.cells #[] 81)) (Obj.cells (news.toArray ++ Z) 81)
        rw [show (wc.alloc (Obj.cells #[] 81)).heap.size = wc.heap.size + 1 by simp] at h
        exact h)
      have hzc := HBc.out.size
      have hB1 : Below (w.heap.size + 1) A W1 := by
        rw [hW1]
        exact ((HBc.out.alloc (by omega) _).alloc (by simp; omega) _).drew
      rw [← hW1]
      clear hW1 HHRB
      have hMB1 : w.heap.size + 1 ≤ wc.heap.size + 1 := by omega
      have HMB := Lib.hid hM0
      have HB1' := Lib.hid hB1
      clear hM0 hB1 hbw hzc
      generalize wc.heap.size + 1 = MB at *
      obtain ⟨fin, rfl⟩ : ∃ fin : Nat, fi = (fin : Int) := ⟨fi.toNat, by omega⟩
      obtain ⟨mon, rfl⟩ : ∃ mon : Nat, mo = (mon : Int) := ⟨mo.toNat, by omega⟩
      obtain ⟨ix, hix⟩ : ∃ ix : Nat, ix = fin % l2 := ⟨_, rfl⟩
      have hixl : ix < l2 := by rw [hix]; exact Nat.mod_lt _ (by omega)
      have hixm : (fin : Int).tmod (l2 : Int) = (ix : Int) := by rw [hix]; rfl
      obtain ⟨cx, hcx⟩ : ∃ cx : Nat, cx = mon % whN wd hg := ⟨_, rfl⟩
      have hcxl : cx < whN wd hg := by rw [hcx]; exact Nat.mod_lt _ (by omega)
      have hcxm : (mon : Int).tmod (wd * hg) = (cx : Int) := by rw [HNN.out, hcx]; rfl
      obtain ⟨k0, k1⟩ := KK.out _ HB1'.out
      have HCX := Lib.hid (show ((mon : Int) % ((whN wd hg : Nat) : Int)) = (cx : Int) from by rw [hcx]; rfl)
      clear hix hcx
      go_upto_region 23 with fail
      rw [HCX.out]
      clear hcxm hixm HCX k0 k1
      obtain ⟨se, hse⟩ : ∃ se, se = (hr hs ix).se := ⟨_, rfl⟩
      have hnumx := HNUM.out ix (by rw [HL2.out]; exact hixl)
      rw [← hse] at hnumx
      have hs7 := HSE7.out ix hixl
      rw [← hse] at hs7
      have HSE := Lib.hid hse
      obtain ⟨asl, csl, hsx⟩ := hnumx.form
      have HSX := Lib.hid hsx
      rw [hsx] at hnumx
      have HG := Lib.hid hnumx.get
      have hcx4 := HCELL.out _ _ (HGETF.out ix (by rw [HL2.out]; exact hixl)).2.2.2.2
      rw [hsx, ← Nat.add_assoc] at hcx4
      have HC4 := Lib.hid hcx4
      have hc4 := fun W (hb : Below (w.heap.size + 1) A W) => ((HBA.out _ hb).cell (p := ⟨bh, offh + ix * 5 + 4, none⟩) hbh).trans HC4.out
      have HX4 := Lib.hid hc4
      clear hse hnumx hsx hcx4 hc4 HC4
      obtain ⟨p, hp⟩ : ∃ p : Int → Bool, p = fun x => decide (x < (cx : Int)) := ⟨_, rfl⟩
      have HP := Lib.hid (fun x => show p x = decide (x < (cx : Int)) by rw [hp])
      have HPL := Lib.hid (show se.filter p = se.filter (fun x => decide (x < (cx : Int))) by rw [hp])
      obtain ⟨r, hr2⟩ : ∃ r : Int → Bool, r = fun x => decide ((cx : Int) < x) := ⟨_, rfl⟩
      have HR := Lib.hid (fun x => show r x = decide ((cx : Int) < x) by rw [hr2])
      have HRL := Lib.hid (show se.filter r = se.filter (fun x => decide ((cx : Int) < x)) by rw [hr2])
      clear hp hr2
      have HFS1 := Lib.hid (fun k (hk : k < se.length) => filT_succ (p := p) (l := se) hk)
      have HFS2 := Lib.hid (fun k (hk : k < se.length) => filT_succ (p := r) (l := se) hk)
      have HFL1 := Lib.hid (filT_len p se)
      have HFL2 := Lib.hid (filT_len r se)
      generalize hsl : se.length = sl at *
      have HSL := Lib.hid hsl
      clear hsl
      obtain ⟨j0, hj0, hy0, hy1, hy2⟩ := info_parts infoI
      have hzB1 := HB1'.out.size
      rw [hzA] at hzB1
      have hMBl := HMB.out.lt
      go_wp2_with fail
      go_loopw [24, 25] (fun v i wr => ∃ k : Nat, k ≤ sl ∧ i = .int .i64 k ∧ wr.ownsRow W1.heap.size 3 1 v (filT p se k).length (numv (filT p se k)) ∧ Below W1.heap.size W1 wr) (fun _ i _ => sl - (intOf i).toNat)
      case atStart => exact ⟨0, Nat.zero_le _, rfl, by rw [filT_zero]; exact World.ownsRow_nil _ _ _ _, Below.refl _ _⟩
      case round =>
        obtain ⟨k, hk, rfl, hrow, hB⟩ := hrel
        have hsz := hB.size
        have HBr := Lib.hid hB
        have HRow := Lib.hid hrow
        have HBw := Lib.hid (HB1'.out.trans (hB.mono hzB1))
        have m4 := HX4.out _ HBw.out
        clear hB hrow
        by_cases hlt : k < sl
        · have hki : (k : Int) < (sl : Int) := by omega
          obtain ⟨b5, off5, rfl, hb5, g5⟩ := HG.out k hlt
          have g6 := ((HBA.out _ HBw.out).cell (p := ⟨b5, off5 + k, none⟩) hb5).trans g5
          clear g5
          have ht := HFS1.out k hlt
          have hl := HFL1.out k
          have hpx := HP.out (se[k]?.getD 0)
          generalize se[k]?.getD 0 = x at *
          by_cases hx : x < (cx : Int)
          · rw [decide_eq_true hx] at hpx
            rw [if_pos hpx] at ht
            have HT2 := Lib.hid ht
            generalize hnl : numv (filT p se k) = nl at *
            have HNL := Lib.hid hnl
            generalize htl : (filT p se k).length = tl at *
            have HTL := Lib.hid htl
            clear hnl ht htl hpx
            go_wp2_with (at_builtin; refine wpList_append_own _ rfl _ _ 46 rfl W1.heap.size 3 j0 (.int .i64 0) 1 8 Try.underlying46 hj0 hy0 hy1 hy2 rfl (by decide) _ _ _ rfl (HRow.out.alloc _) ⟨wr.heap.size, 0, none⟩ 1 1 [.int .i64 x] rfl rfl (one_new _ _) (by simp [Value.oneCell']) (by unfold maxLen; omega) (by omega) (by simp; omega) ?_; intro v' w5 hrow' hgrow _)
            have hB5 : Below W1.heap.size W1 w5 := (HBr.out.alloc hsz _).grown hgrow (by simp; omega) (fun j hj => (HRow.out.lt j hj).1)
            go_roundw
            case rel => exact ⟨k + 1, by omega, by go_num, by rw [HT2.out, numv_snoc, HNL.out, List.length_append, HTL.out]; exact hrow', hB5⟩
            case measure => simp [intOf]; omega
          · rw [decide_eq_false hx] at hpx
            rw [hpx, if_neg (by decide)] at ht
            have HT2 := Lib.hid ht
            clear ht hpx
            go_wp2_with fail
            go_roundw
            case rel => exact ⟨k + 1, by omega, by go_num, by rw [HT2.out]; exact HRow.out, HBr.out⟩
            case measure => simp [intOf]; omega
        · obtain rfl : k = sl := by omega
          clear hlt hk
          have HFA := Lib.hid (show filT p se k = se.filter (fun x => decide (x < (cx : Int))) by rw [← HPL.out, ← filT_all, HSL.out])
          have HFB := Lib.hid (show filT r se k = se.filter (fun x => decide ((cx : Int) < x)) by rw [← HRL.out, ← filT_all, HSL.out])
          have hl1 := HFL1.out k
          have hl2m := fun j => HFL2.out j
          have HL2M := Lib.hid hl2m
          clear hl2m
          generalize hf1 : filT p se k = f1 at *
          have HF1 := Lib.hid hf1
          clear hf1
          generalize hnl : numv f1 = nl at *
          have HNL := Lib.hid hnl
          generalize htl : f1.length = tl at *
          have HTL := Lib.hid htl
          clear hnl htl
          go_upto_region 31 with (at_builtin; refine wpList_append_own _ rfl _ _ 46 rfl W1.heap.size 3 j0 (.int .i64 0) 1 8 Try.underlying46 hj0 hy0 hy1 hy2 rfl (by decide) _ _ _ rfl (HRow.out.alloc _) ⟨wr.heap.size, 0, none⟩ 1 1 [.int .i64 cx] rfl rfl (one_new _ _) (by simp [Value.oneCell']) (by unfold maxLen; omega) (by omega) (by simp; omega) ?_; intro v' w5 hrow' hgrow _)
          have hB5 : Below W1.heap.size W1 w5 := (HBr.out.alloc hsz _).grown hgrow (by simp; omega) (fun j hj => (HRow.out.lt j hj).1)
          have HB5 := Lib.hid hB5
          have HROW5 := Lib.hid (show w5.ownsRow W1.heap.size 3 1 v' (f1 ++ [(cx : Int)]).length (numv (f1 ++ [(cx : Int)])) by rw [numv_snoc, HNL.out, List.length_append, HTL.out]; exact hrow')
          clear hB5 hrow' hgrow HRow HBr HBw m4 hsz HNL
          have HF2L := Lib.hid (show ∀ j, (f1 ++ [(cx : Int)] ++ filT r se j).length ≤ 2 * k + 1 from fun j => by
            have h1 := HL2M.out j
            have h2 := HTL.out
            simp only [List.length_append, List.length_cons, List.length_nil]
            omega)
          have HINS := Lib.hid (show f1 ++ [(cx : Int)] ++ filT r se k = insC cx se by rw [HFA.out, HFB.out]; simp [insC])
          generalize f1 ++ [(cx : Int)] = f2 at *
          go_wp2_with fail
          go_loopw [24, 27] (fun v i wr => ∃ m : Nat, m ≤ k ∧ i = .int .i64 m ∧ wr.ownsRow W1.heap.size 3 1 v (f2 ++ filT r se m).length (numv (f2 ++ filT r se m)) ∧ Below W1.heap.size W1 wr) (fun _ i _ => k - (intOf i).toNat)
          case atStart => exact ⟨0, Nat.zero_le _, rfl, by rw [filT_zero, List.append_nil]; exact HROW5.out, HB5.out⟩
          case round =>
            obtain ⟨m, hm, rfl, hrow, hB⟩ := hrel
            have hsz := hB.size
            have HBr := Lib.hid hB
            have HRow := Lib.hid hrow
            have HBw := Lib.hid (HB1'.out.trans (hB.mono hzB1))
            have m4 := HX4.out _ HBw.out
            clear hB hrow
            by_cases hlt : m < k
            · have hki : (m : Int) < (k : Int) := by omega
              obtain ⟨b5, off5, rfl, hb5, g5⟩ := HG.out m hlt
              have g6 := ((HBA.out _ HBw.out).cell (p := ⟨b5, off5 + m, none⟩) hb5).trans g5
              clear g5
              have ht := HFS2.out m hlt
              have hl := HF2L.out m
              have hpx := HR.out (se[m]?.getD 0)
              generalize se[m]?.getD 0 = x at *
              by_cases hx : (cx : Int) < x
              · rw [decide_eq_true hx] at hpx
                rw [if_pos hpx] at ht
                have HT2 := Lib.hid (show f2 ++ filT r se (m + 1) = f2 ++ filT r se m ++ [x] by rw [ht, List.append_assoc])
                generalize f2 ++ filT r se m = f3 at *
                generalize hnl : numv f3 = nl at *
                have HNL := Lib.hid hnl
                generalize htl : f3.length = tl at *
                have HTL := Lib.hid htl
                clear hnl ht htl hpx
                go_wp2_with (at_builtin; refine wpList_append_own _ rfl _ _ 46 rfl W1.heap.size 3 j0 (.int .i64 0) 1 8 Try.underlying46 hj0 hy0 hy1 hy2 rfl (by decide) _ _ _ rfl (HRow.out.alloc _) ⟨wr.heap.size, 0, none⟩ 1 1 [.int .i64 x] rfl rfl (one_new _ _) (by simp [Value.oneCell']) (by unfold maxLen; omega) (by omega) (by simp; omega) ?_; intro v' w5 hrow' hgrow _)
                have hB5 : Below W1.heap.size W1 w5 := (HBr.out.alloc hsz _).grown hgrow (by simp; omega) (fun j hj => (HRow.out.lt j hj).1)
                go_roundw
                case rel => exact ⟨m + 1, by omega, by go_num, by rw [HT2.out, numv_snoc, HNL.out, List.length_append, HTL.out]; exact hrow', hB5⟩
                case measure => simp [intOf]; omega
              · rw [decide_eq_false hx] at hpx
                rw [hpx, if_neg (by decide)] at ht
                have HT2 := Lib.hid ht
                clear ht hpx
                go_wp2_with fail
                go_roundw
                case rel => exact ⟨m + 1, by omega, by go_num, by rw [HT2.out]; exact HRow.out, HBr.out⟩
                case measure => simp [intOf]; omega
            · obtain rfl : m = k := by omega
              clear hlt hm
              have hri := HRow.out
              rw [HINS.out] at hri
              obtain ⟨an, cn, hu⟩ := (nums_of_owns hri).form
              subst hu
              have HNF := Lib.hid (fun (o : Nat) (u : Value) => nums_far (MB := MB) (o := o) (u := u) hri hMBl)
              clear hri HRow HINS HF2L HFA HFB
              generalize (insC (cx : Int) se).length = ln at *
              have HMw := Lib.hid (HMB.out.keep HBr.out hMBl)
              have g4 := (HGETF.out ix (by rw [HL2.out]; exact hixl)).2.2.2.2
              rw [← HNW.out] at g4
              have m5 := HMw.out.cell g4
              rw [HSX.out] at m5
              have f5 := HMw.out.frozen (ix * 5 + 4)
              have hcc : 0 ≤ (cx : Int) ∧ (cx : Int) < wd * hg := by rw [HNN.out]; omega
              have HCC := Lib.hid hcc
              have hMBw : w.heap.size ≤ MB := by omega
              clear g4 hcc
              go_upto_region 38 with fail
              have hMo := HrB.set HMw.out (i := ix) (by rw [HL2.out]; exact hixl) (cap := gc) (by rw [HL2.out]; exact HGC.out) (cx : Int) (.slice an ln cn) (by rw [← HSE.out]; exact HNF.out _ _) (fun k hk => (HNUM.out k hk).mono ((HBA.out _ HBw.out).setCell (p := ⟨MB, ix * 5 + 4, none⟩) hMBw _) (HBA.out _ HBw.out).size)
              have hBV := HBw.out.setCell (p := ⟨MB, ix * 5 + 4, none⟩) hMB1 (.slice an ln cn)
              rw [HL2.out] at hMo
              obtain ⟨V, hV⟩ : ∃ V, V = wr.setCell ⟨MB, ix * 5 + 4, none⟩ (.slice an ln cn) := ⟨_, rfl⟩
              rw [← hV] at hMo hBV
              rw [← hV]
              clear hV m5 f5 m4
              have HMo := Lib.hid hMo
              have HBV := Lib.hid hBV
              clear hMo hBV HMw HNF HBr HBw hsz
              have HSUB := Lib.hid (fun (z : Int) h => whB_more (wd := wd) (hg := hg) (st := st) (hs := hs) (i := ix) (c := (cx : Int)) (by rw [HL2.out]; exact hixl) z h)
              have HCW := Lib.hid (fun W hb => C41.out l2 (Nat.le_refl _) W hb)
              have HDW := Lib.hid (fun W hb mv hM => D41.out ix (cx : Int) hixl HCC.out W hb mv hM)
              have HDF := Lib.hid (fun W hb mv hM => D43.out ix (cx : Int) hixl HCC.out W hb mv hM)
              clear C41 D41 D43
              have HXS := Lib.hid (trL_sorted (whB wd hg st hs l2) (whN wd hg))
              have HYS := Lib.hid (trL_sorted (whB wd hg st (moreH hs ix (cx : Int)) l2) (whN wd hg))
              have HXL := Lib.hid (Nat.le_trans (trL_len (whB wd hg st hs l2) (whN wd hg)) (show _ ≤ 576 by omega))
              have HYL := Lib.hid (Nat.le_trans (trL_len (whB wd hg st (moreH hs ix (cx : Int)) l2) (whN wd hg)) (show _ ≤ 576 by omega))
              rw [HL2.out] at HSUB
              generalize trL (whB wd hg st hs l2) (whN wd hg) = X at *
              generalize trL (whB wd hg st (moreH hs ix (cx : Int)) l2) (whN wd hg) = Y at *
              generalize moreH hs ix (cx : Int) = hs2 at *
              generalize whL wd hg st hs l2 = lx at *
              obtain ⟨k0, k1⟩ := KK.out _ HBV.out
              go_wp2_with fail
              refine (HCW.out _ (HBA.out _ HBV.out)).mono ?_
              rintro e w8 ⟨v8, rfl, hx8, hb⟩
              have HX8 := Lib.hid hx8
              have HM8 := Lib.hid (HMo.out.at hb)
              have HB8 := Lib.hid (HST.out _ _ HBV.out hb)
              obtain ⟨ax, dx, rfl⟩ := hx8.form
              clear hx8 hb k0 k1 HMo HCW
              obtain ⟨k0, k1⟩ := KK.out _ HB8.out
              have HD8 := Lib.hid (HDW.out _ (HBA.out _ HB8.out) _ HM8.out)
              clear HDW
              generalize hxl : X.length = nx at *
              have HXN := Lib.hid hxl
              clear hxl
              go_wp2_with fail
              refine HD8.out.mono ?_
              rintro e w9 ⟨v9, b9, rfl, hy9, hb⟩
              have HY9 := Lib.hid hy9
              have HX9 := Lib.hid (HX8.out.at hb)
              have HM9 := Lib.hid (HM8.out.at hb)
              have HB9 := Lib.hid (HST.out _ _ HB8.out hb)
              obtain ⟨ay, dy, rfl⟩ := hy9.form
              clear hy9 hb k0 k1 HX8 HM8 HD8
              generalize hyl : Y.length = ny at *
              have HYN := Lib.hid hyl
              clear hyl
              have hxl576 : nx ≤ 576 := HXL.out
              have hyl576 : ny ≤ 576 := HYL.out
              go_upto_region 42 with fail
              have HMT := Lib.hid (fun (kk mm : Nat) (h : Mt X Y kk mm) (hk : kk < ny) => h.found HXS.out (by rw [HYN.out]; exact hk) HSUB.out)
              have HMS := Lib.hid (fun (kk mm : Nat) (h : Mt X Y kk mm) (hm : mm < nx) hl => h.step HYS.out (by rw [HXN.out]; exact hm) hl)
              have HMN := Lib.hid (fun (kk mm : Nat) (h : Mt X Y kk mm) => h.next)
              have HM0 := Lib.hid (Mt.start X Y)
              rw [HXN.out] at HMT
              generalize Mt X Y = MT at *
              have HGX := Lib.hid (HX9.out.get)
              have HGY := Lib.hid (HY9.out.get)
              rw [HXN.out] at HGX
              rw [HYN.out] at HGY
              go_wp2_with fail
              go_loopw [35, 36] (fun c35 c36 wr2 => ∃ m2 k2 : Nat, k2 ≤ ny ∧ c35 = .int .i64 m2 ∧ c36 = .int .i64 k2 ∧ MT k2 m2 ∧ Below w9.heap.size w9 wr2) (fun _ c36 _ => ny - (intOf c36).toNat)
              case atStart => exact ⟨0, 0, Nat.zero_le _, rfl, rfl, HM0.out, Below.refl _ _⟩
              case round =>
                obtain ⟨m2, k2, hk2, rfl, rfl, hmt, hBr2⟩ := hrel
                have HMT2 := Lib.hid hmt
                have HBR := Lib.hid hBr2
                clear hmt hBr2
                by_cases hlt : k2 < ny
                · have hki : (k2 : Int) < (ny : Int) := by omega
                  obtain ⟨by_, offy, rfl, hby, gy⟩ := HGY.out k2 hlt
                  generalize hyv : Y[k2]?.getD 0 = yv at *
                  have HYV := Lib.hid hyv
                  have HGY2 := Lib.hid gy
                  clear hyv gy
                  go_wp2_with fail
                  go_loopw [35] (fun c35 wr3 => ∃ m3 : Nat, c35 = .int .i64 m3 ∧ MT k2 m3 ∧ Below w9.heap.size w9 wr3) (fun c35 _ => nx - (intOf c35).toNat)
                  case atStart => exact ⟨m2, rfl, HMT2.out, HBR.out⟩
                  case round =>
                    obtain ⟨m3, rfl, hmt3, hB3⟩ := hrel
                    obtain ⟨hm3, hq3⟩ := HMT.out k2 m3 hmt3 hlt
                    rw [HYV.out] at hq3
                    obtain ⟨bx, offx, rfl, hbx, gx⟩ := HGX.out m3 hm3
                    have n0 := (hB3.cell (p := ⟨bx, offx + m3, none⟩) hbx).trans gx
                    have n1 := (hB3.cell (p := ⟨by_, offy + k2, none⟩) hby).trans HGY2.out
                    have HM3 := Lib.hid hmt3
                    have HB3' := Lib.hid hB3
                    have HSTEP := Lib.hid (HMS.out k2 m3 hmt3 hm3)
                    rw [HYV.out] at HSTEP
                    clear hmt3 hB3 gx
                    generalize X[m3]?.getD 0 = xv at *
                    have hd : decide ((m3 : Int) < (nx : Int)) = true := decide_eq_true (by omega)
                    have hdi : (m3 : Int) < (nx : Int) := by omega
                    have hde : ((m3 : Int) == (nx : Int)) = false := by simp; omega
                    have hd0 : (0 : Int) ≤ (m3 : Int) := by omega
                    have hd1 : (0 : Int) ≤ (k2 : Int) := by omega
                    by_cases hxy : xv < yv
                    · have HS3 := Lib.hid (HSTEP.out hxy)
                      clear HSTEP hq3
                      go_wp2_with fail
                      go_quiet (fail)
                      go_wp2_with fail
                      go_roundw
                      case rel => exact ⟨m3 + 1, by go_num, HS3.out, below_drewN HB3'.out _⟩
                      case measure => simp [intOf]; omega
                    · have hxe := hq3 (by omega)
                      subst hxe
                      clear hq3 HSTEP
                      go_wp2_with fail
                      go_quiet (fail)
                      go_wp2_with fail
                      go_quiet (fail)
                      go_wp2_with fail
                      go_roundw
                      case rel => exact ⟨m3, k2 + 1, by omega, rfl, by go_num, HMN.out _ _ HM3.out, below_drewN HB3'.out _⟩
                      case measure => simp [intOf]; omega
                · obtain rfl : k2 = ny := by omega
                  clear HGX HGY HMT HMS HMN HM0 HMT2
                  have HMr := Lib.hid (HM9.out.at HBR.out)
                  have HBr2 := Lib.hid (HST.out _ _ HB9.out HBR.out)
                  have HDr := Lib.hid (HDF.out wr (HBA.out _ HBr2.out) _ HMr.out)
                  obtain ⟨k0, k1⟩ := KK.out _ HBr2.out
                  clear HMr HDF
                  go_wp2_with fail
                  refine HDr.out.mono ?_
                  rintro e w10 ⟨n10, f10, rfl, hfo, hb⟩
                  have HB10 := Lib.hid (HST.out _ _ HBr2.out hb)
                  have HFO := Lib.hid hfo
                  clear hb hfo k0 k1 HDr
                  rcases HFS.out with ⟨kf, kf1, kf2, kf3, rfl, rfl⟩ | ⟨kf1, rfl, rfl⟩
                  · have hfs := HFS.out
                    rw [HL1.out] at hfs
                    have hfin := HFO.out _ hfs
                    clear hfs
                    obtain ⟨rfl, hle⟩ := hfin
                    clear kf1 kf2 kf3 HFS HFO
                    have hd : decide (n10 ≤ (kf : Int)) = true := decide_eq_true hle
                    go_wp2_with fail
                    refine (c15.out _ HB10.out).mono ?_
                    rintro e w11 ⟨rfl, hb11⟩
                    have HB11 := Lib.hid hb11
                    clear hb11
                    go_wp2_with fail
                    go_ret
                    exact ⟨rfl, HB11.out⟩
                  · clear kf1 HFS HFO
                    go_wp2_with fail
                    refine (c15.out _ HB10.out).mono ?_
                    rintro e w11 ⟨rfl, hb11⟩
                    have HB11 := Lib.hid hb11
                    clear hb11
                    go_wp2_with fail
                    go_ret
                    exact ⟨rfl, HB11.out⟩
end Go.Proofs.Ythogahdnidjelaa

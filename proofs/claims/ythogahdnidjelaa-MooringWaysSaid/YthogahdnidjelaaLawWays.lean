/-
  MooringWays: the walk, given that 'fine' returns true.
-/
import Derived.Test.YthogahdnidjelaaSeaTwo
import Derived.Test.YthogahdnidjelaaOpenT
import Derived.BigQuiet
import Derived.Deep.QuietTactic
import Derived.Deep.CutRange
namespace Go.Proofs.Ythogahdnidjelaa
open Go.RowKit Go.Shelf
set_option linter.unusedSimpArgs false
/-- the answer yes says P, no says that it is not so -/
def Says (v : Value) (P : Prop) : Prop := ∃ b : Bool, v = .bool b ∧ (b = true ↔ P)
theorem Says.yes {P : Prop} (h : P) : Says (.bool true) P := ⟨true, rfl, fun _ => h, fun _ => rfl⟩
theorem Says.no {P : Prop} (h : ¬ P) : Says (.bool false) P := ⟨false, rfl, fun q => (by cases q), fun q => absurd q h⟩
theorem whV_take {wd hg : Int} {st : List Int} {hs : List Hr} (h0 : seaE wd hg st hs = 0) {m : Nat} (hm : m ≤ hs.length) : whV wd hg st (hs.take m) = trL (whB wd hg st hs m) (whN wd hg) ∧ whX wd hg st (hs.take m) = whL wd hg st hs m := by
  have e : (hs.take m).length = m := by rw [List.length_take]; omega
  constructor
  · unfold whV whB
    rw [if_pos (seaE_take h0 m), e, stB_take (Nat.le_refl _)]
  · unfold whX whL
    rw [if_pos (seaE_take h0 m), e, stL_take (Nat.le_refl _)]
theorem where_take (wd hg : Int) (sv : Value) (a : Option Addr) (cap : Nat) (st : List Int) (hs : List Hr) (hl1 : st.length ≤ 2147483649) (hl2 : ∀ k, k < hs.length → (hr hs k).se.length ≤ 2147483649) (h0 : seaE wd hg st hs = 0) (m : Nat) (hm : m ≤ hs.length) (w : World) (hI : Nums w.heap.size w sv st) (hH : Hrs w.heap.size w (.slice a hs.length cap) hs) :
    Calls Try.prog 41 #[.agg #[.int .i64 wd, .int .i64 hg], sv, .slice a m cap] w fun e w' => ∃ v, e = .returned (.tuple #[v, .bool (whL wd hg st hs m), .int .i64 0]) ∧ Nums w'.heap.size w' v (trL (whB wd hg st hs m) (whN wd hg)) ∧ Below w.heap.size w w' := by
  have q := where_any wd hg sv (.slice a m cap) st (hs.take m) hl1 (fun k hk => by rw [List.length_take] at hk; rw [hr_take (by omega)]; exact hl2 k (by omega)) w hI (hH.take hm)
  rw [(whV_take h0 hm).1, (whV_take h0 hm).2, seaE_take h0 m] at q
  exact q
theorem ways_stay {wd hg : Int} {st : List Int} {hs : List Hr} {k c m : Nat} {x y : Int} (hl : wd * hg = (whN wd hg : Int)) (hc : c < whN wd hg) (hb : bAt (whB wd hg st hs k) c = true) (h1 : StepTo wd (hr hs k) c x y) (h2 : InA wd hg x y) (h3 : y * wd + x = (m : Int)) (h4 : (m : Int) ∉ (hr hs k).se) : m < whN wd hg ∧ bAt (whB wd hg st hs (k + 1)) m = true := by
  have q := step_stays (wd := wd) (hg := hg) (b0 := mkL (whN wd hg) st st.length) (hs := hs) (k := k) (by rw [mkL_len]; exact hl) (by rw [mkL_len]; exact hc) hb h1 h2 h3 h4
  rw [mkL_len] at q
  exact q
set_option maxRecDepth 100000 in
set_option maxHeartbeats 8000000 in
theorem law_ways (hf : ∀ w, Calls Try.prog 15 #[] w fun e w' => e = .returned (.bool true) ∧ Below w.heap.size w w') (wd hg fi : Int) (hfi : 0 ≤ fi ∧ fi ≤ 65535) (sv hv tv : Value) (st : List Int) (hs : List Hr) (ts : List (Int × Int)) (w : World) (hI : Nums w.heap.size w sv st) (hH : Hrs w.heap.size w hv hs) (hT : Twos w.heap.size w tv ts) :
    Calls Try.prog 12 #[.agg #[.int .i64 wd, .int .i64 hg], sv, hv, .int .u16 fi, tv] w fun e w' => e = .returned (.bool true) ∧ Below w.heap.size w w' := by
  have c40 := Lib.hid (fun W (hb : Below w.heap.size w W) => wide_any sv hv st hs W (hI.at hb) (hH.at hb))
  have c42 := Lib.hid (fun (h : Slim st hs) W (hb : Below w.heap.size w W) => rwhere_any wd hg sv hv st hs (by have := h.1; omega) (fun k hk => by have := h.2.2.2 k hk; omega) W (hI.at hb) (hH.at hb))
  have HI := Lib.hid hI
  have HH := Lib.hid hH
  have HT := Lib.hid hT
  obtain ⟨a, cap, rfl⟩ := hI.form
  obtain ⟨a2, cap2, rfl, hcap2, -⟩ := hH
  have HCAP := Lib.hid hcap2
  clear hcap2
  obtain ⟨a4, cap4, rfl⟩ := hT.form
  have c41 := Lib.hid (fun (h : Slim st hs) (h0 : seaE wd hg st hs = 0) m (hm : m ≤ hs.length) W (hb : Below w.heap.size w W) => where_take wd hg (.slice a st.length cap) a2 cap2 st hs (by have := h.1; omega) (fun k hk => by have := h.2.2.2 k hk; omega) h0 m hm W (HI.out.at hb) (HH.out.at hb))
  clear hI hT
  obtain ⟨A, hA⟩ : ∃ A, A = w.alloc (.cells #[.int .i64 wd, .int .i64 hg] 54) := ⟨_, rfl⟩
  have hzA : A.heap.size = w.heap.size + 1 := by rw [hA]; simp
  have KK := Lib.hid (show ∀ W, Below (w.heap.size + 1) A W → W.cell? ⟨w.heap.size, 0, none⟩ = some (.int .i64 wd) ∧ W.cell? ⟨w.heap.size, 1, none⟩ = some (.int .i64 hg) from fun W h => by
    refine ⟨(h.cell (p := ⟨w.heap.size, 0, none⟩) (Nat.lt_succ_self _)).trans ?_, (h.cell (p := ⟨w.heap.size, 1, none⟩) (Nat.lt_succ_self _)).trans ?_⟩ <;> (rw [hA]; simp [go_sem]))
  have HBA := Lib.hid (show ∀ W, Below (w.heap.size + 1) A W → Below w.heap.size w W from fun W h => by
    have e : Below w.heap.size w A := by rw [hA]; exact (Below.refl _ _).alloc (Nat.le_refl _) _
    exact e.trans (h.mono (Nat.le_succ _)))
  have HST := Lib.hid (show ∀ W W', Below (w.heap.size + 1) A W → Below W.heap.size W W' → Below (w.heap.size + 1) A W' from fun W W' h h' => h.trans (h'.mono (by have := h.size; omega)))
  have c15 := Lib.hid (fun W (h : Below (w.heap.size + 1) A W) => (hf W).mono fun e w' (q : e = .returned (.bool true) ∧ Below W.heap.size W w') => (⟨q.1, HBA.out _ (HST.out _ _ h q.2)⟩ : e = .returned (.bool true) ∧ Below w.heap.size w w'))
  clear hf
  have HSF := Lib.hid (show Slim st hs ↔ st.length ≤ 700 ∧ (hs.length ≤ 8 ∨ 48 < hs.length) ∧ hs.length ≤ 60 ∧ ∀ k, k < hs.length → (hr hs k).se.length ≤ 700 from Iff.rfl)
  generalize Slim st hs = SL at *
  generalize hl1 : st.length = l1 at *
  have HL1 := Lib.hid hl1
  generalize hl2 : hs.length = l2 at *
  have HL2 := Lib.hid hl2
  generalize hl4 : ts.length = l4 at *
  have HL4 := Lib.hid hl4
  clear hl1 hl2 hl4
  by_cases h8 : 8 < l2
  · clear HI HH HT c42 c41 HSF HL1 HL2 HL4
    go_enter Try.func12, Try.ntmps12
    go_wp2_with fail
    try rw [← hA]
    clear hA
    refine (c40.out _ (HBA.out _ (Below.refl _ _))).mono ?_
    rintro e w1 ⟨b, rfl, hsl, hb⟩
    have HB1 := Lib.hid (show Below (w.heap.size + 1) A w1 from hb.mono (by omega))
    clear hb c40 hsl
    cases b
    all_goals
      go_wp2_with fail
      refine (c15.out _ HB1.out).mono ?_
      rintro e w6 ⟨rfl, hb6⟩
      have HB6 := Lib.hid hb6
      clear hb6
      go_wp2_with fail
      go_ret
      exact ⟨rfl, HB6.out⟩
  by_cases hl0 : l1 = 0
  · subst hl0
    clear HI HH HT c42 c41 HSF HL1 HL2 HL4
    go_enter Try.func12, Try.ntmps12
    go_wp2_with fail
    try rw [← hA]
    clear hA
    refine (c40.out _ (HBA.out _ (Below.refl _ _))).mono ?_
    rintro e w1 ⟨b, rfl, hsl, hb⟩
    have HB1 := Lib.hid (show Below (w.heap.size + 1) A w1 from hb.mono (by omega))
    clear hb c40 hsl
    cases b
    all_goals
      go_wp2_with fail
      refine (c15.out _ HB1.out).mono ?_
      rintro e w6 ⟨rfl, hb6⟩
      have HB6 := Lib.hid hb6
      clear hb6
      go_wp2_with fail
      go_ret
      exact ⟨rfl, HB6.out⟩
  have hl0i : ((l1 : Int) == 0) = false := by simp; omega
  go_enter Try.func12, Try.ntmps12
  go_wp2_with fail
  try rw [← hA]
  clear hA
  refine (c40.out _ (HBA.out _ (Below.refl _ _))).mono ?_
  rintro e w1 ⟨b, rfl, hsl, hb⟩
  have HB1 := Lib.hid (show Below (w.heap.size + 1) A w1 from hb.mono (by omega))
  have HSL := Lib.hid hsl
  clear hb c40 hsl
  cases b
  rotate_left
  · go_wp2_with fail
    refine (c15.out _ HB1.out).mono ?_
    rintro e w6 ⟨rfl, hb6⟩
    have HB6 := Lib.hid hb6
    clear hb6
    go_wp2_with fail
    go_ret
    exact ⟨rfl, HB6.out⟩
  have hS := HSL.out rfl
  obtain ⟨k0, k1⟩ := KK.out _ HB1.out
  go_wp2_with fail
  refine (c42.out hS _ (HBA.out _ HB1.out)).mono ?_
  rintro e w3 ⟨v3, rfl, hv3, hb⟩
  have HB3 := Lib.hid (HST.out _ _ HB1.out hb)
  obtain ⟨q3, d3, rfl⟩ := hv3.form
  clear hv3 hb k0 k1
  generalize hE : seaE wd hg st hs = E at *
  generalize (whV wd hg st hs).length = vl at *
  generalize whX wd hg st hs = xl at *
  by_cases hE0 : E = 0
  rotate_left
  · have he : (E != 0) = true := by simpa using hE0
    clear hE hE0 c41
    go_wp2_with fail
    refine (c15.out _ HB3.out).mono ?_
    rintro e w6 ⟨rfl, hb6⟩
    have HB6 := Lib.hid hb6
    clear hb6
    go_wp2_with fail
    go_ret
    exact ⟨rfl, HB6.out⟩
  subst hE0
  have C41 := Lib.hid (fun m hm W hb => c41.out hS (by trivial) m hm W hb)
  clear c41 c42
  obtain ⟨h48, hw, hh, har, hok⟩ := seaE_ok hE
  have hn' := whN_eq hw hh
  have hn576 := (whN_le hw hh).2
  obtain ⟨s700, -, -, se700⟩ := HSF.out.1 hS
  have hse := fun k (hk : k < l2) => by
    have q := hok k (by rw [HL2.out]; exact hk)
    exact hrOk_get q
  have HSE7 := Lib.hid se700
  have HSEO := Lib.hid hse
  have HNN := Lib.hid (areB_nn har)
  have HWL := Lib.hid (fun k => whB_len wd hg st hs k)
  have HMK := Lib.hid (fun i (hi : i < l1) (j : Nat) (hj : (j : Int) = vAt st i) => show bAt (whB wd hg st hs 0) j = true from (mkL_at (whN wd hg) st st.length (Nat.le_refl _) j (by have := areB_nn har i (by rw [HL1.out]; exact hi); omega) (fun i hi => by have := areB_nn har i hi; omega)).2 ⟨i, by rw [HL1.out]; exact hi, hj.symm⟩)
  have HSTEP := Lib.hid (fun (k c m : Nat) (x y : Int) (hc : c < whN wd hg) (hb : bAt (whB wd hg st hs k) c = true) (h1 : StepTo wd (hr hs k) c x y) (h2 : InA wd hg x y) (h3 : y * wd + x = (m : Int)) (h4 : (m : Int) ∉ (hr hs k).se) => show m < whN wd hg ∧ bAt (whB wd hg st hs (k + 1)) m = true from ways_stay hn' hc hb h1 h2 h3 h4)
  have HLEAVE := Lib.hid (fun (k c : Nat) (x y : Int) (hc : c < whN wd hg) (hb : bAt (whB wd hg st hs k) c = true) (h1 : StepTo wd (hr hs k) c x y) (h2 : ¬ InA wd hg x y) => show whL wd hg st hs (k + 1) = true from step_leaves (wd := wd) (hg := hg) (b0 := mkL (whN wd hg) st st.length) (hs := hs) (k := k) (by rw [mkL_len]; exact hc) hb h1 h2)
  have HMEM := Lib.hid (fun k (j : Nat) (hj : j < whN wd hg) (hb : bAt (whB wd hg st hs k) j = true) => (mem_trL (whB wd hg st hs k) (j : Int) (whN wd hg)).2 ⟨j, hj, hb, rfl⟩)
  obtain ⟨fin, rfl⟩ : ∃ fin : Nat, fi = (fin : Int) := ⟨fi.toNat, by omega⟩
  obtain ⟨ix, hix⟩ : ∃ ix : Nat, ix = fin % l1 := ⟨_, rfl⟩
  have hixl : ix < l1 := by rw [hix]; exact Nat.mod_lt _ (by omega)
  have hixm : (fin : Int).tmod (l1 : Int) = (ix : Int) := by rw [hix]; rfl
  obtain ⟨b1, off1, e1, hb1, g1⟩ := (HI.out.get) ix (by rw [HL1.out]; exact hixl)
  subst e1
  have m1 := (HBA.out _ HB3.out |>.cell (p := ⟨b1, off1 + ix, none⟩) hb1).trans g1
  have hcn := HNN.out ix (by rw [HL1.out]; exact hixl)
  have HMKx := Lib.hid (HMK.out ix hixl)
  unfold vAt at hcn
  obtain ⟨c0, hc0⟩ : ∃ c0 : Nat, st[ix]?.getD 0 = (c0 : Int) := ⟨(st[ix]?.getD 0).toNat, by omega⟩
  rw [hc0] at m1 hcn
  have hc0n : c0 < whN wd hg := by omega
  have hb0 := HMKx.out c0 (by unfold vAt; exact hc0.symm)
  have HB0 := Lib.hid hb0
  clear g1 HMKx HMK HNN hb0 hc0 hE hok har hse se700
  subst hix
  generalize whN wd hg = n at *
  go_wp2_with fail
  go_loopw [14, 15] (fun c i wr => ∃ (k j : Nat), k ≤ l2 ∧ c = .int .i64 j ∧ i = .int .i64 k ∧ j < n ∧ bAt (whB wd hg st hs k) j = true ∧ Below (w.heap.size + 1) A wr) (fun _ i _ => l2 - (intOf i).toNat)
  case atStart => exact ⟨0, c0, Nat.zero_le _, rfl, rfl, hc0n, HB0.out, HB3.out⟩
  case round =>
    obtain ⟨k, j, hk, rfl, rfl, hj, hb, hBr⟩ := hrel
    have HBk := Lib.hid hb
    have HBw := Lib.hid hBr
    have hsr := hBr.size
    rw [hzA] at hsr
    obtain ⟨k0, k1⟩ := KK.out _ hBr
    clear hBr hb
    have hki : (k : Int) ≤ (l2 : Int) := by omega
    have HM := Lib.hid (HMEM.out k j hj HBk.out)
    have HC := Lib.hid (C41.out k hk wr.drew (HBA.out _ HBw.out).drew)
    generalize hlf : whL wd hg st hs k = lf at *
    clear hlf
    generalize hrs : trL (whB wd hg st hs k) n = res at *
    have HRS := Lib.hid hrs
    clear hrs
    go_wp2_with fail
    have HRL := Lib.hid (show (trL (whB wd hg st hs k) n).length = res.length from by rw [HRS.out])
    have hkc : (k : Int) ≤ (cap2 : Int) := by have := HCAP.out; omega
    refine wp_region_held_drew (S := fun w' => w'.cell? ⟨w.heap.size, 0, none⟩ = some (.int .i64 wd) ∧ w'.cell? ⟨w.heap.size, 1, none⟩ = some (.int .i64 hg)) (by kernel_rfl) ⟨by simpa [go_sem] using k0, by simpa [go_sem] using k1⟩ (fun hHeld => ?_)
    refine wpAnyH_take (i := 0) (oi := _) (v := Value.agg #[Value.int .i64 wd, Value.int .i64 hg]) rfl (by kernel_rfl) (by kernel_rfl) (by kernel_rfl) (fun _ _ _ h => h) (Or.inl ⟨by rfl, fun w' hSw => ?_⟩) hHeld ?_
    · obtain ⟨t0, t1⟩ := hSw
      go_simp
      try simp [*]
      try (intro hh; exfalso; omega)
      try omega
    try simp only [Act.put, List.setIfInBounds_toArray, List.set_cons_zero, List.set_cons_succ, List.getElem_toArray, List.getElem_cons_succ, List.getElem_cons_zero]
    refine wpAnyH_take (i := 1) (oi := _) (v := Value.slice (some ⟨b1, off1, none⟩) l1 cap) rfl (by kernel_rfl) (by kernel_rfl) (by kernel_rfl) (fun _ _ _ h => h) (Or.inl ⟨by rfl, fun w' hSw => ?_⟩) hHeld ?_
    · obtain ⟨t0, t1⟩ := hSw
      go_simp
      try simp [*]
      try (intro hh; exfalso; omega)
      try omega
    try simp only [Act.put, List.setIfInBounds_toArray, List.set_cons_zero, List.set_cons_succ, List.getElem_toArray, List.getElem_cons_succ, List.getElem_cons_zero]
    refine wpAnyH_take (i := 2) (oi := _) (v := Value.slice a2 l2 cap2) rfl (by kernel_rfl) (by kernel_rfl) (by kernel_rfl) (fun _ _ _ h => h) (Or.inl ⟨by rfl, fun w' hSw => ?_⟩) hHeld ?_
    · obtain ⟨t0, t1⟩ := hSw
      go_simp
      try simp [*]
      try (intro hh; exfalso; omega)
      try omega
    try simp only [Act.put, List.setIfInBounds_toArray, List.set_cons_zero, List.set_cons_succ, List.getElem_toArray, List.getElem_cons_succ, List.getElem_cons_zero]
    refine wpAnyH_take (i := 3) (oi := _) (v := Value.int .i64 k) rfl (by kernel_rfl) (by kernel_rfl) (by kernel_rfl) (fun _ _ _ h => h) (Or.inl ⟨by rfl, fun w' hSw => ?_⟩) hHeld ?_
    · obtain ⟨t0, t1⟩ := hSw
      go_simp
      try simp [*]
      try (intro hh; exfalso; omega)
      try omega
    try simp only [Act.put, List.setIfInBounds_toArray, List.set_cons_zero, List.set_cons_succ, List.getElem_toArray, List.getElem_cons_succ, List.getElem_cons_zero]
    refine wpAnyH_take (i := 4) (oi := _) (v := Value.slice a2 k cap2) rfl (by kernel_rfl) (by kernel_rfl) (by kernel_rfl) (fun _ _ _ h => h) (Or.inl ⟨by rfl, fun w' hSw => ?_⟩) hHeld ?_
    · obtain ⟨t0, t1⟩ := hSw
      go_simp
      try simp [*]
      try (intro hh; exfalso; omega)
      try omega
    try simp only [Act.put, List.setIfInBounds_toArray, List.set_cons_zero, List.set_cons_succ, List.getElem_toArray, List.getElem_cons_succ, List.getElem_cons_zero]
    refine wpAnyH_ready (rs := [5]) (by kernel_rfl) (by simp) ?_
    refine AllReadyH.cons (o := _) rfl (fun K hK => ?_) AllReadyH.nil
    go_simp
    go_at_call 41
    refine Calls.mono HC.out ?_
    rintro e w5 ⟨v5, rfl, hP, hb⟩
    have HBn := Lib.hid (show Below (w.heap.size + 1) A w5 from HBw.out.drew.trans (hb.mono (by simpa using hsr)))
    have HP5 := Lib.hid hP
    obtain ⟨a5, c5, rfl⟩ := hP.form
    obtain ⟨q0, q1⟩ := KK.out _ HBn.out
    clear hb hP HC
    clear hHeld
    refine hK.out _ _ ⟨q0, q1⟩ (fun hHeld => ?_)
    clear hK K
    try simp only [Act.put, List.setIfInBounds_toArray, List.set_cons_zero, List.set_cons_succ, List.getElem_toArray, List.getElem_cons_succ, List.getElem_cons_zero]
    refine wpAnyH_take (i := 6) (oi := _) (v := .tuple #[.slice a5 res.length c5, .bool lf, .int .i64 0]) rfl (by kernel_rfl) (by kernel_rfl) (by kernel_rfl) (fun _ _ _ h => h) (Or.inl ⟨by rfl, fun w' hSw => ?_⟩) hHeld ?_
    · obtain ⟨t0, t1⟩ := hSw
      go_simp
      try simp [*]
      try (intro hh; exfalso; omega)
      try omega
    try simp only [Act.put, List.setIfInBounds_toArray, List.set_cons_zero, List.set_cons_succ, List.getElem_toArray, List.getElem_cons_succ, List.getElem_cons_zero]
    refine wpAnyH_take (i := 7) (oi := _) (v := .slice a5 res.length c5) rfl (by kernel_rfl) (by kernel_rfl) (by kernel_rfl) (fun _ _ _ h => h) (Or.inl ⟨by rfl, fun w' hSw => ?_⟩) hHeld ?_
    · obtain ⟨t0, t1⟩ := hSw
      go_simp
      try simp [*]
      try (intro hh; exfalso; omega)
      try omega
    try simp only [Act.put, List.setIfInBounds_toArray, List.set_cons_zero, List.set_cons_succ, List.getElem_toArray, List.getElem_cons_succ, List.getElem_cons_zero]
    refine wpAnyH_take (i := 8) (oi := _) (v := .bool lf) rfl (by kernel_rfl) (by kernel_rfl) (by kernel_rfl) (fun _ _ _ h => h) (Or.inl ⟨by rfl, fun w' hSw => ?_⟩) hHeld ?_
    · obtain ⟨t0, t1⟩ := hSw
      go_simp
      try simp [*]
      try (intro hh; exfalso; omega)
      try omega
    try simp only [Act.put, List.setIfInBounds_toArray, List.set_cons_zero, List.set_cons_succ, List.getElem_toArray, List.getElem_cons_succ, List.getElem_cons_zero]
    refine wpAnyH_take (i := 9) (oi := _) (v := .int .i64 0) rfl (by kernel_rfl) (by kernel_rfl) (by kernel_rfl) (fun _ _ _ h => h) (Or.inl ⟨by rfl, fun w' hSw => ?_⟩) hHeld ?_
    · obtain ⟨t0, t1⟩ := hSw
      go_simp
      try simp [*]
      try (intro hh; exfalso; omega)
      try omega
    try simp only [Act.put, List.setIfInBounds_toArray, List.set_cons_zero, List.set_cons_succ, List.getElem_toArray, List.getElem_cons_succ, List.getElem_cons_zero]
    refine wpAnyH_take (i := 10) (oi := _) (v := .slice a5 res.length c5) rfl (by kernel_rfl) (by kernel_rfl) (by kernel_rfl) (fun _ _ _ h => h) (Or.inl ⟨by rfl, fun w' hSw => ?_⟩) hHeld ?_
    · obtain ⟨t0, t1⟩ := hSw
      go_simp
      try simp [*]
      try (intro hh; exfalso; omega)
      try omega
    try simp only [Act.put, List.setIfInBounds_toArray, List.set_cons_zero, List.set_cons_succ, List.getElem_toArray, List.getElem_cons_succ, List.getElem_cons_zero]
    refine wpAnyH_take (i := 11) (oi := _) (v := .bool lf) rfl (by kernel_rfl) (by kernel_rfl) (by kernel_rfl) (fun _ _ _ h => h) (Or.inl ⟨by rfl, fun w' hSw => ?_⟩) hHeld ?_
    · obtain ⟨t0, t1⟩ := hSw
      go_simp
      try simp [*]
      try (intro hh; exfalso; omega)
      try omega
    try simp only [Act.put, List.setIfInBounds_toArray, List.set_cons_zero, List.set_cons_succ, List.getElem_toArray, List.getElem_cons_succ, List.getElem_cons_zero]
    refine wpAnyH_take (i := 12) (oi := _) (v := .int .i64 0) rfl (by kernel_rfl) (by kernel_rfl) (by kernel_rfl) (fun _ _ _ h => h) (Or.inl ⟨by rfl, fun w' hSw => ?_⟩) hHeld ?_
    · obtain ⟨t0, t1⟩ := hSw
      go_simp
      try simp [*]
      try (intro hh; exfalso; omega)
      try omega
    try simp only [Act.put, List.setIfInBounds_toArray, List.set_cons_zero, List.set_cons_succ, List.getElem_toArray, List.getElem_cons_succ, List.getElem_cons_zero]
    refine wpAnyH_done (by kernel_rfl) ?_ _
    clear hHeld
    clear k0 k1 q0 q1
    obtain ⟨q0, q1⟩ := KK.out _ HBn.out
    have hrl : res.length ≤ 2147483649 := by rw [← HRL.out]; exact Nat.le_trans (trL_len _ _) (by omega)
    have HGET := Lib.hid HP5.out.get
    obtain ⟨im, him, hgm⟩ := List.getElem_of_mem HM.out
    have HGM := Lib.hid (show res[im]?.getD 0 = (j : Int) by rw [List.getElem?_eq_getElem him, Option.getD_some]; exact hgm)
    clear hgm
    generalize hrl2 : res.length = rl at *
    clear hrl2
    go_wp2_with fail
    go_loopw [19, 20] (fun f i wr => ∃ (m : Nat) (fb : Bool), m ≤ rl ∧ f = .bool fb ∧ i = .int .i64 m ∧ (im < m → fb = true) ∧ wr = w5) (fun _ i _ => rl - (intOf i).toNat)
    case atStart => exact ⟨0, false, Nat.zero_le _, rfl, rfl, fun h => absurd h (Nat.not_lt_zero _), rfl⟩
    case round =>
      obtain ⟨m, fb, hm, rfl, rfl, hfb, hw5⟩ := hrel
      have hw6 := hw5.symm
      subst hw6
      have HFB := Lib.hid hfb
      clear hfb
      by_cases hlt : m < rl
      · have hmi : (m : Int) < (rl : Int) := by omega
        cases fb
        · obtain ⟨b5, off5, rfl, hb5, g5⟩ := HGET.out m hlt
          have HX := Lib.hid (show im = m → (res[m]?.getD 0 == (j : Int)) = true from fun e => by subst e; rw [HGM.out]; simp)
          generalize res[m]?.getD 0 = x at g5 HX
          go_wp2_with fail
          go_roundw
          case rel => exact ⟨m + 1, _, by omega, rfl, by go_num, fun h => (by by_cases e : im = m; (exact HX.out e); (have := HFB.out (by omega); exact absurd this (by decide))), by trivial⟩
          case measure => simp [intOf]; omega
        · go_wp2_with fail
          go_roundw
          case rel => exact ⟨m + 1, true, by omega, rfl, by go_num, fun _ => rfl, by trivial⟩
          case measure => simp [intOf]; omega
      · obtain rfl : m = rl := by omega
        obtain rfl : fb = true := HFB.out him
        clear HGET HGM HP5 HM
        by_cases hkl : k = l2
        · subst hkl
          go_wp2_with fail
          refine (c15.out _ HBn.out).mono ?_
          rintro e w6 ⟨rfl, hb6⟩
          have HB6 := Lib.hid hb6
          clear hb6
          go_wp2_with fail
          go_ret
          exact ⟨rfl, HB6.out⟩
        · have hklt : k < l2 := by omega
          have hkil : (k : Int) < (l2 : Int) := by omega
          have hkne : ((k : Int) == (l2 : Int)) = false := by simp; omega
          obtain ⟨a9, c9, e9, -, hcc⟩ := HH.out
          rw [HL2.out] at e9
          simp only [Value.slice.injEq, true_and] at e9
          obtain ⟨rfl, rfl⟩ := e9
          obtain ⟨bh, offh, s, rfl, hbh, e0, e1, e2, e3, e4, hnm⟩ := hcc k (by rw [HL2.out]; exact hklt)
          have hBAn := HBA.out _ HBn.out
          have m0 := (hBAn.cell (p := ⟨bh, offh + k * 5, none⟩) hbh).trans e0
          have m1 := (hBAn.cell (p := ⟨bh, offh + k * 5 + 1, none⟩) hbh).trans e1
          have m2 := (hBAn.cell (p := ⟨bh, offh + k * 5 + 2, none⟩) hbh).trans e2
          have m3 := (hBAn.cell (p := ⟨bh, offh + k * 5 + 3, none⟩) hbh).trans e3
          have m4 := (hBAn.cell (p := ⟨bh, offh + k * 5 + 4, none⟩) hbh).trans e4
          have HNM := Lib.hid (hnm.mono hBAn (Nat.le_refl _))
          have hse7 := HSE7.out k hklt
          obtain ⟨⟨⟨ge0, ge1, ge2⟩, gn0, gn1, gn2⟩, -⟩ := HSEO.out k hklt
          have HSTk := Lib.hid (HSTEP.out k j)
          have HLEk := Lib.hid (HLEAVE.out k j)
          have HSTP := Lib.hid (fun x y => show StepTo wd (hr hs k) j x y ↔ ∃ e n : Int, (hr hs k).eLo ≤ e ∧ e ≤ (hr hs k).eHi ∧ (hr hs k).nLo ≤ n ∧ n ≤ (hr hs k).nHi ∧ x = (j : Int) % wd + e ∧ y = (j : Int) / wd + n from Iff.rfl)
          generalize StepTo wd (hr hs k) j = STP at *
          obtain ⟨asl, csl, hsef⟩ := hnm.form
          subst hsef
          clear e0 e1 e2 e3 e4 hnm hcc
          generalize hr hs k = H at *
          obtain ⟨s0, s1, hs0, hs1, hcase⟩ : ∃ s0 s1 : Int, (0 ≤ s0 ∧ s0 ≤ 255) ∧ (0 ≤ s1 ∧ s1 ≤ 255) ∧ ((¬ k < l4 ∧ s0 = 0 ∧ s1 = 0) ∨ (k < l4 ∧ ∃ b off, a4 = some ⟨b, off, none⟩ ∧ b < w5.heap.size ∧ w5.cell? ⟨b, off + k * 2, none⟩ = some (.int .u8 s0) ∧ w5.cell? ⟨b, off + k * 2 + 1, none⟩ = some (.int .u8 s1))) := by
            by_cases h4 : k < l4
            · obtain ⟨a8, c8, e8, hc8⟩ := HT.out
              rw [HL4.out] at e8
              simp only [Value.slice.injEq, true_and] at e8
              obtain ⟨rfl, rfl⟩ := e8
              obtain ⟨r1, b8, off8, rfl, hb8, g0, g1⟩ := hc8 k (by rw [HL4.out]; exact h4)
              exact ⟨_, _, r1.1, r1.2, .inr ⟨h4, b8, off8, rfl, Nat.lt_of_lt_of_le hb8 hBAn.size, (hBAn.cell (p := ⟨b8, off8 + k * 2, none⟩) hb8).trans g0, (hBAn.cell (p := ⟨b8, off8 + k * 2 + 1, none⟩) hb8).trans g1⟩⟩
            · exact ⟨0, 0, by omega, by omega, .inl ⟨h4, rfl, rfl⟩⟩
          clear HT HH
          obtain ⟨W6, hW6⟩ : ∃ W6, W6 = (w5.alloc (.cells #[.int .i64 H.eLo, .int .i64 H.eHi, .int .i64 H.nLo, .int .i64 H.nHi, .slice asl H.se.length csl] 81)).alloc (.cells #[.int .u8 s0, .int .u8 s1] 82) := ⟨_, rfl⟩
          have HB6 := Lib.hid (show Below (w.heap.size + 1) A W6 by rw [hW6]; exact (HBn.out.alloc (by have := HBn.out.size; omega) _).alloc (by have := HBn.out.size; simp; omega) _)
          have HB56 := Lib.hid (show Below w5.heap.size w5 W6 by rw [hW6]; exact ((Below.refl _ _).alloc (Nat.le_refl _) _).alloc (by simp) _)
          have r0 : W6.cell? ⟨w5.heap.size, 0, none⟩ = some (.int .i64 H.eLo) := by rw [hW6]; simp [go_sem]
          have r1 : W6.cell? ⟨w5.heap.size, 1, none⟩ = some (.int .i64 H.eHi) := by rw [hW6]; simp [go_sem]
          have r2 : W6.cell? ⟨w5.heap.size, 2, none⟩ = some (.int .i64 H.nLo) := by rw [hW6]; simp [go_sem]
          have r3 : W6.cell? ⟨w5.heap.size, 3, none⟩ = some (.int .i64 H.nHi) := by rw [hW6]; simp [go_sem]
          have r4 : W6.cell? ⟨w5.heap.size, 4, none⟩ = some (.slice asl H.se.length csl) := by rw [hW6]; simp [go_sem]
          have r5 : W6.cell? ⟨w5.heap.size + 1, 0, none⟩ = some (.int .u8 s0) := by rw [hW6]; simp [go_sem]
          have r6 : W6.cell? ⟨w5.heap.size + 1, 1, none⟩ = some (.int .u8 s1) := by rw [hW6]; simp [go_sem]
          obtain ⟨r7, r8⟩ := KK.out _ HB6.out
          have HW6 := Lib.hid hW6
          clear hW6
          have hwd0 : (wd == 0) = false := by simp; omega
          have hjt : (j : Int).tmod wd = (j : Int) % wd := Int.tmod_eq_emod_of_nonneg (by omega)
          have hjd : (j : Int).tdiv wd = (j : Int) / wd := Int.tdiv_eq_ediv_of_nonneg (by omega)
          have hb1' : 0 ≤ (j : Int) % wd ∧ (j : Int) % wd < wd := ⟨Int.emod_nonneg _ (by omega), Int.emod_lt_of_pos _ (by omega)⟩
          have hb2' : 0 ≤ (j : Int) / wd ∧ (j : Int) / wd ≤ 576 := ⟨Int.ediv_nonneg (by omega) (by omega), Int.le_trans (Int.ediv_le_self _ (by omega)) (by omega)⟩
          generalize (j : Int) % wd = jx at *
          generalize (j : Int) / wd = jy at *
          obtain ⟨D0, hD0⟩ : ∃ D0, D0 = H.eHi - H.eLo := ⟨_, rfl⟩
          obtain ⟨D1, hD1⟩ : ∃ D1, D1 = H.nHi - H.nLo := ⟨_, rfl⟩
          obtain ⟨E0, hE0⟩ : ∃ E0, E0 = D0 + 1 := ⟨_, rfl⟩
          obtain ⟨E1, hE1⟩ : ∃ E1, E1 = D1 + 1 := ⟨_, rfl⟩
          have hm0 : 0 ≤ s0.tmod E0 ∧ s0.tmod E0 < E0 := by rw [Int.tmod_eq_emod_of_nonneg hs0.1]; exact ⟨Int.emod_nonneg _ (by omega), Int.emod_lt_of_pos _ (by omega)⟩
          have hm1 : 0 ≤ s1.tmod E1 ∧ s1.tmod E1 < E1 := by rw [Int.tmod_eq_emod_of_nonneg hs1.1]; exact ⟨Int.emod_nonneg _ (by omega), Int.emod_lt_of_pos _ (by omega)⟩
          obtain ⟨sx, hsx⟩ : ∃ sx, s0.tmod E0 = sx := ⟨_, rfl⟩
          obtain ⟨sy, hsy⟩ : ∃ sy, s1.tmod E1 = sy := ⟨_, rfl⟩
          rw [hsx] at hm0
          rw [hsy] at hm1
          obtain ⟨P0, hP0⟩ : ∃ P0, P0 = jx + H.eLo := ⟨_, rfl⟩
          obtain ⟨P1, hP1⟩ : ∃ P1, P1 = jy + H.nLo := ⟨_, rfl⟩
          obtain ⟨x, hx⟩ : ∃ x, x = P0 + sx := ⟨_, rfl⟩
          obtain ⟨y, hy⟩ : ∃ y, y = P1 + sy := ⟨_, rfl⟩
          have HSTEP2 := Lib.hid ((HSTP.out x y).2 ⟨H.eLo + sx, H.nLo + sy, by omega, by omega, by omega, by omega, by omega, by omega⟩)
          have hxr : -4 ≤ x ∧ x ≤ 28 := by omega
          have hyr : -4 ≤ y ∧ y ≤ 600 := by omega
          have u0 : s0 % (H.eHi - H.eLo + 1) = sx := by
            have e : H.eHi - H.eLo + 1 = E0 := by omega
            rw [e, ← Int.tmod_eq_emod_of_nonneg hs0.1]; exact hsx
          have u1 : s1 % (H.nHi - H.nLo + 1) = sy := by
            have e : H.nHi - H.nLo + 1 = E1 := by omega
            rw [e, ← Int.tmod_eq_emod_of_nonneg hs1.1]; exact hsy
          have v0 : wrap64 jx = jx := by unfold wrap64; omega
          have v1 : wrap64 jy = jy := by unfold wrap64; omega
          have v2 : wrap64 (H.eHi - H.eLo) = D0 := by unfold wrap64; omega
          have v3 : wrap64 (H.nHi - H.nLo) = D1 := by unfold wrap64; omega
          have v4 : wrap64 (D0 + 1) = E0 := by unfold wrap64; omega
          have v5 : wrap64 (D1 + 1) = E1 := by unfold wrap64; omega
          have v6 : wrap64 sx = sx := by unfold wrap64; omega
          have v7 : wrap64 sy = sy := by unfold wrap64; omega
          have v8 : wrap64 (jx + H.eLo) = P0 := by unfold wrap64; omega
          have v9 : wrap64 (jy + H.nLo) = P1 := by unfold wrap64; omega
          have v10 : wrap64 (P0 + sx) = x := by unfold wrap64; omega
          have v11 : wrap64 (P1 + sy) = y := by unfold wrap64; omega
          have v12 : wrap64 s0 = s0 := by unfold wrap64; omega
          have v13 : wrap64 s1 = s1 := by unfold wrap64; omega
          have v14 : (E0 == 0) = false := by simp; omega
          have v15 : (E1 == 0) = false := by simp; omega
          have v16 : ¬ E0 = 0 := by omega
          have v17 : ¬ E1 = 0 := by omega
          have v18 : ¬ wd = 0 := by omega
          clear hD0 hD1 hE0 hE1 hm0 hm1 hP0 hP1 hx hy hb1' hb2'
          go_upto_if 109 with fail
          go_cut [] from 106 to 113 (fun wc => wc = W6)
          case first => as_aux_lemma =>
            rcases hcase with ⟨h4, z0, z1⟩ | ⟨h4, b4, off4, rfl, hb4, g0, g1⟩
            · have HW := HW6.out
              rw [z0, z1] at HW
              have hk4 : decide ((k : Int) < (l4 : Int)) = false := decide_eq_false (by omega)
              have hk5 : ¬ (k : Int) < (l4 : Int) := by omega
              go_wp2_with fail
              go_meet
              case rel => exact HW.symm
            · have hBz : Below w5.heap.size w5 ((w5.alloc (.cells #[.int .i64 H.eLo, .int .i64 H.eHi, .int .i64 H.nLo, .int .i64 H.nHi, .slice asl H.se.length csl] 81)).alloc (.cells #[.int .u8 0, .int .u8 0] 82)) := ((Below.refl _ _).alloc (Nat.le_refl _) _).alloc (by simp) _
              have gz0 := (hBz.cell (p := ⟨b4, off4 + k * 2, none⟩) hb4).trans g0
              have gz1 := (hBz.cell (p := ⟨b4, off4 + k * 2 + 1, none⟩) hb4).trans g1
              clear hBz g0 g1
              have hk4 : decide ((k : Int) < (l4 : Int)) = true := decide_eq_true (by omega)
              have hk5 : (k : Int) < (l4 : Int) := by omega
              go_wp2_with fail
              go_meet
              case rel => exact HW6.out.symm
          case rest => as_aux_lemma =>
            have hc2 := hcut.symm
            subst hc2
            clear hcase HW6 m0 m1 m2 m3 m4 hBAn hbh hcut
            have v19 : wrap64 x = x := by unfold wrap64; omega
            have v20 : wrap64 y = y := by unfold wrap64; omega
            go_wp2_with fail
            go_quiet (fail)
            simp only [v8, v9, v10, v11, v19, v20]
            go_wp2_with fail
            go_quiet (fail)
            simp only [v8, v9, v10, v11, v19, v20]
            clear v0 v1 v2 v3 v4 v5 v6 v7 v8 v9 v10 v11 v12 v13 v14 v15 v16 v17 v19 v20 u0 u1 hsx hsy hjt hjd hwd0 ge0 ge1 ge2 gn0 gn1 gn2 hs0 hs1 hki hkil hkne
            go_upto_region 27 with fail
            go_cut [173] from 156 to 172 (fun s173 wc => Says s173 (¬ InA wd hg x y) ∧ ∃ q, wc = W6.drewN q)
            case first => as_aux_lemma =>
              by_cases i1 : x < 0
              · go_wp2_with fail
                go_meet
                case rel => exact ⟨Says.yes (by unfold InA; omega), _, rfl⟩
              by_cases i2 : wd ≤ x
              · go_wp2_with fail
                go_meet
                case rel => exact ⟨Says.yes (by unfold InA; omega), _, rfl⟩
              by_cases i3 : y < 0
              · go_wp2_with fail
                go_meet
                case rel => exact ⟨Says.yes (by unfold InA; omega), _, rfl⟩
              by_cases i4 : hg ≤ y
              · go_wp2_with fail
                go_meet
                case rel => exact ⟨Says.yes (by unfold InA; omega), _, rfl⟩
              go_wp2_with fail
              go_meet
              case rel => exact ⟨Says.no (fun h => h (by unfold InA; omega)), _, rfl⟩
            case rest => as_aux_lemma =>
              obtain ⟨⟨bo, rfl, hbo⟩, q, hq⟩ := hcut
              have hBq : Below (w.heap.size + 1) A wc := by rw [hq]; exact below_drewN HB6.out _
              have p7 : wc.cell? ⟨w.heap.size, 0, none⟩ = some (.int .i64 wd) := by rw [hq]; exact r7
              have p8 : wc.cell? ⟨w.heap.size, 1, none⟩ = some (.int .i64 hg) := by rw [hq]; exact r8
              have p4 : wc.cell? ⟨w5.heap.size, 4, none⟩ = some (.slice asl H.se.length csl) := by rw [hq]; exact r4
              have hzn : w.heap.size ≤ w5.heap.size := (HBA.out _ HBn.out).size
              have hq5 : Below w.heap.size w5 W6 := HB56.out.mono hzn
              have hq6 : Below w.heap.size w5 wc := by rw [hq]; exact below_drewN hq5 _
              have hq7 : w.heap.size ≤ wc.heap.size := Nat.le_trans hzn hq6.size
              have HNq := Lib.hid (show Nums wc.heap.size wc (.slice asl H.se.length csl) H.se from Nums.mono HNM.out hq6 hq7)
              clear hq5 hq6 hq7 hzn
              have HBq := Lib.hid hBq
              clear r0 r1 r2 r3 r4 r5 r6 r7 r8 hq hBq HNM HB56 HB6
              by_cases hin : InA wd hg x y
              · obtain rfl : bo = false := by cases bo; rfl; exact absurd hin (hbo.1 rfl)
                clear hbo
                obtain ⟨hci0, hci1⟩ := cell_in hn' hin
                obtain ⟨mm, hmm⟩ : ∃ mm : Nat, y * wd + x = (mm : Int) := ⟨(y * wd + x).toNat, by omega⟩
                have HNX := Lib.hid (fun h4 => HSTk.out mm x y hj HBk.out HSTEP2.out hin hmm h4)
                obtain ⟨Pr, hPr⟩ : ∃ Pr, Pr = y * wd := ⟨_, rfl⟩
                rw [← hPr] at hci0 hci1 hmm
                have w1 : wrap64 (y * wd) = Pr := by rw [← hPr]; unfold wrap64; omega
                have w2 : wrap64 (Pr + x) = (mm : Int) := by rw [hmm]; unfold wrap64; omega
                have HGT := Lib.hid HNq.out.get
                have HMM := Lib.hid (show (∀ r, r < H.se.length → (H.se[r]?.getD 0 == (mm : Int)) = false) → (mm : Int) ∉ H.se from fun g hmem => by
                  obtain ⟨r, hr, e⟩ := List.getElem_of_mem hmem
                  have q := g r hr
                  rw [List.getElem?_eq_getElem hr, Option.getD_some, e] at q
                  simp at q)
                have hseL : H.se.length ≤ 2147483649 := by omega
                generalize hsl : H.se.length = sl at *
                clear hin hci0 hci1 hPr hmm hsl HNq HSTk HLEk HSTEP2 HSTP
                go_wp2_with fail
                go_loopw [28] (fun i wr => ∃ q : Nat, q ≤ sl ∧ i = .int .i64 q ∧ (∀ r, r < q → (H.se[r]?.getD 0 == (mm : Int)) = false) ∧ wr = wc) (fun i _ => sl - (intOf i).toNat)
                case atStart => exact ⟨0, Nat.zero_le _, rfl, fun r h => absurd h (Nat.not_lt_zero _), rfl⟩
                case round =>
                  obtain ⟨q, hq, rfl, hne, hwr⟩ := hrel
                  have hwr2 := hwr.symm
                  subst hwr2
                  have HNE := Lib.hid hne
                  clear hne
                  by_cases hlt2 : q < sl
                  · have hqi : (q : Int) < (sl : Int) := by omega
                    obtain ⟨b7, off7, rfl, hb7, g7⟩ := HGT.out q hlt2
                    cases heq : (H.se[q]?.getD 0 == (mm : Int))
                    · have HEQ := Lib.hid heq
                      generalize H.se[q]?.getD 0 = xv at g7 heq
                      go_wp2_with fail
                      go_roundw
                      case rel => exact ⟨q + 1, by omega, by go_num, fun r hr => (by by_cases e : r = q; (subst e; exact HEQ.out); exact HNE.out r (by omega)), by trivial⟩
                      case measure => simp [intOf]; omega
                    · generalize H.se[q]?.getD 0 = xv at g7 heq
                      go_wp2_with fail
                      refine (c15.out _ HBq.out).mono ?_
                      rintro e w9 ⟨rfl, hb9⟩
                      have HB9 := Lib.hid hb9
                      clear hb9
                      go_wp2_with fail
                      go_ret
                      exact ⟨rfl, HB9.out⟩
                  · obtain rfl : q = sl := by omega
                    obtain ⟨hm1, hm2⟩ := HNX.out (HMM.out HNE.out)
                    go_wp2_with fail
                    go_roundw
                    case rel => exact ⟨k + 1, mm, by omega, by go_num, by go_num, hm1, hm2, HBq.out⟩
                    case measure => simp [intOf]; omega
              · obtain rfl : bo = true := hbo.2 hin
                clear hbo
                have hl := HLEk.out x y hj HBk.out HSTEP2.out hin
                have hc3 := C41.out (k + 1) (by omega)
                rw [hl] at hc3
                have HC2 := Lib.hid hc3
                have hkw : IntKind.i64.wrap ((k : Int) + 1) = (k : Int) + 1 := by rw [IntKind.wrap_i64]; omega
                have hkc1 : (k : Int) + 1 ≤ (cap2 : Int) := by have := HCAP.out; omega
                have hqs := HBq.out.size
                generalize (trL (whB wd hg st hs (k + 1)) n) = res2 at *
                clear hin hl hc3 HNq HSTk HLEk HSTEP2 HSTP
                go_wp2_with fail
                refine wp_region_held_drew (S := fun w' => w'.cell? ⟨w.heap.size, 0, none⟩ = some (.int .i64 wd) ∧ w'.cell? ⟨w.heap.size, 1, none⟩ = some (.int .i64 hg)) (by kernel_rfl) ⟨by simpa [go_sem] using p7, by simpa [go_sem] using p8⟩ (fun hHeld => ?_)
                refine wpAnyH_take (i := 0) (oi := _) (v := Value.agg #[Value.int .i64 wd, Value.int .i64 hg]) rfl (by kernel_rfl) (by kernel_rfl) (by kernel_rfl) (fun _ _ _ h => h) (Or.inl ⟨by rfl, fun w' hSw => ?_⟩) hHeld ?_
                · obtain ⟨t0, t1⟩ := hSw
                  go_simp
                  try simp [*]
                  try (intro hh; exfalso; omega)
                  try omega
                try simp only [Act.put, List.setIfInBounds_toArray, List.set_cons_zero, List.set_cons_succ, List.getElem_toArray, List.getElem_cons_succ, List.getElem_cons_zero]
                refine wpAnyH_take (i := 1) (oi := _) (v := Value.slice (some ⟨b1, off1, none⟩) l1 cap) rfl (by kernel_rfl) (by kernel_rfl) (by kernel_rfl) (fun _ _ _ h => h) (Or.inl ⟨by rfl, fun w' hSw => ?_⟩) hHeld ?_
                · obtain ⟨t0, t1⟩ := hSw
                  go_simp
                  try simp [*]
                  try (intro hh; exfalso; omega)
                  try omega
                try simp only [Act.put, List.setIfInBounds_toArray, List.set_cons_zero, List.set_cons_succ, List.getElem_toArray, List.getElem_cons_succ, List.getElem_cons_zero]
                refine wpAnyH_take (i := 2) (oi := _) (v := Value.slice (some ⟨bh, offh, none⟩) l2 cap2) rfl (by kernel_rfl) (by kernel_rfl) (by kernel_rfl) (fun _ _ _ h => h) (Or.inl ⟨by rfl, fun w' hSw => ?_⟩) hHeld ?_
                · obtain ⟨t0, t1⟩ := hSw
                  go_simp
                  try simp [*]
                  try (intro hh; exfalso; omega)
                  try omega
                try simp only [Act.put, List.setIfInBounds_toArray, List.set_cons_zero, List.set_cons_succ, List.getElem_toArray, List.getElem_cons_succ, List.getElem_cons_zero]
                refine wpAnyH_take (i := 3) (oi := _) (v := Value.int .i64 k) rfl (by kernel_rfl) (by kernel_rfl) (by kernel_rfl) (fun _ _ _ h => h) (Or.inl ⟨by rfl, fun w' hSw => ?_⟩) hHeld ?_
                · obtain ⟨t0, t1⟩ := hSw
                  go_simp
                  try simp [*]
                  try (intro hh; exfalso; omega)
                  try omega
                try simp only [Act.put, List.setIfInBounds_toArray, List.set_cons_zero, List.set_cons_succ, List.getElem_toArray, List.getElem_cons_succ, List.getElem_cons_zero]
                refine wpAnyH_take (i := 4) (oi := _) (v := Value.int .i64 ((k : Int) + 1)) rfl (by kernel_rfl) (by kernel_rfl) (by kernel_rfl) (fun _ _ _ h => h) (Or.inl ⟨by rfl, fun w' hSw => ?_⟩) hHeld ?_
                · obtain ⟨t0, t1⟩ := hSw
                  go_simp
                  try simp [*]
                  try (intro hh; exfalso; omega)
                  try omega
                try simp only [Act.put, List.setIfInBounds_toArray, List.set_cons_zero, List.set_cons_succ, List.getElem_toArray, List.getElem_cons_succ, List.getElem_cons_zero]
                refine wpAnyH_take (i := 5) (oi := _) (v := Value.slice (some ⟨bh, offh, none⟩) (k + 1) cap2) rfl (by kernel_rfl) (by kernel_rfl) (by kernel_rfl) (fun _ _ _ h => h) (Or.inl ⟨by rfl, fun w' hSw => ?_⟩) hHeld ?_
                · obtain ⟨t0, t1⟩ := hSw
                  go_simp
                  try simp [*]
                  try (intro hh; exfalso; omega)
                  try omega
                try simp only [Act.put, List.setIfInBounds_toArray, List.set_cons_zero, List.set_cons_succ, List.getElem_toArray, List.getElem_cons_succ, List.getElem_cons_zero]
                refine wpAnyH_ready (rs := [6]) (by kernel_rfl) (by simp) ?_
                refine AllReadyH.cons (o := _) rfl (fun K hK => ?_) AllReadyH.nil
                go_simp
                go_at_call 41
                refine Calls.mono (HC2.out _ (HBA.out _ HBq.out.drew)) ?_
                rintro e w8 ⟨v8, rfl, hP, hb⟩
                have HB8 := Lib.hid (show Below (w.heap.size + 1) A w8 from HBq.out.drew.trans (hb.mono (by rw [hzA] at hqs; simpa using hqs)))
                obtain ⟨a8, c8, rfl⟩ := hP.form
                obtain ⟨u0, u1⟩ := KK.out _ HB8.out
                clear hb hP
                clear hHeld
                refine hK.out _ _ ⟨u0, u1⟩ (fun hHeld => ?_)
                clear hK K
                try simp only [Act.put, List.setIfInBounds_toArray, List.set_cons_zero, List.set_cons_succ, List.getElem_toArray, List.getElem_cons_succ, List.getElem_cons_zero]
                refine wpAnyH_take (i := 7) (oi := _) (v := .tuple #[.slice a8 res2.length c8, .bool true, .int .i64 0]) rfl (by kernel_rfl) (by kernel_rfl) (by kernel_rfl) (fun _ _ _ h => h) (Or.inl ⟨by rfl, fun w' hSw => ?_⟩) hHeld ?_
                · obtain ⟨t0, t1⟩ := hSw
                  go_simp
                  try simp [*]
                  try (intro hh; exfalso; omega)
                  try omega
                try simp only [Act.put, List.setIfInBounds_toArray, List.set_cons_zero, List.set_cons_succ, List.getElem_toArray, List.getElem_cons_succ, List.getElem_cons_zero]
                refine wpAnyH_take (i := 8) (oi := _) (v := .slice a8 res2.length c8) rfl (by kernel_rfl) (by kernel_rfl) (by kernel_rfl) (fun _ _ _ h => h) (Or.inl ⟨by rfl, fun w' hSw => ?_⟩) hHeld ?_
                · obtain ⟨t0, t1⟩ := hSw
                  go_simp
                  try simp [*]
                  try (intro hh; exfalso; omega)
                  try omega
                try simp only [Act.put, List.setIfInBounds_toArray, List.set_cons_zero, List.set_cons_succ, List.getElem_toArray, List.getElem_cons_succ, List.getElem_cons_zero]
                refine wpAnyH_take (i := 9) (oi := _) (v := .bool true) rfl (by kernel_rfl) (by kernel_rfl) (by kernel_rfl) (fun _ _ _ h => h) (Or.inl ⟨by rfl, fun w' hSw => ?_⟩) hHeld ?_
                · obtain ⟨t0, t1⟩ := hSw
                  go_simp
                  try simp [*]
                  try (intro hh; exfalso; omega)
                  try omega
                try simp only [Act.put, List.setIfInBounds_toArray, List.set_cons_zero, List.set_cons_succ, List.getElem_toArray, List.getElem_cons_succ, List.getElem_cons_zero]
                refine wpAnyH_take (i := 10) (oi := _) (v := .int .i64 0) rfl (by kernel_rfl) (by kernel_rfl) (by kernel_rfl) (fun _ _ _ h => h) (Or.inl ⟨by rfl, fun w' hSw => ?_⟩) hHeld ?_
                · obtain ⟨t0, t1⟩ := hSw
                  go_simp
                  try simp [*]
                  try (intro hh; exfalso; omega)
                  try omega
                try simp only [Act.put, List.setIfInBounds_toArray, List.set_cons_zero, List.set_cons_succ, List.getElem_toArray, List.getElem_cons_succ, List.getElem_cons_zero]
                refine wpAnyH_take (i := 11) (oi := _) (v := .slice a8 res2.length c8) rfl (by kernel_rfl) (by kernel_rfl) (by kernel_rfl) (fun _ _ _ h => h) (Or.inl ⟨by rfl, fun w' hSw => ?_⟩) hHeld ?_
                · obtain ⟨t0, t1⟩ := hSw
                  go_simp
                  try simp [*]
                  try (intro hh; exfalso; omega)
                  try omega
                try simp only [Act.put, List.setIfInBounds_toArray, List.set_cons_zero, List.set_cons_succ, List.getElem_toArray, List.getElem_cons_succ, List.getElem_cons_zero]
                refine wpAnyH_take (i := 12) (oi := _) (v := .bool true) rfl (by kernel_rfl) (by kernel_rfl) (by kernel_rfl) (fun _ _ _ h => h) (Or.inl ⟨by rfl, fun w' hSw => ?_⟩) hHeld ?_
                · obtain ⟨t0, t1⟩ := hSw
                  go_simp
                  try simp [*]
                  try (intro hh; exfalso; omega)
                  try omega
                try simp only [Act.put, List.setIfInBounds_toArray, List.set_cons_zero, List.set_cons_succ, List.getElem_toArray, List.getElem_cons_succ, List.getElem_cons_zero]
                refine wpAnyH_take (i := 13) (oi := _) (v := .int .i64 0) rfl (by kernel_rfl) (by kernel_rfl) (by kernel_rfl) (fun _ _ _ h => h) (Or.inl ⟨by rfl, fun w' hSw => ?_⟩) hHeld ?_
                · obtain ⟨t0, t1⟩ := hSw
                  go_simp
                  try simp [*]
                  try (intro hh; exfalso; omega)
                  try omega
                try simp only [Act.put, List.setIfInBounds_toArray, List.set_cons_zero, List.set_cons_succ, List.getElem_toArray, List.getElem_cons_succ, List.getElem_cons_zero]
                refine wpAnyH_done (by kernel_rfl) ?_ _
                clear hHeld
                clear u0 u1 p7 p8
                obtain ⟨p7, p8⟩ := KK.out _ HB8.out
                go_wp2_with fail
                refine (c15.out _ HB8.out).mono ?_
                rintro e w9 ⟨rfl, hb9⟩
                have HB9 := Lib.hid hb9
                clear hb9
                go_wp2_with fail
                go_ret
                exact ⟨rfl, HB9.out⟩
end Go.Proofs.Ythogahdnidjelaa

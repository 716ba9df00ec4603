/-
  Cables: Share.
-/
import Derived.Test.YtdohfpnnmppdkaaShF
import Derived.Test.YtdohfpnnmppdkaaCcC
namespace Go.Proofs.Ytdohfpnnmppdkaa
open Go.RowKit Go.Shelf
set_option linter.unusedSimpArgs false
attribute [local go_sem] Oper.semAt_some
set_option maxHeartbeats 2000000 in
theorem upTo_all (v : Value) (zs : List Int) (most : Int) (w : World) (hI : Il w.heap.size w v zs) (hl : zs.length ≤ 1000) :
    Calls Try.prog 121 #[v, .int .i64 most] w fun e w' => e = .returned (.bool (decide (∀ k, k < zs.length → 0 ≤ ti zs k ∧ ti zs k ≤ most))) ∧ w' = w := by
  obtain ⟨a, cap, rfl, -, hc⟩ := hI
  have HC := Lib.hid hc
  have HY := Lib.hid (show ∀ k, k < zs.length → ¬ (0 ≤ ti zs k ∧ ti zs k ≤ most) → decide (∀ k, k < zs.length → 0 ≤ ti zs k ∧ ti zs k ≤ most) = false from fun k hk e => decide_eq_false fun h => e (h k hk))
  have HN := Lib.hid (show (∀ k, k < zs.length → 0 ≤ ti zs k ∧ ti zs k ≤ most) → decide (∀ k, k < zs.length → 0 ≤ ti zs k ∧ ti zs k ≤ most) = true from fun h => decide_eq_true h)
  generalize decide (∀ k, k < zs.length → 0 ≤ ti zs k ∧ ti zs k ≤ most) = M at *
  generalize hn : zs.length = n at *
  clear hc hn
  go_enter Try.func121, Try.ntmps121
  go_wp2_with fail
  go_loop [9] (fun iv => ∃ k : Nat, k ≤ n ∧ iv = .int .i64 k ∧ (∀ j, j < k → 0 ≤ ti zs j ∧ ti zs j ≤ most)) (fun iv => n - (intOf iv).toNat)
  case atStart => exact ⟨0, Nat.zero_le _, rfl, fun j hj => absurd hj (Nat.not_lt_zero _)⟩
  case round =>
    obtain ⟨k, hk, rfl, hv⟩ := hrel
    have HV := Lib.hid hv
    clear hv
    by_cases hlt : k < n
    · obtain ⟨b, off, rfl, hb, c0⟩ := HC.out k hlt
      have hki : (k : Int) < (n : Int) := by omega
      by_cases he : 0 ≤ ti zs k ∧ ti zs k ≤ most
      rotate_left
      · have hM := HY.out k hlt he
        subst hM
        have c1 := fun W => withinL (ti zs k) 0 most W
        rw [decide_eq_false he] at c1
        generalize ti zs k = t at *
        clear he
        go_wp2_with fail
        refine (c1 _).mono ?_
        rintro e w1 ⟨rfl, rfl⟩
        go_wp2_with fail
        go_ret
        exact ⟨rfl, rfl⟩
      · have c1 := fun W => withinL (ti zs k) 0 most W
        rw [decide_eq_true he] at c1
        have HX := Lib.hid (show ∀ j, j < k + 1 → 0 ≤ ti zs j ∧ ti zs j ≤ most from fun j hj => by
          rcases (show j < k ∨ j = k by omega) with h | h
          · exact HV.out j h
          · rw [h]; exact he)
        generalize ti zs k = t at *
        clear he
        go_wp2_with fail
        refine (c1 _).mono ?_
        rintro e w1 ⟨rfl, rfl⟩
        go_wp2_with fail
        go_round
        case rel => exact ⟨k + 1, by omega, by go_num, HX.out⟩
        case measure => simp [intOf]; omega
    · obtain rfl : k = n := by omega
      have hM := HN.out HV.out
      subst hM
      go_wp2_with fail
      go_ret
      exact ⟨rfl, rfl⟩
/-- the error of Share -/
noncomputable def shaE (sl sh : Int) (ns : List Nd) (rs ks : List Int) : Int := if cabE sl sh ns ≠ 0 then cabE sl sh ns else if rs.length ≠ ns.length then 17 else if ks.length ≠ ns.length then 17 else if ∀ k, k < rs.length → 0 ≤ ti rs k ∧ ti rs k ≤ 65536 then 0 else 3
/-- a list of numbers or nothing -/
def NumR (E : Int) (f : Nat → Int) (n : Nat) (w : World) (e : Ending) (w' : World) : Prop := ∃ v, e = .returned (.tuple #[v, .int .i64 E]) ∧ (if E = 0 then Il w'.heap.size w' v (fL f n) else v = .slice none 0 0) ∧ Below w.heap.size w w'
theorem il_of_row {W : World} {g n : Nat} {f : Nat → Int} (h : RowC W g 2 n (fun j => .int .i64 (f j))) : Il W.heap.size W (.slice (some ⟨g, 0, none⟩) n n) (fL f n) :=
  ⟨some ⟨g, 0, none⟩, n, by rw [fL_len], by rw [fL_len]; exact Nat.le_refl _, fun k hk => ⟨g, 0, rfl, h.lt, by rw [fL_len] at hk; rw [Nat.zero_add, fL_ti f hk]; exact h.cell hk⟩⟩
set_option maxRecDepth 100000 in
set_option maxHeartbeats 8000000 in
theorem share57_bad (sl sh : Int) (sv qv kv : Value) (ns : List Nd) (rs ks : List Int) (w : World) (hr : rs.length ≤ 1000) (hN : Nds w.heap.size w sv ns) (hQ : Il w.heap.size w qv rs) (hK : Il w.heap.size w kv ks) (hE : shaE sl sh ns rs ks ≠ 0) :
    Calls Try.prog 57 #[.agg #[.int .i64 sl, .int .i64 sh, sv], qv, kv] w fun e w' => e = .returned (.tuple #[.slice none 0 0, .int .i64 (shaE sl sh ns rs ks)]) ∧ Below w.heap.size w w' := by
  have c1 := Lib.hid (fun W (h : Below w.heap.size w W) => check25 sl sh sv ns W (hN.at h))
  have c2 := Lib.hid (fun W (h : Below w.heap.size w W) => upTo_all qv rs 65536 W (hQ.at h) hr)
  obtain ⟨E, hEE⟩ : ∃ E, E = shaE sl sh ns rs ks := ⟨_, rfl⟩
  rw [← hEE] at hE ⊢
  obtain ⟨a, cap, hsv⟩ := hN.form
  subst hsv
  obtain ⟨qa, qc, rfl⟩ := hQ.form
  obtain ⟨ka, kc, rfl⟩ := hK.form
  clear hN hQ hK
  obtain ⟨M, hM⟩ : ∃ M, M = decide (∀ k, k < rs.length → 0 ≤ ti rs k ∧ ti rs k ≤ 65536) := ⟨_, rfl⟩
  have h1 : cabE sl sh ns ≠ 0 → E = cabE sl sh ns := fun h => by rw [hEE]; unfold shaE; rw [if_pos h]
  have h2 : cabE sl sh ns = 0 → rs.length ≠ ns.length → E = 17 := fun h h' => by rw [hEE]; unfold shaE; rw [if_neg (by simpa using h), if_pos h']
  have h3 : cabE sl sh ns = 0 → rs.length = ns.length → ks.length ≠ ns.length → E = 17 := fun h h' h'' => by rw [hEE]; unfold shaE; rw [if_neg (by simpa using h), if_neg (by simpa using h'), if_pos h'']
  have h4 : cabE sl sh ns = 0 → rs.length = ns.length → ks.length = ns.length → M = false ∧ E = 3 := fun h h' h'' => by
    have q : E = if ∀ k, k < rs.length → 0 ≤ ti rs k ∧ ti rs k ≤ 65536 then 0 else 3 := by rw [hEE]; unfold shaE; rw [if_neg (by simpa using h), if_neg (by simpa using h'), if_neg (by simpa using h'')]
    by_cases hc : ∀ k, k < rs.length → 0 ≤ ti rs k ∧ ti rs k ≤ 65536
    · rw [if_pos hc] at q; exact absurd q hE
    · rw [if_neg hc] at q; exact ⟨by rw [hM]; exact decide_eq_false hc, q⟩
  rw [← hM] at c2
  clear hM hEE
  generalize cabE sl sh ns = F at *
  generalize ns.length = n at *
  generalize rs.length = rn at *
  generalize ks.length = kn at *
  have H1 := Lib.hid h1
  have H2 := Lib.hid h2
  have H3 := Lib.hid h3
  have H4 := Lib.hid h4
  clear h1 h2 h3 h4 hr
  obtain ⟨A, hA⟩ : ∃ A, A = w.alloc (.cells #[.int .i64 sl, .int .i64 sh, .slice a n cap] 26) := ⟨_, rfl⟩
  have HBA := Lib.hid (show Below w.heap.size w A by rw [hA]; exact ((Below.refl _ _).alloc (Nat.le_refl _) _))
  have hltA : w.heap.size < A.heap.size := by rw [hA]; simp
  have q0 : A.cell? ⟨w.heap.size, 0, none⟩ = some (.int .i64 sl) := by rw [hA]; exact (cellHB (World.alloc_heap_new w _) 0).trans (by simp)
  have q1 : A.cell? ⟨w.heap.size, 1, none⟩ = some (.int .i64 sh) := by rw [hA]; exact (cellHB (World.alloc_heap_new w _) 1).trans (by simp)
  have q2 : A.cell? ⟨w.heap.size, 2, none⟩ = some (.slice a n cap) := by rw [hA]; exact (cellHB (World.alloc_heap_new w _) 2).trans (by simp)
  have KK := Lib.hid (show ∀ W, Below A.heap.size A W → W.cell? ⟨w.heap.size, 0, none⟩ = some (.int .i64 sl) ∧ W.cell? ⟨w.heap.size, 1, none⟩ = some (.int .i64 sh) ∧ W.cell? ⟨w.heap.size, 2, none⟩ = some (.slice a n cap) from fun W h => ⟨(h.cell (p := ⟨w.heap.size, 0, none⟩) hltA).trans q0, (h.cell (p := ⟨w.heap.size, 1, none⟩) hltA).trans q1, (h.cell (p := ⟨w.heap.size, 2, none⟩) hltA).trans q2⟩)
  clear hltA q0 q1 q2
  obtain ⟨k0, k1, k2⟩ := KK.out _ (Below.refl _ _)
  go_enter Try.func57, Try.ntmps57
  go_upto_region 1 with fail
  rw [← hA]
  clear hA
  go_wp2_with fail
  refine (c1.out _ HBA.out).mono ?_
  rintro e w1 ⟨rfl, hb⟩
  have HB1 := Lib.hid hb
  clear hb k0 k1 k2
  obtain ⟨k0, k1, k2⟩ := KK.out _ HB1.out
  by_cases hF : F = 0
  · by_cases ha : rn = n
    · by_cases hb : kn = n
      · obtain ⟨rfl, hE3⟩ := H4.out hF ha hb
        subst hF ha hb hE3
        clear H1 H2 H3 H4 hE
        go_wp2_with fail
        refine (c2.out _ (HBA.out.trans (HB1.out.mono HBA.out.size))).mono ?_
        rintro e w2 ⟨rfl, rfl⟩
        go_wp2_with fail
        go_ret2
        exact ⟨rfl, HBA.out.trans (HB1.out.mono HBA.out.size)⟩
      · have hE3 := H3.out hF ha hb
        subst hF ha hE3
        clear H1 H2 H3 H4 hE c2
        have hb' : ((kn : Int) != (rn : Int)) = true := by simpa using (show ¬ (kn : Int) = (rn : Int) by omega)
        go_wp2_with fail
        go_ret2
        exact ⟨rfl, HBA.out.trans (HB1.out.mono HBA.out.size)⟩
    · have hE3 := H2.out hF ha
      subst hF hE3
      clear H1 H2 H3 H4 hE c2
      have hb' : ((rn : Int) != (n : Int)) = true := by simpa using (show ¬ (rn : Int) = (n : Int) by omega)
      go_wp2_with fail
      go_ret2
      exact ⟨rfl, HBA.out.trans (HB1.out.mono HBA.out.size)⟩
  · have hE3 := H1.out hF
    subst hE3
    clear H1 H2 H3 H4 c2
    have hF' : (E != 0) = true := by simpa using hF
    go_wp2_with fail
    go_ret2
    exact ⟨rfl, HBA.out.trans (HB1.out.mono HBA.out.size)⟩
theorem shaE_ok {sl sh : Int} {ns : List Nd} {rs ks : List Int} (h : shaE sl sh ns rs ks = 0) : ValidC sl sh ns ∧ rs.length = ns.length ∧ ks.length = ns.length ∧ ∀ k, 0 ≤ ti rs k ∧ ti rs k ≤ 65536 := by
  unfold shaE at h
  by_cases h1 : cabE sl sh ns = 0
  · rw [if_neg (by simpa using h1)] at h
    by_cases h2 : rs.length = ns.length
    · rw [if_neg (by simpa using h2)] at h
      by_cases h3 : ks.length = ns.length
      · rw [if_neg (by simpa using h3)] at h
        refine ⟨cabE_ok h1, h2, h3, fun k => ?_⟩
        by_cases hc : ∀ k, k < rs.length → 0 ≤ ti rs k ∧ ti rs k ≤ 65536
        · by_cases hk : k < rs.length
          · exact hc k hk
          · unfold ti; rw [List.getElem?_eq_none (by omega)]; decide
        · rw [if_neg hc] at h; omega
      · rw [if_pos h3] at h; omega
    · rw [if_pos h2] at h; omega
  · rw [if_pos h1] at h; exact absurd h h1
theorem shaE_of {sl sh : Int} {ns : List Nd} {rs ks : List Int} (hv : ValidC sl sh ns) (h1 : rs.length = ns.length) (h2 : ks.length = ns.length) (h3 : ∀ k, 0 ≤ ti rs k ∧ ti rs k ≤ 65536) : shaE sl sh ns rs ks = 0 := by
  unfold shaE
  rw [if_neg (by simpa using hv.err), if_neg (by simpa using h1), if_neg (by simpa using h2), if_pos fun k _ => h3 k]
set_option maxRecDepth 100000 in
set_option maxHeartbeats 8000000 in
theorem share57_ok (sl sh : Int) (sv qv kv : Value) (ns : List Nd) (rs ks : List Int) (w : World) (hN : Nds w.heap.size w sv ns) (hQ : Il w.heap.size w qv rs) (hK : Il w.heap.size w kv ks) (hE : shaE sl sh ns rs ks = 0) :
    Calls Try.prog 57 #[.agg #[.int .i64 sl, .int .i64 sh, sv], qv, kv] w fun e w' => ∃ v, e = .returned (.tuple #[v, .int .i64 0]) ∧ Il w'.heap.size w' v (fL (fun j => (shF (par ns) (limF ns) (ti rs) (ordO (ti ks) ns.length)).2 j) ns.length) ∧ Below w.heap.size w w' := by
  obtain ⟨hv, hrl, hkl, hrb⟩ := shaE_ok hE
  have hn := hv.len
  have c1 := Lib.hid (fun W (h : Below w.heap.size w W) => check25 sl sh sv ns W (hN.at h))
  rw [hv.err] at c1
  have c2 := Lib.hid (fun W (h : Below w.heap.size w W) => upTo_all qv rs 65536 W (hQ.at h) (by omega))
  rw [show decide (∀ k, k < rs.length → 0 ≤ ti rs k ∧ ti rs k ≤ 65536) = true from decide_eq_true fun k _ => hrb k] at c2
  have c3 := Lib.hid (fun W (h : Below w.heap.size w W) => turns_any kv ks ns.length hkl hv.pos (by omega) W (hK.at h))
  have c4 := Lib.hid (show ∀ W ov od, Below w.heap.size w W → Turn (ti ks) ns.length od → W.ownsRow w.heap.size 3 1 ov ns.length (flatN od) → Calls Try.prog 122 #[.agg #[.int .i64 sl, .int .i64 sh, sv], qv, ov] W fun e w' => ∃ v, e = .returned v ∧ Il w'.heap.size w' v (fL (fun j => (shF (par ns) (limF ns) (ti rs) (ordO (ti ks) ns.length)).2 j) ns.length) ∧ Below W.heap.size W w' from fun W ov od h hT ho => by
    rw [← hT.len] at ho
    refine (share_any sl sh sv qv ov ns rs od (ti ks) hv hrl hrb hT W (hN.at h) (hQ.at h) (il_of_own ho)).mono fun e w' hp => ?_
    obtain ⟨g, he, hR, -, hb⟩ := hp
    rw [hT.one (ordO_turn (ti ks) ns.length)] at hR
    exact ⟨_, he, il_of_row hR, hb⟩)
  obtain ⟨a, cap, hsv⟩ := hN.form
  subst hsv
  obtain ⟨qa, qc, rfl⟩ := hQ.form
  obtain ⟨ka, kc, rfl⟩ := hK.form
  rw [hrl, hkl] at *
  clear hN hQ hK hv hrl hkl hrb hE hn
  generalize fL (fun j => (shF (par ns) (limF ns) (ti rs) (ordO (ti ks) ns.length)).2 j) ns.length = RES at *
  generalize ns.length = n at *
  obtain ⟨A, hA⟩ : ∃ A, A = w.alloc (.cells #[.int .i64 sl, .int .i64 sh, .slice a n cap] 26) := ⟨_, rfl⟩
  have HBA := Lib.hid (show Below w.heap.size w A by rw [hA]; exact ((Below.refl _ _).alloc (Nat.le_refl _) _))
  have hltA : w.heap.size < A.heap.size := by rw [hA]; simp
  have q0 : A.cell? ⟨w.heap.size, 0, none⟩ = some (.int .i64 sl) := by rw [hA]; exact (cellHB (World.alloc_heap_new w _) 0).trans (by simp)
  have q1 : A.cell? ⟨w.heap.size, 1, none⟩ = some (.int .i64 sh) := by rw [hA]; exact (cellHB (World.alloc_heap_new w _) 1).trans (by simp)
  have q2 : A.cell? ⟨w.heap.size, 2, none⟩ = some (.slice a n cap) := by rw [hA]; exact (cellHB (World.alloc_heap_new w _) 2).trans (by simp)
  have KK := Lib.hid (show ∀ W, Below A.heap.size A W → W.cell? ⟨w.heap.size, 0, none⟩ = some (.int .i64 sl) ∧ W.cell? ⟨w.heap.size, 1, none⟩ = some (.int .i64 sh) ∧ W.cell? ⟨w.heap.size, 2, none⟩ = some (.slice a n cap) from fun W h => ⟨(h.cell (p := ⟨w.heap.size, 0, none⟩) hltA).trans q0, (h.cell (p := ⟨w.heap.size, 1, none⟩) hltA).trans q1, (h.cell (p := ⟨w.heap.size, 2, none⟩) hltA).trans q2⟩)
  clear hltA q0 q1 q2
  obtain ⟨k0, k1, k2⟩ := KK.out _ (Below.refl _ _)
  go_enter Try.func57, Try.ntmps57
  go_upto_region 1 with fail
  rw [← hA]
  clear hA
  go_wp2_with fail
  refine (c1.out _ HBA.out).mono ?_
  rintro e w1 ⟨rfl, hb⟩
  have HB1 := Lib.hid hb
  clear hb k0 k1 k2
  obtain ⟨k0, k1, k2⟩ := KK.out _ HB1.out
  go_wp2_with fail
  refine (c2.out _ (HBA.out.trans (HB1.out.mono HBA.out.size))).mono ?_
  rintro e w2 ⟨rfl, rfl⟩
  go_upto_region 8 with fail
  have HD1 := Lib.hid (show Below A.heap.size A w2.drew from HB1.out.drew)
  refine wp_region_held_drew (S := fun w' => w'.cell? ⟨w.heap.size, 0, none⟩ = some (Value.int .i64 sl) ∧ w'.cell? ⟨w.heap.size, 1, none⟩ = some (Value.int .i64 sh) ∧ w'.cell? ⟨w.heap.size, 2, none⟩ = some (Value.slice a n cap)) (by kernel_rfl) ⟨by simpa [go_sem] using k0, by simpa [go_sem] using k1, by simpa [go_sem] using k2⟩ (fun hHeld => ?_)
  refine wpAnyH_take (i := 0) (oi := _) (v := Value.agg #[Value.int .i64 sl, Value.int .i64 sh, Value.slice a n cap]) rfl (by kernel_rfl) (by kernel_rfl) (by kernel_rfl) (fun _ _ _ h => h) (Or.inl ⟨by rfl, fun w' hSw => ?_⟩) hHeld ?_
  · obtain ⟨t0, t1, t2⟩ := hSw
    go_simp
    try simp [*]
    try (intro hh; exfalso; omega)
    try omega
  try simp only [Act.put, List.setIfInBounds_toArray, List.set_cons_zero, List.set_cons_succ, List.getElem_toArray, List.getElem_cons_succ, List.getElem_cons_zero]
  refine wpAnyH_take (i := 1) (oi := _) (v := Value.slice qa n qc) rfl (by kernel_rfl) (by kernel_rfl) (by kernel_rfl) (fun _ _ _ h => h) (Or.inl ⟨by rfl, fun w' hSw => ?_⟩) hHeld ?_
  · obtain ⟨t0, t1, t2⟩ := hSw
    go_simp
    try simp [*]
    try (intro hh; exfalso; omega)
    try omega
  try simp only [Act.put, List.setIfInBounds_toArray, List.set_cons_zero, List.set_cons_succ, List.getElem_toArray, List.getElem_cons_succ, List.getElem_cons_zero]
  refine wpAnyH_take (i := 2) (oi := _) (v := Value.slice ka n kc) rfl (by kernel_rfl) (by kernel_rfl) (by kernel_rfl) (fun _ _ _ h => h) (Or.inl ⟨by rfl, fun w' hSw => ?_⟩) hHeld ?_
  · obtain ⟨t0, t1, t2⟩ := hSw
    go_simp
    try simp [*]
    try (intro hh; exfalso; omega)
    try omega
  try simp only [Act.put, List.setIfInBounds_toArray, List.set_cons_zero, List.set_cons_succ, List.getElem_toArray, List.getElem_cons_succ, List.getElem_cons_zero]
  refine wpAnyH_ready (rs := [3]) (by kernel_rfl) (by simp) ?_
  refine AllReadyH.cons (o := _) rfl (fun K hK => ?_) AllReadyH.nil
  go_simp
  go_at_call 123
  refine Calls.mono (c3.out _ (HBA.out.trans (HD1.out.mono HBA.out.size))) ?_
  rintro e v1 ⟨ov, od, rfl, ho, hT, hb⟩
  have HB2 := Lib.hid (show Below A.heap.size A v1 from HD1.out.trans (hb.mono HD1.out.size))
  have HO := Lib.hid (show v1.ownsRow w.heap.size 3 1 ov n (flatN od) from ⟨ho.1, by
      rcases ho.2 with h0 | ⟨g1, cp1, cu1, e1, h1, h2⟩
      · exact .inl h0
      · exact .inr ⟨g1, cp1, cu1, e1, by have := HBA.out.size; have := HD1.out.size; omega, h2⟩⟩)
  clear hb ho
  clear hHeld
  refine hK.out _ _ (KK.out _ HB2.out) (fun hHeld => ?_)
  clear hK K
  try simp only [Act.put, List.setIfInBounds_toArray, List.set_cons_zero, List.set_cons_succ, List.getElem_toArray, List.getElem_cons_succ, List.getElem_cons_zero]
  refine wpAnyH_ready (rs := [4]) (by kernel_rfl) (by simp) ?_
  refine AllReadyH.cons (o := _) rfl (fun K hK => ?_) AllReadyH.nil
  go_simp
  go_at_call 122
  refine Calls.mono (c4.out _ _ od (HBA.out.trans (HB2.out.mono HBA.out.size)) hT HO.out) ?_
  rintro e v2 ⟨rv, rfl, hi, hb⟩
  have HB3 := Lib.hid (show Below A.heap.size A v2 from HB2.out.trans (hb.mono HB2.out.size))
  have HI := Lib.hid hi
  clear hb hi
  clear hHeld
  refine hK.out _ _ (KK.out _ HB3.out) (fun hHeld => ?_)
  clear hK K
  try simp only [Act.put, List.setIfInBounds_toArray, List.set_cons_zero, List.set_cons_succ, List.getElem_toArray, List.getElem_cons_succ, List.getElem_cons_zero]
  refine wpAnyH_take (i := 5) (oi := _) (v := rv) rfl (by kernel_rfl) (by kernel_rfl) (by kernel_rfl) (fun _ _ _ h => h) (Or.inl ⟨by rfl, fun w' hSw => ?_⟩) hHeld ?_
  · obtain ⟨t0, t1, t2⟩ := hSw
    go_simp
    try simp [*]
    try (intro hh; exfalso; omega)
    try omega
  try simp only [Act.put, List.setIfInBounds_toArray, List.set_cons_zero, List.set_cons_succ, List.getElem_toArray, List.getElem_cons_succ, List.getElem_cons_zero]
  refine wpAnyH_take (i := 6) (oi := _) (v := Value.int .i64 0) rfl (by kernel_rfl) (by kernel_rfl) (by kernel_rfl) (fun _ _ _ h => h) (Or.inl ⟨by rfl, fun w' hSw => ?_⟩) hHeld ?_
  · obtain ⟨t0, t1, t2⟩ := hSw
    go_simp
    try simp [*]
    try (intro hh; exfalso; omega)
    try omega
  try simp only [Act.put, List.setIfInBounds_toArray, List.set_cons_zero, List.set_cons_succ, List.getElem_toArray, List.getElem_cons_succ, List.getElem_cons_zero]
  refine wpAnyH_done (by kernel_rfl) ?_ _
  clear hHeld
  go_wp2_with fail
  go_ret2
  exact ⟨_, rfl, HI.out, HBA.out.trans (HB3.out.mono HBA.out.size)⟩
end Go.Proofs.Ytdohfpnnmppdkaa

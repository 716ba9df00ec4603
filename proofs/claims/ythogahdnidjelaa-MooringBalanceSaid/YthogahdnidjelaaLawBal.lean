/-
  MooringBalance: the walk.
-/
import Derived.Test.YthogahdnidjelaaLawFreer
import Derived.Test.YthogahdnidjelaaKnock
namespace Go.Proofs.Ythogahdnidjelaa
open Go.RowKit Go.Shelf
set_option linter.unusedSimpArgs false
theorem chainN {n : Nat} {A W W' : World} (hb : Below W.heap.size W W') (h : Below n A W) (hn : n ≤ A.heap.size) : Below n A W' := h.trans (hb.mono (Nat.le_trans hn h.size))
theorem Nums.get {n₀ : Nat} {W : World} {a : Option Addr} {c n : Nat} {cs : List Int} (h : Nums n₀ W (.slice a n c) cs) : ∀ k, k < cs.length → ∃ b off, a = some ⟨b, off, none⟩ ∧ b < n₀ ∧ W.cell? ⟨b, off + k, none⟩ = some (.int .i64 (cs[k]?.getD 0)) := by
  obtain ⟨a', c', e, -, hh⟩ := h
  simp only [Value.slice.injEq] at e
  obtain ⟨rfl, -, -⟩ := e
  exact hh
theorem still_cells : ∀ n, (madeCells #[.int .i64 0, .int .i64 0] (n * 2)).toList = flatP (stillL n) := by
  intro n
  refine List.ext_getElem? fun j => ?_
  rcases Nat.lt_or_ge j (n * 2) with g | g
  · have hk : j / 2 < (stillL n).length := by rw [still_len]; omega
    obtain ⟨f0, f1⟩ := flatP_get (stillL n) (j / 2) hk
    have e : pr (stillL n) (j / 2) = ⟨0, 0⟩ := by
      rcases still_get n (j / 2) with e | e
      · exact e
      · rw [still_len] at hk; omega
    rw [e] at f0 f1
    have h1 : (madeCells #[Value.int .i64 0, .int .i64 0] (n * 2)).toList[j]? = some (.int .i64 0) := by
      rcases Nat.mod_two_eq_zero_or_one j with m | m <;> simp [madeCells, g, m]
    rw [h1]
    rcases Nat.mod_two_eq_zero_or_one j with m | m
    · rw [← f0, show j / 2 * 2 = j by omega]
    · rw [← f1, show j / 2 * 2 + 1 = j by omega]
  · have hl : (flatP (stillL n)).length = n * 2 := by
      unfold stillL
      induction n with
      | zero => rfl
      | succ n ih => rw [List.replicate_succ]; simp only [flatP, List.flatMap_cons, List.length_append] at *; rw [ih (by omega)]; simp; omega
    rw [List.getElem?_eq_none (show (flatP (stillL n)).length ≤ j by rw [hl]; exact g), List.getElem?_eq_none (by simp [madeCells]; exact g)]
theorem u25 : Try.prog.underlying 25 = some (.slice 41) := by kernel_rfl
/-- a slice of zero spans, made -/
theorem make_still (w : World) (n : Nat) (hn : n ≤ 1000) : ∃ w', (Instr.makeSlice 25 (.int .i64 (n : Int)) (.int .i64 (n : Int))).run Try.prog w = .ok (.slice (some ⟨w.heap.size, 0, none⟩) n n) w' ∧
    Prs w'.heap.size w' (.slice (some ⟨w.heap.size, 0, none⟩) n n) (stillL n) ∧ Below w.heap.size w w' := by
  obtain ⟨i0, hi0, hz0, hz1, hz2⟩ := info_parts infoSp
  obtain ⟨w', h1, h2, h3⟩ := run_make_full (P := Try.prog) w w.heap.size 25 41 i0 _ 2 u25 hi0 hz0 hz1 .i64 .i64 n (by rw [hz2]; omega) (by unfold maxLen; omega) (Nat.le_refl _)
  refine ⟨w', h1, prs_of_owns (base := w.heap.size) ?_, (Below.refl _ _).grown h3 (Nat.le_refl _) (fun k hk => by simp at hk)⟩
  rw [still_len, ← still_cells]
  exact h2
theorem moo_depth {d : Int} {zs : List El} {an fr : Int} (h : mooE d zs an fr = 0) : 1 ≤ d ∧ d ≤ 1048576 := by
  have := (mooE_ok h).2.2.2
  simp only [mooOk, btw, Bool.and_eq_true, decide_eq_true_eq] at this
  omega
theorem top_off {d : Int} {zs : List El} {an fr : Int} {cs : List Pr} (h : staE d zs an fr cs = 0) (free : Bool) :
    0 ≤ (knockS d zs an fr cs free).lo ∧ (topS d zs an fr cs free).lo - (knockS d zs an fr cs free).lo = d - lenTo zs zs.length ∧ (topS d zs an fr cs free).hi - (knockS d zs an fr cs free).hi = d - lenTo zs zs.length ∧ -50000000 ≤ d - lenTo zs zs.length ∧ d - lenTo zs zs.length ≤ 50000000 := by
  obtain ⟨hr, hs, hm, -⟩ := staE_ok h
  have hst := (standB_iff hr.pos).1 hs
  have hd : 1 ≤ d ∧ d ≤ 1048576 := moo_depth hm
  have a := ris_most hr hst free
  have b := rises_tot hr hst free
  have c := lenTo_bd hr zs.length (Nat.le_refl _)
  have e := hr.most
  unfold knockS topS
  rw [if_pos h, if_pos h]
  dsimp only
  omega
theorem still_top {d : Int} {zs : List El} {an fr : Int} {cs : List Pr} (h : staE d zs an fr cs = 0) (free : Bool) :
    knockS d zs an fr (stillL cs.length) free = ⟨0, 0⟩ ∧ topS d zs an fr (stillL cs.length) free = ⟨d - lenTo zs zs.length, d - lenTo zs zs.length⟩ := by
  obtain ⟨hr, hs, hm, -⟩ := staE_ok h
  have hst := (standB_iff hr.pos).1 hs
  obtain ⟨a, b⟩ := still_tot hr hst free
  unfold knockS topS
  rw [if_pos (still_sta h), if_pos (still_sta h), a, b]
  simp
structure Bal (zs : List El) (LV : List Int) (T0 O0 R0 T1 O1 R1 : List Pr) (k : Nat) : Prop where
  v : ∃ z, LV[k]?.getD 0 = z ∧ pr T0 k = ⟨z, z⟩ ∧ z ≤ (pr T1 k).lo
  o : pr O0 k = ⟨0, 0⟩
  r : pr R0 k = ⟨(el zs k).len, (el zs k).len⟩
  o1 : 0 ≤ (pr O1 k).lo ∧ (pr O1 k).hi ≤ (el zs k).len
  r1 : 0 ≤ (pr R1 k).lo ∧ (pr R1 k).hi ≤ (el zs k).len
theorem bal_math {d : Int} {zs : List El} {an fr : Int} {cs : List Pr} (h : staE d zs an fr cs = 0) (free : Bool) :
    (lifV d zs an fr).length = zs.length ∧ (tenV d zs an fr (stillL cs.length) free).length = zs.length ∧ (offV d zs an fr (stillL cs.length) free).length = zs.length ∧ (risV d zs an fr (stillL cs.length) free).length = zs.length ∧
    (tenV d zs an fr cs free).length = zs.length ∧ (offV d zs an fr cs free).length = zs.length ∧ (risV d zs an fr cs free).length = zs.length ∧ zs.length ≤ 40 ∧ cs.length ≤ 40 ∧
    ∀ k, k < zs.length → Bal zs (lifV d zs an fr) (tenV d zs an fr (stillL cs.length) free) (offV d zs an fr (stillL cs.length) free) (risV d zs an fr (stillL cs.length) free) (tenV d zs an fr cs free) (offV d zs an fr cs free) (risV d zs an fr cs free) k := by
  obtain ⟨hr, hs, hm, hc⟩ := staE_ok h
  have hst := (standB_iff hr.pos).1 hs
  have h2 := still_sta h
  have hsm := hr.same
  have hmo := hr.most
  have e0 : lifV d zs an fr = lifL zs zs.length := if_pos hm
  have e1 : tenV d zs an fr (stillL cs.length) free = rowL (tenG free zs (stillL cs.length)) zs.length := if_pos h2
  have e2 : offV d zs an fr (stillL cs.length) free = rowL (offG free zs (stillL cs.length)) zs.length := if_pos h2
  have e3 : risV d zs an fr (stillL cs.length) free = rowL (risG free zs (stillL cs.length)) zs.length := if_pos h2
  have e4 : tenV d zs an fr cs free = rowL (tenG free zs cs) zs.length := if_pos h
  have e5 : offV d zs an fr cs free = rowL (offG free zs cs) zs.length := if_pos h
  have e6 : risV d zs an fr cs free = rowL (risG free zs cs) zs.length := if_pos h
  rw [e0, e1, e2, e3, e4, e5, e6]
  simp only [rowL_len, lifL_len]
  refine ⟨trivial, trivial, trivial, trivial, trivial, trivial, trivial, hmo, by omega, fun k hk => ?_⟩
  have v1 := hst k hk
  have hx := ((vE_iff _).1 (hr.els k hk)).1
  refine ⟨⟨lifTo zs (k + 1), lifL_nth zs zs.length k hk, ?_, ?_⟩, ?_, ?_, ?_, ?_⟩
  · rw [rowL_get _ _ _ hk]; exact still_ten free (by omega) (by omega)
  · rw [rowL_get _ _ _ hk]; exact ten_ge hr free (by omega) (by omega)
  · rw [rowL_get _ _ _ hk]; exact still_off free (by omega) v1 hx.1
  · rw [rowL_get _ _ _ hk]; exact still_ris free (by omega) v1
  · rw [rowL_get _ _ _ hk]; have := off_bd hr hst free hk; omega
  · rw [rowL_get _ _ _ hk]; have := ris_bd hr hst free hk; omega
set_option maxRecDepth 100000 in
set_option maxHeartbeats 40000000 in
theorem law_balance (d an fr : Int) (sv cv : Value) (zs : List El) (cs : List Pr) (free : Bool) (w : World) (hI : Els w.heap.size w sv zs) (hC : Prs w.heap.size w cv cs) :
    Calls Try.prog 9 #[.agg #[.int .i64 d, sv, .int .i64 an, .int .i64 fr], cv, .bool free] w fun e w' => e = .returned (.bool true) ∧ Below w.heap.size w w' := by
  have c47 := fun w' (hb : Below w.heap.size w w') => valid_any d an fr sv cv zs cs w' (hI.at hb) (hC.at hb)
  have c16 := fun w' (hb : Below w.heap.size w w') => liftsM_any d an fr sv zs w' (hI.at hb)
  have c25 := fun w' (hb : Below w.heap.size w w') => tensions_any d an fr sv cv zs cs free w' (hI.at hb) (hC.at hb)
  have c27 := fun w' (hb : Below w.heap.size w w') => shape_any d an fr sv cv zs cs free w' (hI.at hb) (hC.at hb)
  have c29 := fun w' (hb : Below w.heap.size w w') => top_any d an fr sv cv zs cs free w' (hI.at hb) (hC.at hb)
  have c33 := fun w' (hb : Below w.heap.size w w') => knock_any d an fr sv cv zs cs free w' (hI.at hb) (hC.at hb)
  have s25 := fun sp w' (hb : Below w.heap.size w w') hS => tensions_any d an fr sv sp zs (stillL cs.length) free w' (hI.at hb) hS
  have s27 := fun sp w' (hb : Below w.heap.size w w') hS => shape_any d an fr sv sp zs (stillL cs.length) free w' (hI.at hb) hS
  have s29 := fun sp w' (hb : Below w.heap.size w w') hS => top_any d an fr sv sp zs (stillL cs.length) free w' (hI.at hb) hS
  have s33 := fun sp w' (hb : Below w.heap.size w w') hS => knock_any d an fr sv sp zs (stillL cs.length) free w' (hI.at hb) hS
  have HF := Lib.hid (fun W => fine_any W)
  have HM := Lib.hid (fun (h : staE d zs an fr cs = 0) => bal_math h free)
  have HZ := Lib.hid (fun (h : staE d zs an fr cs = 0) => top_off h free)
  have HS := Lib.hid (fun (h : staE d zs an fr cs = 0) => still_top h free)
  have HE := Lib.hid (fun (h : staE d zs an fr cs = 0) => (staE_ok h).2.2.1)
  have HE2 := Lib.hid (fun (h : staE d zs an fr cs = 0) => still_sta h)
  obtain ⟨a, cap, rfl, -, hIc⟩ := hI
  have HIc := Lib.hid hIc
  clear hIc
  obtain ⟨c, cap2, rfl, -, -⟩ := hC
  generalize tenV d zs an fr (stillL cs.length) free = T0 at *
  generalize offV d zs an fr (stillL cs.length) free = O0 at *
  generalize risV d zs an fr (stillL cs.length) free = R0 at *
  generalize tenV d zs an fr cs free = T1 at *
  generalize offV d zs an fr cs free = O1 at *
  generalize risV d zs an fr cs free = R1 at *
  generalize lifV d zs an fr = LV at *
  generalize topS d zs an fr cs free = tp at *
  generalize knockS d zs an fr cs free = kn at *
  generalize topS d zs an fr (stillL cs.length) free = tp0 at *
  generalize knockS d zs an fr (stillL cs.length) free = kn0 at *
  generalize staE d zs an fr (stillL cs.length) = E4 at *
  generalize mooE d zs an fr = E1 at *
  generalize staE d zs an fr cs = E3 at *
  generalize lenTo zs zs.length = LL at *
  by_cases h0 : E3 = 0
  rotate_left
  · have hd : decide (E3 = 0) = false := decide_eq_false h0
    rw [hd] at c47
    clear HM HE HE2 HS HZ HIc c16 c25 c27 c29 c33 s25 s27 s29 s33 h0 hd
    generalize zs.length = len at *
    generalize cs.length = len2 at *
    obtain ⟨A, hA⟩ : ∃ A, A = w.alloc (.cells #[.int .i64 d, .slice a len cap, .int .i64 an, .int .i64 fr] 24) := ⟨_, rfl⟩
    have hzA : A.heap.size = w.heap.size + 1 := by rw [hA]; simp
    have KK := Lib.hid (show ∀ W, Below (w.heap.size + 1) A W → W.cell? ⟨w.heap.size, 0, none⟩ = some (.int .i64 d) ∧ W.cell? ⟨w.heap.size, 1, none⟩ = some (.slice a len cap) ∧ W.cell? ⟨w.heap.size, 2, none⟩ = some (.int .i64 an) ∧ W.cell? ⟨w.heap.size, 3, none⟩ = some (.int .i64 fr) from fun W h => by
      refine ⟨(h.cell (p := ⟨w.heap.size, 0, none⟩) (Nat.lt_succ_self _)).trans ?_, (h.cell (p := ⟨w.heap.size, 1, none⟩) (Nat.lt_succ_self _)).trans ?_, (h.cell (p := ⟨w.heap.size, 2, none⟩) (Nat.lt_succ_self _)).trans ?_, (h.cell (p := ⟨w.heap.size, 3, none⟩) (Nat.lt_succ_self _)).trans ?_⟩ <;> (rw [hA]; simp [go_sem]))
    have HBA := Lib.hid (show ∀ W, Below (w.heap.size + 1) A W → Below w.heap.size w W from fun W h => by
      have e : Below w.heap.size w A := by rw [hA]; exact (Below.refl _ _).alloc (Nat.le_refl _) _
      exact e.trans (h.mono (Nat.le_succ _)))
    go_enter Try.func9, Try.ntmps9
    go_wp2_with fail
    try rw [← hA]
    refine (c47 _ (HBA.out _ (Below.refl _ _))).mono ?_
    rintro e w1 ⟨rfl, hb⟩
    have hB1 : Below (w.heap.size + 1) A w1 := hb.mono (by omega)
    clear hb hA
    obtain ⟨k0, k1, k2, k3⟩ := KK.out _ hB1
    have HB := Lib.hid (HBA.out _ hB1)
    clear k0 k1 k2 k3
    go_wp2_with fail
    refine (HF.out _).mono ?_
    rintro e w2 ⟨rfl, hb⟩
    have HB2 := Lib.hid (HB.out.trans (hb.mono HB.out.size))
    clear hb
    go_wp2_with fail
    go_ret
    exact ⟨rfl, HB2.out⟩
  subst h0
  obtain rfl := HE.out rfl
  obtain rfl := HE2.out rfl
  obtain ⟨l0, l1, l2, l3, l4, l5, l6, m0, m1, m2⟩ := HM.out rfl
  have M2 := Lib.hid m2
  obtain ⟨rfl, rfl⟩ := HS.out rfl
  obtain ⟨z0, z1, z2, z3, z4⟩ := HZ.out rfl
  clear m2 HM HE HE2 HZ HS
  obtain ⟨kl, kh⟩ := kn
  obtain ⟨tl, th⟩ := tp
  dsimp only at z0 z1 z2
  generalize d - LL = D at *
  have W1 : IntKind.i64.wrap (tl - kl) = D := by rw [IntKind.wrap_i64]; omega
  have W2 : IntKind.i64.wrap (th - kh) = D := by rw [IntKind.wrap_i64]; omega
  clear z1 z2 z3 z4
  unfold prv at s29 s33 c29 c33
  dsimp only at s29 s33 c29 c33
  rw [show decide ((0 : Int) = 0) = true from rfl] at c47
  generalize zs.length = len at *
  generalize hl2 : cs.length = len2 at *
  obtain ⟨A, hA⟩ : ∃ A, A = w.alloc (.cells #[.int .i64 d, .slice a len cap, .int .i64 an, .int .i64 fr] 24) := ⟨_, rfl⟩
  have hzA : A.heap.size = w.heap.size + 1 := by rw [hA]; simp
  have KK := Lib.hid (show ∀ W, Below (w.heap.size + 1) A W → W.cell? ⟨w.heap.size, 0, none⟩ = some (.int .i64 d) ∧ W.cell? ⟨w.heap.size, 1, none⟩ = some (.slice a len cap) ∧ W.cell? ⟨w.heap.size, 2, none⟩ = some (.int .i64 an) ∧ W.cell? ⟨w.heap.size, 3, none⟩ = some (.int .i64 fr) from fun W h => by
    refine ⟨(h.cell (p := ⟨w.heap.size, 0, none⟩) (Nat.lt_succ_self _)).trans ?_, (h.cell (p := ⟨w.heap.size, 1, none⟩) (Nat.lt_succ_self _)).trans ?_, (h.cell (p := ⟨w.heap.size, 2, none⟩) (Nat.lt_succ_self _)).trans ?_, (h.cell (p := ⟨w.heap.size, 3, none⟩) (Nat.lt_succ_self _)).trans ?_⟩ <;> (rw [hA]; simp [go_sem]))
  have HBA := Lib.hid (show ∀ W, Below (w.heap.size + 1) A W → Below w.heap.size w W from fun W h => by
    have e : Below w.heap.size w A := by rw [hA]; exact (Below.refl _ _).alloc (Nat.le_refl _) _
    exact e.trans (h.mono (Nat.le_succ _)))
  go_enter Try.func9, Try.ntmps9
  go_wp2_with fail
  try rw [← hA]
  refine (c47 _ (HBA.out _ (Below.refl _ _))).mono ?_
  rintro e w1 ⟨rfl, hb⟩
  have hB1 : Below (w.heap.size + 1) A w1 := hb.mono (by omega)
  clear hb hA
  obtain ⟨k0, k1, k2, k3⟩ := KK.out _ hB1
  obtain ⟨w2, hM, hS, hb⟩ := make_still w1 len2 (by omega)
  have hB2 : Below (w.heap.size + 1) A w2 := hB1.trans (hb.mono (by have := hB1.size; omega))
  have LS := Lib.hid hS
  skip
  obtain ⟨q0, q1, q2, q3⟩ := KK.out _ hB2
  clear hb hS
  go_wp2_with fail
  refine (c16 _ (HBA.out _ hB2)).mono ?_
  rintro e w3 ⟨v3, rfl, hP, hb⟩
  have hB3 : Below (w.heap.size + 1) A w3 := hB2.trans (hb.mono (by have := hB2.size; omega))
  replace LS := Lib.hid (LS.out.at hb)
  have LL0 := Lib.hid hP
  obtain ⟨a0, g0, rfl⟩ := hP.form
  clear hP
  clear hb k0 k1 k2 k3
  obtain ⟨k0, k1, k2, k3⟩ := KK.out _ hB3
  go_wp2_with fail
  refine (s25 _ _ (HBA.out _ hB3) LS.out).mono ?_
  rintro e w4 ⟨v4, rfl, hP, hb⟩
  have hB4 : Below (w.heap.size + 1) A w4 := hB3.trans (hb.mono (by have := hB3.size; omega))
  replace LS := Lib.hid (LS.out.at hb)
  replace LL0 := Lib.hid (LL0.out.at hb)
  have L0 := Lib.hid hP
  obtain ⟨a1, g1, rfl⟩ := hP.form
  clear hP
  clear hb k0 k1 k2 k3
  obtain ⟨k0, k1, k2, k3⟩ := KK.out _ hB4
  go_wp2_with fail
  refine (s27 _ _ (HBA.out _ hB4) LS.out).mono ?_
  rintro e w5 ⟨v5, v6, rfl, hP, hQ, hb⟩
  have hB5 : Below (w.heap.size + 1) A w5 := hB4.trans (hb.mono (by have := hB4.size; omega))
  replace LS := Lib.hid (LS.out.at hb)
  replace LL0 := Lib.hid (LL0.out.at hb)
  replace L0 := Lib.hid (L0.out.at hb)
  have L1 := Lib.hid hP
  obtain ⟨a2, g2, rfl⟩ := hP.form
  clear hP
  have L2 := Lib.hid hQ
  obtain ⟨a3, g3, rfl⟩ := hQ.form
  clear hQ
  clear hb k0 k1 k2 k3
  obtain ⟨k0, k1, k2, k3⟩ := KK.out _ hB5
  go_wp2_with fail
  refine (c25 _ (HBA.out _ hB5)).mono ?_
  rintro e w6 ⟨v7, rfl, hP, hb⟩
  have hB6 : Below (w.heap.size + 1) A w6 := hB5.trans (hb.mono (by have := hB5.size; omega))
  replace LS := Lib.hid (LS.out.at hb)
  replace LL0 := Lib.hid (LL0.out.at hb)
  replace L0 := Lib.hid (L0.out.at hb)
  replace L1 := Lib.hid (L1.out.at hb)
  replace L2 := Lib.hid (L2.out.at hb)
  have L3 := Lib.hid hP
  obtain ⟨a4, g4, rfl⟩ := hP.form
  clear hP
  clear hb k0 k1 k2 k3
  obtain ⟨k0, k1, k2, k3⟩ := KK.out _ hB6
  go_wp2_with fail
  refine (c27 _ (HBA.out _ hB6)).mono ?_
  rintro e w7 ⟨v8, v9, rfl, hP, hQ, hb⟩
  have hB7 : Below (w.heap.size + 1) A w7 := hB6.trans (hb.mono (by have := hB6.size; omega))
  replace LS := Lib.hid (LS.out.at hb)
  replace LL0 := Lib.hid (LL0.out.at hb)
  replace L0 := Lib.hid (L0.out.at hb)
  replace L1 := Lib.hid (L1.out.at hb)
  replace L2 := Lib.hid (L2.out.at hb)
  replace L3 := Lib.hid (L3.out.at hb)
  have L4 := Lib.hid hP
  obtain ⟨a5, g5, rfl⟩ := hP.form
  clear hP
  have L5 := Lib.hid hQ
  obtain ⟨a6, g6, rfl⟩ := hQ.form
  clear hQ
  clear hb k0 k1 k2 k3
  obtain ⟨k0, k1, k2, k3⟩ := KK.out _ hB7
  clear c47 c16 s25 s27 c25 c27
  rw [l0] at LL0
  rw [l1] at L0
  rw [l2] at L1
  rw [l3] at L2
  rw [l4] at L3
  rw [l5] at L4
  rw [l6] at L5
  simp only [l5, l6]
  have N0 := Lib.hid (by have h := LL0.out.get; rw [l0] at h; exact h)
  have N1 := Lib.hid (by have h := L0.out.get; rw [l1] at h; exact h)
  have N2 := Lib.hid (by have h := L1.out.get; rw [l2] at h; exact h)
  have N3 := Lib.hid (by have h := L2.out.get; rw [l3] at h; exact h)
  have N4 := Lib.hid (by have h := L3.out.get; rw [l4] at h; exact h)
  have N5 := Lib.hid (by have h := L4.out.get; rw [l5] at h; exact h)
  have N6 := Lib.hid (by have h := L5.out.get; rw [l6] at h; exact h)
  clear LL0 L0 L1 L2 L3 L4 L5
  have LSh := LS
  have HBz := Lib.hid hB7
  clear l0 l1 l2 l3 l4 l5 l6
  go_wp2_with fail
  go_loopw [21, 22] (fun i u wr => ∃ k : Nat, k ≤ len ∧ i = .int .i64 k ∧ Below (w.heap.size + 1) A wr ∧ Below w7.heap.size w7 wr) (fun i _ _ => len - (intOf i).toNat)
  case atStart => exact ⟨0, Nat.zero_le _, rfl, HBz.out, Below.refl _ _⟩
  case round =>
    obtain ⟨k, hk, rfl, hB, hg⟩ := hrel
    by_cases hlt : k < len
    · obtain ⟨⟨z, x1, x2, x3⟩, x4, x5, ⟨x6, x7⟩, ⟨x8, x9⟩⟩ := M2.out k hlt
      obtain ⟨b, off, rfl, hb, e0, -, -, -⟩ := HIc.out k hlt
      obtain ⟨b0, o0, rfl, hb0, c00⟩ := N0.out k hlt
      obtain ⟨b1, o1, rfl, hb1, c10, c11⟩ := N1.out k hlt
      obtain ⟨b2, o2, rfl, hb2, c20, c21⟩ := N2.out k hlt
      obtain ⟨b3, o3, rfl, hb3, c30, c31⟩ := N3.out k hlt
      obtain ⟨b4, o4, rfl, hb4, c40, c41⟩ := N4.out k hlt
      obtain ⟨b5, o5, rfl, hb5, c50, c51⟩ := N5.out k hlt
      obtain ⟨b6, o6, rfl, hb6, c60, c61⟩ := N6.out k hlt
      obtain ⟨k0, k1, k2, k3⟩ := KK.out _ hB
      have e1 := ((HBA.out _ hB).cell (p := ⟨b, off + k * 4, none⟩) hb).trans e0
      have n00 := (hg.cell (p := ⟨b0, o0 + k, none⟩) hb0).trans c00
      have n10 := (hg.cell (p := ⟨b1, o1 + k * 2, none⟩) hb1).trans c10
      have n11 := (hg.cell (p := ⟨b1, o1 + k * 2 + 1, none⟩) hb1).trans c11
      have n20 := (hg.cell (p := ⟨b2, o2 + k * 2, none⟩) hb2).trans c20
      have n21 := (hg.cell (p := ⟨b2, o2 + k * 2 + 1, none⟩) hb2).trans c21
      have n30 := (hg.cell (p := ⟨b3, o3 + k * 2, none⟩) hb3).trans c30
      have n31 := (hg.cell (p := ⟨b3, o3 + k * 2 + 1, none⟩) hb3).trans c31
      have n40 := (hg.cell (p := ⟨b4, o4 + k * 2, none⟩) hb4).trans c40
      have n41 := (hg.cell (p := ⟨b4, o4 + k * 2 + 1, none⟩) hb4).trans c41
      have n50 := (hg.cell (p := ⟨b5, o5 + k * 2, none⟩) hb5).trans c50
      have n51 := (hg.cell (p := ⟨b5, o5 + k * 2 + 1, none⟩) hb5).trans c51
      have n60 := (hg.cell (p := ⟨b6, o6 + k * 2, none⟩) hb6).trans c60
      have n61 := (hg.cell (p := ⟨b6, o6 + k * 2 + 1, none⟩) hb6).trans c61
      clear e0 c00 c10 c11 c20 c21 c30 c31 c40 c41 c50 c51 c60 c61
      rw [x1] at n00
      rw [x2] at n10 n11
      rw [x4] at n20 n21
      rw [x5] at n30 n31
      clear x1 x2 x4 x5
      dsimp only at n10 n11 n20 n21 n30 n31
      generalize (el zs k).len = l at *
      generalize (pr T1 k).lo = t1 at *
      generalize (pr O1 k).lo = p0 at *
      generalize (pr O1 k).hi = p1 at *
      generalize (pr R1 k).lo = s0 at *
      generalize (pr R1 k).hi = s1 at *
      have HBr := Lib.hid hB
      have HGr := Lib.hid hg
      have hli : (k : Int) < (len : Int) := by omega
      clear hB hg
      go_wp2_with fail
      refine wp_region_held_drew (S := fun w' => w'.cell? ⟨b0, o0 + k, none⟩ = some (.int .i64 z) ∧ w'.cell? ⟨b1, o1 + k * 2, none⟩ = some (.int .i64 z) ∧ w'.cell? ⟨b1, o1 + k * 2 + 1, none⟩ = some (.int .i64 z) ∧ w'.cell? ⟨b2, o2 + k * 2, none⟩ = some (.int .i64 0) ∧ w'.cell? ⟨b2, o2 + k * 2 + 1, none⟩ = some (.int .i64 0) ∧ w'.cell? ⟨b3, o3 + k * 2, none⟩ = some (.int .i64 l) ∧ w'.cell? ⟨b3, o3 + k * 2 + 1, none⟩ = some (.int .i64 l)) (by kernel_rfl) ⟨by simpa [go_sem] using n00, by simpa [go_sem] using n10, by simpa [go_sem] using n11, by simpa [go_sem] using n20, by simpa [go_sem] using n21, by simpa [go_sem] using n30, by simpa [go_sem] using n31⟩ (fun hHeld => ?_)
      refine wpAnyH_take (i := 0) (oi := _) (v := Value.slice (some ⟨b1, o1, none⟩) len g1) rfl (by kernel_rfl) (by kernel_rfl) (by kernel_rfl) (fun _ _ _ h => h) (Or.inl ⟨by rfl, fun w' hSw => ?_⟩) hHeld ?_
      · obtain ⟨t0, t1, t2, t3, t4, t5, t6⟩ := hSw
        go_simp
        try simp [*]
        try (intro hh; exfalso; omega)
        try omega
      try simp only [Act.put, List.setIfInBounds_toArray, List.set_cons_zero, List.set_cons_succ, List.getElem_toArray, List.getElem_cons_succ, List.getElem_cons_zero]
      refine wpAnyH_take (i := 1) (oi := _) (v := Value.int .i64 k) rfl (by kernel_rfl) (by kernel_rfl) (by kernel_rfl) (fun _ _ _ h => h) (Or.inl ⟨by rfl, fun w' hSw => ?_⟩) hHeld ?_
      · obtain ⟨t0, t1, t2, t3, t4, t5, t6⟩ := hSw
        go_simp
        try simp [*]
        try (intro hh; exfalso; omega)
        try omega
      try simp only [Act.put, List.setIfInBounds_toArray, List.set_cons_zero, List.set_cons_succ, List.getElem_toArray, List.getElem_cons_succ, List.getElem_cons_zero]
      refine wpAnyH_take (i := 2) (oi := _) (v := Value.pointer (some ⟨b1, o1 + k * 2, none⟩)) rfl (by kernel_rfl) (by kernel_rfl) (by kernel_rfl) (fun _ _ _ h => h) (Or.inl ⟨by rfl, fun w' hSw => ?_⟩) hHeld ?_
      · obtain ⟨t0, t1, t2, t3, t4, t5, t6⟩ := hSw
        go_simp
        try simp [*]
        try (intro hh; exfalso; omega)
        try omega
      try simp only [Act.put, List.setIfInBounds_toArray, List.set_cons_zero, List.set_cons_succ, List.getElem_toArray, List.getElem_cons_succ, List.getElem_cons_zero]
      refine wpAnyH_take (i := 3) (oi := _) (v := Value.agg #[Value.int .i64 z, Value.int .i64 z]) rfl (by kernel_rfl) (by kernel_rfl) (by kernel_rfl) (fun _ _ _ h => h) (Or.inl ⟨by rfl, fun w' hSw => ?_⟩) hHeld ?_
      · obtain ⟨t0, t1, t2, t3, t4, t5, t6⟩ := hSw
        go_simp
        try simp [*]
        try (intro hh; exfalso; omega)
        try omega
      try simp only [Act.put, List.setIfInBounds_toArray, List.set_cons_zero, List.set_cons_succ, List.getElem_toArray, List.getElem_cons_succ, List.getElem_cons_zero]
      refine wpAnyH_take (i := 4) (oi := _) (v := Value.slice (some ⟨b0, o0, none⟩) len g0) rfl (by kernel_rfl) (by kernel_rfl) (by kernel_rfl) (fun _ _ _ h => h) (Or.inl ⟨by rfl, fun w' hSw => ?_⟩) hHeld ?_
      · obtain ⟨t0, t1, t2, t3, t4, t5, t6⟩ := hSw
        go_simp
        try simp [*]
        try (intro hh; exfalso; omega)
        try omega
      try simp only [Act.put, List.setIfInBounds_toArray, List.set_cons_zero, List.set_cons_succ, List.getElem_toArray, List.getElem_cons_succ, List.getElem_cons_zero]
      refine wpAnyH_take (i := 5) (oi := _) (v := Value.int .i64 k) rfl (by kernel_rfl) (by kernel_rfl) (by kernel_rfl) (fun _ _ _ h => h) (Or.inl ⟨by rfl, fun w' hSw => ?_⟩) hHeld ?_
      · obtain ⟨t0, t1, t2, t3, t4, t5, t6⟩ := hSw
        go_simp
        try simp [*]
        try (intro hh; exfalso; omega)
        try omega
      try simp only [Act.put, List.setIfInBounds_toArray, List.set_cons_zero, List.set_cons_succ, List.getElem_toArray, List.getElem_cons_succ, List.getElem_cons_zero]
      refine wpAnyH_take (i := 6) (oi := _) (v := Value.pointer (some ⟨b0, o0 + k, none⟩)) rfl (by kernel_rfl) (by kernel_rfl) (by kernel_rfl) (fun _ _ _ h => h) (Or.inl ⟨by rfl, fun w' hSw => ?_⟩) hHeld ?_
      · obtain ⟨t0, t1, t2, t3, t4, t5, t6⟩ := hSw
        go_simp
        try simp [*]
        try (intro hh; exfalso; omega)
        try omega
      try simp only [Act.put, List.setIfInBounds_toArray, List.set_cons_zero, List.set_cons_succ, List.getElem_toArray, List.getElem_cons_succ, List.getElem_cons_zero]
      refine wpAnyH_take (i := 7) (oi := _) (v := Value.int .i64 z) rfl (by kernel_rfl) (by kernel_rfl) (by kernel_rfl) (fun _ _ _ h => h) (Or.inl ⟨by rfl, fun w' hSw => ?_⟩) hHeld ?_
      · obtain ⟨t0, t1, t2, t3, t4, t5, t6⟩ := hSw
        go_simp
        try simp [*]
        try (intro hh; exfalso; omega)
        try omega
      try simp only [Act.put, List.setIfInBounds_toArray, List.set_cons_zero, List.set_cons_succ, List.getElem_toArray, List.getElem_cons_succ, List.getElem_cons_zero]
      refine wpAnyH_take (i := 8) (oi := _) (v := Value.slice (some ⟨b0, o0, none⟩) len g0) rfl (by kernel_rfl) (by kernel_rfl) (by kernel_rfl) (fun _ _ _ h => h) (Or.inl ⟨by rfl, fun w' hSw => ?_⟩) hHeld ?_
      · obtain ⟨t0, t1, t2, t3, t4, t5, t6⟩ := hSw
        go_simp
        try simp [*]
        try (intro hh; exfalso; omega)
        try omega
      try simp only [Act.put, List.setIfInBounds_toArray, List.set_cons_zero, List.set_cons_succ, List.getElem_toArray, List.getElem_cons_succ, List.getElem_cons_zero]
      refine wpAnyH_take (i := 9) (oi := _) (v := Value.int .i64 k) rfl (by kernel_rfl) (by kernel_rfl) (by kernel_rfl) (fun _ _ _ h => h) (Or.inl ⟨by rfl, fun w' hSw => ?_⟩) hHeld ?_
      · obtain ⟨t0, t1, t2, t3, t4, t5, t6⟩ := hSw
        go_simp
        try simp [*]
        try (intro hh; exfalso; omega)
        try omega
      try simp only [Act.put, List.setIfInBounds_toArray, List.set_cons_zero, List.set_cons_succ, List.getElem_toArray, List.getElem_cons_succ, List.getElem_cons_zero]
      refine wpAnyH_take (i := 10) (oi := _) (v := Value.pointer (some ⟨b0, o0 + k, none⟩)) rfl (by kernel_rfl) (by kernel_rfl) (by kernel_rfl) (fun _ _ _ h => h) (Or.inl ⟨by rfl, fun w' hSw => ?_⟩) hHeld ?_
      · obtain ⟨t0, t1, t2, t3, t4, t5, t6⟩ := hSw
        go_simp
        try simp [*]
        try (intro hh; exfalso; omega)
        try omega
      try simp only [Act.put, List.setIfInBounds_toArray, List.set_cons_zero, List.set_cons_succ, List.getElem_toArray, List.getElem_cons_succ, List.getElem_cons_zero]
      refine wpAnyH_take (i := 11) (oi := _) (v := Value.int .i64 z) rfl (by kernel_rfl) (by kernel_rfl) (by kernel_rfl) (fun _ _ _ h => h) (Or.inl ⟨by rfl, fun w' hSw => ?_⟩) hHeld ?_
      · obtain ⟨t0, t1, t2, t3, t4, t5, t6⟩ := hSw
        go_simp
        try simp [*]
        try (intro hh; exfalso; omega)
        try omega
      try simp only [Act.put, List.setIfInBounds_toArray, List.set_cons_zero, List.set_cons_succ, List.getElem_toArray, List.getElem_cons_succ, List.getElem_cons_zero]
      refine wpAnyH_take (i := 12) (oi := _) (v := Value.agg #[.int .i64 z, .int .i64 z]) rfl (by kernel_rfl) (by kernel_rfl) (by kernel_rfl) (fun _ _ _ h => h) (Or.inl ⟨by rfl, fun w' hSw => ?_⟩) hHeld ?_
      · obtain ⟨t0, t1, t2, t3, t4, t5, t6⟩ := hSw
        go_simp
        try simp [*]
        try (intro hh; exfalso; omega)
        try omega
      try simp only [Act.put, List.setIfInBounds_toArray, List.set_cons_zero, List.set_cons_succ, List.getElem_toArray, List.getElem_cons_succ, List.getElem_cons_zero]
      refine wpAnyH_take (i := 13) (oi := _) (v := Value.bool false) rfl (by kernel_rfl) (by kernel_rfl) (by kernel_rfl) (fun _ _ _ h => h) (Or.inl ⟨by rfl, fun w' hSw => ?_⟩) hHeld ?_
      · obtain ⟨t0, t1, t2, t3, t4, t5, t6⟩ := hSw
        go_simp
        try simp [*]
        try (intro hh; exfalso; omega)
        try omega
      try simp only [Act.put, List.setIfInBounds_toArray, List.set_cons_zero, List.set_cons_succ, List.getElem_toArray, List.getElem_cons_succ, List.getElem_cons_zero]
      refine wpAnyH_take (i := 14) (oi := _) (v := Value.bool false) rfl (by kernel_rfl) (by kernel_rfl) (by kernel_rfl) (fun _ _ _ h => h) (Or.inl ⟨by rfl, fun w' hSw => ?_⟩) hHeld ?_
      · obtain ⟨t0, t1, t2, t3, t4, t5, t6⟩ := hSw
        go_simp
        try simp [*]
        try (intro hh; exfalso; omega)
        try omega
      try simp only [Act.put, List.setIfInBounds_toArray, List.set_cons_zero, List.set_cons_succ, List.getElem_toArray, List.getElem_cons_succ, List.getElem_cons_zero]
      refine wpAnyH_take (i := 15) (oi := _) (v := Value.slice (some ⟨b2, o2, none⟩) len g2) rfl (by kernel_rfl) (by kernel_rfl) (by kernel_rfl) (fun _ _ _ h => h) (Or.inl ⟨by rfl, fun w' hSw => ?_⟩) hHeld ?_
      · obtain ⟨t0, t1, t2, t3, t4, t5, t6⟩ := hSw
        go_simp
        try simp [*]
        try (intro hh; exfalso; omega)
        try omega
      try simp only [Act.put, List.setIfInBounds_toArray, List.set_cons_zero, List.set_cons_succ, List.getElem_toArray, List.getElem_cons_succ, List.getElem_cons_zero]
      refine wpAnyH_take (i := 16) (oi := _) (v := Value.int .i64 k) rfl (by kernel_rfl) (by kernel_rfl) (by kernel_rfl) (fun _ _ _ h => h) (Or.inl ⟨by rfl, fun w' hSw => ?_⟩) hHeld ?_
      · obtain ⟨t0, t1, t2, t3, t4, t5, t6⟩ := hSw
        go_simp
        try simp [*]
        try (intro hh; exfalso; omega)
        try omega
      try simp only [Act.put, List.setIfInBounds_toArray, List.set_cons_zero, List.set_cons_succ, List.getElem_toArray, List.getElem_cons_succ, List.getElem_cons_zero]
      refine wpAnyH_take (i := 17) (oi := _) (v := Value.pointer (some ⟨b2, o2 + k * 2, none⟩)) rfl (by kernel_rfl) (by kernel_rfl) (by kernel_rfl) (fun _ _ _ h => h) (Or.inl ⟨by rfl, fun w' hSw => ?_⟩) hHeld ?_
      · obtain ⟨t0, t1, t2, t3, t4, t5, t6⟩ := hSw
        go_simp
        try simp [*]
        try (intro hh; exfalso; omega)
        try omega
      try simp only [Act.put, List.setIfInBounds_toArray, List.set_cons_zero, List.set_cons_succ, List.getElem_toArray, List.getElem_cons_succ, List.getElem_cons_zero]
      refine wpAnyH_take (i := 18) (oi := _) (v := Value.agg #[Value.int .i64 0, Value.int .i64 0]) rfl (by kernel_rfl) (by kernel_rfl) (by kernel_rfl) (fun _ _ _ h => h) (Or.inl ⟨by rfl, fun w' hSw => ?_⟩) hHeld ?_
      · obtain ⟨t0, t1, t2, t3, t4, t5, t6⟩ := hSw
        go_simp
        try simp [*]
        try (intro hh; exfalso; omega)
        try omega
      try simp only [Act.put, List.setIfInBounds_toArray, List.set_cons_zero, List.set_cons_succ, List.getElem_toArray, List.getElem_cons_succ, List.getElem_cons_zero]
      refine wpAnyH_take (i := 19) (oi := _) (v := Value.agg #[.int .i64 0, .int .i64 0]) rfl (by kernel_rfl) (by kernel_rfl) (by kernel_rfl) (fun _ _ _ h => h) (Or.inl ⟨by rfl, fun w' hSw => ?_⟩) hHeld ?_
      · obtain ⟨t0, t1, t2, t3, t4, t5, t6⟩ := hSw
        go_simp
        try simp [*]
        try (intro hh; exfalso; omega)
        try omega
      try simp only [Act.put, List.setIfInBounds_toArray, List.set_cons_zero, List.set_cons_succ, List.getElem_toArray, List.getElem_cons_succ, List.getElem_cons_zero]
      refine wpAnyH_take (i := 20) (oi := _) (v := Value.bool false) rfl (by kernel_rfl) (by kernel_rfl) (by kernel_rfl) (fun _ _ _ h => h) (Or.inl ⟨by rfl, fun w' hSw => ?_⟩) hHeld ?_
      · obtain ⟨t0, t1, t2, t3, t4, t5, t6⟩ := hSw
        go_simp
        try simp [*]
        try (intro hh; exfalso; omega)
        try omega
      try simp only [Act.put, List.setIfInBounds_toArray, List.set_cons_zero, List.set_cons_succ, List.getElem_toArray, List.getElem_cons_succ, List.getElem_cons_zero]
      refine wpAnyH_take (i := 21) (oi := _) (v := Value.bool false) rfl (by kernel_rfl) (by kernel_rfl) (by kernel_rfl) (fun _ _ _ h => h) (Or.inl ⟨by rfl, fun w' hSw => ?_⟩) hHeld ?_
      · obtain ⟨t0, t1, t2, t3, t4, t5, t6⟩ := hSw
        go_simp
        try simp [*]
        try (intro hh; exfalso; omega)
        try omega
      try simp only [Act.put, List.setIfInBounds_toArray, List.set_cons_zero, List.set_cons_succ, List.getElem_toArray, List.getElem_cons_succ, List.getElem_cons_zero]
      refine wpAnyH_take (i := 22) (oi := _) (v := Value.bool false) rfl (by kernel_rfl) (by kernel_rfl) (by kernel_rfl) (fun _ _ _ h => h) (Or.inl ⟨by rfl, fun w' hSw => ?_⟩) hHeld ?_
      · obtain ⟨t0, t1, t2, t3, t4, t5, t6⟩ := hSw
        go_simp
        try simp [*]
        try (intro hh; exfalso; omega)
        try omega
      try simp only [Act.put, List.setIfInBounds_toArray, List.set_cons_zero, List.set_cons_succ, List.getElem_toArray, List.getElem_cons_succ, List.getElem_cons_zero]
      refine wpAnyH_take (i := 23) (oi := _) (v := Value.slice (some ⟨b3, o3, none⟩) len g3) rfl (by kernel_rfl) (by kernel_rfl) (by kernel_rfl) (fun _ _ _ h => h) (Or.inl ⟨by rfl, fun w' hSw => ?_⟩) hHeld ?_
      · obtain ⟨t0, t1, t2, t3, t4, t5, t6⟩ := hSw
        go_simp
        try simp [*]
        try (intro hh; exfalso; omega)
        try omega
      try simp only [Act.put, List.setIfInBounds_toArray, List.set_cons_zero, List.set_cons_succ, List.getElem_toArray, List.getElem_cons_succ, List.getElem_cons_zero]
      refine wpAnyH_take (i := 24) (oi := _) (v := Value.int .i64 k) rfl (by kernel_rfl) (by kernel_rfl) (by kernel_rfl) (fun _ _ _ h => h) (Or.inl ⟨by rfl, fun w' hSw => ?_⟩) hHeld ?_
      · obtain ⟨t0, t1, t2, t3, t4, t5, t6⟩ := hSw
        go_simp
        try simp [*]
        try (intro hh; exfalso; omega)
        try omega
      try simp only [Act.put, List.setIfInBounds_toArray, List.set_cons_zero, List.set_cons_succ, List.getElem_toArray, List.getElem_cons_succ, List.getElem_cons_zero]
      refine wpAnyH_take (i := 25) (oi := _) (v := Value.pointer (some ⟨b3, o3 + k * 2, none⟩)) rfl (by kernel_rfl) (by kernel_rfl) (by kernel_rfl) (fun _ _ _ h => h) (Or.inl ⟨by rfl, fun w' hSw => ?_⟩) hHeld ?_
      · obtain ⟨t0, t1, t2, t3, t4, t5, t6⟩ := hSw
        go_simp
        try simp [*]
        try (intro hh; exfalso; omega)
        try omega
      try simp only [Act.put, List.setIfInBounds_toArray, List.set_cons_zero, List.set_cons_succ, List.getElem_toArray, List.getElem_cons_succ, List.getElem_cons_zero]
      refine wpAnyH_take (i := 26) (oi := _) (v := Value.agg #[Value.int .i64 l, Value.int .i64 l]) rfl (by kernel_rfl) (by kernel_rfl) (by kernel_rfl) (fun _ _ _ h => h) (Or.inl ⟨by rfl, fun w' hSw => ?_⟩) hHeld ?_
      · obtain ⟨t0, t1, t2, t3, t4, t5, t6⟩ := hSw
        go_simp
        try simp [*]
        try (intro hh; exfalso; omega)
        try omega
      try simp only [Act.put, List.setIfInBounds_toArray, List.set_cons_zero, List.set_cons_succ, List.getElem_toArray, List.getElem_cons_succ, List.getElem_cons_zero]
      refine wpAnyH_take (i := 27) (oi := _) (v := Value.int .i64 l) rfl (by kernel_rfl) (by kernel_rfl) (by kernel_rfl) (fun _ _ _ h => h) (Or.inl ⟨by rfl, fun w' hSw => ?_⟩) hHeld ?_
      · obtain ⟨t0, t1, t2, t3, t4, t5, t6⟩ := hSw
        go_simp
        try simp [*]
        try (intro hh; exfalso; omega)
        try omega
      try simp only [Act.put, List.setIfInBounds_toArray, List.set_cons_zero, List.set_cons_succ, List.getElem_toArray, List.getElem_cons_succ, List.getElem_cons_zero]
      refine wpAnyH_take (i := 28) (oi := _) (v := Value.int .i64 l) rfl (by kernel_rfl) (by kernel_rfl) (by kernel_rfl) (fun _ _ _ h => h) (Or.inl ⟨by rfl, fun w' hSw => ?_⟩) hHeld ?_
      · obtain ⟨t0, t1, t2, t3, t4, t5, t6⟩ := hSw
        go_simp
        try simp [*]
        try (intro hh; exfalso; omega)
        try omega
      try simp only [Act.put, List.setIfInBounds_toArray, List.set_cons_zero, List.set_cons_succ, List.getElem_toArray, List.getElem_cons_succ, List.getElem_cons_zero]
      refine wpAnyH_take (i := 29) (oi := _) (v := Value.agg #[.int .i64 l, .int .i64 l]) rfl (by kernel_rfl) (by kernel_rfl) (by kernel_rfl) (fun _ _ _ h => h) (Or.inl ⟨by rfl, fun w' hSw => ?_⟩) hHeld ?_
      · obtain ⟨t0, t1, t2, t3, t4, t5, t6⟩ := hSw
        go_simp
        try simp [*]
        try (intro hh; exfalso; omega)
        try omega
      try simp only [Act.put, List.setIfInBounds_toArray, List.set_cons_zero, List.set_cons_succ, List.getElem_toArray, List.getElem_cons_succ, List.getElem_cons_zero]
      refine wpAnyH_take (i := 30) (oi := _) (v := Value.bool false) rfl (by kernel_rfl) (by kernel_rfl) (by kernel_rfl) (fun _ _ _ h => h) (Or.inl ⟨by rfl, fun w' hSw => ?_⟩) hHeld ?_
      · obtain ⟨t0, t1, t2, t3, t4, t5, t6⟩ := hSw
        go_simp
        try simp [*]
        try (intro hh; exfalso; omega)
        try omega
      try simp only [Act.put, List.setIfInBounds_toArray, List.set_cons_zero, List.set_cons_succ, List.getElem_toArray, List.getElem_cons_succ, List.getElem_cons_zero]
      refine wpAnyH_take (i := 31) (oi := _) (v := Value.bool false) rfl (by kernel_rfl) (by kernel_rfl) (by kernel_rfl) (fun _ _ _ h => h) (Or.inl ⟨by rfl, fun w' hSw => ?_⟩) hHeld ?_
      · obtain ⟨t0, t1, t2, t3, t4, t5, t6⟩ := hSw
        go_simp
        try simp [*]
        try (intro hh; exfalso; omega)
        try omega
      try simp only [Act.put, List.setIfInBounds_toArray, List.set_cons_zero, List.set_cons_succ, List.getElem_toArray, List.getElem_cons_succ, List.getElem_cons_zero]
      refine wpAnyH_done (by kernel_rfl) ?_ _
      clear hHeld
      go_wp2_with fail
      refine wp_region_held_drew (S := fun w' => w'.cell? ⟨b0, o0 + k, none⟩ = some (.int .i64 z) ∧ w'.cell? ⟨b4, o4 + k * 2, none⟩ = some (.int .i64 t1) ∧ w'.cell? ⟨b5, o5 + k * 2, none⟩ = some (.int .i64 p0) ∧ w'.cell? ⟨b5, o5 + k * 2 + 1, none⟩ = some (.int .i64 p1) ∧ w'.cell? ⟨b6, o6 + k * 2, none⟩ = some (.int .i64 s0) ∧ w'.cell? ⟨b6, o6 + k * 2 + 1, none⟩ = some (.int .i64 s1)) (by kernel_rfl) ⟨by simpa [go_sem] using n00, by simpa [go_sem] using n40, by simpa [go_sem] using n50, by simpa [go_sem] using n51, by simpa [go_sem] using n60, by simpa [go_sem] using n61⟩ (fun hHeld => ?_)
      refine wpAnyH_take (i := 0) (oi := _) (v := Value.slice (some ⟨b4, o4, none⟩) len g4) rfl (by kernel_rfl) (by kernel_rfl) (by kernel_rfl) (fun _ _ _ h => h) (Or.inl ⟨by rfl, fun w' hSw => ?_⟩) hHeld ?_
      · obtain ⟨t0, t1, t2, t3, t4, t5⟩ := hSw
        go_simp
        try simp [*]
        try (intro hh; exfalso; omega)
        try omega
      try simp only [Act.put, List.setIfInBounds_toArray, List.set_cons_zero, List.set_cons_succ, List.getElem_toArray, List.getElem_cons_succ, List.getElem_cons_zero]
      refine wpAnyH_take (i := 1) (oi := _) (v := Value.int .i64 k) rfl (by kernel_rfl) (by kernel_rfl) (by kernel_rfl) (fun _ _ _ h => h) (Or.inl ⟨by rfl, fun w' hSw => ?_⟩) hHeld ?_
      · obtain ⟨t0, t1, t2, t3, t4, t5⟩ := hSw
        go_simp
        try simp [*]
        try (intro hh; exfalso; omega)
        try omega
      try simp only [Act.put, List.setIfInBounds_toArray, List.set_cons_zero, List.set_cons_succ, List.getElem_toArray, List.getElem_cons_succ, List.getElem_cons_zero]
      refine wpAnyH_take (i := 2) (oi := _) (v := Value.pointer (some ⟨b4, o4 + k * 2, none⟩)) rfl (by kernel_rfl) (by kernel_rfl) (by kernel_rfl) (fun _ _ _ h => h) (Or.inl ⟨by rfl, fun w' hSw => ?_⟩) hHeld ?_
      · obtain ⟨t0, t1, t2, t3, t4, t5⟩ := hSw
        go_simp
        try simp [*]
        try (intro hh; exfalso; omega)
        try omega
      try simp only [Act.put, List.setIfInBounds_toArray, List.set_cons_zero, List.set_cons_succ, List.getElem_toArray, List.getElem_cons_succ, List.getElem_cons_zero]
      refine wpAnyH_take (i := 3) (oi := _) (v := Value.pointer (some ⟨b4, o4 + k * 2, none⟩)) rfl (by kernel_rfl) (by kernel_rfl) (by kernel_rfl) (fun _ _ _ h => h) (Or.inl ⟨by rfl, fun w' hSw => ?_⟩) hHeld ?_
      · obtain ⟨t0, t1, t2, t3, t4, t5⟩ := hSw
        go_simp
        try simp [*]
        try (intro hh; exfalso; omega)
        try omega
      try simp only [Act.put, List.setIfInBounds_toArray, List.set_cons_zero, List.set_cons_succ, List.getElem_toArray, List.getElem_cons_succ, List.getElem_cons_zero]
      refine wpAnyH_take (i := 4) (oi := _) (v := Value.int .i64 t1) rfl (by kernel_rfl) (by kernel_rfl) (by kernel_rfl) (fun _ _ _ h => h) (Or.inl ⟨by rfl, fun w' hSw => ?_⟩) hHeld ?_
      · obtain ⟨t0, t1, t2, t3, t4, t5⟩ := hSw
        go_simp
        try simp [*]
        try (intro hh; exfalso; omega)
        try omega
      try simp only [Act.put, List.setIfInBounds_toArray, List.set_cons_zero, List.set_cons_succ, List.getElem_toArray, List.getElem_cons_succ, List.getElem_cons_zero]
      refine wpAnyH_take (i := 5) (oi := _) (v := Value.slice (some ⟨b0, o0, none⟩) len g0) rfl (by kernel_rfl) (by kernel_rfl) (by kernel_rfl) (fun _ _ _ h => h) (Or.inl ⟨by rfl, fun w' hSw => ?_⟩) hHeld ?_
      · obtain ⟨t0, t1, t2, t3, t4, t5⟩ := hSw
        go_simp
        try simp [*]
        try (intro hh; exfalso; omega)
        try omega
      try simp only [Act.put, List.setIfInBounds_toArray, List.set_cons_zero, List.set_cons_succ, List.getElem_toArray, List.getElem_cons_succ, List.getElem_cons_zero]
      refine wpAnyH_take (i := 6) (oi := _) (v := Value.int .i64 k) rfl (by kernel_rfl) (by kernel_rfl) (by kernel_rfl) (fun _ _ _ h => h) (Or.inl ⟨by rfl, fun w' hSw => ?_⟩) hHeld ?_
      · obtain ⟨t0, t1, t2, t3, t4, t5⟩ := hSw
        go_simp
        try simp [*]
        try (intro hh; exfalso; omega)
        try omega
      try simp only [Act.put, List.setIfInBounds_toArray, List.set_cons_zero, List.set_cons_succ, List.getElem_toArray, List.getElem_cons_succ, List.getElem_cons_zero]
      refine wpAnyH_take (i := 7) (oi := _) (v := Value.pointer (some ⟨b0, o0 + k, none⟩)) rfl (by kernel_rfl) (by kernel_rfl) (by kernel_rfl) (fun _ _ _ h => h) (Or.inl ⟨by rfl, fun w' hSw => ?_⟩) hHeld ?_
      · obtain ⟨t0, t1, t2, t3, t4, t5⟩ := hSw
        go_simp
        try simp [*]
        try (intro hh; exfalso; omega)
        try omega
      try simp only [Act.put, List.setIfInBounds_toArray, List.set_cons_zero, List.set_cons_succ, List.getElem_toArray, List.getElem_cons_succ, List.getElem_cons_zero]
      refine wpAnyH_take (i := 8) (oi := _) (v := Value.int .i64 z) rfl (by kernel_rfl) (by kernel_rfl) (by kernel_rfl) (fun _ _ _ h => h) (Or.inl ⟨by rfl, fun w' hSw => ?_⟩) hHeld ?_
      · obtain ⟨t0, t1, t2, t3, t4, t5⟩ := hSw
        go_simp
        try simp [*]
        try (intro hh; exfalso; omega)
        try omega
      try simp only [Act.put, List.setIfInBounds_toArray, List.set_cons_zero, List.set_cons_succ, List.getElem_toArray, List.getElem_cons_succ, List.getElem_cons_zero]
      refine wpAnyH_take (i := 9) (oi := _) (v := Value.bool false) rfl (by kernel_rfl) (by kernel_rfl) (by kernel_rfl) (fun _ _ _ h => h) (Or.inl ⟨by rfl, fun w' hSw => ?_⟩) hHeld ?_
      · obtain ⟨t0, t1, t2, t3, t4, t5⟩ := hSw
        go_simp
        try simp [*]
        try (intro hh; exfalso; omega)
        try omega
      try simp only [Act.put, List.setIfInBounds_toArray, List.set_cons_zero, List.set_cons_succ, List.getElem_toArray, List.getElem_cons_succ, List.getElem_cons_zero]
      refine wpAnyH_take (i := 10) (oi := _) (v := Value.bool false) rfl (by kernel_rfl) (by kernel_rfl) (by kernel_rfl) (fun _ _ _ h => h) (Or.inl ⟨by rfl, fun w' hSw => ?_⟩) hHeld ?_
      · obtain ⟨t0, t1, t2, t3, t4, t5⟩ := hSw
        go_simp
        try simp [*]
        try (intro hh; exfalso; omega)
        try omega
      try simp only [Act.put, List.setIfInBounds_toArray, List.set_cons_zero, List.set_cons_succ, List.getElem_toArray, List.getElem_cons_succ, List.getElem_cons_zero]
      refine wpAnyH_take (i := 11) (oi := _) (v := Value.slice (some ⟨b5, o5, none⟩) len g5) rfl (by kernel_rfl) (by kernel_rfl) (by kernel_rfl) (fun _ _ _ h => h) (Or.inl ⟨by rfl, fun w' hSw => ?_⟩) hHeld ?_
      · obtain ⟨t0, t1, t2, t3, t4, t5⟩ := hSw
        go_simp
        try simp [*]
        try (intro hh; exfalso; omega)
        try omega
      try simp only [Act.put, List.setIfInBounds_toArray, List.set_cons_zero, List.set_cons_succ, List.getElem_toArray, List.getElem_cons_succ, List.getElem_cons_zero]
      refine wpAnyH_take (i := 12) (oi := _) (v := Value.int .i64 k) rfl (by kernel_rfl) (by kernel_rfl) (by kernel_rfl) (fun _ _ _ h => h) (Or.inl ⟨by rfl, fun w' hSw => ?_⟩) hHeld ?_
      · obtain ⟨t0, t1, t2, t3, t4, t5⟩ := hSw
        go_simp
        try simp [*]
        try (intro hh; exfalso; omega)
        try omega
      try simp only [Act.put, List.setIfInBounds_toArray, List.set_cons_zero, List.set_cons_succ, List.getElem_toArray, List.getElem_cons_succ, List.getElem_cons_zero]
      refine wpAnyH_take (i := 13) (oi := _) (v := Value.pointer (some ⟨b5, o5 + k * 2, none⟩)) rfl (by kernel_rfl) (by kernel_rfl) (by kernel_rfl) (fun _ _ _ h => h) (Or.inl ⟨by rfl, fun w' hSw => ?_⟩) hHeld ?_
      · obtain ⟨t0, t1, t2, t3, t4, t5⟩ := hSw
        go_simp
        try simp [*]
        try (intro hh; exfalso; omega)
        try omega
      try simp only [Act.put, List.setIfInBounds_toArray, List.set_cons_zero, List.set_cons_succ, List.getElem_toArray, List.getElem_cons_succ, List.getElem_cons_zero]
      refine wpAnyH_take (i := 14) (oi := _) (v := Value.pointer (some ⟨b5, o5 + k * 2, none⟩)) rfl (by kernel_rfl) (by kernel_rfl) (by kernel_rfl) (fun _ _ _ h => h) (Or.inl ⟨by rfl, fun w' hSw => ?_⟩) hHeld ?_
      · obtain ⟨t0, t1, t2, t3, t4, t5⟩ := hSw
        go_simp
        try simp [*]
        try (intro hh; exfalso; omega)
        try omega
      try simp only [Act.put, List.setIfInBounds_toArray, List.set_cons_zero, List.set_cons_succ, List.getElem_toArray, List.getElem_cons_succ, List.getElem_cons_zero]
      refine wpAnyH_take (i := 15) (oi := _) (v := Value.int .i64 p0) rfl (by kernel_rfl) (by kernel_rfl) (by kernel_rfl) (fun _ _ _ h => h) (Or.inl ⟨by rfl, fun w' hSw => ?_⟩) hHeld ?_
      · obtain ⟨t0, t1, t2, t3, t4, t5⟩ := hSw
        go_simp
        try simp [*]
        try (intro hh; exfalso; omega)
        try omega
      try simp only [Act.put, List.setIfInBounds_toArray, List.set_cons_zero, List.set_cons_succ, List.getElem_toArray, List.getElem_cons_succ, List.getElem_cons_zero]
      refine wpAnyH_take (i := 16) (oi := _) (v := Value.bool false) rfl (by kernel_rfl) (by kernel_rfl) (by kernel_rfl) (fun _ _ _ h => h) (Or.inl ⟨by rfl, fun w' hSw => ?_⟩) hHeld ?_
      · obtain ⟨t0, t1, t2, t3, t4, t5⟩ := hSw
        go_simp
        try simp [*]
        try (intro hh; exfalso; omega)
        try omega
      try simp only [Act.put, List.setIfInBounds_toArray, List.set_cons_zero, List.set_cons_succ, List.getElem_toArray, List.getElem_cons_succ, List.getElem_cons_zero]
      refine wpAnyH_take (i := 17) (oi := _) (v := Value.bool false) rfl (by kernel_rfl) (by kernel_rfl) (by kernel_rfl) (fun _ _ _ h => h) (Or.inl ⟨by rfl, fun w' hSw => ?_⟩) hHeld ?_
      · obtain ⟨t0, t1, t2, t3, t4, t5⟩ := hSw
        go_simp
        try simp [*]
        try (intro hh; exfalso; omega)
        try omega
      try simp only [Act.put, List.setIfInBounds_toArray, List.set_cons_zero, List.set_cons_succ, List.getElem_toArray, List.getElem_cons_succ, List.getElem_cons_zero]
      refine wpAnyH_take (i := 18) (oi := _) (v := Value.bool false) rfl (by kernel_rfl) (by kernel_rfl) (by kernel_rfl) (fun _ _ _ h => h) (Or.inl ⟨by rfl, fun w' hSw => ?_⟩) hHeld ?_
      · obtain ⟨t0, t1, t2, t3, t4, t5⟩ := hSw
        go_simp
        try simp [*]
        try (intro hh; exfalso; omega)
        try omega
      try simp only [Act.put, List.setIfInBounds_toArray, List.set_cons_zero, List.set_cons_succ, List.getElem_toArray, List.getElem_cons_succ, List.getElem_cons_zero]
      refine wpAnyH_take (i := 19) (oi := _) (v := Value.slice (some ⟨b5, o5, none⟩) len g5) rfl (by kernel_rfl) (by kernel_rfl) (by kernel_rfl) (fun _ _ _ h => h) (Or.inl ⟨by rfl, fun w' hSw => ?_⟩) hHeld ?_
      · obtain ⟨t0, t1, t2, t3, t4, t5⟩ := hSw
        go_simp
        try simp [*]
        try (intro hh; exfalso; omega)
        try omega
      try simp only [Act.put, List.setIfInBounds_toArray, List.set_cons_zero, List.set_cons_succ, List.getElem_toArray, List.getElem_cons_succ, List.getElem_cons_zero]
      refine wpAnyH_take (i := 20) (oi := _) (v := Value.int .i64 k) rfl (by kernel_rfl) (by kernel_rfl) (by kernel_rfl) (fun _ _ _ h => h) (Or.inl ⟨by rfl, fun w' hSw => ?_⟩) hHeld ?_
      · obtain ⟨t0, t1, t2, t3, t4, t5⟩ := hSw
        go_simp
        try simp [*]
        try (intro hh; exfalso; omega)
        try omega
      try simp only [Act.put, List.setIfInBounds_toArray, List.set_cons_zero, List.set_cons_succ, List.getElem_toArray, List.getElem_cons_succ, List.getElem_cons_zero]
      refine wpAnyH_take (i := 21) (oi := _) (v := Value.pointer (some ⟨b5, o5 + k * 2, none⟩)) rfl (by kernel_rfl) (by kernel_rfl) (by kernel_rfl) (fun _ _ _ h => h) (Or.inl ⟨by rfl, fun w' hSw => ?_⟩) hHeld ?_
      · obtain ⟨t0, t1, t2, t3, t4, t5⟩ := hSw
        go_simp
        try simp [*]
        try (intro hh; exfalso; omega)
        try omega
      try simp only [Act.put, List.setIfInBounds_toArray, List.set_cons_zero, List.set_cons_succ, List.getElem_toArray, List.getElem_cons_succ, List.getElem_cons_zero]
      refine wpAnyH_take (i := 22) (oi := _) (v := Value.pointer (some ⟨b5, o5 + k * 2 + 1, none⟩)) rfl (by kernel_rfl) (by kernel_rfl) (by kernel_rfl) (fun _ _ _ h => h) (Or.inl ⟨by rfl, fun w' hSw => ?_⟩) hHeld ?_
      · obtain ⟨t0, t1, t2, t3, t4, t5⟩ := hSw
        go_simp
        try simp [*]
        try (intro hh; exfalso; omega)
        try omega
      try simp only [Act.put, List.setIfInBounds_toArray, List.set_cons_zero, List.set_cons_succ, List.getElem_toArray, List.getElem_cons_succ, List.getElem_cons_zero]
      refine wpAnyH_take (i := 23) (oi := _) (v := Value.int .i64 p1) rfl (by kernel_rfl) (by kernel_rfl) (by kernel_rfl) (fun _ _ _ h => h) (Or.inl ⟨by rfl, fun w' hSw => ?_⟩) hHeld ?_
      · obtain ⟨t0, t1, t2, t3, t4, t5⟩ := hSw
        go_simp
        try simp [*]
        try (intro hh; exfalso; omega)
        try omega
      try simp only [Act.put, List.setIfInBounds_toArray, List.set_cons_zero, List.set_cons_succ, List.getElem_toArray, List.getElem_cons_succ, List.getElem_cons_zero]
      refine wpAnyH_take (i := 24) (oi := _) (v := Value.int .i64 l) rfl (by kernel_rfl) (by kernel_rfl) (by kernel_rfl) (fun _ _ _ h => h) (Or.inl ⟨by rfl, fun w' hSw => ?_⟩) hHeld ?_
      · obtain ⟨t0, t1, t2, t3, t4, t5⟩ := hSw
        go_simp
        try simp [*]
        try (intro hh; exfalso; omega)
        try omega
      try simp only [Act.put, List.setIfInBounds_toArray, List.set_cons_zero, List.set_cons_succ, List.getElem_toArray, List.getElem_cons_succ, List.getElem_cons_zero]
      refine wpAnyH_take (i := 25) (oi := _) (v := Value.bool false) rfl (by kernel_rfl) (by kernel_rfl) (by kernel_rfl) (fun _ _ _ h => h) (Or.inl ⟨by rfl, fun w' hSw => ?_⟩) hHeld ?_
      · obtain ⟨t0, t1, t2, t3, t4, t5⟩ := hSw
        go_simp
        try simp [*]
        try (intro hh; exfalso; omega)
        try omega
      try simp only [Act.put, List.setIfInBounds_toArray, List.set_cons_zero, List.set_cons_succ, List.getElem_toArray, List.getElem_cons_succ, List.getElem_cons_zero]
      refine wpAnyH_take (i := 26) (oi := _) (v := Value.bool false) rfl (by kernel_rfl) (by kernel_rfl) (by kernel_rfl) (fun _ _ _ h => h) (Or.inl ⟨by rfl, fun w' hSw => ?_⟩) hHeld ?_
      · obtain ⟨t0, t1, t2, t3, t4, t5⟩ := hSw
        go_simp
        try simp [*]
        try (intro hh; exfalso; omega)
        try omega
      try simp only [Act.put, List.setIfInBounds_toArray, List.set_cons_zero, List.set_cons_succ, List.getElem_toArray, List.getElem_cons_succ, List.getElem_cons_zero]
      refine wpAnyH_take (i := 27) (oi := _) (v := Value.bool false) rfl (by kernel_rfl) (by kernel_rfl) (by kernel_rfl) (fun _ _ _ h => h) (Or.inl ⟨by rfl, fun w' hSw => ?_⟩) hHeld ?_
      · obtain ⟨t0, t1, t2, t3, t4, t5⟩ := hSw
        go_simp
        try simp [*]
        try (intro hh; exfalso; omega)
        try omega
      try simp only [Act.put, List.setIfInBounds_toArray, List.set_cons_zero, List.set_cons_succ, List.getElem_toArray, List.getElem_cons_succ, List.getElem_cons_zero]
      refine wpAnyH_take (i := 28) (oi := _) (v := Value.slice (some ⟨b6, o6, none⟩) len g6) rfl (by kernel_rfl) (by kernel_rfl) (by kernel_rfl) (fun _ _ _ h => h) (Or.inl ⟨by rfl, fun w' hSw => ?_⟩) hHeld ?_
      · obtain ⟨t0, t1, t2, t3, t4, t5⟩ := hSw
        go_simp
        try simp [*]
        try (intro hh; exfalso; omega)
        try omega
      try simp only [Act.put, List.setIfInBounds_toArray, List.set_cons_zero, List.set_cons_succ, List.getElem_toArray, List.getElem_cons_succ, List.getElem_cons_zero]
      refine wpAnyH_take (i := 29) (oi := _) (v := Value.int .i64 k) rfl (by kernel_rfl) (by kernel_rfl) (by kernel_rfl) (fun _ _ _ h => h) (Or.inl ⟨by rfl, fun w' hSw => ?_⟩) hHeld ?_
      · obtain ⟨t0, t1, t2, t3, t4, t5⟩ := hSw
        go_simp
        try simp [*]
        try (intro hh; exfalso; omega)
        try omega
      try simp only [Act.put, List.setIfInBounds_toArray, List.set_cons_zero, List.set_cons_succ, List.getElem_toArray, List.getElem_cons_succ, List.getElem_cons_zero]
      refine wpAnyH_take (i := 30) (oi := _) (v := Value.pointer (some ⟨b6, o6 + k * 2, none⟩)) rfl (by kernel_rfl) (by kernel_rfl) (by kernel_rfl) (fun _ _ _ h => h) (Or.inl ⟨by rfl, fun w' hSw => ?_⟩) hHeld ?_
      · obtain ⟨t0, t1, t2, t3, t4, t5⟩ := hSw
        go_simp
        try simp [*]
        try (intro hh; exfalso; omega)
        try omega
      try simp only [Act.put, List.setIfInBounds_toArray, List.set_cons_zero, List.set_cons_succ, List.getElem_toArray, List.getElem_cons_succ, List.getElem_cons_zero]
      refine wpAnyH_take (i := 31) (oi := _) (v := Value.pointer (some ⟨b6, o6 + k * 2, none⟩)) rfl (by kernel_rfl) (by kernel_rfl) (by kernel_rfl) (fun _ _ _ h => h) (Or.inl ⟨by rfl, fun w' hSw => ?_⟩) hHeld ?_
      · obtain ⟨t0, t1, t2, t3, t4, t5⟩ := hSw
        go_simp
        try simp [*]
        try (intro hh; exfalso; omega)
        try omega
      try simp only [Act.put, List.setIfInBounds_toArray, List.set_cons_zero, List.set_cons_succ, List.getElem_toArray, List.getElem_cons_succ, List.getElem_cons_zero]
      refine wpAnyH_take (i := 32) (oi := _) (v := Value.int .i64 s0) rfl (by kernel_rfl) (by kernel_rfl) (by kernel_rfl) (fun _ _ _ h => h) (Or.inl ⟨by rfl, fun w' hSw => ?_⟩) hHeld ?_
      · obtain ⟨t0, t1, t2, t3, t4, t5⟩ := hSw
        go_simp
        try simp [*]
        try (intro hh; exfalso; omega)
        try omega
      try simp only [Act.put, List.setIfInBounds_toArray, List.set_cons_zero, List.set_cons_succ, List.getElem_toArray, List.getElem_cons_succ, List.getElem_cons_zero]
      refine wpAnyH_take (i := 33) (oi := _) (v := Value.bool false) rfl (by kernel_rfl) (by kernel_rfl) (by kernel_rfl) (fun _ _ _ h => h) (Or.inl ⟨by rfl, fun w' hSw => ?_⟩) hHeld ?_
      · obtain ⟨t0, t1, t2, t3, t4, t5⟩ := hSw
        go_simp
        try simp [*]
        try (intro hh; exfalso; omega)
        try omega
      try simp only [Act.put, List.setIfInBounds_toArray, List.set_cons_zero, List.set_cons_succ, List.getElem_toArray, List.getElem_cons_succ, List.getElem_cons_zero]
      refine wpAnyH_take (i := 34) (oi := _) (v := Value.bool false) rfl (by kernel_rfl) (by kernel_rfl) (by kernel_rfl) (fun _ _ _ h => h) (Or.inl ⟨by rfl, fun w' hSw => ?_⟩) hHeld ?_
      · obtain ⟨t0, t1, t2, t3, t4, t5⟩ := hSw
        go_simp
        try simp [*]
        try (intro hh; exfalso; omega)
        try omega
      try simp only [Act.put, List.setIfInBounds_toArray, List.set_cons_zero, List.set_cons_succ, List.getElem_toArray, List.getElem_cons_succ, List.getElem_cons_zero]
      refine wpAnyH_take (i := 35) (oi := _) (v := Value.bool false) rfl (by kernel_rfl) (by kernel_rfl) (by kernel_rfl) (fun _ _ _ h => h) (Or.inl ⟨by rfl, fun w' hSw => ?_⟩) hHeld ?_
      · obtain ⟨t0, t1, t2, t3, t4, t5⟩ := hSw
        go_simp
        try simp [*]
        try (intro hh; exfalso; omega)
        try omega
      try simp only [Act.put, List.setIfInBounds_toArray, List.set_cons_zero, List.set_cons_succ, List.getElem_toArray, List.getElem_cons_succ, List.getElem_cons_zero]
      refine wpAnyH_take (i := 36) (oi := _) (v := Value.slice (some ⟨b6, o6, none⟩) len g6) rfl (by kernel_rfl) (by kernel_rfl) (by kernel_rfl) (fun _ _ _ h => h) (Or.inl ⟨by rfl, fun w' hSw => ?_⟩) hHeld ?_
      · obtain ⟨t0, t1, t2, t3, t4, t5⟩ := hSw
        go_simp
        try simp [*]
        try (intro hh; exfalso; omega)
        try omega
      try simp only [Act.put, List.setIfInBounds_toArray, List.set_cons_zero, List.set_cons_succ, List.getElem_toArray, List.getElem_cons_succ, List.getElem_cons_zero]
      refine wpAnyH_take (i := 37) (oi := _) (v := Value.int .i64 k) rfl (by kernel_rfl) (by kernel_rfl) (by kernel_rfl) (fun _ _ _ h => h) (Or.inl ⟨by rfl, fun w' hSw => ?_⟩) hHeld ?_
      · obtain ⟨t0, t1, t2, t3, t4, t5⟩ := hSw
        go_simp
        try simp [*]
        try (intro hh; exfalso; omega)
        try omega
      try simp only [Act.put, List.setIfInBounds_toArray, List.set_cons_zero, List.set_cons_succ, List.getElem_toArray, List.getElem_cons_succ, List.getElem_cons_zero]
      refine wpAnyH_take (i := 38) (oi := _) (v := Value.pointer (some ⟨b6, o6 + k * 2, none⟩)) rfl (by kernel_rfl) (by kernel_rfl) (by kernel_rfl) (fun _ _ _ h => h) (Or.inl ⟨by rfl, fun w' hSw => ?_⟩) hHeld ?_
      · obtain ⟨t0, t1, t2, t3, t4, t5⟩ := hSw
        go_simp
        try simp [*]
        try (intro hh; exfalso; omega)
        try omega
      try simp only [Act.put, List.setIfInBounds_toArray, List.set_cons_zero, List.set_cons_succ, List.getElem_toArray, List.getElem_cons_succ, List.getElem_cons_zero]
      refine wpAnyH_take (i := 39) (oi := _) (v := Value.pointer (some ⟨b6, o6 + k * 2 + 1, none⟩)) rfl (by kernel_rfl) (by kernel_rfl) (by kernel_rfl) (fun _ _ _ h => h) (Or.inl ⟨by rfl, fun w' hSw => ?_⟩) hHeld ?_
      · obtain ⟨t0, t1, t2, t3, t4, t5⟩ := hSw
        go_simp
        try simp [*]
        try (intro hh; exfalso; omega)
        try omega
      try simp only [Act.put, List.setIfInBounds_toArray, List.set_cons_zero, List.set_cons_succ, List.getElem_toArray, List.getElem_cons_succ, List.getElem_cons_zero]
      refine wpAnyH_take (i := 40) (oi := _) (v := Value.int .i64 s1) rfl (by kernel_rfl) (by kernel_rfl) (by kernel_rfl) (fun _ _ _ h => h) (Or.inl ⟨by rfl, fun w' hSw => ?_⟩) hHeld ?_
      · obtain ⟨t0, t1, t2, t3, t4, t5⟩ := hSw
        go_simp
        try simp [*]
        try (intro hh; exfalso; omega)
        try omega
      try simp only [Act.put, List.setIfInBounds_toArray, List.set_cons_zero, List.set_cons_succ, List.getElem_toArray, List.getElem_cons_succ, List.getElem_cons_zero]
      refine wpAnyH_take (i := 41) (oi := _) (v := Value.int .i64 l) rfl (by kernel_rfl) (by kernel_rfl) (by kernel_rfl) (fun _ _ _ h => h) (Or.inl ⟨by rfl, fun w' hSw => ?_⟩) hHeld ?_
      · obtain ⟨t0, t1, t2, t3, t4, t5⟩ := hSw
        go_simp
        try simp [*]
        try (intro hh; exfalso; omega)
        try omega
      try simp only [Act.put, List.setIfInBounds_toArray, List.set_cons_zero, List.set_cons_succ, List.getElem_toArray, List.getElem_cons_succ, List.getElem_cons_zero]
      refine wpAnyH_take (i := 42) (oi := _) (v := Value.bool false) rfl (by kernel_rfl) (by kernel_rfl) (by kernel_rfl) (fun _ _ _ h => h) (Or.inl ⟨by rfl, fun w' hSw => ?_⟩) hHeld ?_
      · obtain ⟨t0, t1, t2, t3, t4, t5⟩ := hSw
        go_simp
        try simp [*]
        try (intro hh; exfalso; omega)
        try omega
      try simp only [Act.put, List.setIfInBounds_toArray, List.set_cons_zero, List.set_cons_succ, List.getElem_toArray, List.getElem_cons_succ, List.getElem_cons_zero]
      refine wpAnyH_take (i := 43) (oi := _) (v := Value.bool false) rfl (by kernel_rfl) (by kernel_rfl) (by kernel_rfl) (fun _ _ _ h => h) (Or.inl ⟨by rfl, fun w' hSw => ?_⟩) hHeld ?_
      · obtain ⟨t0, t1, t2, t3, t4, t5⟩ := hSw
        go_simp
        try simp [*]
        try (intro hh; exfalso; omega)
        try omega
      try simp only [Act.put, List.setIfInBounds_toArray, List.set_cons_zero, List.set_cons_succ, List.getElem_toArray, List.getElem_cons_succ, List.getElem_cons_zero]
      refine wpAnyH_done (by kernel_rfl) ?_ _
      clear hHeld
      go_wp2_with fail
      go_roundw
      case rel => exact ⟨k + 1, by omega, by go_num, (by repeat (first | exact HBr.out | exact below_drewN HBr.out _ | refine Below.drew ?_)), (by repeat (first | exact HGr.out | exact below_drewN HGr.out _ | refine Below.drew ?_))⟩
      case measure => simp [intOf]; omega
    · obtain rfl : k = len := by omega
      have hS9 := Lib.hid (LSh.out.at hg)
      obtain ⟨k0, k1, k2, k3⟩ := KK.out _ hB
      clear HIc N0 N1 N2 N3 N4 N5 N6 LSh LS HBz hlt M2
      have hs0 := hB.size
      rw [hzA] at hs0
      go_wp2_with fail
      refine Calls.mono (s29 _ _ (HBA.out _ ?_) (hS9.out.at ?_)) ?_
      · repeat (first | exact hB | refine Below.drew ?_ | refine below_drewN ?_ _ | refine Below.setCell ?_ (by first | omega | (simp; omega) | (simp; done)) _ | refine Below.alloc ?_ (by first | omega | (simp; omega) | (simp; done)) _ | refine chainN (by assumption) ?_ (Nat.le_of_eq hzA.symm))
      · repeat (first | exact (Below.refl _ _) | refine Below.drew ?_ | refine below_drewN ?_ _ | refine Below.setCell ?_ (by first | omega | (simp; omega) | (simp; done)) _ | refine Below.alloc ?_ (by first | omega | (simp; omega) | (simp; done)) _ | refine chainN (by assumption) ?_ (Nat.le_refl _))
      rintro e v1 ⟨rfl, hb⟩
      obtain ⟨hc, hf⟩ := bcell hb
      have hV1 : Below (w.heap.size + 1) A v1 := by repeat (first | exact hB | refine Below.drew ?_ | refine below_drewN ?_ _ | refine Below.setCell ?_ (by first | omega | (simp; omega) | (simp; done)) _ | refine Below.alloc ?_ (by first | omega | (simp; omega) | (simp; done)) _ | refine chainN (by assumption) ?_ (Nat.le_of_eq hzA.symm))
      have hG1 : Below wr.heap.size wr v1 := by repeat (first | exact (Below.refl _ _) | refine Below.drew ?_ | refine below_drewN ?_ _ | refine Below.setCell ?_ (by first | omega | (simp; omega) | (simp; done)) _ | refine Below.alloc ?_ (by first | omega | (simp; omega) | (simp; done)) _ | refine chainN (by assumption) ?_ (Nat.le_refl _))
      have hs1 := hV1.size
      rw [hzA] at hs1
      have hz1 := hb.size
      try simp at hz1
      clear hc hf hb k0 k1 k2 k3
      obtain ⟨k0, k1, k2, k3⟩ := KK.out _ hV1
      have zz1 : w.heap.size < v1.heap.size := by omega
      have zy1 : ¬ w.heap.size = v1.heap.size := by omega
      go_wp2_with fail
      refine Calls.mono (s33 _ _ (HBA.out _ ?_) (hS9.out.at ?_)) ?_
      · repeat (first | exact hV1 | refine Below.drew ?_ | refine below_drewN ?_ _ | refine Below.setCell ?_ (by first | omega | (simp; omega) | (simp; done)) _ | refine Below.alloc ?_ (by first | omega | (simp; omega) | (simp; done)) _ | refine chainN (by assumption) ?_ (Nat.le_of_eq hzA.symm))
      · repeat (first | exact hG1 | refine Below.drew ?_ | refine below_drewN ?_ _ | refine Below.setCell ?_ (by first | omega | (simp; omega) | (simp; done)) _ | refine Below.alloc ?_ (by first | omega | (simp; omega) | (simp; done)) _ | refine chainN (by assumption) ?_ (Nat.le_refl _))
      rintro e v2 ⟨rfl, hb⟩
      obtain ⟨hc, hf⟩ := bcell hb
      have hV2 : Below (w.heap.size + 1) A v2 := by repeat (first | exact hV1 | refine Below.drew ?_ | refine below_drewN ?_ _ | refine Below.setCell ?_ (by first | omega | (simp; omega) | (simp; done)) _ | refine Below.alloc ?_ (by first | omega | (simp; omega) | (simp; done)) _ | refine chainN (by assumption) ?_ (Nat.le_of_eq hzA.symm))
      have hs2 := hV2.size
      rw [hzA] at hs2
      have hz2 := hb.size
      try simp at hz2
      have yv10 : v2.cell? ⟨v1.heap.size, 0, none⟩ = some (.int .i64 D) := by rw [hc _ _ (by first | omega | (simp; omega) | (simp; done))]; simp [go_sem, *]
      have yv11 : v2.cell? ⟨v1.heap.size, 1, none⟩ = some (.int .i64 D) := by rw [hc _ _ (by first | omega | (simp; omega) | (simp; done))]; simp [go_sem, *]
      clear hc hf hb k0 k1 k2 k3
      obtain ⟨k0, k1, k2, k3⟩ := KK.out _ hV2
      have zz2 : w.heap.size < v2.heap.size := by omega
      have zy2 : ¬ w.heap.size = v2.heap.size := by omega
      have zwv12 : v1.heap.size < v2.heap.size := by omega
      have zvv12 : ¬ v1.heap.size = v2.heap.size := by omega
      go_wp2_with fail
      refine Calls.mono (c29 _ (HBA.out _ ?_)) ?_
      · repeat (first | exact hV2 | refine Below.drew ?_ | refine below_drewN ?_ _ | refine Below.setCell ?_ (by first | omega | (simp; omega) | (simp; done)) _ | refine Below.alloc ?_ (by first | omega | (simp; omega) | (simp; done)) _ | refine chainN (by assumption) ?_ (Nat.le_of_eq hzA.symm))
      rintro e v3 ⟨rfl, hb⟩
      obtain ⟨hc, hf⟩ := bcell hb
      have hV3 : Below (w.heap.size + 1) A v3 := by repeat (first | exact hV2 | refine Below.drew ?_ | refine below_drewN ?_ _ | refine Below.setCell ?_ (by first | omega | (simp; omega) | (simp; done)) _ | refine Below.alloc ?_ (by first | omega | (simp; omega) | (simp; done)) _ | refine chainN (by assumption) ?_ (Nat.le_of_eq hzA.symm))
      have hs3 := hV3.size
      rw [hzA] at hs3
      have hz3 := hb.size
      try simp at hz3
      have yv10 : v3.cell? ⟨v1.heap.size, 0, none⟩ = some (.int .i64 D) := by rw [hc _ _ (by first | omega | (simp; omega) | (simp; done))]; simp [go_sem, *]
      have yv11 : v3.cell? ⟨v1.heap.size, 1, none⟩ = some (.int .i64 D) := by rw [hc _ _ (by first | omega | (simp; omega) | (simp; done))]; simp [go_sem, *]
      have yv20 : v3.cell? ⟨v2.heap.size, 0, none⟩ = some (.int .i64 0) := by rw [hc _ _ (by first | omega | (simp; omega) | (simp; done))]; simp [go_sem, *]
      have yv21 : v3.cell? ⟨v2.heap.size, 1, none⟩ = some (.int .i64 0) := by rw [hc _ _ (by first | omega | (simp; omega) | (simp; done))]; simp [go_sem, *]
      clear hc hf hb k0 k1 k2 k3
      obtain ⟨k0, k1, k2, k3⟩ := KK.out _ hV3
      have zz3 : w.heap.size < v3.heap.size := by omega
      have zy3 : ¬ w.heap.size = v3.heap.size := by omega
      have zwv13 : v1.heap.size < v3.heap.size := by omega
      have zvv13 : ¬ v1.heap.size = v3.heap.size := by omega
      have zwv23 : v2.heap.size < v3.heap.size := by omega
      have zvv23 : ¬ v2.heap.size = v3.heap.size := by omega
      go_wp2_with fail
      refine Calls.mono (c33 _ (HBA.out _ ?_)) ?_
      · repeat (first | exact hV3 | refine Below.drew ?_ | refine below_drewN ?_ _ | refine Below.setCell ?_ (by first | omega | (simp; omega) | (simp; done)) _ | refine Below.alloc ?_ (by first | omega | (simp; omega) | (simp; done)) _ | refine chainN (by assumption) ?_ (Nat.le_of_eq hzA.symm))
      rintro e v4 ⟨rfl, hb⟩
      obtain ⟨hc, hf⟩ := bcell hb
      have hV4 : Below (w.heap.size + 1) A v4 := by repeat (first | exact hV3 | refine Below.drew ?_ | refine below_drewN ?_ _ | refine Below.setCell ?_ (by first | omega | (simp; omega) | (simp; done)) _ | refine Below.alloc ?_ (by first | omega | (simp; omega) | (simp; done)) _ | refine chainN (by assumption) ?_ (Nat.le_of_eq hzA.symm))
      have hs4 := hV4.size
      rw [hzA] at hs4
      have hz4 := hb.size
      try simp at hz4
      have yv10 : v4.cell? ⟨v1.heap.size, 0, none⟩ = some (.int .i64 D) := by rw [hc _ _ (by first | omega | (simp; omega) | (simp; done))]; simp [go_sem, *]
      have yv11 : v4.cell? ⟨v1.heap.size, 1, none⟩ = some (.int .i64 D) := by rw [hc _ _ (by first | omega | (simp; omega) | (simp; done))]; simp [go_sem, *]
      have yv20 : v4.cell? ⟨v2.heap.size, 0, none⟩ = some (.int .i64 0) := by rw [hc _ _ (by first | omega | (simp; omega) | (simp; done))]; simp [go_sem, *]
      have yv21 : v4.cell? ⟨v2.heap.size, 1, none⟩ = some (.int .i64 0) := by rw [hc _ _ (by first | omega | (simp; omega) | (simp; done))]; simp [go_sem, *]
      have yv30 : v4.cell? ⟨v3.heap.size, 0, none⟩ = some (.int .i64 tl) := by rw [hc _ _ (by first | omega | (simp; omega) | (simp; done))]; simp [go_sem, *]
      have yv31 : v4.cell? ⟨v3.heap.size, 1, none⟩ = some (.int .i64 th) := by rw [hc _ _ (by first | omega | (simp; omega) | (simp; done))]; simp [go_sem, *]
      clear hc hf hb k0 k1 k2 k3
      obtain ⟨k0, k1, k2, k3⟩ := KK.out _ hV4
      have zz4 : w.heap.size < v4.heap.size := by omega
      have zy4 : ¬ w.heap.size = v4.heap.size := by omega
      have zwv14 : v1.heap.size < v4.heap.size := by omega
      have zvv14 : ¬ v1.heap.size = v4.heap.size := by omega
      have zwv24 : v2.heap.size < v4.heap.size := by omega
      have zvv24 : ¬ v2.heap.size = v4.heap.size := by omega
      have zwv34 : v3.heap.size < v4.heap.size := by omega
      have zvv34 : ¬ v3.heap.size = v4.heap.size := by omega
      have HBf := Lib.hid (HBA.out _ (show Below (w.heap.size + 1) A (v4.alloc (Obj.cells #[Value.int IntKind.i64 kl, Value.int IntKind.i64 kh] 41)) from hV4.alloc (by omega) _))
      go_wp2_with fail
      refine (HF.out _).mono ?_
      rintro e v5 ⟨rfl, hb⟩
      have HBg := Lib.hid (HBf.out.trans (hb.mono HBf.out.size))
      clear hb
      go_wp2_with fail
      go_ret
      exact ⟨rfl, HBg.out⟩
end Go.Proofs.Ythogahdnidjelaa

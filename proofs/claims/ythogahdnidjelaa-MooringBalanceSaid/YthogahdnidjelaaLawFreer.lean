/-
  MooringFreer: the walk.
-/
import Derived.Test.YthogahdnidjelaaValid
import Derived.Test.YthogahdnidjelaaShape3
namespace Go.Proofs.Ythogahdnidjelaa
open Go.RowKit Go.Shelf
set_option linter.unusedSimpArgs false
theorem Prs.form {n₀ : Nat} {W : World} {sv : Value} {cs : List Pr} (h : Prs n₀ W sv cs) : ∃ a c, sv = .slice a cs.length c := by
  obtain ⟨a, c, rfl, -, -⟩ := h
  exact ⟨a, c, rfl⟩
theorem Nums.form {n₀ : Nat} {W : World} {sv : Value} {cs : List Int} (h : Nums n₀ W sv cs) : ∃ a c, sv = .slice a cs.length c := by
  obtain ⟨a, c, rfl, -, -⟩ := h
  exact ⟨a, c, rfl⟩
theorem Prs.get {n₀ : Nat} {W : World} {a : Option Addr} {c n : Nat} {cs : List Pr} (h : Prs n₀ W (.slice a n c) cs) : ∀ k, k < cs.length → ∃ b off, a = some ⟨b, off, none⟩ ∧ b < n₀ ∧ W.cell? ⟨b, off + k * 2, none⟩ = some (.int .i64 (pr cs k).lo) ∧ W.cell? ⟨b, off + k * 2 + 1, none⟩ = some (.int .i64 (pr cs k).hi) := by
  obtain ⟨a', c', e, -, hh⟩ := h
  simp only [Value.slice.injEq] at e
  obtain ⟨rfl, -, -⟩ := e
  exact hh
theorem inB_rows {F G : Nat → Pr} {n : Nat} (h : ∀ k, k < n → (G (k + 1)).lo ≤ (F (k + 1)).lo ∧ (F (k + 1)).hi ≤ (G (k + 1)).hi ∧ (F (k + 1)).lo ≤ (F (k + 1)).hi) : InB (rowL F n) (rowL G n) := by
  refine ⟨by rw [rowL_len, rowL_len], fun k hk => ?_⟩
  rw [rowL_len] at hk
  rw [rowL_get _ _ _ hk, rowL_get _ _ _ hk]
  exact h k hk
theorem freer_math {d : Int} {zs : List El} {an fr : Int} {cs : List Pr} (h : staE d zs an fr cs = 0) :
    InB (pulV d zs an fr cs false) (pulV d zs an fr cs true) ∧ InB (offV d zs an fr cs false) (offV d zs an fr cs true) ∧ InB (risV d zs an fr cs false) (risV d zs an fr cs true) ∧
    totHi (offV d zs an fr cs false) (offV d zs an fr cs false).length = totHi (offV d zs an fr cs true) (offV d zs an fr cs true).length ∧
    (0 < (pulV d zs an fr cs false).length ∧ (pulV d zs an fr cs false).length ≤ 40 ∧ (pulV d zs an fr cs true).length = (pulV d zs an fr cs false).length) ∧
    (∀ k, k < (pulV d zs an fr cs false).length → (pr (pulV d zs an fr cs false) k).hi = (pr (pulV d zs an fr cs true) k).hi) ∧
    pr (pulV d zs an fr cs false) 0 = pr (pulV d zs an fr cs true) 0 ∧ (offV d zs an fr cs false).length ≤ 40 ∧ (risV d zs an fr cs false).length ≤ 40 := by
  obtain ⟨hr, hs, -, hc⟩ := staE_ok h
  have hst := (standB_iff hr.pos).1 hs
  have hm := hr.most
  have hp := hr.pos
  have e1 : ∀ free, pulV d zs an fr cs free = rowL (pulG free zs cs) zs.length := fun free => if_pos hc
  have e2 : ∀ free, offV d zs an fr cs free = rowL (offG free zs cs) zs.length := fun free => if_pos h
  have e3 : ∀ free, risV d zs an fr cs free = rowL (risG free zs cs) zs.length := fun free => if_pos h
  rw [e1, e1, e2, e2, e3, e3]
  simp only [rowL_len]
  refine ⟨inB_rows fun k hk => ?_, inB_rows fun k hk => ?_, inB_rows fun k hk => ?_, free_circle hr hst, ⟨hp, hm, by first | rfl | trivial⟩, fun k hk => ?_, ?_, hm, hm⟩
  · have := free_le hr (k := k + 1) (by omega)
    simp only [pulG]
    omega
  · have := free_off hr hst hk
    omega
  · have a := free_ris hr hst hk
    have b := ris_bd hr hst false hk
    omega
  · rw [rowL_get _ _ _ hk, rowL_get _ _ _ hk]; rfl
  · rw [rowL_get _ _ _ hp, rowL_get _ _ _ hp]
    simp only [pulG, Nat.zero_add, Pr.mk.injEq, and_true]
    exact (free_first hr hp).symm
set_option maxRecDepth 100000 in
set_option maxHeartbeats 20000000 in
theorem law_freer (d an fr : Int) (sv cv : Value) (zs : List El) (cs : List Pr) (w : World) (hI : Els w.heap.size w sv zs) (hC : Prs w.heap.size w cv cs) :
    Calls Try.prog 8 #[.agg #[.int .i64 d, sv, .int .i64 an, .int .i64 fr], cv] w fun e w' => e = .returned (.bool true) ∧ Below w.heap.size w w' := by
  have c47 := fun w' (hb : Below w.heap.size w w') => valid_any d an fr sv cv zs cs w' (hI.at hb) (hC.at hb)
  have c23f := fun w' (hb : Below w.heap.size w w') => pulls_any d an fr sv cv zs cs false w' (hI.at hb) (hC.at hb)
  have c23t := fun w' (hb : Below w.heap.size w w') => pulls_any d an fr sv cv zs cs true w' (hI.at hb) (hC.at hb)
  have c27f := fun w' (hb : Below w.heap.size w w') => shape_any d an fr sv cv zs cs false w' (hI.at hb) (hC.at hb)
  have c27t := fun w' (hb : Below w.heap.size w w') => shape_any d an fr sv cv zs cs true w' (hI.at hb) (hC.at hb)
  have c31f := fun w' (hb : Below w.heap.size w w') => circle_any d an fr sv cv zs cs false w' (hI.at hb) (hC.at hb)
  have c31t := fun w' (hb : Below w.heap.size w w') => circle_any d an fr sv cv zs cs true w' (hI.at hb) (hC.at hb)
  have HF := Lib.hid (fun W => fine_any W)
  have HM := Lib.hid (fun (h : staE d zs an fr cs = 0) => freer_math h)
  have HE := Lib.hid (fun (h : staE d zs an fr cs = 0) => (staE_ok h).2.2.2)
  obtain ⟨a, cap, rfl, -, -⟩ := hI
  obtain ⟨c, cap2, rfl, -, -⟩ := hC
  generalize pulV d zs an fr cs false = P0 at *
  generalize pulV d zs an fr cs true = P1 at *
  generalize offV d zs an fr cs false = O0 at *
  generalize offV d zs an fr cs true = O1 at *
  generalize risV d zs an fr cs false = R0 at *
  generalize risV d zs an fr cs true = R1 at *
  generalize curE d zs an fr cs = E2 at *
  generalize staE d zs an fr cs = E3 at *
  generalize zs.length = len at *
  generalize cs.length = len2 at *
  obtain ⟨A, hA⟩ : ∃ A, A = w.alloc (.cells #[.int .i64 d, .slice a len cap, .int .i64 an, .int .i64 fr] 24) := ⟨_, rfl⟩
  have hzA : A.heap.size = w.heap.size + 1 := by rw [hA]; simp
  have KK := Lib.hid (show ∀ W, Below (w.heap.size + 1) A W → W.cell? ⟨w.heap.size, 0, none⟩ = some (.int .i64 d) ∧ W.cell? ⟨w.heap.size, 1, none⟩ = some (.slice a len cap) ∧ W.cell? ⟨w.heap.size, 2, none⟩ = some (.int .i64 an) ∧ W.cell? ⟨w.heap.size, 3, none⟩ = some (.int .i64 fr) from fun W h => by
    refine ⟨(h.cell (p := ⟨w.heap.size, 0, none⟩) (Nat.lt_succ_self _)).trans ?_, (h.cell (p := ⟨w.heap.size, 1, none⟩) (Nat.lt_succ_self _)).trans ?_, (h.cell (p := ⟨w.heap.size, 2, none⟩) (Nat.lt_succ_self _)).trans ?_, (h.cell (p := ⟨w.heap.size, 3, none⟩) (Nat.lt_succ_self _)).trans ?_⟩ <;> (rw [hA]; simp [go_sem]))
  have HBA := Lib.hid (show ∀ W, Below (w.heap.size + 1) A W → Below w.heap.size w W from fun W h => by
    have e : Below w.heap.size w A := by rw [hA]; exact (Below.refl _ _).alloc (Nat.le_refl _) _
    exact e.trans (h.mono (Nat.le_succ _)))
  by_cases h0 : E3 = 0
  rotate_left
  · have hd : decide (E3 = 0) = false := decide_eq_false h0
    rw [hd] at c47
    clear HM HE c23f c23t c27f c27t c31f c31t h0 hd
    go_enter Try.func8, Try.ntmps8
    go_wp2_with fail
    try rw [← hA]
    refine (c47 _ (HBA.out _ (Below.refl _ _))).mono ?_
    rintro e w1 ⟨rfl, hb⟩
    have hB1 : Below (w.heap.size + 1) A w1 := hb.mono (by omega)
    clear hb hA
    obtain ⟨k0, k1, k2, k3⟩ := KK.out _ hB1
    have HB := Lib.hid (HBA.out _ hB1)
    clear k0 k1 k2 k3
    go_wp2_with fail
    refine (HF.out _).mono ?_
    rintro e w2 ⟨rfl, hb⟩
    have HB2 := Lib.hid (HB.out.trans (hb.mono HB.out.size))
    clear hb
    go_wp2_with fail
    go_ret
    exact ⟨rfl, HB2.out⟩
  subst h0
  obtain rfl := HE.out rfl
  obtain ⟨m1, m2, m3, m4, ⟨n0, n1, n2⟩, m5, m6, n3, n4⟩ := HM.out rfl
  have M1 := Lib.hid m1
  have M2 := Lib.hid m2
  have M3 := Lib.hid m3
  have M5 := Lib.hid m5
  have M6 := Lib.hid m6
  clear m1 m2 m3 m5 m6 HM HE
  rw [show decide ((0 : Int) = 0) = true from rfl] at c47
  skip
  go_enter Try.func8, Try.ntmps8
  go_wp2_with fail
  try rw [← hA]
  refine (c47 _ (HBA.out _ (Below.refl _ _))).mono ?_
  rintro e w1 ⟨rfl, hb⟩
  have hB1 : Below (w.heap.size + 1) A w1 := hb.mono (by omega)
  clear hb hA
  obtain ⟨k0, k1, k2, k3⟩ := KK.out _ hB1
  go_wp2_with fail
  refine (c23f _ (HBA.out _ hB1)).mono ?_
  rintro e w2 ⟨v2, rfl, hP, hb⟩
  have hB2 : Below (w.heap.size + 1) A w2 := hB1.trans (hb.mono (by have := hB1.size; omega))
  have L0 := Lib.hid hP
  obtain ⟨a0, q0, rfl⟩ := hP.form
  clear hP
  clear hb k0 k1 k2 k3
  obtain ⟨k0, k1, k2, k3⟩ := KK.out _ hB2
  go_wp2_with fail
  refine (c23t _ (HBA.out _ hB2)).mono ?_
  rintro e w3 ⟨v3, rfl, hP, hb⟩
  have hB3 : Below (w.heap.size + 1) A w3 := hB2.trans (hb.mono (by have := hB2.size; omega))
  replace L0 := Lib.hid (L0.out.at hb)
  have L1 := Lib.hid hP
  obtain ⟨a1, q1, rfl⟩ := hP.form
  clear hP
  clear hb k0 k1 k2 k3
  obtain ⟨k0, k1, k2, k3⟩ := KK.out _ hB3
  go_wp2_with fail
  refine (c27f _ (HBA.out _ hB3)).mono ?_
  rintro e w4 ⟨v4, v5, rfl, hP, hQ, hb⟩
  have hB4 : Below (w.heap.size + 1) A w4 := hB3.trans (hb.mono (by have := hB3.size; omega))
  replace L0 := Lib.hid (L0.out.at hb)
  replace L1 := Lib.hid (L1.out.at hb)
  have L2 := Lib.hid hP
  obtain ⟨a2, q2, rfl⟩ := hP.form
  clear hP
  have L3 := Lib.hid hQ
  obtain ⟨a3, q3, rfl⟩ := hQ.form
  clear hQ
  clear hb k0 k1 k2 k3
  obtain ⟨k0, k1, k2, k3⟩ := KK.out _ hB4
  go_wp2_with fail
  refine (c27t _ (HBA.out _ hB4)).mono ?_
  rintro e w5 ⟨v6, v7, rfl, hP, hQ, hb⟩
  have hB5 : Below (w.heap.size + 1) A w5 := hB4.trans (hb.mono (by have := hB4.size; omega))
  replace L0 := Lib.hid (L0.out.at hb)
  replace L1 := Lib.hid (L1.out.at hb)
  replace L2 := Lib.hid (L2.out.at hb)
  replace L3 := Lib.hid (L3.out.at hb)
  have L4 := Lib.hid hP
  obtain ⟨a4, q4, rfl⟩ := hP.form
  clear hP
  have L5 := Lib.hid hQ
  obtain ⟨a5, q5, rfl⟩ := hQ.form
  clear hQ
  clear hb k0 k1 k2 k3
  obtain ⟨k0, k1, k2, k3⟩ := KK.out _ hB5
  go_wp2_with fail
  refine (c31f _ (HBA.out _ hB5)).mono ?_
  rintro e w6 ⟨rfl, hb⟩
  have hB6 : Below (w.heap.size + 1) A w6 := hB5.trans (hb.mono (by have := hB5.size; omega))
  replace L0 := Lib.hid (L0.out.at hb)
  replace L1 := Lib.hid (L1.out.at hb)
  replace L2 := Lib.hid (L2.out.at hb)
  replace L3 := Lib.hid (L3.out.at hb)
  replace L4 := Lib.hid (L4.out.at hb)
  replace L5 := Lib.hid (L5.out.at hb)
  clear hb k0 k1 k2 k3
  obtain ⟨k0, k1, k2, k3⟩ := KK.out _ hB6
  go_wp2_with fail
  refine (c31t _ (HBA.out _ hB6)).mono ?_
  rintro e w7 ⟨rfl, hb⟩
  have hB7 : Below (w.heap.size + 1) A w7 := hB6.trans (hb.mono (by have := hB6.size; omega))
  replace L0 := Lib.hid (L0.out.at hb)
  replace L1 := Lib.hid (L1.out.at hb)
  replace L2 := Lib.hid (L2.out.at hb)
  replace L3 := Lib.hid (L3.out.at hb)
  replace L4 := Lib.hid (L4.out.at hb)
  replace L5 := Lib.hid (L5.out.at hb)
  clear hb k0 k1 k2 k3
  obtain ⟨k0, k1, k2, k3⟩ := KK.out _ hB7
  clear c47 c23f c23t c27f c27t c31f c31t
  generalize totHi O0 O0.length = th at *
  generalize totHi O1 O1.length = th1 at *
  subst m4
  rw [n2] at L1
  skip
  go_wp2_with fail
  refine (inside_any _ _ _ _ n1 M1.out _ L0.out L1.out).mono ?_
  rintro e w8 ⟨rfl, hb⟩
  have hB8 : Below (w.heap.size + 1) A w8 := hB7.trans (hb.mono (by have := hB7.size; omega))
  replace L0 := Lib.hid (L0.out.at hb)
  replace L1 := Lib.hid (L1.out.at hb)
  replace L2 := Lib.hid (L2.out.at hb)
  replace L3 := Lib.hid (L3.out.at hb)
  replace L4 := Lib.hid (L4.out.at hb)
  replace L5 := Lib.hid (L5.out.at hb)
  clear hb k0 k1 k2 k3
  obtain ⟨k0, k1, k2, k3⟩ := KK.out _ hB8
  go_wp2_with fail
  refine (inside_any _ _ _ _ n3 M2.out _ L2.out L4.out).mono ?_
  rintro e w9 ⟨rfl, hb⟩
  have hB9 : Below (w.heap.size + 1) A w9 := hB8.trans (hb.mono (by have := hB8.size; omega))
  replace L0 := Lib.hid (L0.out.at hb)
  replace L1 := Lib.hid (L1.out.at hb)
  replace L2 := Lib.hid (L2.out.at hb)
  replace L3 := Lib.hid (L3.out.at hb)
  replace L4 := Lib.hid (L4.out.at hb)
  replace L5 := Lib.hid (L5.out.at hb)
  clear hb k0 k1 k2 k3
  obtain ⟨k0, k1, k2, k3⟩ := KK.out _ hB9
  go_wp2_with fail
  refine (inside_any _ _ _ _ n4 M3.out _ L3.out L5.out).mono ?_
  rintro e w10 ⟨rfl, hb⟩
  have hB10 : Below (w.heap.size + 1) A w10 := hB9.trans (hb.mono (by have := hB9.size; omega))
  replace L0 := Lib.hid (L0.out.at hb)
  replace L1 := Lib.hid (L1.out.at hb)
  replace L2 := Lib.hid (L2.out.at hb)
  replace L3 := Lib.hid (L3.out.at hb)
  replace L4 := Lib.hid (L4.out.at hb)
  replace L5 := Lib.hid (L5.out.at hb)
  clear hb k0 k1 k2 k3
  have HP0 := Lib.hid L0.out.get
  have HP1 := Lib.hid (by have h := L1.out.get; rw [n2] at h; exact h)
  have HBz := Lib.hid hB10
  have n0' : (0 : Int) < (P0.length : Int) := by omega
  generalize P0.length = n at *
  clear L0 L1 L2 L3 L4 L5 M1 M2 M3 n2 n3 n4
  go_wp2_with fail
  go_loopw [19] (fun i wr => ∃ k : Nat, k ≤ n ∧ i = .int .i64 k ∧ Below (w.heap.size + 1) A wr ∧ Below w10.heap.size w10 wr) (fun i _ => n - (intOf i).toNat)
  case atStart => exact ⟨0, Nat.zero_le _, rfl, HBz.out, Below.refl _ _⟩
  case round =>
    obtain ⟨k, hk, rfl, hB, hg⟩ := hrel
    by_cases hlt : k < n
    · obtain ⟨b1, off1, rfl, hb1, -, c1⟩ := HP0.out k hlt
      obtain ⟨b2, off2, rfl, hb2, -, d1⟩ := HP1.out k hlt
      have e5 := M5.out k hlt
      have k1 := (hg.cell (p := ⟨b1, off1 + k * 2 + 1, none⟩) hb1).trans c1
      have l1 := (hg.cell (p := ⟨b2, off2 + k * 2 + 1, none⟩) hb2).trans d1
      clear c1 d1
      generalize (pr P1 k).hi = y at *
      rw [e5] at k1
      have HBr := Lib.hid hB
      have HGr := Lib.hid hg
      clear e5 hB hg
      go_wp2_with fail
      refine wp_region_held_drew (S := fun w' => w'.cell? ⟨b1, off1 + k * 2 + 1, none⟩ = some (.int .i64 y) ∧ w'.cell? ⟨b2, off2 + k * 2 + 1, none⟩ = some (.int .i64 y)) (by kernel_rfl) ⟨by simpa [go_sem] using k1, by simpa [go_sem] using l1⟩ (fun hHeld => ?_)
      refine wpAnyH_take (i := 0) (oi := _) (v := Value.slice (some ⟨b1, off1, none⟩) n q0) rfl (by kernel_rfl) (by kernel_rfl) (by kernel_rfl) (fun _ _ _ h => h) (Or.inl ⟨by rfl, fun w' hSw => ?_⟩) hHeld ?_
      · obtain ⟨t0, t1⟩ := hSw
        go_simp
        try simp [*]
        try (intro hh; exfalso; omega)
        try omega
      try simp only [Act.put, List.setIfInBounds_toArray, List.set_cons_zero, List.set_cons_succ, List.getElem_toArray, List.getElem_cons_succ, List.getElem_cons_zero]
      refine wpAnyH_take (i := 1) (oi := _) (v := Value.int .i64 k) rfl (by kernel_rfl) (by kernel_rfl) (by kernel_rfl) (fun _ _ _ h => h) (Or.inl ⟨by rfl, fun w' hSw => ?_⟩) hHeld ?_
      · obtain ⟨t0, t1⟩ := hSw
        go_simp
        try simp [*]
        try (intro hh; exfalso; omega)
        try omega
      try simp only [Act.put, List.setIfInBounds_toArray, List.set_cons_zero, List.set_cons_succ, List.getElem_toArray, List.getElem_cons_succ, List.getElem_cons_zero]
      refine wpAnyH_take (i := 2) (oi := _) (v := Value.pointer (some ⟨b1, off1 + k * 2, none⟩)) rfl (by kernel_rfl) (by kernel_rfl) (by kernel_rfl) (fun _ _ _ h => h) (Or.inl ⟨by rfl, fun w' hSw => ?_⟩) hHeld ?_
      · obtain ⟨t0, t1⟩ := hSw
        go_simp
        try simp [*]
        try (intro hh; exfalso; omega)
        try omega
      try simp only [Act.put, List.setIfInBounds_toArray, List.set_cons_zero, List.set_cons_succ, List.getElem_toArray, List.getElem_cons_succ, List.getElem_cons_zero]
      refine wpAnyH_take (i := 3) (oi := _) (v := Value.pointer (some ⟨b1, off1 + k * 2 + 1, none⟩)) rfl (by kernel_rfl) (by kernel_rfl) (by kernel_rfl) (fun _ _ _ h => h) (Or.inl ⟨by rfl, fun w' hSw => ?_⟩) hHeld ?_
      · obtain ⟨t0, t1⟩ := hSw
        go_simp
        try simp [*]
        try (intro hh; exfalso; omega)
        try omega
      try simp only [Act.put, List.setIfInBounds_toArray, List.set_cons_zero, List.set_cons_succ, List.getElem_toArray, List.getElem_cons_succ, List.getElem_cons_zero]
      refine wpAnyH_take (i := 4) (oi := _) (v := Value.int .i64 y) rfl (by kernel_rfl) (by kernel_rfl) (by kernel_rfl) (fun _ _ _ h => h) (Or.inl ⟨by rfl, fun w' hSw => ?_⟩) hHeld ?_
      · obtain ⟨t0, t1⟩ := hSw
        go_simp
        try simp [*]
        try (intro hh; exfalso; omega)
        try omega
      try simp only [Act.put, List.setIfInBounds_toArray, List.set_cons_zero, List.set_cons_succ, List.getElem_toArray, List.getElem_cons_succ, List.getElem_cons_zero]
      refine wpAnyH_take (i := 5) (oi := _) (v := Value.slice (some ⟨b2, off2, none⟩) n q1) rfl (by kernel_rfl) (by kernel_rfl) (by kernel_rfl) (fun _ _ _ h => h) (Or.inl ⟨by rfl, fun w' hSw => ?_⟩) hHeld ?_
      · obtain ⟨t0, t1⟩ := hSw
        go_simp
        try simp [*]
        try (intro hh; exfalso; omega)
        try omega
      try simp only [Act.put, List.setIfInBounds_toArray, List.set_cons_zero, List.set_cons_succ, List.getElem_toArray, List.getElem_cons_succ, List.getElem_cons_zero]
      refine wpAnyH_take (i := 6) (oi := _) (v := Value.int .i64 k) rfl (by kernel_rfl) (by kernel_rfl) (by kernel_rfl) (fun _ _ _ h => h) (Or.inl ⟨by rfl, fun w' hSw => ?_⟩) hHeld ?_
      · obtain ⟨t0, t1⟩ := hSw
        go_simp
        try simp [*]
        try (intro hh; exfalso; omega)
        try omega
      try simp only [Act.put, List.setIfInBounds_toArray, List.set_cons_zero, List.set_cons_succ, List.getElem_toArray, List.getElem_cons_succ, List.getElem_cons_zero]
      refine wpAnyH_take (i := 7) (oi := _) (v := Value.pointer (some ⟨b2, off2 + k * 2, none⟩)) rfl (by kernel_rfl) (by kernel_rfl) (by kernel_rfl) (fun _ _ _ h => h) (Or.inl ⟨by rfl, fun w' hSw => ?_⟩) hHeld ?_
      · obtain ⟨t0, t1⟩ := hSw
        go_simp
        try simp [*]
        try (intro hh; exfalso; omega)
        try omega
      try simp only [Act.put, List.setIfInBounds_toArray, List.set_cons_zero, List.set_cons_succ, List.getElem_toArray, List.getElem_cons_succ, List.getElem_cons_zero]
      refine wpAnyH_take (i := 8) (oi := _) (v := Value.pointer (some ⟨b2, off2 + k * 2 + 1, none⟩)) rfl (by kernel_rfl) (by kernel_rfl) (by kernel_rfl) (fun _ _ _ h => h) (Or.inl ⟨by rfl, fun w' hSw => ?_⟩) hHeld ?_
      · obtain ⟨t0, t1⟩ := hSw
        go_simp
        try simp [*]
        try (intro hh; exfalso; omega)
        try omega
      try simp only [Act.put, List.setIfInBounds_toArray, List.set_cons_zero, List.set_cons_succ, List.getElem_toArray, List.getElem_cons_succ, List.getElem_cons_zero]
      refine wpAnyH_take (i := 9) (oi := _) (v := Value.int .i64 y) rfl (by kernel_rfl) (by kernel_rfl) (by kernel_rfl) (fun _ _ _ h => h) (Or.inl ⟨by rfl, fun w' hSw => ?_⟩) hHeld ?_
      · obtain ⟨t0, t1⟩ := hSw
        go_simp
        try simp [*]
        try (intro hh; exfalso; omega)
        try omega
      try simp only [Act.put, List.setIfInBounds_toArray, List.set_cons_zero, List.set_cons_succ, List.getElem_toArray, List.getElem_cons_succ, List.getElem_cons_zero]
      refine wpAnyH_take (i := 10) (oi := _) (v := Value.bool false) rfl (by kernel_rfl) (by kernel_rfl) (by kernel_rfl) (fun _ _ _ h => h) (Or.inl ⟨by rfl, fun w' hSw => ?_⟩) hHeld ?_
      · obtain ⟨t0, t1⟩ := hSw
        go_simp
        try simp [*]
        try (intro hh; exfalso; omega)
        try omega
      try simp only [Act.put, List.setIfInBounds_toArray, List.set_cons_zero, List.set_cons_succ, List.getElem_toArray, List.getElem_cons_succ, List.getElem_cons_zero]
      refine wpAnyH_done (by kernel_rfl) ?_ _
      clear hHeld
      go_wp2_with fail
      go_roundw
      case rel => exact ⟨k + 1, by omega, by go_num, (by first | exact HBr.out.drew | exact below_drewN HBr.out _ | exact HBr.out), (by first | exact HGr.out.drew | exact below_drewN HGr.out _ | exact HGr.out)⟩
      case measure => simp [intOf]; omega
    · obtain rfl : k = n := by omega
      obtain ⟨b1, off1, rfl, hb1, c0, c1⟩ := HP0.out 0 n0
      obtain ⟨b2, off2, rfl, hb2, d0, d1⟩ := HP1.out 0 n0
      rw [← M6.out] at d0 d1
      have x0 := (hg.cell (p := ⟨b1, off1 + 0 * 2, none⟩) hb1).trans c0
      have x1 := (hg.cell (p := ⟨b1, off1 + 0 * 2 + 1, none⟩) hb1).trans c1
      have y0 := (hg.cell (p := ⟨b2, off2 + 0 * 2, none⟩) hb2).trans d0
      have y1 := (hg.cell (p := ⟨b2, off2 + 0 * 2 + 1, none⟩) hb2).trans d1
      simp only [Nat.zero_mul, Nat.add_zero] at x0 x1 y0 y1
      clear c0 c1 d0 d1 HP0 HP1
      generalize (pr P0 0).lo = u at *
      generalize (pr P0 0).hi = v at *
      have z1 : b1 < wr.heap.size := Nat.lt_of_lt_of_le hb1 hg.size
      have z2 : b2 < wr.heap.size := Nat.lt_of_lt_of_le hb2 hg.size
      have HBr := Lib.hid (HBA.out _ hB)
      have n0i : (0 : Int) < (k : Int) := by omega
      clear hB hg hlt
      go_wp2_with fail
      refine wp_region_held_drew (S := fun w' => w'.cell? ⟨b1, off1, none⟩ = some (.int .i64 u) ∧ w'.cell? ⟨b1, off1 + 1, none⟩ = some (.int .i64 v) ∧ w'.cell? ⟨b2, off2, none⟩ = some (.int .i64 u) ∧ w'.cell? ⟨b2, off2 + 1, none⟩ = some (.int .i64 v)) (by kernel_rfl) ⟨by simpa [go_sem] using x0, by simpa [go_sem] using x1, by simpa [go_sem] using y0, by simpa [go_sem] using y1⟩ (fun hHeld => ?_)
      refine wpAnyH_take (i := 0) (oi := _) (v := Value.slice (some ⟨b1, off1, none⟩) k q0) rfl (by kernel_rfl) (by kernel_rfl) (by kernel_rfl) (fun _ _ _ h => h) (Or.inl ⟨by rfl, fun w' hSw => ?_⟩) hHeld ?_
      · obtain ⟨t0, t1, t2, t3⟩ := hSw
        go_simp
        try simp [*]
        try (intro hh; exfalso; omega)
        try omega
      try simp only [Act.put, List.setIfInBounds_toArray, List.set_cons_zero, List.set_cons_succ, List.getElem_toArray, List.getElem_cons_succ, List.getElem_cons_zero]
      refine wpAnyH_take (i := 1) (oi := _) (v := Value.pointer (some ⟨b1, off1, none⟩)) rfl (by kernel_rfl) (by kernel_rfl) (by kernel_rfl) (fun _ _ _ h => h) (Or.inl ⟨by rfl, fun w' hSw => ?_⟩) hHeld ?_
      · obtain ⟨t0, t1, t2, t3⟩ := hSw
        go_simp
        try simp [*]
        try (intro hh; exfalso; omega)
        try omega
      try simp only [Act.put, List.setIfInBounds_toArray, List.set_cons_zero, List.set_cons_succ, List.getElem_toArray, List.getElem_cons_succ, List.getElem_cons_zero]
      refine wpAnyH_take (i := 2) (oi := _) (v := Value.agg #[Value.int .i64 u, Value.int .i64 v]) rfl (by kernel_rfl) (by kernel_rfl) (by kernel_rfl) (fun _ _ _ h => h) (Or.inl ⟨by rfl, fun w' hSw => ?_⟩) hHeld ?_
      · obtain ⟨t0, t1, t2, t3⟩ := hSw
        go_simp
        try simp [*]
        try (intro hh; exfalso; omega)
        try omega
      try simp only [Act.put, List.setIfInBounds_toArray, List.set_cons_zero, List.set_cons_succ, List.getElem_toArray, List.getElem_cons_succ, List.getElem_cons_zero]
      refine wpAnyH_take (i := 3) (oi := _) (v := Value.slice (some ⟨b2, off2, none⟩) k q1) rfl (by kernel_rfl) (by kernel_rfl) (by kernel_rfl) (fun _ _ _ h => h) (Or.inl ⟨by rfl, fun w' hSw => ?_⟩) hHeld ?_
      · obtain ⟨t0, t1, t2, t3⟩ := hSw
        go_simp
        try simp [*]
        try (intro hh; exfalso; omega)
        try omega
      try simp only [Act.put, List.setIfInBounds_toArray, List.set_cons_zero, List.set_cons_succ, List.getElem_toArray, List.getElem_cons_succ, List.getElem_cons_zero]
      refine wpAnyH_take (i := 4) (oi := _) (v := Value.pointer (some ⟨b2, off2, none⟩)) rfl (by kernel_rfl) (by kernel_rfl) (by kernel_rfl) (fun _ _ _ h => h) (Or.inl ⟨by rfl, fun w' hSw => ?_⟩) hHeld ?_
      · obtain ⟨t0, t1, t2, t3⟩ := hSw
        go_simp
        try simp [*]
        try (intro hh; exfalso; omega)
        try omega
      try simp only [Act.put, List.setIfInBounds_toArray, List.set_cons_zero, List.set_cons_succ, List.getElem_toArray, List.getElem_cons_succ, List.getElem_cons_zero]
      refine wpAnyH_take (i := 5) (oi := _) (v := Value.agg #[Value.int .i64 u, Value.int .i64 v]) rfl (by kernel_rfl) (by kernel_rfl) (by kernel_rfl) (fun _ _ _ h => h) (Or.inl ⟨by rfl, fun w' hSw => ?_⟩) hHeld ?_
      · obtain ⟨t0, t1, t2, t3⟩ := hSw
        go_simp
        try simp [*]
        try (intro hh; exfalso; omega)
        try omega
      try simp only [Act.put, List.setIfInBounds_toArray, List.set_cons_zero, List.set_cons_succ, List.getElem_toArray, List.getElem_cons_succ, List.getElem_cons_zero]
      refine wpAnyH_take (i := 6) (oi := _) (v := Value.bool true) rfl (by kernel_rfl) (by kernel_rfl) (by kernel_rfl) (fun _ _ _ h => h) (Or.inl ⟨by rfl, fun w' hSw => ?_⟩) hHeld ?_
      · obtain ⟨t0, t1, t2, t3⟩ := hSw
        go_simp
        try simp [*]
        try (intro hh; exfalso; omega)
        try omega
      try simp only [Act.put, List.setIfInBounds_toArray, List.set_cons_zero, List.set_cons_succ, List.getElem_toArray, List.getElem_cons_succ, List.getElem_cons_zero]
      refine wpAnyH_take (i := 7) (oi := _) (v := Value.bool true) rfl (by kernel_rfl) (by kernel_rfl) (by kernel_rfl) (fun _ _ _ h => h) (Or.inl ⟨by rfl, fun w' hSw => ?_⟩) hHeld ?_
      · obtain ⟨t0, t1, t2, t3⟩ := hSw
        go_simp
        try simp [*]
        try (intro hh; exfalso; omega)
        try omega
      try simp only [Act.put, List.setIfInBounds_toArray, List.set_cons_zero, List.set_cons_succ, List.getElem_toArray, List.getElem_cons_succ, List.getElem_cons_zero]
      refine wpAnyH_ready (rs := [8]) (by kernel_rfl) (by simp) ?_
      refine AllReadyH.cons (o := _) rfl (fun K hK => ?_) AllReadyH.nil
      go_simp
      go_at_call 15
      refine Calls.mono (HF.out _) ?_
      rintro e wz ⟨rfl, hb⟩
      have hsz := hb.size
      have HBq := Lib.hid (HBr.out.drew.trans (hb.mono (by have := HBr.out.size; simp only [World.size_drew]; omega)))
      have e0 := (hb.cell (p := ⟨b1, off1, none⟩) (by simp only [World.size_drew]; omega)).trans (show _ = _ by simpa [go_sem] using x0)
      have e1 := (hb.cell (p := ⟨b1, off1 + 1, none⟩) (by simp only [World.size_drew]; omega)).trans (show _ = _ by simpa [go_sem] using x1)
      have e2 := (hb.cell (p := ⟨b2, off2, none⟩) (by simp only [World.size_drew]; omega)).trans (show _ = _ by simpa [go_sem] using y0)
      have e3 := (hb.cell (p := ⟨b2, off2 + 1, none⟩) (by simp only [World.size_drew]; omega)).trans (show _ = _ by simpa [go_sem] using y1)
      clear hb
      clear hHeld
      refine hK.out _ _ ⟨e0, e1, e2, e3⟩ (fun hHeld => ?_)
      clear hK K
      try simp only [Act.put, List.setIfInBounds_toArray, List.set_cons_zero, List.set_cons_succ, List.getElem_toArray, List.getElem_cons_succ, List.getElem_cons_zero]
      refine wpAnyH_take (i := 9) (oi := _) (v := Value.bool true) rfl (by kernel_rfl) (by kernel_rfl) (by kernel_rfl) (fun _ _ _ h => h) (Or.inl ⟨by rfl, fun w' hSw => ?_⟩) hHeld ?_
      · obtain ⟨t0, t1, t2, t3⟩ := hSw
        go_simp
        try simp [*]
        try (intro hh; exfalso; omega)
        try omega
      try simp only [Act.put, List.setIfInBounds_toArray, List.set_cons_zero, List.set_cons_succ, List.getElem_toArray, List.getElem_cons_succ, List.getElem_cons_zero]
      refine wpAnyH_take (i := 10) (oi := _) (v := Value.bool true) rfl (by kernel_rfl) (by kernel_rfl) (by kernel_rfl) (fun _ _ _ h => h) (Or.inl ⟨by rfl, fun w' hSw => ?_⟩) hHeld ?_
      · obtain ⟨t0, t1, t2, t3⟩ := hSw
        go_simp
        try simp [*]
        try (intro hh; exfalso; omega)
        try omega
      try simp only [Act.put, List.setIfInBounds_toArray, List.set_cons_zero, List.set_cons_succ, List.getElem_toArray, List.getElem_cons_succ, List.getElem_cons_zero]
      refine wpAnyH_done (by kernel_rfl) ?_ _
      clear hHeld
      go_wp2_with fail
      go_ret
      exact ⟨rfl, HBq.out⟩
end Go.Proofs.Ythogahdnidjelaa

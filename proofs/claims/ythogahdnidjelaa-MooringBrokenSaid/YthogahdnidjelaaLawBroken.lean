/-
  MooringBroken: the walk.
-/
import Derived.Test.YthogahdnidjelaaBreak
import Derived.Test.YthogahdnidjelaaFrame
import Derived.Test.YthogahdnidjelaaRefCheckM
import Derived.Test.YthogahdnidjelaaFine
namespace Go.Proofs.Ythogahdnidjelaa
open Go.RowKit Go.Shelf
set_option linter.unusedSimpArgs false
theorem lifTo_drop (zs : List El) (m : Nat) : ∀ j, lifTo (zs.drop m) j = lifTo zs (m + j) - lifTo zs m
  | 0 => by simp [lifTo]
  | j + 1 => by
    have e : lifTo zs (m + (j + 1)) = lifTo zs (m + j) + (el zs (m + j)).lift := rfl
    have e1 : lifTo (zs.drop m) (j + 1) = lifTo (zs.drop m) j + (el (zs.drop m) j).lift := rfl
    rw [e1, lifTo_drop zs m j, el_drop, e]
    omega
theorem moo_drop {d : Int} {zs : List El} {an fr : Int} (h : mooE d zs an fr = 0) {m : Nat} (hm : m < zs.length) : mooE d (zs.drop m) an fr = 0 := by
  obtain ⟨h0, h1, h2, h3⟩ := mooE_ok h
  have hl : (zs.drop m).length = zs.length - m := List.length_drop
  have ha : (zs.drop m).all vE = true := by
    rw [List.all_eq_true]
    intro x hx
    obtain ⟨k, hk, rfl⟩ := List.getElem_of_mem hx
    have := h2 (m + k) (by omega)
    rw [← el_drop] at this
    rwa [show el (zs.drop m) k = (zs.drop m)[k] by unfold el; rw [List.getElem?_eq_getElem hk]; rfl] at this
  unfold mooE
  rw [if_neg (by omega), if_neg (by omega), if_pos h3, if_pos ha]
theorem broken_math {d : Int} {zs : List El} {an fr : Int} (h : mooE d zs an fr = 0) (m : Nat) (hm : m + 1 < zs.length) :
    mooE d (zs.drop (m + 1)) an fr = 0 ∧ (lifV d zs an fr).length = zs.length ∧ (lifV d (zs.drop (m + 1)) an fr).length = zs.length - (m + 1) ∧ (lifV d zs an fr)[m]?.getD 0 = lifTo zs (m + 1) ∧
    ∀ i, i < zs.length - (m + 1) → ∃ x y z : Int, (lifV d zs an fr)[m]?.getD 0 = x ∧ (lifV d zs an fr)[m + 1 + i]?.getD 0 = y ∧ (lifV d (zs.drop (m + 1)) an fr)[i]?.getD 0 = z ∧ z = y - x ∧ -100000000 ≤ y - x ∧ y - x ≤ 100000000 := by
  have h2 := moo_drop h hm
  have hl : (zs.drop (m + 1)).length = zs.length - (m + 1) := List.length_drop
  have hb := lifTo_bd zs (sum_mem (mooE_ok h).2.2.1)
  have hmo := (mooE_ok h).2.1
  have e1 : lifV d zs an fr = lifL zs zs.length := if_pos h
  have e2 : lifV d (zs.drop (m + 1)) an fr = lifL (zs.drop (m + 1)) (zs.drop (m + 1)).length := if_pos h2
  rw [e1, e2]
  have g : ∀ (ys : List El) i, i < ys.length → (lifL ys ys.length)[i]?.getD 0 = lifTo ys (i + 1) := fun ys i hi => lifL_nth ys ys.length i hi
  refine ⟨h2, lifL_len _ _, by rw [lifL_len, hl], g zs m (by omega), fun i hi => ⟨_, _, _, g zs m (by omega), g zs (m + 1 + i) (by omega), g _ i (by omega), ?_, ?_, ?_⟩⟩
  · rw [lifTo_drop]; rw [show m + 1 + (i + 1) = m + 1 + i + 1 by omega]
  · have a := hb (m + 1 + i + 1) (by omega); have b := hb (m + 1) (by omega); omega
  · have a := hb (m + 1 + i + 1) (by omega); have b := hb (m + 1) (by omega); omega
section
open Go.ChangeShapes Go.WideShapes Go.ChangeAt
variable {H : Type} {enc : TypeId × Value → H} {W : World} {base : Nat} {v : Value} {d : DataW H} {p : List MemPlace}
set_option maxRecDepth 100000 in
theorem open_u8 (hv : Value.okWide Try.prog W .any base 5 v) (h : DataW.Trod enc Try.prog W 0 (fun _ => true) true 5 v d p) : ∃ a : Int, v = .int .u8 a ∧ 0 ≤ a ∧ a ≤ 255 := by
  obtain ⟨a, rfl, rfl, rfl, wa⟩ := open_int Try.underlying5 hv h
  have h1 : IntKind.u8.min = 0 := rfl
  have h2 : IntKind.u8.max = 255 := rfl
  simp [Lit.wf, h1, h2] at wa
  exact ⟨a, rfl, by omega, by omega⟩
end
set_option maxRecDepth 100000 in
set_option maxHeartbeats 40000000 in
theorem law_broken (d an fr kk : Int) (sv : Value) (zs : List El) (w : World) (hk0 : 0 ≤ kk) (hk1 : kk ≤ 255) (hI : Els w.heap.size w sv zs) :
    Calls Try.prog 10 #[.agg #[.int .i64 d, sv, .int .i64 an, .int .i64 fr], .int .u8 kk] w fun e w' => e = .returned (.bool true) ∧ Below w.heap.size w w' := by
  have c19 := fun w' (hb : Below w.heap.size w w') => rcheckM_any d an fr sv zs w' (hI.at hb)
  have c16 := fun w' (hb : Below w.heap.size w w') => liftsM_any d an fr sv zs w' (hI.at hb)
  have c49l := fun k (hm : mooE d zs an fr = 0) (hk : k + 1 = zs.length) w' (hb : Below w.heap.size w w') => break_last d an fr sv zs k w' (hI.at hb) hm hk
  have c49m := fun k (hm : mooE d zs an fr = 0) (hk : k + 1 < zs.length) w' (hb : Below w.heap.size w w') => break_mid d an fr sv zs k w' (hI.at hb) hm hk
  have HF := Lib.hid (fun W => fine_any W)
  have HI := Lib.hid (fun w' (hb : Below w.heap.size w w') => hI.at hb)
  obtain ⟨a, cap, rfl, -, -⟩ := hI
  have cl := fun W => long_any d an fr a none zs.length 0 cap 0 W
  by_cases h0 : mooE d zs an fr = 0
  rotate_left
  · have hd : (mooE d zs an fr != 0) = true := by simpa using h0
    clear c16 c49l c49m
    generalize mooE d zs an fr = E at *
    clear HI
    generalize zs.length = len at *
    cases hl : (decide ((60 : Int) < (len : Int)) || decide ((60 : Int) < ((0 : Nat) : Int)))
    all_goals
      rw [hl] at cl
      have HL := Lib.hid hl
      clear hl
      obtain ⟨A, hA⟩ : ∃ A, A = w.alloc (.cells #[.int .i64 d, .slice a len cap, .int .i64 an, .int .i64 fr] 24) := ⟨_, rfl⟩
      have hzA : A.heap.size = w.heap.size + 1 := by rw [hA]; simp
      have KK := Lib.hid (show ∀ W, Below (w.heap.size + 1) A W → W.cell? ⟨w.heap.size, 0, none⟩ = some (.int .i64 d) ∧ W.cell? ⟨w.heap.size, 1, none⟩ = some (.slice a len cap) ∧ W.cell? ⟨w.heap.size, 2, none⟩ = some (.int .i64 an) ∧ W.cell? ⟨w.heap.size, 3, none⟩ = some (.int .i64 fr) from fun W h => by
        refine ⟨(h.cell (p := ⟨w.heap.size, 0, none⟩) (Nat.lt_succ_self _)).trans ?_, (h.cell (p := ⟨w.heap.size, 1, none⟩) (Nat.lt_succ_self _)).trans ?_, (h.cell (p := ⟨w.heap.size, 2, none⟩) (Nat.lt_succ_self _)).trans ?_, (h.cell (p := ⟨w.heap.size, 3, none⟩) (Nat.lt_succ_self _)).trans ?_⟩ <;> (rw [hA]; simp [go_sem]))
      have HBA := Lib.hid (show ∀ W, Below (w.heap.size + 1) A W → Below w.heap.size w W from fun W h => by
        have e : Below w.heap.size w A := by rw [hA]; exact (Below.refl _ _).alloc (Nat.le_refl _) _
        exact e.trans (h.mono (Nat.le_succ _)))
      go_enter Try.func10, Try.ntmps10
      go_wp2_with fail
      try rw [← hA]
      refine (cl _).mono ?_
      rintro e w1 ⟨rfl, hb⟩
      have hB1 : Below (w.heap.size + 1) A w1 := hb.mono (by omega)
      clear hb hA
      obtain ⟨k0, k1, k2, k3⟩ := KK.out _ hB1
      go_wp2_with fail
    · refine (c19 _ (HBA.out _ hB1)).mono ?_
      rintro e w2 ⟨rfl, hb⟩
      have HB := Lib.hid (HBA.out _ (hB1.trans (hb.mono (by have := hB1.size; omega))))
      clear hb k0 k1 k2 k3
      go_wp2_with fail
      refine (HF.out _).mono ?_
      rintro e w3 ⟨rfl, hb⟩
      have HB3 := Lib.hid (HB.out.trans (hb.mono HB.out.size))
      clear hb
      go_wp2_with fail
      go_ret
      exact ⟨rfl, HB3.out⟩
    · refine (HF.out _).mono ?_
      rintro e w2 ⟨rfl, hb⟩
      have HB := Lib.hid ((HBA.out _ hB1).trans (hb.mono (HBA.out _ hB1).size))
      clear hb k0 k1 k2 k3
      go_wp2_with fail
      go_ret
      exact ⟨rfl, HB.out⟩
  have hp := (mooE_ok h0).1
  have hmo := (mooE_ok h0).2.1
  have hl : (decide ((60 : Int) < (zs.length : Int)) || decide ((60 : Int) < ((0 : Nat) : Int))) = false := by rw [decide_eq_false (by omega)]; rfl
  rw [hl] at cl
  clear hl
  obtain ⟨m, hm⟩ : ∃ m : Nat, kk.tmod (zs.length : Int) = m := ⟨(kk.tmod (zs.length : Int)).toNat, by have := Int.tmod_nonneg (zs.length : Int) hk0; omega⟩
  have hmn : m < zs.length := by have := Int.tmod_lt_of_pos kk (show (0 : Int) < (zs.length : Int) by omega); omega
  have hz : ((zs.length : Int) == 0) = false := by rw [beq_eq_false_iff_ne]; omega
  have hz' : ¬ (zs.length : Int) = 0 := by omega
  have hW : IntKind.i64.wrap ((zs.length : Int) - 1) = (zs.length : Int) - 1 := by rw [IntKind.wrap_i64]; omega
  rw [h0] at c19 c16
  by_cases hlast : m + 1 = zs.length
  · have c49 := c49l m h0 hlast
    clear c49l c49m c16 HI
    have he : (zs.length : Int) - 1 = m := by omega
    rw [he] at hW
    generalize zs.length = len at *
    obtain ⟨A, hA⟩ : ∃ A, A = w.alloc (.cells #[.int .i64 d, .slice a len cap, .int .i64 an, .int .i64 fr] 24) := ⟨_, rfl⟩
    have hzA : A.heap.size = w.heap.size + 1 := by rw [hA]; simp
    have KK := Lib.hid (show ∀ W, Below (w.heap.size + 1) A W → W.cell? ⟨w.heap.size, 0, none⟩ = some (.int .i64 d) ∧ W.cell? ⟨w.heap.size, 1, none⟩ = some (.slice a len cap) ∧ W.cell? ⟨w.heap.size, 2, none⟩ = some (.int .i64 an) ∧ W.cell? ⟨w.heap.size, 3, none⟩ = some (.int .i64 fr) from fun W h => by
      refine ⟨(h.cell (p := ⟨w.heap.size, 0, none⟩) (Nat.lt_succ_self _)).trans ?_, (h.cell (p := ⟨w.heap.size, 1, none⟩) (Nat.lt_succ_self _)).trans ?_, (h.cell (p := ⟨w.heap.size, 2, none⟩) (Nat.lt_succ_self _)).trans ?_, (h.cell (p := ⟨w.heap.size, 3, none⟩) (Nat.lt_succ_self _)).trans ?_⟩ <;> (rw [hA]; simp [go_sem]))
    have HBA := Lib.hid (show ∀ W, Below (w.heap.size + 1) A W → Below w.heap.size w W from fun W h => by
      have e : Below w.heap.size w A := by rw [hA]; exact (Below.refl _ _).alloc (Nat.le_refl _) _
      exact e.trans (h.mono (Nat.le_succ _)))
    go_enter Try.func10, Try.ntmps10
    go_wp2_with fail
    try rw [← hA]
    refine (cl _).mono ?_
    rintro e w1 ⟨rfl, hb⟩
    have hB1 : Below (w.heap.size + 1) A w1 := hb.mono (by omega)
    clear hb hA
    obtain ⟨k0, k1, k2, k3⟩ := KK.out _ hB1
    go_wp2_with fail
    refine (c19 _ (HBA.out _ hB1)).mono ?_
    rintro e w2 ⟨rfl, hb⟩
    have hB2 : Below (w.heap.size + 1) A w2 := hB1.trans (hb.mono (by have := hB1.size; omega))
    clear hb k0 k1 k2 k3
    obtain ⟨k0, k1, k2, k3⟩ := KK.out _ hB2
    go_wp2_with fail
    refine (c49 _ (HBA.out _ hB2)).mono ?_
    rintro e w3 ⟨rfl, hb⟩
    have hB3 : Below (w.heap.size + 1) A w3 := hB2.trans (hb.mono (by have := hB2.size; omega))
    clear hb k0 k1 k2 k3
    obtain ⟨k0, k1, k2, k3⟩ := KK.out _ hB3
    have HB := Lib.hid (HBA.out _ (show Below (w.heap.size + 1) A (w3.alloc (.cells #[.int .i64 0, .slice none 0 0, .int .i64 0, .int .i64 0] 24)) from hB3.alloc (by have := hB3.size; omega) _))
    go_wp2_with fail
    refine (HF.out _).mono ?_
    rintro e w4 ⟨rfl, hb⟩
    have HB4 := Lib.hid (HB.out.trans (hb.mono HB.out.size))
    clear hb
    go_wp2_with fail
    go_ret
    exact ⟨rfl, HB4.out⟩
  obtain ⟨e1, l0, l1, v0, bm⟩ := broken_math h0 m (by omega)
  have c49 := c49m m h0 (by omega)
  have HR := Lib.hid (fun sp W (hS : Els W.heap.size W sp (zs.drop (m + 1))) => liftsM_any d an fr sp (zs.drop (m + 1)) W hS)
  rw [e1] at HR
  have HD := Lib.hid (fun j => el_drop zs (m + 1) j)
  have hdl : (zs.drop (m + 1)).length = zs.length - (m + 1) := List.length_drop
  have HD2 := Lib.hid hdl
  have v0' := v0
  rw [v0] at bm
  have HBM := Lib.hid bm
  clear bm c49l c49m
  generalize hds : zs.drop (m + 1) = ds at *
  clear hds
  generalize lifV d zs an fr = LV at *
  generalize lifV d ds an fr = LW at *
  generalize lifTo zs (m + 1) = v at *
  have hW3 : IntKind.i64.wrap ((m : Int) + 1) = (m : Int) + 1 := by rw [IntKind.wrap_i64]; omega
  have hne : ((m : Int) == (zs.length : Int) - 1) = false := by rw [beq_eq_false_iff_ne]; omega
  have hne2 : ¬ (m : Int) = (zs.length : Int) - 1 := by omega
  have hW4 : IntKind.i64.wrap ((zs.length : Int) - 1 - (m : Int)) = ((zs.length - (m + 1) : Nat) : Int) := by rw [IntKind.wrap_i64]; omega
  generalize hl1 : (zs.length : Int) - 1 = n1 at *
  clear v0'
  generalize hlen : zs.length = len at *
  obtain ⟨A, hA⟩ : ∃ A, A = w.alloc (.cells #[.int .i64 d, .slice a len cap, .int .i64 an, .int .i64 fr] 24) := ⟨_, rfl⟩
  have hzA : A.heap.size = w.heap.size + 1 := by rw [hA]; simp
  have KK := Lib.hid (show ∀ W, Below (w.heap.size + 1) A W → W.cell? ⟨w.heap.size, 0, none⟩ = some (.int .i64 d) ∧ W.cell? ⟨w.heap.size, 1, none⟩ = some (.slice a len cap) ∧ W.cell? ⟨w.heap.size, 2, none⟩ = some (.int .i64 an) ∧ W.cell? ⟨w.heap.size, 3, none⟩ = some (.int .i64 fr) from fun W h => by
    refine ⟨(h.cell (p := ⟨w.heap.size, 0, none⟩) (Nat.lt_succ_self _)).trans ?_, (h.cell (p := ⟨w.heap.size, 1, none⟩) (Nat.lt_succ_self _)).trans ?_, (h.cell (p := ⟨w.heap.size, 2, none⟩) (Nat.lt_succ_self _)).trans ?_, (h.cell (p := ⟨w.heap.size, 3, none⟩) (Nat.lt_succ_self _)).trans ?_⟩ <;> (rw [hA]; simp [go_sem]))
  have HBA := Lib.hid (show ∀ W, Below (w.heap.size + 1) A W → Below w.heap.size w W from fun W h => by
    have e : Below w.heap.size w A := by rw [hA]; exact (Below.refl _ _).alloc (Nat.le_refl _) _
    exact e.trans (h.mono (Nat.le_succ _)))
  go_enter Try.func10, Try.ntmps10
  go_wp2_with fail
  try rw [← hA]
  refine (cl _).mono ?_
  rintro e w1 ⟨rfl, hb⟩
  have hB1 : Below (w.heap.size + 1) A w1 := hb.mono (by omega)
  clear hb hA
  obtain ⟨k0, k1, k2, k3⟩ := KK.out _ hB1
  go_wp2_with fail
  refine (c19 _ (HBA.out _ hB1)).mono ?_
  rintro e w2 ⟨rfl, hb⟩
  have hB2 : Below (w.heap.size + 1) A w2 := hB1.trans (hb.mono (by have := hB1.size; omega))
  clear hb k0 k1 k2 k3
  obtain ⟨k0, k1, k2, k3⟩ := KK.out _ hB2
  go_wp2_with fail
  refine (c49 _ (HBA.out _ hB2)).mono ?_
  rintro e w3 ⟨vr, rfl, hE, hb⟩
  have hB3 : Below (w.heap.size + 1) A w3 := hB2.trans (hb.mono (by have := hB2.size; omega))
  have LE := Lib.hid hE
  obtain ⟨ar, cr, rfl⟩ := hE.form
  clear hE
  clear hb k0 k1 k2 k3
  obtain ⟨k0, k1, k2, k3⟩ := KK.out _ hB3
  have zz : w.heap.size < w3.heap.size := by have := hB3.size; omega
  have zy : ¬ w.heap.size = w3.heap.size := by omega
  obtain ⟨C, hC⟩ : ∃ C, C = w3.alloc (.cells #[.int .i64 d, .slice ar (len - (m + 1)) cr, .int .i64 an, .int .i64 fr] 24) := ⟨_, rfl⟩
  have hzC : C.heap.size = w3.heap.size + 1 := by rw [hC]; simp
  have hBC : Below w3.heap.size w3 C := by rw [hC]; exact (Below.refl _ _).alloc (Nat.le_refl _) _
  have LE2 := Lib.hid (LE.out.at hBC)
  have hB3C := hB3.trans (hBC.mono (by omega))
  have KR := Lib.hid (show ∀ W, Below (w3.heap.size + 1) C W → W.cell? ⟨w3.heap.size, 0, none⟩ = some (.int .i64 d) ∧ W.cell? ⟨w3.heap.size, 1, none⟩ = some (.slice ar (len - (m + 1)) cr) ∧ W.cell? ⟨w3.heap.size, 2, none⟩ = some (.int .i64 an) ∧ W.cell? ⟨w3.heap.size, 3, none⟩ = some (.int .i64 fr) from fun W h => by
    refine ⟨(h.cell (p := ⟨w3.heap.size, 0, none⟩) (Nat.lt_succ_self _)).trans ?_, (h.cell (p := ⟨w3.heap.size, 1, none⟩) (Nat.lt_succ_self _)).trans ?_, (h.cell (p := ⟨w3.heap.size, 2, none⟩) (Nat.lt_succ_self _)).trans ?_, (h.cell (p := ⟨w3.heap.size, 3, none⟩) (Nat.lt_succ_self _)).trans ?_⟩ <;> (rw [hC]; simp [go_sem]))
  rw [hdl] at LE2
  clear LE hBC
  go_wp2_with fail
  try rw [← hC]
  clear hC
  refine (c16 _ (HBA.out _ hB3C)).mono ?_
  rintro e w4 ⟨vl, rfl, hP, hb⟩
  have hB4 : Below (w.heap.size + 1) A w4 := hB3C.trans (hb.mono (by have := hB3C.size; omega))
  have hR4 : Below (w3.heap.size + 1) C w4 := hb.mono (by omega)
  have LE3 := Lib.hid (LE2.out.at hb)
  have L0 := Lib.hid hP
  obtain ⟨a0, g0, rfl⟩ := hP.form
  clear hP hb LE2 k0 k1 k2 k3
  obtain ⟨k0, k1, k2, k3⟩ := KK.out _ hB4
  obtain ⟨q0, q1, q2, q3⟩ := KR.out _ hR4
  have LE3 := LE3
  go_wp2_with fail
  refine (HR.out _ _ LE3.out).mono ?_
  rintro e w5 ⟨vl, rfl, hP, hb⟩
  have hB5 : Below (w.heap.size + 1) A w5 := hB4.trans (hb.mono (by have := hB4.size; omega))
  have hR5 : Below (w3.heap.size + 1) C w5 := hR4.trans (hb.mono (by have := hR4.size; omega))
  have L1 := Lib.hid (L0.out.at hb)
  have LE4 := Lib.hid (LE3.out.at hb)
  have L2 := Lib.hid hP
  obtain ⟨a1, g1, rfl⟩ := hP.form
  clear hP hb LE3 L0 k0 k1 k2 k3 q0 q1 q2 q3
  obtain ⟨k0, k1, k2, k3⟩ := KK.out _ hB5
  obtain ⟨q0, q1, q2, q3⟩ := KR.out _ hR5
  have N0 := Lib.hid (by have h := L1.out.get; rw [l0] at h; exact h)
  have N1 := Lib.hid (by have h := L2.out.get; rw [l1] at h; exact h)
  have NE := Lib.hid (by have h := LE4.out.get; rw [hdl] at h; exact h)
  obtain ⟨b0, o0, rfl, hb0, x0⟩ := N0.out m (by omega)
  rw [v0] at x0
  have hmi : (m : Int) < (len : Int) := by omega
  have HBz := Lib.hid hB5
  have N0' := Lib.hid (show ∀ k, k < len → w5.cell? ⟨b0, o0 + k, none⟩ = some (.int .i64 (LV[k]?.getD 0)) from fun k hk => by
    obtain ⟨b', o', e, -, x⟩ := N0.out k hk
    simp only [Option.some.injEq, Addr.mk.injEq] at e
    obtain ⟨rfl, rfl, -⟩ := e
    exact x)
  have HCz := Lib.hid hR5
  go_wp2_with fail
  go_loopw [14] (fun i wr => ∃ k : Nat, k ≤ len - (m + 1) ∧ i = .int .i64 k ∧ Below (w.heap.size + 1) A wr ∧ Below (w3.heap.size + 1) C wr ∧ Below w5.heap.size w5 wr) (fun i _ => len - (intOf i).toNat)
  case atStart => exact ⟨0, Nat.zero_le _, rfl, HBz.out, HCz.out, Below.refl _ _⟩
  case round =>
    obtain ⟨k, hk, rfl, hB, hR, hg⟩ := hrel
    clear k0 k1 k2 k3 q0 q1 q2 q3
    by_cases hlt : k < len - (m + 1)
    · obtain ⟨x, y, z, rfl, y0, z0, e2, e3, e4⟩ := HBM.out k hlt
      obtain ⟨j, hj⟩ : ∃ j, j = m + 1 + k := ⟨_, rfl⟩
      have hWj : IntKind.i64.wrap ((m : Int) + 1 + (k : Int)) = (j : Int) := by rw [IntKind.wrap_i64]; omega
      have hjl : j < len := by omega
      have x1 := N0'.out j hjl
      rw [hj, y0, ← hj] at x1
      obtain ⟨be, oe, rfl, hbe, r0, r1, r2, r3⟩ := NE.out k hlt
      obtain ⟨bm, om, rfl, hbm, s0, s1, s2, s3⟩ := (HI.out _ (HBA.out _ hB)).get j (by omega)
      obtain ⟨bw, ow, rfl, hbw, x2⟩ := N1.out k hlt
      rw [z0] at x2
      rw [HD.out k, ← hj] at r0 r1 r2 r3
      obtain ⟨-, k1, -, -⟩ := KK.out _ hB
      obtain ⟨-, q1, -, -⟩ := KR.out _ hR
      have y1 := (hg.cell (p := ⟨b0, o0 + j, none⟩) hb0).trans x1
      have y2 := (hg.cell (p := ⟨b0, o0 + m, none⟩) hb0).trans x0
      have y3 := (hg.cell (p := ⟨bw, ow + k, none⟩) hbw).trans x2
      have u0 := (hg.cell (p := ⟨be, oe + k * 4, none⟩) hbe).trans r0
      have u1 := (hg.cell (p := ⟨be, oe + k * 4 + 1, none⟩) hbe).trans r1
      have u2 := (hg.cell (p := ⟨be, oe + k * 4 + 2, none⟩) hbe).trans r2
      have u3 := (hg.cell (p := ⟨be, oe + k * 4 + 3, none⟩) hbe).trans r3
      clear r0 r1 r2 r3 x1 x2
      have hWz : IntKind.i64.wrap (y - v) = z := by rw [IntKind.wrap_i64]; omega
      generalize el zs j = X at *
      have hjI : (j : Int) < (len : Int) := by omega
      clear hj
      have HBr := Lib.hid hB
      have HRr := Lib.hid hR
      have HGr := Lib.hid hg
      have hki : (k : Int) < ((len - (m + 1) : Nat) : Int) := by omega
      clear hB hR hg e2 e3 e4 y0 z0
      go_wp2_with fail
      refine wp_region_held_drew (S := fun w' => w'.cell? ⟨w3.heap.size, 1, none⟩ = some (.slice (some ⟨be, oe, none⟩) (len - (m + 1)) cr) ∧ w'.cell? ⟨w.heap.size, 1, none⟩ = some (.slice (some ⟨bm, om, none⟩) len cap) ∧ w'.cell? ⟨be, oe + k * 4, none⟩ = some (.int .i64 X.len) ∧ w'.cell? ⟨be, oe + k * 4 + 1, none⟩ = some (.int .i64 X.lift) ∧ w'.cell? ⟨be, oe + k * 4 + 2, none⟩ = some (.int .i64 X.drag) ∧ w'.cell? ⟨be, oe + k * 4 + 3, none⟩ = some (.int .i64 X.str) ∧ w'.cell? ⟨bm, om + j * 4, none⟩ = some (.int .i64 X.len) ∧ w'.cell? ⟨bm, om + j * 4 + 1, none⟩ = some (.int .i64 X.lift) ∧ w'.cell? ⟨bm, om + j * 4 + 2, none⟩ = some (.int .i64 X.drag) ∧ w'.cell? ⟨bm, om + j * 4 + 3, none⟩ = some (.int .i64 X.str) ∧ w'.cell? ⟨bw, ow + k, none⟩ = some (.int .i64 z) ∧ w'.cell? ⟨b0, o0 + j, none⟩ = some (.int .i64 y) ∧ w'.cell? ⟨b0, o0 + m, none⟩ = some (.int .i64 v)) (by kernel_rfl) ⟨by simpa [go_sem] using q1, by simpa [go_sem] using k1, by simpa [go_sem] using u0, by simpa [go_sem] using u1, by simpa [go_sem] using u2, by simpa [go_sem] using u3, by simpa [go_sem] using s0, by simpa [go_sem] using s1, by simpa [go_sem] using s2, by simpa [go_sem] using s3, by simpa [go_sem] using y3, by simpa [go_sem] using y1, by simpa [go_sem] using y2⟩ (fun hHeld => ?_)
      refine wpAnyH_take (i := 0) (oi := _) (v := Value.pointer (some ⟨w3.heap.size, 1, none⟩)) rfl (by kernel_rfl) (by kernel_rfl) (by kernel_rfl) (fun _ _ _ h => h) (Or.inl ⟨by rfl, fun w' hSw => ?_⟩) hHeld ?_
      · obtain ⟨t0, t1, t2, t3, t4, t5, t6, t7, t8, t9, t10, t11, t12⟩ := hSw
        go_simp
        try simp [*]
        try (intro hh; exfalso; omega)
        try omega
      try simp only [Act.put, List.setIfInBounds_toArray, List.set_cons_zero, List.set_cons_succ, List.getElem_toArray, List.getElem_cons_succ, List.getElem_cons_zero]
      refine wpAnyH_take (i := 1) (oi := _) (v := Value.slice (some ⟨be, oe, none⟩) (len - (m + 1)) cr) rfl (by kernel_rfl) (by kernel_rfl) (by kernel_rfl) (fun _ _ _ h => h) (Or.inl ⟨by rfl, fun w' hSw => ?_⟩) hHeld ?_
      · obtain ⟨t0, t1, t2, t3, t4, t5, t6, t7, t8, t9, t10, t11, t12⟩ := hSw
        go_simp
        try simp [*]
        try (intro hh; exfalso; omega)
        try omega
      try simp only [Act.put, List.setIfInBounds_toArray, List.set_cons_zero, List.set_cons_succ, List.getElem_toArray, List.getElem_cons_succ, List.getElem_cons_zero]
      refine wpAnyH_take (i := 2) (oi := _) (v := Value.int .i64 k) rfl (by kernel_rfl) (by kernel_rfl) (by kernel_rfl) (fun _ _ _ h => h) (Or.inl ⟨by rfl, fun w' hSw => ?_⟩) hHeld ?_
      · obtain ⟨t0, t1, t2, t3, t4, t5, t6, t7, t8, t9, t10, t11, t12⟩ := hSw
        go_simp
        try simp [*]
        try (intro hh; exfalso; omega)
        try omega
      try simp only [Act.put, List.setIfInBounds_toArray, List.set_cons_zero, List.set_cons_succ, List.getElem_toArray, List.getElem_cons_succ, List.getElem_cons_zero]
      refine wpAnyH_take (i := 3) (oi := _) (v := Value.pointer (some ⟨be, oe + k * 4, none⟩)) rfl (by kernel_rfl) (by kernel_rfl) (by kernel_rfl) (fun _ _ _ h => h) (Or.inl ⟨by rfl, fun w' hSw => ?_⟩) hHeld ?_
      · obtain ⟨t0, t1, t2, t3, t4, t5, t6, t7, t8, t9, t10, t11, t12⟩ := hSw
        go_simp
        try simp [*]
        try (intro hh; exfalso; omega)
        try omega
      try simp only [Act.put, List.setIfInBounds_toArray, List.set_cons_zero, List.set_cons_succ, List.getElem_toArray, List.getElem_cons_succ, List.getElem_cons_zero]
      refine wpAnyH_take (i := 4) (oi := _) (v := Value.agg #[Value.int .i64 X.len, Value.int .i64 X.lift, Value.int .i64 X.drag, Value.int .i64 X.str]) rfl (by kernel_rfl) (by kernel_rfl) (by kernel_rfl) (fun _ _ _ h => h) (Or.inl ⟨by rfl, fun w' hSw => ?_⟩) hHeld ?_
      · obtain ⟨t0, t1, t2, t3, t4, t5, t6, t7, t8, t9, t10, t11, t12⟩ := hSw
        go_simp
        try simp [*]
        try (intro hh; exfalso; omega)
        try omega
      try simp only [Act.put, List.setIfInBounds_toArray, List.set_cons_zero, List.set_cons_succ, List.getElem_toArray, List.getElem_cons_succ, List.getElem_cons_zero]
      refine wpAnyH_take (i := 5) (oi := _) (v := Value.pointer (some ⟨w.heap.size, 1, none⟩)) rfl (by kernel_rfl) (by kernel_rfl) (by kernel_rfl) (fun _ _ _ h => h) (Or.inl ⟨by rfl, fun w' hSw => ?_⟩) hHeld ?_
      · obtain ⟨t0, t1, t2, t3, t4, t5, t6, t7, t8, t9, t10, t11, t12⟩ := hSw
        go_simp
        try simp [*]
        try (intro hh; exfalso; omega)
        try omega
      try simp only [Act.put, List.setIfInBounds_toArray, List.set_cons_zero, List.set_cons_succ, List.getElem_toArray, List.getElem_cons_succ, List.getElem_cons_zero]
      refine wpAnyH_take (i := 6) (oi := _) (v := Value.slice (some ⟨bm, om, none⟩) len cap) rfl (by kernel_rfl) (by kernel_rfl) (by kernel_rfl) (fun _ _ _ h => h) (Or.inl ⟨by rfl, fun w' hSw => ?_⟩) hHeld ?_
      · obtain ⟨t0, t1, t2, t3, t4, t5, t6, t7, t8, t9, t10, t11, t12⟩ := hSw
        go_simp
        try simp [*]
        try (intro hh; exfalso; omega)
        try omega
      try simp only [Act.put, List.setIfInBounds_toArray, List.set_cons_zero, List.set_cons_succ, List.getElem_toArray, List.getElem_cons_succ, List.getElem_cons_zero]
      refine wpAnyH_take (i := 7) (oi := _) (v := Value.int .i64 m) rfl (by kernel_rfl) (by kernel_rfl) (by kernel_rfl) (fun _ _ _ h => h) (Or.inl ⟨by rfl, fun w' hSw => ?_⟩) hHeld ?_
      · obtain ⟨t0, t1, t2, t3, t4, t5, t6, t7, t8, t9, t10, t11, t12⟩ := hSw
        go_simp
        try simp [*]
        try (intro hh; exfalso; omega)
        try omega
      try simp only [Act.put, List.setIfInBounds_toArray, List.set_cons_zero, List.set_cons_succ, List.getElem_toArray, List.getElem_cons_succ, List.getElem_cons_zero]
      refine wpAnyH_take (i := 8) (oi := _) (v := Value.int .i64 ((m : Int) + 1)) rfl (by kernel_rfl) (by kernel_rfl) (by kernel_rfl) (fun _ _ _ h => h) (Or.inl ⟨by rfl, fun w' hSw => ?_⟩) hHeld ?_
      · obtain ⟨t0, t1, t2, t3, t4, t5, t6, t7, t8, t9, t10, t11, t12⟩ := hSw
        go_simp
        try simp [*]
        try (intro hh; exfalso; omega)
        try omega
      try simp only [Act.put, List.setIfInBounds_toArray, List.set_cons_zero, List.set_cons_succ, List.getElem_toArray, List.getElem_cons_succ, List.getElem_cons_zero]
      refine wpAnyH_take (i := 9) (oi := _) (v := Value.int .i64 k) rfl (by kernel_rfl) (by kernel_rfl) (by kernel_rfl) (fun _ _ _ h => h) (Or.inl ⟨by rfl, fun w' hSw => ?_⟩) hHeld ?_
      · obtain ⟨t0, t1, t2, t3, t4, t5, t6, t7, t8, t9, t10, t11, t12⟩ := hSw
        go_simp
        try simp [*]
        try (intro hh; exfalso; omega)
        try omega
      try simp only [Act.put, List.setIfInBounds_toArray, List.set_cons_zero, List.set_cons_succ, List.getElem_toArray, List.getElem_cons_succ, List.getElem_cons_zero]
      refine wpAnyH_take (i := 10) (oi := _) (v := Value.int .i64 j) rfl (by kernel_rfl) (by kernel_rfl) (by kernel_rfl) (fun _ _ _ h => h) (Or.inl ⟨by rfl, fun w' hSw => ?_⟩) hHeld ?_
      · obtain ⟨t0, t1, t2, t3, t4, t5, t6, t7, t8, t9, t10, t11, t12⟩ := hSw
        go_simp
        try simp [*]
        try (intro hh; exfalso; omega)
        try omega
      try simp only [Act.put, List.setIfInBounds_toArray, List.set_cons_zero, List.set_cons_succ, List.getElem_toArray, List.getElem_cons_succ, List.getElem_cons_zero]
      refine wpAnyH_take (i := 11) (oi := _) (v := Value.pointer (some ⟨bm, om + j * 4, none⟩)) rfl (by kernel_rfl) (by kernel_rfl) (by kernel_rfl) (fun _ _ _ h => h) (Or.inl ⟨by rfl, fun w' hSw => ?_⟩) hHeld ?_
      · obtain ⟨t0, t1, t2, t3, t4, t5, t6, t7, t8, t9, t10, t11, t12⟩ := hSw
        go_simp
        try simp [*]
        try (intro hh; exfalso; omega)
        try omega
      try simp only [Act.put, List.setIfInBounds_toArray, List.set_cons_zero, List.set_cons_succ, List.getElem_toArray, List.getElem_cons_succ, List.getElem_cons_zero]
      refine wpAnyH_take (i := 12) (oi := _) (v := Value.agg #[Value.int .i64 X.len, Value.int .i64 X.lift, Value.int .i64 X.drag, Value.int .i64 X.str]) rfl (by kernel_rfl) (by kernel_rfl) (by kernel_rfl) (fun _ _ _ h => h) (Or.inl ⟨by rfl, fun w' hSw => ?_⟩) hHeld ?_
      · obtain ⟨t0, t1, t2, t3, t4, t5, t6, t7, t8, t9, t10, t11, t12⟩ := hSw
        go_simp
        try simp [*]
        try (intro hh; exfalso; omega)
        try omega
      try simp only [Act.put, List.setIfInBounds_toArray, List.set_cons_zero, List.set_cons_succ, List.getElem_toArray, List.getElem_cons_succ, List.getElem_cons_zero]
      refine wpAnyH_take (i := 13) (oi := _) (v := Value.bool false) rfl (by kernel_rfl) (by kernel_rfl) (by kernel_rfl) (fun _ _ _ h => h) (Or.inl ⟨by rfl, fun w' hSw => ?_⟩) hHeld ?_
      · obtain ⟨t0, t1, t2, t3, t4, t5, t6, t7, t8, t9, t10, t11, t12⟩ := hSw
        go_simp
        try simp [*]
        try (intro hh; exfalso; omega)
        try omega
      try simp only [Act.put, List.setIfInBounds_toArray, List.set_cons_zero, List.set_cons_succ, List.getElem_toArray, List.getElem_cons_succ, List.getElem_cons_zero]
      refine wpAnyH_take (i := 14) (oi := _) (v := Value.bool false) rfl (by kernel_rfl) (by kernel_rfl) (by kernel_rfl) (fun _ _ _ h => h) (Or.inl ⟨by rfl, fun w' hSw => ?_⟩) hHeld ?_
      · obtain ⟨t0, t1, t2, t3, t4, t5, t6, t7, t8, t9, t10, t11, t12⟩ := hSw
        go_simp
        try simp [*]
        try (intro hh; exfalso; omega)
        try omega
      try simp only [Act.put, List.setIfInBounds_toArray, List.set_cons_zero, List.set_cons_succ, List.getElem_toArray, List.getElem_cons_succ, List.getElem_cons_zero]
      refine wpAnyH_take (i := 15) (oi := _) (v := Value.slice (some ⟨bw, ow, none⟩) (len - (m + 1)) g1) rfl (by kernel_rfl) (by kernel_rfl) (by kernel_rfl) (fun _ _ _ h => h) (Or.inl ⟨by rfl, fun w' hSw => ?_⟩) hHeld ?_
      · obtain ⟨t0, t1, t2, t3, t4, t5, t6, t7, t8, t9, t10, t11, t12⟩ := hSw
        go_simp
        try simp [*]
        try (intro hh; exfalso; omega)
        try omega
      try simp only [Act.put, List.setIfInBounds_toArray, List.set_cons_zero, List.set_cons_succ, List.getElem_toArray, List.getElem_cons_succ, List.getElem_cons_zero]
      refine wpAnyH_take (i := 16) (oi := _) (v := Value.int .i64 k) rfl (by kernel_rfl) (by kernel_rfl) (by kernel_rfl) (fun _ _ _ h => h) (Or.inl ⟨by rfl, fun w' hSw => ?_⟩) hHeld ?_
      · obtain ⟨t0, t1, t2, t3, t4, t5, t6, t7, t8, t9, t10, t11, t12⟩ := hSw
        go_simp
        try simp [*]
        try (intro hh; exfalso; omega)
        try omega
      try simp only [Act.put, List.setIfInBounds_toArray, List.set_cons_zero, List.set_cons_succ, List.getElem_toArray, List.getElem_cons_succ, List.getElem_cons_zero]
      refine wpAnyH_take (i := 17) (oi := _) (v := Value.pointer (some ⟨bw, ow + k, none⟩)) rfl (by kernel_rfl) (by kernel_rfl) (by kernel_rfl) (fun _ _ _ h => h) (Or.inl ⟨by rfl, fun w' hSw => ?_⟩) hHeld ?_
      · obtain ⟨t0, t1, t2, t3, t4, t5, t6, t7, t8, t9, t10, t11, t12⟩ := hSw
        go_simp
        try simp [*]
        try (intro hh; exfalso; omega)
        try omega
      try simp only [Act.put, List.setIfInBounds_toArray, List.set_cons_zero, List.set_cons_succ, List.getElem_toArray, List.getElem_cons_succ, List.getElem_cons_zero]
      refine wpAnyH_take (i := 18) (oi := _) (v := Value.int .i64 z) rfl (by kernel_rfl) (by kernel_rfl) (by kernel_rfl) (fun _ _ _ h => h) (Or.inl ⟨by rfl, fun w' hSw => ?_⟩) hHeld ?_
      · obtain ⟨t0, t1, t2, t3, t4, t5, t6, t7, t8, t9, t10, t11, t12⟩ := hSw
        go_simp
        try simp [*]
        try (intro hh; exfalso; omega)
        try omega
      try simp only [Act.put, List.setIfInBounds_toArray, List.set_cons_zero, List.set_cons_succ, List.getElem_toArray, List.getElem_cons_succ, List.getElem_cons_zero]
      refine wpAnyH_take (i := 19) (oi := _) (v := Value.slice (some ⟨b0, o0, none⟩) len g0) rfl (by kernel_rfl) (by kernel_rfl) (by kernel_rfl) (fun _ _ _ h => h) (Or.inl ⟨by rfl, fun w' hSw => ?_⟩) hHeld ?_
      · obtain ⟨t0, t1, t2, t3, t4, t5, t6, t7, t8, t9, t10, t11, t12⟩ := hSw
        go_simp
        try simp [*]
        try (intro hh; exfalso; omega)
        try omega
      try simp only [Act.put, List.setIfInBounds_toArray, List.set_cons_zero, List.set_cons_succ, List.getElem_toArray, List.getElem_cons_succ, List.getElem_cons_zero]
      refine wpAnyH_take (i := 20) (oi := _) (v := Value.int .i64 m) rfl (by kernel_rfl) (by kernel_rfl) (by kernel_rfl) (fun _ _ _ h => h) (Or.inl ⟨by rfl, fun w' hSw => ?_⟩) hHeld ?_
      · obtain ⟨t0, t1, t2, t3, t4, t5, t6, t7, t8, t9, t10, t11, t12⟩ := hSw
        go_simp
        try simp [*]
        try (intro hh; exfalso; omega)
        try omega
      try simp only [Act.put, List.setIfInBounds_toArray, List.set_cons_zero, List.set_cons_succ, List.getElem_toArray, List.getElem_cons_succ, List.getElem_cons_zero]
      refine wpAnyH_take (i := 21) (oi := _) (v := Value.int .i64 ((m : Int) + 1)) rfl (by kernel_rfl) (by kernel_rfl) (by kernel_rfl) (fun _ _ _ h => h) (Or.inl ⟨by rfl, fun w' hSw => ?_⟩) hHeld ?_
      · obtain ⟨t0, t1, t2, t3, t4, t5, t6, t7, t8, t9, t10, t11, t12⟩ := hSw
        go_simp
        try simp [*]
        try (intro hh; exfalso; omega)
        try omega
      try simp only [Act.put, List.setIfInBounds_toArray, List.set_cons_zero, List.set_cons_succ, List.getElem_toArray, List.getElem_cons_succ, List.getElem_cons_zero]
      refine wpAnyH_take (i := 22) (oi := _) (v := Value.int .i64 k) rfl (by kernel_rfl) (by kernel_rfl) (by kernel_rfl) (fun _ _ _ h => h) (Or.inl ⟨by rfl, fun w' hSw => ?_⟩) hHeld ?_
      · obtain ⟨t0, t1, t2, t3, t4, t5, t6, t7, t8, t9, t10, t11, t12⟩ := hSw
        go_simp
        try simp [*]
        try (intro hh; exfalso; omega)
        try omega
      try simp only [Act.put, List.setIfInBounds_toArray, List.set_cons_zero, List.set_cons_succ, List.getElem_toArray, List.getElem_cons_succ, List.getElem_cons_zero]
      refine wpAnyH_take (i := 23) (oi := _) (v := Value.int .i64 j) rfl (by kernel_rfl) (by kernel_rfl) (by kernel_rfl) (fun _ _ _ h => h) (Or.inl ⟨by rfl, fun w' hSw => ?_⟩) hHeld ?_
      · obtain ⟨t0, t1, t2, t3, t4, t5, t6, t7, t8, t9, t10, t11, t12⟩ := hSw
        go_simp
        try simp [*]
        try (intro hh; exfalso; omega)
        try omega
      try simp only [Act.put, List.setIfInBounds_toArray, List.set_cons_zero, List.set_cons_succ, List.getElem_toArray, List.getElem_cons_succ, List.getElem_cons_zero]
      refine wpAnyH_take (i := 24) (oi := _) (v := Value.pointer (some ⟨b0, o0 + j, none⟩)) rfl (by kernel_rfl) (by kernel_rfl) (by kernel_rfl) (fun _ _ _ h => h) (Or.inl ⟨by rfl, fun w' hSw => ?_⟩) hHeld ?_
      · obtain ⟨t0, t1, t2, t3, t4, t5, t6, t7, t8, t9, t10, t11, t12⟩ := hSw
        go_simp
        try simp [*]
        try (intro hh; exfalso; omega)
        try omega
      try simp only [Act.put, List.setIfInBounds_toArray, List.set_cons_zero, List.set_cons_succ, List.getElem_toArray, List.getElem_cons_succ, List.getElem_cons_zero]
      refine wpAnyH_take (i := 25) (oi := _) (v := Value.int .i64 y) rfl (by kernel_rfl) (by kernel_rfl) (by kernel_rfl) (fun _ _ _ h => h) (Or.inl ⟨by rfl, fun w' hSw => ?_⟩) hHeld ?_
      · obtain ⟨t0, t1, t2, t3, t4, t5, t6, t7, t8, t9, t10, t11, t12⟩ := hSw
        go_simp
        try simp [*]
        try (intro hh; exfalso; omega)
        try omega
      try simp only [Act.put, List.setIfInBounds_toArray, List.set_cons_zero, List.set_cons_succ, List.getElem_toArray, List.getElem_cons_succ, List.getElem_cons_zero]
      refine wpAnyH_take (i := 26) (oi := _) (v := Value.slice (some ⟨b0, o0, none⟩) len g0) rfl (by kernel_rfl) (by kernel_rfl) (by kernel_rfl) (fun _ _ _ h => h) (Or.inl ⟨by rfl, fun w' hSw => ?_⟩) hHeld ?_
      · obtain ⟨t0, t1, t2, t3, t4, t5, t6, t7, t8, t9, t10, t11, t12⟩ := hSw
        go_simp
        try simp [*]
        try (intro hh; exfalso; omega)
        try omega
      try simp only [Act.put, List.setIfInBounds_toArray, List.set_cons_zero, List.set_cons_succ, List.getElem_toArray, List.getElem_cons_succ, List.getElem_cons_zero]
      refine wpAnyH_take (i := 27) (oi := _) (v := Value.int .i64 m) rfl (by kernel_rfl) (by kernel_rfl) (by kernel_rfl) (fun _ _ _ h => h) (Or.inl ⟨by rfl, fun w' hSw => ?_⟩) hHeld ?_
      · obtain ⟨t0, t1, t2, t3, t4, t5, t6, t7, t8, t9, t10, t11, t12⟩ := hSw
        go_simp
        try simp [*]
        try (intro hh; exfalso; omega)
        try omega
      try simp only [Act.put, List.setIfInBounds_toArray, List.set_cons_zero, List.set_cons_succ, List.getElem_toArray, List.getElem_cons_succ, List.getElem_cons_zero]
      refine wpAnyH_take (i := 28) (oi := _) (v := Value.pointer (some ⟨b0, o0 + m, none⟩)) rfl (by kernel_rfl) (by kernel_rfl) (by kernel_rfl) (fun _ _ _ h => h) (Or.inl ⟨by rfl, fun w' hSw => ?_⟩) hHeld ?_
      · obtain ⟨t0, t1, t2, t3, t4, t5, t6, t7, t8, t9, t10, t11, t12⟩ := hSw
        go_simp
        try simp [*]
        try (intro hh; exfalso; omega)
        try omega
      try simp only [Act.put, List.setIfInBounds_toArray, List.set_cons_zero, List.set_cons_succ, List.getElem_toArray, List.getElem_cons_succ, List.getElem_cons_zero]
      refine wpAnyH_take (i := 29) (oi := _) (v := Value.int .i64 v) rfl (by kernel_rfl) (by kernel_rfl) (by kernel_rfl) (fun _ _ _ h => h) (Or.inl ⟨by rfl, fun w' hSw => ?_⟩) hHeld ?_
      · obtain ⟨t0, t1, t2, t3, t4, t5, t6, t7, t8, t9, t10, t11, t12⟩ := hSw
        go_simp
        try simp [*]
        try (intro hh; exfalso; omega)
        try omega
      try simp only [Act.put, List.setIfInBounds_toArray, List.set_cons_zero, List.set_cons_succ, List.getElem_toArray, List.getElem_cons_succ, List.getElem_cons_zero]
      refine wpAnyH_take (i := 30) (oi := _) (v := Value.int .i64 z) rfl (by kernel_rfl) (by kernel_rfl) (by kernel_rfl) (fun _ _ _ h => h) (Or.inl ⟨by rfl, fun w' hSw => ?_⟩) hHeld ?_
      · obtain ⟨t0, t1, t2, t3, t4, t5, t6, t7, t8, t9, t10, t11, t12⟩ := hSw
        go_simp
        try simp [*]
        try (intro hh; exfalso; omega)
        try omega
      try simp only [Act.put, List.setIfInBounds_toArray, List.set_cons_zero, List.set_cons_succ, List.getElem_toArray, List.getElem_cons_succ, List.getElem_cons_zero]
      refine wpAnyH_take (i := 31) (oi := _) (v := Value.bool false) rfl (by kernel_rfl) (by kernel_rfl) (by kernel_rfl) (fun _ _ _ h => h) (Or.inl ⟨by rfl, fun w' hSw => ?_⟩) hHeld ?_
      · obtain ⟨t0, t1, t2, t3, t4, t5, t6, t7, t8, t9, t10, t11, t12⟩ := hSw
        go_simp
        try simp [*]
        try (intro hh; exfalso; omega)
        try omega
      try simp only [Act.put, List.setIfInBounds_toArray, List.set_cons_zero, List.set_cons_succ, List.getElem_toArray, List.getElem_cons_succ, List.getElem_cons_zero]
      refine wpAnyH_take (i := 32) (oi := _) (v := Value.bool false) rfl (by kernel_rfl) (by kernel_rfl) (by kernel_rfl) (fun _ _ _ h => h) (Or.inl ⟨by rfl, fun w' hSw => ?_⟩) hHeld ?_
      · obtain ⟨t0, t1, t2, t3, t4, t5, t6, t7, t8, t9, t10, t11, t12⟩ := hSw
        go_simp
        try simp [*]
        try (intro hh; exfalso; omega)
        try omega
      try simp only [Act.put, List.setIfInBounds_toArray, List.set_cons_zero, List.set_cons_succ, List.getElem_toArray, List.getElem_cons_succ, List.getElem_cons_zero]
      refine wpAnyH_done (by kernel_rfl) ?_ _
      clear hHeld
      go_wp2_with fail
      go_roundw
      case rel => exact ⟨k + 1, by omega, by go_num, (by repeat (first | exact HBr.out | exact below_drewN HBr.out _ | refine Below.drew ?_)), (by repeat (first | exact HRr.out | exact below_drewN HRr.out _ | refine Below.drew ?_)), (by repeat (first | exact HGr.out | exact below_drewN HGr.out _ | refine Below.drew ?_))⟩
      case measure => simp [intOf]; omega
    · obtain rfl : k = len - (m + 1) := by omega
      obtain ⟨k0, k1, k2, k3⟩ := KK.out _ hB
      obtain ⟨q0, q1, q2, q3⟩ := KR.out _ hR
      have HBf := Lib.hid (HBA.out _ hB)
      clear hg hB hR hlt HBM NE N0 N1 N0'
      go_wp2_with fail
      refine (HF.out _).mono ?_
      rintro e w6 ⟨rfl, hb⟩
      have HB6 := Lib.hid (HBf.out.trans (hb.mono HBf.out.size))
      clear hb
      go_wp2_with fail
      go_ret
      exact ⟨rfl, HB6.out⟩
end Go.Proofs.Ythogahdnidjelaa

/-
  Sums, answers to less, and their opposite, of layer 1; the walk of MooringSums.
-/
import Derived.Test.YtmodplodnimmkaaDoorNarAll
import Derived.Test.YtmodplodnimmkaaDoorSub
import Derived.Test.YtmodplodnimmkaaDoorForcesP
namespace Go.Proofs.YtmodplodnimmkaaDoor
open Go.RowKit Go.Shelf
set_option linter.unusedSimpArgs false
structure A2 where
  v : Int
  e : Int
def ngS (x : Int) : A2 := if 0 ≤ x ∧ x ≤ 2 then ⟨2 - x, 0⟩ else ⟨0, 2⟩
def okaE (x : Int) : Int := if 0 ≤ x ∧ x ≤ 2 then 0 else 2
def addS (a b c d : Int) : R3 := if vB a b = true ∧ vB c d = true then fit (a + c) (b + d) else ⟨0, 0, 2⟩
def lessS (a b c d : Int) : A2 := if vB a b = true ∧ vB c d = true then (if b < c then ⟨2, 0⟩ else if d ≤ a then ⟨0, 0⟩ else ⟨1, 0⟩) else ⟨0, 2⟩
theorem ret_a2 {p q : A2} (h : p = q) : Ending.returned (.tuple #[.int .i64 p.v, .int .i64 p.e]) = Ending.returned (.tuple #[.int .i64 q.v, .int .i64 q.e]) := by rw [h]
set_option maxHeartbeats 1000000 in
theorem less_any (a b c d : Int) (w : World) :
    Calls Tryd.prog 25 #[.agg #[.int .i64 a, .int .i64 b], .agg #[.int .i64 c, .int .i64 d]] w fun e w' => e = .returned (.tuple #[.int .i64 (lessS a b c d).v, .int .i64 (lessS a b c d).e]) ∧ Below w.heap.size w w' := by
  by_cases h : vB a b = true ∧ vB c d = true
  · have k : lessS a b c d = (if b < c then ⟨2, 0⟩ else if d ≤ a then ⟨0, 0⟩ else ⟨1, 0⟩) := if_pos h
    rw [k]
    have c1 := fun w => checkBoth_ok a b c d h.1 h.2 w
    clear h k
    by_cases h1 : b < c
    · rw [if_pos h1]
      go_enter Tryd.func25, Tryd.ntmps25
      go_wp2_with fail
      refine (c1 _).mono ?_
      rintro e w1 ⟨rfl, hb⟩
      obtain ⟨hc, hf⟩ := bcell hb
      go_wp2_with fail
      go_ret2
      exact ⟨rfl, chainB (((Below.refl _ _).trans hb).mono (Nat.le_refl _)) (((Below.refl _ _).alloc (Nat.le_refl _) _).alloc (by simp) _)⟩
    · rw [if_neg h1]
      by_cases h2 : d ≤ a
      · rw [if_pos h2]
        go_enter Tryd.func25, Tryd.ntmps25
        go_wp2_with fail
        refine (c1 _).mono ?_
        rintro e w1 ⟨rfl, hb⟩
        obtain ⟨hc, hf⟩ := bcell hb
        go_wp2_with fail
        go_ret2
        exact ⟨rfl, chainB hb (((Below.refl _ _).alloc (Nat.le_refl _) _).alloc (by simp) _)⟩
      · rw [if_neg h2]
        go_enter Tryd.func25, Tryd.ntmps25
        go_wp2_with fail
        refine (c1 _).mono ?_
        rintro e w1 ⟨rfl, hb⟩
        obtain ⟨hc, hf⟩ := bcell hb
        go_wp2_with fail
        go_ret2
        exact ⟨rfl, chainB hb (((Below.refl _ _).alloc (Nat.le_refl _) _).alloc (by simp) _)⟩
  · have k : lessS a b c d = ⟨0, 2⟩ := if_neg h
    rw [k]
    have c1 := fun w => checkBoth_bad a b c d h w
    clear h k
    go_enter Tryd.func25, Tryd.ntmps25
    go_wp2_with fail
    refine (c1 _).mono ?_
    rintro e w1 ⟨rfl, hb⟩
    go_wp2_with fail
    go_ret2
    exact ⟨rfl, chainB hb (((Below.refl _ _).alloc (Nat.le_refl _) _).alloc (by simp) _)⟩
set_option maxHeartbeats 1000000 in
theorem badd_any (a b c d : Int) (w : World) :
    Calls Tryd.prog 24 #[.agg #[.int .i64 a, .int .i64 b], .agg #[.int .i64 c, .int .i64 d]] w fun e w' => e = .returned (.tuple #[.agg #[.int .i64 (addS a b c d).lo, .int .i64 (addS a b c d).hi], .int .i64 (addS a b c d).e]) ∧ Below w.heap.size w w' := by
  by_cases h : vB a b = true ∧ vB c d = true
  · have k : addS a b c d = fit (a + c) (b + d) := if_pos h
    rw [k]
    have c1 := fun w => checkBoth_ok a b c d h.1 h.2 w
    have c2 := fun w => fitting_any (a + c) (b + d) w
    generalize fit (a + c) (b + d) = r at c2 ⊢
    obtain ⟨h1, h2⟩ := h
    obtain ⟨h3, h4, h5⟩ := (vB_iff a b).1 h1
    obtain ⟨h6, h7, h8⟩ := (vB_iff c d).1 h2
    clear h1 h2 k
    go_enter Tryd.func24, Tryd.ntmps24
    go_wp2_with fail
    refine (c1 _).mono ?_
    rintro e w1 ⟨rfl, hb⟩
    obtain ⟨hc, hf⟩ := bcell hb
    go_wp2_with fail
    refine (c2 _).mono ?_
    rintro e w2 ⟨rfl, hb2⟩
    replace hb := hb.trans (hb2.mono hb.size)
    clear hc hf hb2
    obtain ⟨hc, hf⟩ := bcell hb
    go_wp2_with fail
    refine bodyPost_ret (v := .tuple #[.agg #[.int .i64 r.lo, .int .i64 r.hi], .int .i64 r.e]) (by simp [results, Tryd.results24, go_sem, hc]) rfl ⟨rfl, ?_⟩
    exact (((((((Below.refl _ _).alloc (Nat.le_refl _) _).alloc (by simp) _).alloc (by simp; omega) _).trans (hb.mono (by simp; omega)))).setCell (by simp; omega) _).setCell (by simp; omega) _
  · have k : addS a b c d = ⟨0, 0, 2⟩ := if_neg h
    rw [k]
    have c1 := fun w => checkBoth_bad a b c d h w
    clear h k
    go_enter Tryd.func24, Tryd.ntmps24
    go_wp2_with fail
    refine (c1 _).mono ?_
    rintro e w1 ⟨rfl, hb⟩
    obtain ⟨hc, hf⟩ := bcell hb
    go_wp2_with fail
    refine bodyPost_ret (v := .tuple #[.agg #[.int .i64 0, .int .i64 0], .int .i64 2]) (by simp [results, Tryd.results24, go_sem, hc]) rfl ⟨rfl, ?_⟩
    exact (((((((Below.refl _ _).alloc (Nat.le_refl _) _).alloc (by simp) _).alloc (by simp; omega) _).trans (hb.mono (by simp; omega)))).setCell (by simp; omega) _).setCell (by simp; omega) _
set_option maxHeartbeats 400000 in
theorem checkAnswer_any (x : Int) (w : World) :
    Calls Tryd.prog 54 #[.int .i64 x] w fun e w' => e = .returned (.int .i64 (okaE x)) ∧ w' = w := by
  by_cases h : 0 ≤ x ∧ x ≤ 2
  · rw [show okaE x = 0 from if_pos h]
    obtain ⟨h1, h2⟩ := h
    go_enter Tryd.func54, Tryd.ntmps54
    go_wp2
    go_ret
    exact ⟨rfl, rfl⟩
  · rw [show okaE x = 2 from if_neg h]
    have h' : x < 0 ∨ (0 ≤ x ∧ 2 < x) := by omega
    clear h
    rcases h' with h | ⟨h, h'⟩
    all_goals
      go_enter Tryd.func54, Tryd.ntmps54
      go_wp2
      go_ret
      exact ⟨rfl, rfl⟩
set_option maxHeartbeats 400000 in
theorem not_any (x : Int) (w : World) :
    Calls Tryd.prog 26 #[.int .i64 x] w fun e w' => e = .returned (.tuple #[.int .i64 (ngS x).v, .int .i64 (ngS x).e]) ∧ w' = w := by
  have c1 := fun w => checkAnswer_any x w
  by_cases h : 0 ≤ x ∧ x ≤ 2
  · rw [show ngS x = ⟨2 - x, 0⟩ from if_pos h]
    rw [show okaE x = 0 from if_pos h] at c1
    obtain ⟨h1, h2⟩ := h
    go_enter Tryd.func26, Tryd.ntmps26
    go_wp2_with fail
    refine (c1 _).mono ?_
    rintro e w1 ⟨rfl, rfl⟩
    go_wp2_with fail
    go_ret2
    exact ⟨rfl, rfl⟩
  · rw [show ngS x = ⟨0, 2⟩ from if_neg h]
    rw [show okaE x = 2 from if_neg h] at c1
    clear h
    go_enter Tryd.func26, Tryd.ntmps26
    go_wp2_with fail
    refine (c1 _).mono ?_
    rintro e w1 ⟨rfl, rfl⟩
    go_wp2_with fail
    go_ret2
    exact ⟨rfl, rfl⟩
end Go.Proofs.YtmodplodnimmkaaDoor
namespace Go.Proofs.YtmodplodnimmkaaDoor
open Go.RowKit Go.Shelf
set_option linter.unusedSimpArgs false
/-- what holds at each element -/
structure SumM (zs : List El) (cs F P T : List Pr) (A : List Int) (k : Nat) : Prop where
  add : addS (sLo zs cs k) (sHi zs cs k) (pr F k).lo (pr F k).hi = ⟨sLo zs cs (k + 1), sHi zs cs (k + 1), 0⟩
  pul : pr P k = ⟨sLo zs cs (k + 1), sHi zs cs (k + 1)⟩
  les : ∃ x : Int, lessS (el zs k).str (el zs k).str (pr T k).lo (pr T k).hi = ⟨x, 0⟩ ∧ ngS x = ⟨A[k]?.getD 0, 0⟩
theorem sums_math {d : Int} {zs : List El} {an fr : Int} {cs : List Pr} (h : staE d zs an fr cs = 0) :
    (forV d zs an fr cs).length = zs.length ∧ (pulV d zs an fr cs false).length = zs.length ∧ (tenV d zs an fr cs false).length = zs.length ∧ (strV d zs an fr cs false).length = zs.length ∧ zs.length ≤ 40 ∧
    ∀ k, k < zs.length → SumM zs cs (forV d zs an fr cs) (pulV d zs an fr cs false) (tenV d zs an fr cs false) (strV d zs an fr cs false) k := by
  obtain ⟨hr, hs, hm, hc⟩ := staE_ok h
  have e0 : forV d zs an fr cs = rowL (forG zs cs) zs.length := if_pos hc
  have e1 : pulV d zs an fr cs false = rowL (pulG false zs cs) zs.length := if_pos hc
  have e2 : tenV d zs an fr cs false = rowL (tenG false zs cs) zs.length := if_pos h
  have e3 : strV d zs an fr cs false = strL false zs cs zs.length := if_pos h
  rw [e0, e1, e2, e3]
  refine ⟨rowL_len _ _, rowL_len _ _, rowL_len _ _, strL_len _ _ _ _, hr.most, fun k hk => ?_⟩
  have b0 := sums_bd hr k (by omega)
  have b1 := sums_bd hr (k + 1) (by omega)
  have f := force_bd (hr.els k hk) (hr.cur k (by omega))
  have hmo := hr.most
  have hx := (vE_iff _).1 (hr.els k hk)
  refine ⟨?_, ?_, ?_⟩
  · rw [rowL_get _ _ _ hk]
    have s1 : sLo zs cs (k + 1) = sLo zs cs k + fLo (el zs k) (pr cs k) := rfl
    have s2 : sHi zs cs (k + 1) = sHi zs cs k + fHi (el zs k) (pr cs k) := rfl
    simp only [forG]
    unfold addS
    rw [if_pos ⟨(vB_iff _ _).2 ⟨by omega, by omega, by omega⟩, (vB_iff _ _).2 ⟨by omega, by omega, by omega⟩⟩]
    unfold fit
    rw [if_pos ((vB_iff _ _).2 ⟨by omega, by omega, by omega⟩), s1, s2]
  · rw [rowL_get _ _ _ hk]; rfl
  · rw [rowL_get _ _ _ hk, strL_get _ _ _ _ _ hk]
    have p := pull_bd hr false (k := k + 1) (by omega)
    have l := lif_bd hr (k := k + 1) (by omega)
    have hv : 0 ≤ lifTo zs (k + 1) * lifTo zs (k + 1) ∧ lifTo zs (k + 1) * lifTo zs (k + 1) ≤ 41943040 * 41943040 := by
      rcases Int.le_total 0 (lifTo zs (k + 1)) with g | g
      · exact ⟨Int.mul_nonneg g g, Int.mul_le_mul (by omega) (by omega) g (by decide)⟩
      · have e : lifTo zs (k + 1) * lifTo zs (k + 1) = -lifTo zs (k + 1) * -lifTo zs (k + 1) := by rw [Int.neg_mul_neg]
        rw [e]
        exact ⟨Int.mul_nonneg (by omega) (by omega), Int.mul_le_mul (by omega) (by omega) (by omega) (by decide)⟩
    have n0 := Int.mul_nonneg p.1 p.1
    have n1 := sq_mono p.1 p.2.2.1
    have n2 := sq_mono (a := sHi zs cs (k + 1)) (by omega) p.2.2.2
    have m1 := isq_mono (x := hLo false zs cs (k + 1) * hLo false zs cs (k + 1) + lifTo zs (k + 1) * lifTo zs (k + 1)) (by omega) (show _ ≤ sHi zs cs (k + 1) * sHi zs cs (k + 1) + lifTo zs (k + 1) * lifTo zs (k + 1) by omega)
    have m2 := (isqUp_ge (x := sHi zs cs (k + 1) * sHi zs cs (k + 1) + lifTo zs (k + 1) * lifTo zs (k + 1)) (by omega)).1
    have m3 := isqUp_least (x := sHi zs cs (k + 1) * sHi zs cs (k + 1) + lifTo zs (k + 1) * lifTo zs (k + 1)) (t := 1073741824) (by omega) (by decide) (by omega)
    have m4 := (isq_spec (x := hLo false zs cs (k + 1) * hLo false zs cs (k + 1) + lifTo zs (k + 1) * lifTo zs (k + 1)) (by omega)).1
    simp only [tenG]
    generalize isq (hLo false zs cs (k + 1) * hLo false zs cs (k + 1) + lifTo zs (k + 1) * lifTo zs (k + 1)) = x at *
    generalize isqUp (sHi zs cs (k + 1) * sHi zs cs (k + 1) + lifTo zs (k + 1) * lifTo zs (k + 1)) = y at *
    generalize (el zs k).str = s at *
    refine ⟨if s < x then 2 else if y ≤ s then 0 else 1, ?_, ?_⟩
    · unfold lessS
      rw [if_pos ⟨(vB_iff _ _).2 ⟨by omega, by omega, by omega⟩, (vB_iff _ _).2 ⟨by omega, by omega, by omega⟩⟩]
      split
      · rfl
      · split <;> rfl
    · unfold ngS alwV
      dsimp only
      by_cases h1 : s < x
      · rw [if_pos h1, if_pos (show s < y by omega), if_pos h1]; rfl
      · by_cases h2 : y ≤ s
        · rw [if_neg h1, if_pos h2, if_neg (show ¬ s < y by omega), if_neg h1]; rfl
        · rw [if_neg h1, if_neg h2, if_pos (show s < y by omega), if_neg h1]; rfl
set_option maxRecDepth 100000 in
set_option maxHeartbeats 40000000 in
theorem law_sums (d an fr : Int) (sv cv : Value) (zs : List El) (cs : List Pr) (w : World) (hTb : TabAt w) (hI : Els w.heap.size w sv zs) (hC : Prs w.heap.size w cv cs) :
    Calls Tryd.prog 5 #[.agg #[.int .i64 d, sv, .int .i64 an, .int .i64 fr], cv] w fun e w' => e = .returned (.bool true) ∧ Below w.heap.size w w' := by
  have hz0w := hTb.lt
  have c16 := fun w' (hb : Below w.heap.size w w') => valid_any d an fr sv cv zs cs w' (hI.at hb) (hC.at hb)
  have c22 := fun w' (hb : Below w.heap.size w w') => forces_any d an fr sv cv zs cs w' (hI.at hb) (hC.at hb)
  have c23 := fun w' (hb : Below w.heap.size w w') => pulls_any d an fr sv cv zs cs false w' (hI.at hb) (hC.at hb)
  have c18 := fun w' (hb : Below w.heap.size w w') => tensions_any d an fr sv cv zs cs false w' (hI.at hb) (hC.at hb)
  have c8 := fun w' (hb : Below w.heap.size w w') => strong_any d an fr sv cv zs cs false w' (hTb.at hb hz0w) (hI.at hb) (hC.at hb)
  have HF := Lib.hid (fun W => fine_any W)
  have HM := Lib.hid (fun (h : staE d zs an fr cs = 0) => sums_math h)
  have HE := Lib.hid (fun (h : staE d zs an fr cs = 0) => (staE_ok h).2.2.2)
  obtain ⟨a, cap, rfl, -, hIc⟩ := hI
  have HIc := Lib.hid hIc
  clear hIc hTb
  obtain ⟨c, cap2, rfl, -, -⟩ := hC
  generalize forV d zs an fr cs = F at *
  generalize pulV d zs an fr cs false = P at *
  generalize tenV d zs an fr cs false = T at *
  generalize strV d zs an fr cs false = S at *
  generalize curE d zs an fr cs = E2 at *
  generalize staE d zs an fr cs = E3 at *
  generalize zs.length = len at *
  generalize cs.length = len2 at *
  obtain ⟨A, hA⟩ : ∃ A, A = w.alloc (.cells #[.int .i64 d, .slice a len cap, .int .i64 an, .int .i64 fr] 24) := ⟨_, rfl⟩
  have hzA : A.heap.size = w.heap.size + 1 := by rw [hA]; simp
  have KK := Lib.hid (show ∀ W, Below (w.heap.size + 1) A W → W.cell? ⟨w.heap.size, 0, none⟩ = some (.int .i64 d) ∧ W.cell? ⟨w.heap.size, 1, none⟩ = some (.slice a len cap) ∧ W.cell? ⟨w.heap.size, 2, none⟩ = some (.int .i64 an) ∧ W.cell? ⟨w.heap.size, 3, none⟩ = some (.int .i64 fr) from fun W h => by
    refine ⟨(h.cell (p := ⟨w.heap.size, 0, none⟩) (Nat.lt_succ_self _)).trans ?_, (h.cell (p := ⟨w.heap.size, 1, none⟩) (Nat.lt_succ_self _)).trans ?_, (h.cell (p := ⟨w.heap.size, 2, none⟩) (Nat.lt_succ_self _)).trans ?_, (h.cell (p := ⟨w.heap.size, 3, none⟩) (Nat.lt_succ_self _)).trans ?_⟩ <;> (rw [hA]; simp [go_sem]))
  have HBA := Lib.hid (show ∀ W, Below (w.heap.size + 1) A W → Below w.heap.size w W from fun W h => by
    have e : Below w.heap.size w A := by rw [hA]; exact (Below.refl _ _).alloc (Nat.le_refl _) _
    exact e.trans (h.mono (Nat.le_succ _)))
  by_cases h0 : E3 = 0
  rotate_left
  · have hd : decide (E3 = 0) = false := decide_eq_false h0
    rw [hd] at c16
    clear HM HE HIc c22 c23 c18 c8 h0 hd
    go_enter Tryd.func5, Tryd.ntmps5
    go_wp2_with fail
    try rw [← hA]
    refine (c16 _ (HBA.out _ (Below.refl _ _))).mono ?_
    rintro e w1 ⟨rfl, hb⟩
    have hB1 : Below (w.heap.size + 1) A w1 := hb.mono (by omega)
    clear hb hA
    obtain ⟨k0, k1, k2, k3⟩ := KK.out _ hB1
    have HB := Lib.hid (HBA.out _ hB1)
    clear k0 k1 k2 k3
    go_wp2_with fail
    refine (HF.out _).mono ?_
    rintro e w2 ⟨rfl, hb⟩
    have HB2 := Lib.hid (HB.out.trans (hb.mono HB.out.size))
    clear hb
    go_wp2_with fail
    go_ret
    exact ⟨rfl, HB2.out⟩
  subst h0
  obtain rfl := HE.out rfl
  obtain ⟨l1, l2, l3, l4, hmo, ms⟩ := HM.out rfl
  have MS := Lib.hid ms
  have K1 := Lib.hid l1
  have K2 := Lib.hid l2
  have K3 := Lib.hid l3
  have K4 := Lib.hid l4
  clear l1 l2 l3 l4 ms HM HE
  rw [show decide ((0 : Int) = 0) = true from rfl] at c16
  go_enter Tryd.func5, Tryd.ntmps5
  go_wp2_with fail
  try rw [← hA]
  refine (c16 _ (HBA.out _ (Below.refl _ _))).mono ?_
  rintro e w1 ⟨rfl, hb⟩
  have hB1 : Below (w.heap.size + 1) A w1 := hb.mono (by omega)
  clear hb hA
  obtain ⟨k0, k1, k2, k3⟩ := KK.out _ hB1
  go_wp2_with fail
  refine (c22 _ (HBA.out _ hB1)).mono ?_
  rintro e w2 ⟨v2, rfl, hP, hb⟩
  have hB2 : Below (w.heap.size + 1) A w2 := hB1.trans (hb.mono (by have := hB1.size; omega))
  have L0 := Lib.hid hP
  obtain ⟨a0, g0, rfl⟩ := hP.form
  clear hP
  clear hb k0 k1 k2 k3
  obtain ⟨k0, k1, k2, k3⟩ := KK.out _ hB2
  go_wp2_with fail
  refine (c23 _ (HBA.out _ hB2)).mono ?_
  rintro e w3 ⟨v3, rfl, hP, hb⟩
  have hB3 : Below (w.heap.size + 1) A w3 := hB2.trans (hb.mono (by have := hB2.size; omega))
  replace L0 := Lib.hid (L0.out.at hb)
  have L1 := Lib.hid hP
  obtain ⟨a1, g1, rfl⟩ := hP.form
  clear hP
  clear hb k0 k1 k2 k3
  obtain ⟨k0, k1, k2, k3⟩ := KK.out _ hB3
  go_wp2_with fail
  refine (c18 _ (HBA.out _ hB3)).mono ?_
  rintro e w4 ⟨v4, rfl, hP, hb⟩
  have hB4 : Below (w.heap.size + 1) A w4 := hB3.trans (hb.mono (by have := hB3.size; omega))
  replace L0 := Lib.hid (L0.out.at hb)
  replace L1 := Lib.hid (L1.out.at hb)
  have L2 := Lib.hid hP
  obtain ⟨a2, g2, rfl⟩ := hP.form
  clear hP
  clear hb k0 k1 k2 k3
  obtain ⟨k0, k1, k2, k3⟩ := KK.out _ hB4
  go_wp2_with fail
  refine (c8 _ (HBA.out _ hB4)).mono ?_
  rintro e w5 ⟨v5, rfl, hP, hb⟩
  have hB5 : Below (w.heap.size + 1) A w5 := hB4.trans (hb.mono (by have := hB4.size; omega))
  replace L0 := Lib.hid (L0.out.at hb)
  replace L1 := Lib.hid (L1.out.at hb)
  replace L2 := Lib.hid (L2.out.at hb)
  have L3 := Lib.hid hP
  obtain ⟨a3, g3, rfl⟩ := hP.form
  clear hP
  clear hb k0 k1 k2 k3
  obtain ⟨k0, k1, k2, k3⟩ := KK.out _ hB5
  have N0 := Lib.hid (show ∀ k, k < len → ∃ b off, a0 = some ⟨b, off, none⟩ ∧ b < w5.heap.size ∧ w5.cell? ⟨b, off + k * 2, none⟩ = some (.int .i64 (pr F k).lo) ∧ w5.cell? ⟨b, off + k * 2 + 1, none⟩ = some (.int .i64 (pr F k).hi) from fun k hk => L0.out.get k (by rw [K1.out]; exact hk))
  have N1 := Lib.hid (show ∀ k, k < len → ∃ b off, a1 = some ⟨b, off, none⟩ ∧ b < w5.heap.size ∧ w5.cell? ⟨b, off + k * 2, none⟩ = some (.int .i64 (pr P k).lo) ∧ w5.cell? ⟨b, off + k * 2 + 1, none⟩ = some (.int .i64 (pr P k).hi) from fun k hk => L1.out.get k (by rw [K2.out]; exact hk))
  have N2 := Lib.hid (show ∀ k, k < len → ∃ b off, a2 = some ⟨b, off, none⟩ ∧ b < w5.heap.size ∧ w5.cell? ⟨b, off + k * 2, none⟩ = some (.int .i64 (pr T k).lo) ∧ w5.cell? ⟨b, off + k * 2 + 1, none⟩ = some (.int .i64 (pr T k).hi) from fun k hk => L2.out.get k (by rw [K3.out]; exact hk))
  have N3 := Lib.hid (show ∀ k, k < len → ∃ b off, a3 = some ⟨b, off, none⟩ ∧ b < w5.heap.size ∧ w5.cell? ⟨b, off + k, none⟩ = some (.int .i64 (S[k]?.getD 0)) from fun k hk => L3.out.get k (by rw [K4.out]; exact hk))
  clear L0 L1 L2 L3 c16 c22 c23 c18 c8
  simp only [K1.out, K2.out, K3.out, K4.out]
  have hs5 := hB5.size
  rw [hzA] at hs5
  have zz : w.heap.size < w5.heap.size := by omega
  have zy : ¬ w.heap.size = w5.heap.size := by omega
  obtain ⟨C, hC⟩ : ∃ C, C = w5.alloc (.cells #[.int .i64 0, .int .i64 0] 52) := ⟨_, rfl⟩
  have hCB : Below w5.heap.size w5 C := by rw [hC]; exact (Below.refl _ _).alloc (Nat.le_refl _) _
  have C0 := Lib.hid (show C.cell? ⟨w5.heap.size, 0, none⟩ = some (.int .i64 0) by rw [hC]; simp [go_sem])
  have C1 := Lib.hid (show C.cell? ⟨w5.heap.size, 1, none⟩ = some (.int .i64 0) by rw [hC]; simp [go_sem])
  have G0 := Lib.hid (show C.frozen? ⟨w5.heap.size, 0, none⟩ = false by rw [hC]; simp [go_sem])
  have G1 := Lib.hid (show C.frozen? ⟨w5.heap.size, 1, none⟩ = false by rw [hC]; simp [go_sem])
  have CZ := Lib.hid (show w5.heap.size < C.heap.size by rw [hC]; simp)
  have HCB := Lib.hid hCB
  have HBz := Lib.hid hB5
  clear hCB
  go_wp2_with fail
  rw [← hC]
  clear hC k0 k1 k2 k3
  go_loopw [6, 15, 16, 17, 18, 19, 20] (fun _ i _ _ _ _ _ wr => ∃ k : Nat, k ≤ len ∧ i = .int .i64 k ∧ Below w5.heap.size w5 wr ∧ w5.heap.size < wr.heap.size ∧ wr.cell? ⟨w5.heap.size, 0, none⟩ = some (.int .i64 (sLo zs cs k)) ∧ wr.cell? ⟨w5.heap.size, 1, none⟩ = some (.int .i64 (sHi zs cs k)) ∧ wr.frozen? ⟨w5.heap.size, 0, none⟩ = false ∧ wr.frozen? ⟨w5.heap.size, 1, none⟩ = false) (fun _ i _ _ _ _ _ _ => len - (intOf i).toNat)
  case atStart => exact ⟨0, Nat.zero_le _, rfl, HCB.out, CZ.out, C0.out, C1.out, G0.out, G1.out⟩
  case round =>
    obtain ⟨k, hk, rfl, hg, hzr, s0, s1, f0, f1⟩ := hrel
    have hB : Below (w.heap.size + 1) A wr := HBz.out.trans (hg.mono (by omega))
    by_cases hlt : k < len
    · obtain ⟨ea, ep, x, el1, el2⟩ := MS.out k hlt
      obtain ⟨b0, o0, rfl, hb0, c00, c01⟩ := N0.out k hlt
      obtain ⟨b1, o1, rfl, hb1, c10, c11⟩ := N1.out k hlt
      obtain ⟨b2, o2, rfl, hb2, c20, c21⟩ := N2.out k hlt
      obtain ⟨b3, o3, rfl, hb3, c30⟩ := N3.out k hlt
      obtain ⟨bm, om, rfl, hbm, -, -, -, e3⟩ := HIc.out k hlt
      rw [ep] at c10 c11
      dsimp only at c10 c11
      have cA := fun W => badd_any (sLo zs cs k) (sHi zs cs k) (pr F k).lo (pr F k).hi W
      rw [ea] at cA
      have cL := fun W => less_any (el zs k).str (el zs k).str (pr T k).lo (pr T k).hi W
      rw [el1] at cL
      have cN := fun W => not_any x W
      rw [el2] at cN
      dsimp only at cA cL cN
      have HS1 := Lib.hid (show sLo zs cs (k + 1) = sLo zs cs (k + 1) from rfl)
      generalize hp0 : sLo zs cs (k + 1) = p0 at *
      generalize hp1 : sHi zs cs (k + 1) = p1 at *
      have HP0 := Lib.hid hp0
      have HP1 := Lib.hid hp1
      clear hp0 hp1
      generalize hq0 : sLo zs cs k = q0 at *
      generalize hq1 : sHi zs cs k = q1 at *
      clear hq0 hq1 ea ep el1 el2 HS1
      have n00 := (hg.cell (p := ⟨b0, o0 + k * 2, none⟩) hb0).trans c00
      have n01 := (hg.cell (p := ⟨b0, o0 + k * 2 + 1, none⟩) hb0).trans c01
      have n10 := (hg.cell (p := ⟨b1, o1 + k * 2, none⟩) hb1).trans c10
      have n11 := (hg.cell (p := ⟨b1, o1 + k * 2 + 1, none⟩) hb1).trans c11
      have n20 := (hg.cell (p := ⟨b2, o2 + k * 2, none⟩) hb2).trans c20
      have n21 := (hg.cell (p := ⟨b2, o2 + k * 2 + 1, none⟩) hb2).trans c21
      have n30 := (hg.cell (p := ⟨b3, o3 + k, none⟩) hb3).trans c30
      obtain ⟨-, k1, -, -⟩ := KK.out _ hB
      have n40 := ((HBA.out _ hB).cell (p := ⟨bm, om + k * 4 + 3, none⟩) hbm).trans e3
      clear c00 c01 c10 c11 c20 c21 c30 e3
      generalize (pr F k).lo = y0 at *
      generalize (pr F k).hi = y1 at *
      generalize (pr T k).lo = t0 at *
      generalize (pr T k).hi = t1 at *
      generalize S[k]?.getD 0 = av at *
      generalize (el zs k).str = st at *
      have hbmz : bm < wr.heap.size := by have := (HBA.out _ hB).size; omega
      have HG := Lib.hid hg
      have hki : (k : Int) < (len : Int) := by omega
      clear hg hB
      go_wp2_with fail
      have nb0 : ¬ b0 = w5.heap.size := by omega
      have nb1 : ¬ b1 = w5.heap.size := by omega
      have nb2 : ¬ b2 = w5.heap.size := by omega
      have nb3 : ¬ b3 = w5.heap.size := by omega
      have nbw : ¬ w.heap.size = w5.heap.size := by omega
      have nbm : ¬ bm = w5.heap.size := by have := hbm; omega
      refine wp_region_held_drew (S := fun w' => w'.cell? ⟨b0, o0 + k * 2, none⟩ = some (.int .i64 y0) ∧ w'.cell? ⟨b0, o0 + k * 2 + 1, none⟩ = some (.int .i64 y1)) (by kernel_rfl) ⟨by simpa [go_sem] using n00, by simpa [go_sem] using n01⟩ (fun hHeld => ?_)
      refine wpAnyH_take (i := 1) (oi := _) (v := Value.slice (some ⟨b0, o0, none⟩) len g0) rfl (by kernel_rfl) (by kernel_rfl) (by kernel_rfl) (fun _ _ _ h => h) (Or.inl ⟨by rfl, fun w' hSw => ?_⟩) hHeld ?_
      · obtain ⟨t0, t1⟩ := hSw
        go_simp
        try simp [*]
        try (intro hh; exfalso; omega)
        try omega
      try simp only [Act.put, List.setIfInBounds_toArray, List.set_cons_zero, List.set_cons_succ, List.getElem_toArray, List.getElem_cons_succ, List.getElem_cons_zero]
      refine wpAnyH_take (i := 2) (oi := _) (v := Value.int .i64 k) rfl (by kernel_rfl) (by kernel_rfl) (by kernel_rfl) (fun _ _ _ h => h) (Or.inl ⟨by rfl, fun w' hSw => ?_⟩) hHeld ?_
      · obtain ⟨t0, t1⟩ := hSw
        go_simp
        try simp [*]
        try (intro hh; exfalso; omega)
        try omega
      try simp only [Act.put, List.setIfInBounds_toArray, List.set_cons_zero, List.set_cons_succ, List.getElem_toArray, List.getElem_cons_succ, List.getElem_cons_zero]
      refine wpAnyH_take (i := 3) (oi := _) (v := Value.pointer (some ⟨b0, o0 + k * 2, none⟩)) rfl (by kernel_rfl) (by kernel_rfl) (by kernel_rfl) (fun _ _ _ h => h) (Or.inl ⟨by rfl, fun w' hSw => ?_⟩) hHeld ?_
      · obtain ⟨t0, t1⟩ := hSw
        go_simp
        try simp [*]
        try (intro hh; exfalso; omega)
        try omega
      try simp only [Act.put, List.setIfInBounds_toArray, List.set_cons_zero, List.set_cons_succ, List.getElem_toArray, List.getElem_cons_succ, List.getElem_cons_zero]
      refine wpAnyH_take (i := 4) (oi := _) (v := Value.agg #[Value.int .i64 y0, Value.int .i64 y1]) rfl (by kernel_rfl) (by kernel_rfl) (by kernel_rfl) (fun _ _ _ h => h) (Or.inl ⟨by rfl, fun w' hSw => ?_⟩) hHeld ?_
      · obtain ⟨t0, t1⟩ := hSw
        go_simp
        try simp [*]
        try (intro hh; exfalso; omega)
        try omega
      try simp only [Act.put, List.setIfInBounds_toArray, List.set_cons_zero, List.set_cons_succ, List.getElem_toArray, List.getElem_cons_succ, List.getElem_cons_zero]
      refine wpAnyH_ready (rs := [0]) (by kernel_rfl) (by simp) ?_
      refine AllReadyH.cons (o := _) rfl (fun K hK => ?_) AllReadyH.nil
      go_simp
      clear hHeld
      refine hK.out _ _ ⟨by simp [go_sem, *], by simp [go_sem, *]⟩ (fun hHeld => ?_)
      clear hK K
      try simp only [Act.put, List.setIfInBounds_toArray, List.set_cons_zero, List.set_cons_succ, List.getElem_toArray, List.getElem_cons_succ, List.getElem_cons_zero]
      refine wpAnyH_ready (rs := [5]) (by kernel_rfl) (by simp) ?_
      refine AllReadyH.cons (o := _) rfl (fun K hK => ?_) AllReadyH.nil
      go_simp
      go_at_call 24
      refine Calls.mono (cA _) ?_
      rintro e wa ⟨rfl, hba⟩
      have hsa := hba.size
      simp only [World.size_drew] at hsa
      have hba0 : Below wr.heap.size wr wa := (Below.refl _ _).drew.trans hba
      have an00 := (hba0.cell (p := ⟨b0, o0 + k * 2, none⟩) (by show b0 < _; omega)).trans n00
      have an01 := (hba0.cell (p := ⟨b0, o0 + k * 2 + 1, none⟩) (by show b0 < _; omega)).trans n01
      have an10 := (hba0.cell (p := ⟨b1, o1 + k * 2, none⟩) (by show b1 < _; omega)).trans n10
      have an11 := (hba0.cell (p := ⟨b1, o1 + k * 2 + 1, none⟩) (by show b1 < _; omega)).trans n11
      have an20 := (hba0.cell (p := ⟨b2, o2 + k * 2, none⟩) (by show b2 < _; omega)).trans n20
      have an21 := (hba0.cell (p := ⟨b2, o2 + k * 2 + 1, none⟩) (by show b2 < _; omega)).trans n21
      have an30 := (hba0.cell (p := ⟨b3, o3 + k, none⟩) (by show b3 < _; omega)).trans n30
      have an40 := (hba0.cell (p := ⟨bm, om + k * 4 + 3, none⟩) (by show bm < _; omega)).trans n40
      have ak1 := (hba0.cell (p := ⟨w.heap.size, 1, none⟩) (by show w.heap.size < _; omega)).trans k1
      have fa0 := (hba0.frozen (p := ⟨w5.heap.size, 0, none⟩) hzr).trans f0
      have fa1 := (hba0.frozen (p := ⟨w5.heap.size, 1, none⟩) hzr).trans f1
      have sa0 := (hba0.cell (p := ⟨w5.heap.size, 0, none⟩) hzr).trans s0
      have sa1 := (hba0.cell (p := ⟨w5.heap.size, 1, none⟩) hzr).trans s1
      have HGa := Lib.hid (HG.out.trans (hba0.mono (by omega)))
      have hza : w5.heap.size < wa.heap.size := by omega
      clear hba hba0 s0 s1 f0 f1 HG n00 n01 n10 n11 n20 n21 n30 n40 k1
      clear hHeld
      refine hK.out _ _ ⟨an00, an01⟩ (fun hHeld => ?_)
      clear hK K
      try simp only [Act.put, List.setIfInBounds_toArray, List.set_cons_zero, List.set_cons_succ, List.getElem_toArray, List.getElem_cons_succ, List.getElem_cons_zero]
      refine wpAnyH_take (i := 6) (oi := _) (v := Value.tuple #[.agg #[.int .i64 p0, .int .i64 p1], .int .i64 0]) rfl (by kernel_rfl) (by kernel_rfl) (by kernel_rfl) (fun _ _ _ h => h) (Or.inl ⟨by rfl, fun w' hSw => ?_⟩) hHeld ?_
      · obtain ⟨t0, t1⟩ := hSw
        go_simp
        try simp [*]
        try (intro hh; exfalso; omega)
        try omega
      try simp only [Act.put, List.setIfInBounds_toArray, List.set_cons_zero, List.set_cons_succ, List.getElem_toArray, List.getElem_cons_succ, List.getElem_cons_zero]
      refine wpAnyH_take (i := 7) (oi := _) (v := .agg #[.int .i64 p0, .int .i64 p1]) rfl (by kernel_rfl) (by kernel_rfl) (by kernel_rfl) (fun _ _ _ h => h) (Or.inl ⟨by rfl, fun w' hSw => ?_⟩) hHeld ?_
      · obtain ⟨t0, t1⟩ := hSw
        go_simp
        try simp [*]
        try (intro hh; exfalso; omega)
        try omega
      try simp only [Act.put, List.setIfInBounds_toArray, List.set_cons_zero, List.set_cons_succ, List.getElem_toArray, List.getElem_cons_succ, List.getElem_cons_zero]
      refine wpAnyH_ready (rs := [8, 9]) (by kernel_rfl) (by simp) ?_
      refine AllReadyH.cons (o := _) rfl (fun K hK => ?_) (AllReadyH.cons (o := _) rfl (fun K hK => ?_) AllReadyH.nil)
      · go_simp
        clear hHeld
        refine hK.out _ _ ⟨by simp [go_sem, *], by simp [go_sem, *]⟩ (fun hHeld => ?_)
        clear hK K
        try simp only [Act.put, List.setIfInBounds_toArray, List.set_cons_zero, List.set_cons_succ, List.getElem_toArray, List.getElem_cons_succ, List.getElem_cons_zero]
        refine wpAnyH_ready (rs := [9]) (by kernel_rfl) (by simp) ?_
        refine AllReadyH.cons (o := _) rfl (fun K hK => ?_) AllReadyH.nil
        go_simp
        clear hHeld
        refine hK.out _ _ ⟨by simp [go_sem, *], by simp [go_sem, *]⟩ (fun hHeld => ?_)
        clear hK K
        try simp only [Act.put, List.setIfInBounds_toArray, List.set_cons_zero, List.set_cons_succ, List.getElem_toArray, List.getElem_cons_succ, List.getElem_cons_zero]
        refine wpAnyH_take (i := 10) (oi := _) (v := Value.int .i64 0) rfl (by kernel_rfl) (by kernel_rfl) (by kernel_rfl) (fun _ _ _ h => h) (Or.inl ⟨by rfl, fun w' hSw => ?_⟩) hHeld ?_
        · obtain ⟨t0, t1⟩ := hSw
          go_simp
          try simp [*]
          try (intro hh; exfalso; omega)
          try omega
        try simp only [Act.put, List.setIfInBounds_toArray, List.set_cons_zero, List.set_cons_succ, List.getElem_toArray, List.getElem_cons_succ, List.getElem_cons_zero]
        refine wpAnyH_done (by kernel_rfl) ?_ _
        clear hHeld
        obtain ⟨W1, hW1⟩ : ∃ W1, W1 = (wa.setCell ⟨w5.heap.size, 0, none⟩ (.int .i64 p0)).setCell ⟨w5.heap.size, 1, none⟩ (.int .i64 p1) := ⟨_, rfl⟩
        rw [← hW1]
        have bn10 : W1.cell? ⟨b1, o1 + k * 2, none⟩ = some (.int .i64 p0) := by rw [hW1]; simp [go_sem, *]
        have bn11 : W1.cell? ⟨b1, o1 + k * 2 + 1, none⟩ = some (.int .i64 p1) := by rw [hW1]; simp [go_sem, *]
        have bn20 : W1.cell? ⟨b2, o2 + k * 2, none⟩ = some (.int .i64 t0) := by rw [hW1]; simp [go_sem, *]
        have bn21 : W1.cell? ⟨b2, o2 + k * 2 + 1, none⟩ = some (.int .i64 t1) := by rw [hW1]; simp [go_sem, *]
        have bn30 : W1.cell? ⟨b3, o3 + k, none⟩ = some (.int .i64 av) := by rw [hW1]; simp [go_sem, *]
        have bn40 : W1.cell? ⟨bm, om + k * 4 + 3, none⟩ = some (.int .i64 st) := by rw [hW1]; simp [go_sem, *]
        have bk1 : W1.cell? ⟨w.heap.size, 1, none⟩ = some (.slice (some ⟨bm, om, none⟩) len cap) := by rw [hW1]; simp [go_sem, *]
        have zW : W1.heap.size = wa.heap.size := by rw [hW1]; simp
        have x0 : W1.cell? ⟨w5.heap.size, 0, none⟩ = some (.int .i64 p0) := by rw [hW1]; simp [go_sem, *]
        have x1 : W1.cell? ⟨w5.heap.size, 1, none⟩ = some (.int .i64 p1) := by rw [hW1]; simp [go_sem, *]
        have fb0 : W1.frozen? ⟨w5.heap.size, 0, none⟩ = false := by rw [hW1]; simpa [go_sem] using fa0
        have fb1 : W1.frozen? ⟨w5.heap.size, 1, none⟩ = false := by rw [hW1]; simpa [go_sem] using fa1
        have HGb := Lib.hid (show Below w5.heap.size w5 W1 by rw [hW1]; exact (HGa.out.setCell (by simp) _).setCell (by simp) _)
        clear hW1 sa0 sa1 fa0 fa1 HGa an00 an01 an10 an11 an20 an21 an30 an40 ak1
        go_wp2_with fail
        refine wp_region_held_drew (S := fun w' => w'.cell? ⟨w5.heap.size, 0, none⟩ = some (.int .i64 p0) ∧ w'.cell? ⟨w5.heap.size, 1, none⟩ = some (.int .i64 p1) ∧ w'.cell? ⟨b1, o1 + k * 2, none⟩ = some (.int .i64 p0) ∧ w'.cell? ⟨b1, o1 + k * 2 + 1, none⟩ = some (.int .i64 p1)) (by kernel_rfl) ⟨by simpa [go_sem] using x0, by simpa [go_sem] using x1, by simpa [go_sem] using bn10, by simpa [go_sem] using bn11⟩ (fun hHeld => ?_)
        refine wpAnyH_take (i := 0) (oi := _) (v := Value.int .i64 0) rfl (by kernel_rfl) (by kernel_rfl) (by kernel_rfl) (fun _ _ _ h => h) (Or.inl ⟨by rfl, fun w' hSw => ?_⟩) hHeld ?_
        · obtain ⟨t0, t1, t2, t3⟩ := hSw
          go_simp
          try simp [*]
          try (intro hh; exfalso; omega)
          try omega
        try simp only [Act.put, List.setIfInBounds_toArray, List.set_cons_zero, List.set_cons_succ, List.getElem_toArray, List.getElem_cons_succ, List.getElem_cons_zero]
        refine wpAnyH_take (i := 1) (oi := _) (v := Value.bool false) rfl (by kernel_rfl) (by kernel_rfl) (by kernel_rfl) (fun _ _ _ h => h) (Or.inl ⟨by rfl, fun w' hSw => ?_⟩) hHeld ?_
        · obtain ⟨t0, t1, t2, t3⟩ := hSw
          go_simp
          try simp [*]
          try (intro hh; exfalso; omega)
          try omega
        try simp only [Act.put, List.setIfInBounds_toArray, List.set_cons_zero, List.set_cons_succ, List.getElem_toArray, List.getElem_cons_succ, List.getElem_cons_zero]
        refine wpAnyH_take (i := 2) (oi := _) (v := Value.bool false) rfl (by kernel_rfl) (by kernel_rfl) (by kernel_rfl) (fun _ _ _ h => h) (Or.inl ⟨by rfl, fun w' hSw => ?_⟩) hHeld ?_
        · obtain ⟨t0, t1, t2, t3⟩ := hSw
          go_simp
          try simp [*]
          try (intro hh; exfalso; omega)
          try omega
        try simp only [Act.put, List.setIfInBounds_toArray, List.set_cons_zero, List.set_cons_succ, List.getElem_toArray, List.getElem_cons_succ, List.getElem_cons_zero]
        refine wpAnyH_take (i := 3) (oi := _) (v := Value.agg #[Value.int .i64 p0, Value.int .i64 p1]) rfl (by kernel_rfl) (by kernel_rfl) (by kernel_rfl) (fun _ _ _ h => h) (Or.inl ⟨by rfl, fun w' hSw => ?_⟩) hHeld ?_
        · obtain ⟨t0, t1, t2, t3⟩ := hSw
          go_simp
          try simp [*]
          try (intro hh; exfalso; omega)
          try omega
        try simp only [Act.put, List.setIfInBounds_toArray, List.set_cons_zero, List.set_cons_succ, List.getElem_toArray, List.getElem_cons_succ, List.getElem_cons_zero]
        refine wpAnyH_take (i := 4) (oi := _) (v := Value.slice (some ⟨b1, o1, none⟩) len g1) rfl (by kernel_rfl) (by kernel_rfl) (by kernel_rfl) (fun _ _ _ h => h) (Or.inl ⟨by rfl, fun w' hSw => ?_⟩) hHeld ?_
        · obtain ⟨t0, t1, t2, t3⟩ := hSw
          go_simp
          try simp [*]
          try (intro hh; exfalso; omega)
          try omega
        try simp only [Act.put, List.setIfInBounds_toArray, List.set_cons_zero, List.set_cons_succ, List.getElem_toArray, List.getElem_cons_succ, List.getElem_cons_zero]
        refine wpAnyH_take (i := 5) (oi := _) (v := Value.int .i64 k) rfl (by kernel_rfl) (by kernel_rfl) (by kernel_rfl) (fun _ _ _ h => h) (Or.inl ⟨by rfl, fun w' hSw => ?_⟩) hHeld ?_
        · obtain ⟨t0, t1, t2, t3⟩ := hSw
          go_simp
          try simp [*]
          try (intro hh; exfalso; omega)
          try omega
        try simp only [Act.put, List.setIfInBounds_toArray, List.set_cons_zero, List.set_cons_succ, List.getElem_toArray, List.getElem_cons_succ, List.getElem_cons_zero]
        refine wpAnyH_take (i := 6) (oi := _) (v := Value.pointer (some ⟨b1, o1 + k * 2, none⟩)) rfl (by kernel_rfl) (by kernel_rfl) (by kernel_rfl) (fun _ _ _ h => h) (Or.inl ⟨by rfl, fun w' hSw => ?_⟩) hHeld ?_
        · obtain ⟨t0, t1, t2, t3⟩ := hSw
          go_simp
          try simp [*]
          try (intro hh; exfalso; omega)
          try omega
        try simp only [Act.put, List.setIfInBounds_toArray, List.set_cons_zero, List.set_cons_succ, List.getElem_toArray, List.getElem_cons_succ, List.getElem_cons_zero]
        refine wpAnyH_take (i := 7) (oi := _) (v := Value.agg #[Value.int .i64 p0, Value.int .i64 p1]) rfl (by kernel_rfl) (by kernel_rfl) (by kernel_rfl) (fun _ _ _ h => h) (Or.inl ⟨by rfl, fun w' hSw => ?_⟩) hHeld ?_
        · obtain ⟨t0, t1, t2, t3⟩ := hSw
          go_simp
          try simp [*]
          try (intro hh; exfalso; omega)
          try omega
        try simp only [Act.put, List.setIfInBounds_toArray, List.set_cons_zero, List.set_cons_succ, List.getElem_toArray, List.getElem_cons_succ, List.getElem_cons_zero]
        refine wpAnyH_take (i := 8) (oi := _) (v := Value.bool false) rfl (by kernel_rfl) (by kernel_rfl) (by kernel_rfl) (fun _ _ _ h => h) (Or.inl ⟨by rfl, fun w' hSw => ?_⟩) hHeld ?_
        · obtain ⟨t0, t1, t2, t3⟩ := hSw
          go_simp
          try simp [*]
          try (intro hh; exfalso; omega)
          try omega
        try simp only [Act.put, List.setIfInBounds_toArray, List.set_cons_zero, List.set_cons_succ, List.getElem_toArray, List.getElem_cons_succ, List.getElem_cons_zero]
        refine wpAnyH_take (i := 9) (oi := _) (v := Value.bool false) rfl (by kernel_rfl) (by kernel_rfl) (by kernel_rfl) (fun _ _ _ h => h) (Or.inl ⟨by rfl, fun w' hSw => ?_⟩) hHeld ?_
        · obtain ⟨t0, t1, t2, t3⟩ := hSw
          go_simp
          try simp [*]
          try (intro hh; exfalso; omega)
          try omega
        try simp only [Act.put, List.setIfInBounds_toArray, List.set_cons_zero, List.set_cons_succ, List.getElem_toArray, List.getElem_cons_succ, List.getElem_cons_zero]
        refine wpAnyH_done (by kernel_rfl) ?_ _
        clear hHeld
        go_wp2_with fail
        refine Calls.mono (cL _) ?_
        rintro e wl ⟨rfl, hbl⟩
        have hbl0 : Below W1.heap.size W1 wl := by first | exact hbl | exact (Below.refl _ _).drew.trans hbl | exact (below_drewN (Below.refl _ _) _).trans hbl
        have hsl := hbl0.size
        have u0 := (hbl0.cell (p := ⟨w5.heap.size, 0, none⟩) (by show w5.heap.size < _; omega)).trans x0
        have u1 := (hbl0.cell (p := ⟨w5.heap.size, 1, none⟩) (by show w5.heap.size < _; omega)).trans x1
        have v0 := (hbl0.frozen (p := ⟨w5.heap.size, 0, none⟩) (by show w5.heap.size < _; omega)).trans fb0
        have v1 := (hbl0.frozen (p := ⟨w5.heap.size, 1, none⟩) (by show w5.heap.size < _; omega)).trans fb1
        have u3 := (hbl0.cell (p := ⟨b3, o3 + k, none⟩) (by show b3 < _; omega)).trans bn30
        have HGl := Lib.hid (HGb.out.trans (hbl0.mono (by omega)))
        have hzl : w5.heap.size < wl.heap.size := by omega
        clear hbl hbl0 x0 x1 fb0 fb1 bn10 bn11 bn20 bn21 bn30 bn40 bk1 HGb
        go_wp2_with fail
        refine Calls.mono (cN _) ?_
        rintro e wm ⟨rfl, rfl⟩
        go_wp2_with fail
        go_roundw
        case rel => exact ⟨k + 1, by omega, by go_num, (by repeat (first | exact HGl.out | exact below_drewN HGl.out _ | refine Below.drew ?_)), (by simpa using hzl), (by rw [HP0.out]; simpa [go_sem] using u0), (by rw [HP1.out]; simpa [go_sem] using u1), (by simpa [go_sem] using v0), (by simpa [go_sem] using v1)⟩
        case measure => simp [intOf]; omega
      · go_simp
        clear hHeld
        refine hK.out _ _ ⟨by simp [go_sem, *], by simp [go_sem, *]⟩ (fun hHeld => ?_)
        clear hK K
        try simp only [Act.put, List.setIfInBounds_toArray, List.set_cons_zero, List.set_cons_succ, List.getElem_toArray, List.getElem_cons_succ, List.getElem_cons_zero]
        refine wpAnyH_take (i := 8) (oi := _) (v := .int .i64 0) rfl (by kernel_rfl) (by kernel_rfl) (by kernel_rfl) (fun _ _ _ h => h) (Or.inl ⟨by rfl, fun w' hSw => ?_⟩) hHeld ?_
        · obtain ⟨t0, t1⟩ := hSw
          go_simp
          try simp [*]
          try (intro hh; exfalso; omega)
          try omega
        try simp only [Act.put, List.setIfInBounds_toArray, List.set_cons_zero, List.set_cons_succ, List.getElem_toArray, List.getElem_cons_succ, List.getElem_cons_zero]
        refine wpAnyH_take (i := 10) (oi := _) (v := .int .i64 0) rfl (by kernel_rfl) (by kernel_rfl) (by kernel_rfl) (fun _ _ _ h => h) (Or.inl ⟨by rfl, fun w' hSw => ?_⟩) hHeld ?_
        · obtain ⟨t0, t1⟩ := hSw
          go_simp
          try simp [*]
          try (intro hh; exfalso; omega)
          try omega
        try simp only [Act.put, List.setIfInBounds_toArray, List.set_cons_zero, List.set_cons_succ, List.getElem_toArray, List.getElem_cons_succ, List.getElem_cons_zero]
        refine wpAnyH_done (by kernel_rfl) ?_ _
        clear hHeld
        obtain ⟨W1, hW1⟩ : ∃ W1, W1 = (wa.setCell ⟨w5.heap.size, 0, none⟩ (.int .i64 p0)).setCell ⟨w5.heap.size, 1, none⟩ (.int .i64 p1) := ⟨_, rfl⟩
        rw [← hW1]
        have bn10 : W1.cell? ⟨b1, o1 + k * 2, none⟩ = some (.int .i64 p0) := by rw [hW1]; simp [go_sem, *]
        have bn11 : W1.cell? ⟨b1, o1 + k * 2 + 1, none⟩ = some (.int .i64 p1) := by rw [hW1]; simp [go_sem, *]
        have bn20 : W1.cell? ⟨b2, o2 + k * 2, none⟩ = some (.int .i64 t0) := by rw [hW1]; simp [go_sem, *]
        have bn21 : W1.cell? ⟨b2, o2 + k * 2 + 1, none⟩ = some (.int .i64 t1) := by rw [hW1]; simp [go_sem, *]
        have bn30 : W1.cell? ⟨b3, o3 + k, none⟩ = some (.int .i64 av) := by rw [hW1]; simp [go_sem, *]
        have bn40 : W1.cell? ⟨bm, om + k * 4 + 3, none⟩ = some (.int .i64 st) := by rw [hW1]; simp [go_sem, *]
        have bk1 : W1.cell? ⟨w.heap.size, 1, none⟩ = some (.slice (some ⟨bm, om, none⟩) len cap) := by rw [hW1]; simp [go_sem, *]
        have zW : W1.heap.size = wa.heap.size := by rw [hW1]; simp
        have x0 : W1.cell? ⟨w5.heap.size, 0, none⟩ = some (.int .i64 p0) := by rw [hW1]; simp [go_sem, *]
        have x1 : W1.cell? ⟨w5.heap.size, 1, none⟩ = some (.int .i64 p1) := by rw [hW1]; simp [go_sem, *]
        have fb0 : W1.frozen? ⟨w5.heap.size, 0, none⟩ = false := by rw [hW1]; simpa [go_sem] using fa0
        have fb1 : W1.frozen? ⟨w5.heap.size, 1, none⟩ = false := by rw [hW1]; simpa [go_sem] using fa1
        have HGb := Lib.hid (show Below w5.heap.size w5 W1 by rw [hW1]; exact (HGa.out.setCell (by simp) _).setCell (by simp) _)
        clear hW1 sa0 sa1 fa0 fa1 HGa an00 an01 an10 an11 an20 an21 an30 an40 ak1
        go_wp2_with fail
        refine wp_region_held_drew (S := fun w' => w'.cell? ⟨w5.heap.size, 0, none⟩ = some (.int .i64 p0) ∧ w'.cell? ⟨w5.heap.size, 1, none⟩ = some (.int .i64 p1) ∧ w'.cell? ⟨b1, o1 + k * 2, none⟩ = some (.int .i64 p0) ∧ w'.cell? ⟨b1, o1 + k * 2 + 1, none⟩ = some (.int .i64 p1)) (by kernel_rfl) ⟨by simpa [go_sem] using x0, by simpa [go_sem] using x1, by simpa [go_sem] using bn10, by simpa [go_sem] using bn11⟩ (fun hHeld => ?_)
        refine wpAnyH_take (i := 0) (oi := _) (v := Value.int .i64 0) rfl (by kernel_rfl) (by kernel_rfl) (by kernel_rfl) (fun _ _ _ h => h) (Or.inl ⟨by rfl, fun w' hSw => ?_⟩) hHeld ?_
        · obtain ⟨t0, t1, t2, t3⟩ := hSw
          go_simp
          try simp [*]
          try (intro hh; exfalso; omega)
          try omega
        try simp only [Act.put, List.setIfInBounds_toArray, List.set_cons_zero, List.set_cons_succ, List.getElem_toArray, List.getElem_cons_succ, List.getElem_cons_zero]
        refine wpAnyH_take (i := 1) (oi := _) (v := Value.bool false) rfl (by kernel_rfl) (by kernel_rfl) (by kernel_rfl) (fun _ _ _ h => h) (Or.inl ⟨by rfl, fun w' hSw => ?_⟩) hHeld ?_
        · obtain ⟨t0, t1, t2, t3⟩ := hSw
          go_simp
          try simp [*]
          try (intro hh; exfalso; omega)
          try omega
        try simp only [Act.put, List.setIfInBounds_toArray, List.set_cons_zero, List.set_cons_succ, List.getElem_toArray, List.getElem_cons_succ, List.getElem_cons_zero]
        refine wpAnyH_take (i := 2) (oi := _) (v := Value.bool false) rfl (by kernel_rfl) (by kernel_rfl) (by kernel_rfl) (fun _ _ _ h => h) (Or.inl ⟨by rfl, fun w' hSw => ?_⟩) hHeld ?_
        · obtain ⟨t0, t1, t2, t3⟩ := hSw
          go_simp
          try simp [*]
          try (intro hh; exfalso; omega)
          try omega
        try simp only [Act.put, List.setIfInBounds_toArray, List.set_cons_zero, List.set_cons_succ, List.getElem_toArray, List.getElem_cons_succ, List.getElem_cons_zero]
        refine wpAnyH_take (i := 3) (oi := _) (v := Value.agg #[Value.int .i64 p0, Value.int .i64 p1]) rfl (by kernel_rfl) (by kernel_rfl) (by kernel_rfl) (fun _ _ _ h => h) (Or.inl ⟨by rfl, fun w' hSw => ?_⟩) hHeld ?_
        · obtain ⟨t0, t1, t2, t3⟩ := hSw
          go_simp
          try simp [*]
          try (intro hh; exfalso; omega)
          try omega
        try simp only [Act.put, List.setIfInBounds_toArray, List.set_cons_zero, List.set_cons_succ, List.getElem_toArray, List.getElem_cons_succ, List.getElem_cons_zero]
        refine wpAnyH_take (i := 4) (oi := _) (v := Value.slice (some ⟨b1, o1, none⟩) len g1) rfl (by kernel_rfl) (by kernel_rfl) (by kernel_rfl) (fun _ _ _ h => h) (Or.inl ⟨by rfl, fun w' hSw => ?_⟩) hHeld ?_
        · obtain ⟨t0, t1, t2, t3⟩ := hSw
          go_simp
          try simp [*]
          try (intro hh; exfalso; omega)
          try omega
        try simp only [Act.put, List.setIfInBounds_toArray, List.set_cons_zero, List.set_cons_succ, List.getElem_toArray, List.getElem_cons_succ, List.getElem_cons_zero]
        refine wpAnyH_take (i := 5) (oi := _) (v := Value.int .i64 k) rfl (by kernel_rfl) (by kernel_rfl) (by kernel_rfl) (fun _ _ _ h => h) (Or.inl ⟨by rfl, fun w' hSw => ?_⟩) hHeld ?_
        · obtain ⟨t0, t1, t2, t3⟩ := hSw
          go_simp
          try simp [*]
          try (intro hh; exfalso; omega)
          try omega
        try simp only [Act.put, List.setIfInBounds_toArray, List.set_cons_zero, List.set_cons_succ, List.getElem_toArray, List.getElem_cons_succ, List.getElem_cons_zero]
        refine wpAnyH_take (i := 6) (oi := _) (v := Value.pointer (some ⟨b1, o1 + k * 2, none⟩)) rfl (by kernel_rfl) (by kernel_rfl) (by kernel_rfl) (fun _ _ _ h => h) (Or.inl ⟨by rfl, fun w' hSw => ?_⟩) hHeld ?_
        · obtain ⟨t0, t1, t2, t3⟩ := hSw
          go_simp
          try simp [*]
          try (intro hh; exfalso; omega)
          try omega
        try simp only [Act.put, List.setIfInBounds_toArray, List.set_cons_zero, List.set_cons_succ, List.getElem_toArray, List.getElem_cons_succ, List.getElem_cons_zero]
        refine wpAnyH_take (i := 7) (oi := _) (v := Value.agg #[Value.int .i64 p0, Value.int .i64 p1]) rfl (by kernel_rfl) (by kernel_rfl) (by kernel_rfl) (fun _ _ _ h => h) (Or.inl ⟨by rfl, fun w' hSw => ?_⟩) hHeld ?_
        · obtain ⟨t0, t1, t2, t3⟩ := hSw
          go_simp
          try simp [*]
          try (intro hh; exfalso; omega)
          try omega
        try simp only [Act.put, List.setIfInBounds_toArray, List.set_cons_zero, List.set_cons_succ, List.getElem_toArray, List.getElem_cons_succ, List.getElem_cons_zero]
        refine wpAnyH_take (i := 8) (oi := _) (v := Value.bool false) rfl (by kernel_rfl) (by kernel_rfl) (by kernel_rfl) (fun _ _ _ h => h) (Or.inl ⟨by rfl, fun w' hSw => ?_⟩) hHeld ?_
        · obtain ⟨t0, t1, t2, t3⟩ := hSw
          go_simp
          try simp [*]
          try (intro hh; exfalso; omega)
          try omega
        try simp only [Act.put, List.setIfInBounds_toArray, List.set_cons_zero, List.set_cons_succ, List.getElem_toArray, List.getElem_cons_succ, List.getElem_cons_zero]
        refine wpAnyH_take (i := 9) (oi := _) (v := Value.bool false) rfl (by kernel_rfl) (by kernel_rfl) (by kernel_rfl) (fun _ _ _ h => h) (Or.inl ⟨by rfl, fun w' hSw => ?_⟩) hHeld ?_
        · obtain ⟨t0, t1, t2, t3⟩ := hSw
          go_simp
          try simp [*]
          try (intro hh; exfalso; omega)
          try omega
        try simp only [Act.put, List.setIfInBounds_toArray, List.set_cons_zero, List.set_cons_succ, List.getElem_toArray, List.getElem_cons_succ, List.getElem_cons_zero]
        refine wpAnyH_done (by kernel_rfl) ?_ _
        clear hHeld
        go_wp2_with fail
        refine Calls.mono (cL _) ?_
        rintro e wl ⟨rfl, hbl⟩
        have hbl0 : Below W1.heap.size W1 wl := by first | exact hbl | exact (Below.refl _ _).drew.trans hbl | exact (below_drewN (Below.refl _ _) _).trans hbl
        have hsl := hbl0.size
        have u0 := (hbl0.cell (p := ⟨w5.heap.size, 0, none⟩) (by show w5.heap.size < _; omega)).trans x0
        have u1 := (hbl0.cell (p := ⟨w5.heap.size, 1, none⟩) (by show w5.heap.size < _; omega)).trans x1
        have v0 := (hbl0.frozen (p := ⟨w5.heap.size, 0, none⟩) (by show w5.heap.size < _; omega)).trans fb0
        have v1 := (hbl0.frozen (p := ⟨w5.heap.size, 1, none⟩) (by show w5.heap.size < _; omega)).trans fb1
        have u3 := (hbl0.cell (p := ⟨b3, o3 + k, none⟩) (by show b3 < _; omega)).trans bn30
        have HGl := Lib.hid (HGb.out.trans (hbl0.mono (by omega)))
        have hzl : w5.heap.size < wl.heap.size := by omega
        clear hbl hbl0 x0 x1 fb0 fb1 bn10 bn11 bn20 bn21 bn30 bn40 bk1 HGb
        go_wp2_with fail
        refine Calls.mono (cN _) ?_
        rintro e wm ⟨rfl, rfl⟩
        go_wp2_with fail
        go_roundw
        case rel => exact ⟨k + 1, by omega, by go_num, (by repeat (first | exact HGl.out | exact below_drewN HGl.out _ | refine Below.drew ?_)), (by simpa using hzl), (by rw [HP0.out]; simpa [go_sem] using u0), (by rw [HP1.out]; simpa [go_sem] using u1), (by simpa [go_sem] using v0), (by simpa [go_sem] using v1)⟩
        case measure => simp [intOf]; omega
    · obtain rfl : k = len := by omega
      have HBf := Lib.hid (HBA.out _ hB)
      clear hB hg hlt N0 N1 N2 N3 HIc s0 s1 f0 f1
      go_wp2_with fail
      refine (HF.out _).mono ?_
      rintro e wz ⟨rfl, hb⟩
      have HBg := Lib.hid (HBf.out.trans (hb.mono HBf.out.size))
      clear hb
      go_wp2_with fail
      go_ret
      exact ⟨rfl, HBg.out⟩
end Go.Proofs.YtmodplodnimmkaaDoor

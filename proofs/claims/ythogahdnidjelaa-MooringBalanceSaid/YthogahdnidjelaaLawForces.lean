/-
  MooringForces: the walk.
-/
import Derived.Test.YthogahdnidjelaaRefTens
import Derived.Test.YthogahdnidjelaaFine
import Derived.BigQuiet
import Derived.Deep.QuietTactic
namespace Go.Proofs.Ythogahdnidjelaa
open Go.RowKit Go.Shelf
set_option linter.unusedSimpArgs false
set_option maxHeartbeats 4000000 in
theorem spans_yes (sv tv : Value) (zs : List Pr) (hl : zs.length ≤ 2147483649) (w : World) (hS : Prs w.heap.size w sv zs) (hT : Prs w.heap.size w tv zs) :
    Calls Try.prog 22 #[sv, tv] w fun e w' => e = .returned (.bool true) ∧ Below w.heap.size w w' := by
  obtain ⟨a1, cap1, rfl, -, hcS⟩ := hS
  obtain ⟨a2, cap2, rfl, -, hcT⟩ := hT
  have HS := Lib.hid hcS
  have HT := Lib.hid hcT
  clear hcS hcT
  generalize zs.length = len at *
  go_enter Try.func22, Try.ntmps22
  go_wp2_with fail
  go_loopw [5] (fun i wr => ∃ k : Nat, k ≤ len ∧ i = .int .i64 k ∧ Below w.heap.size w wr) (fun i _ => len - (intOf i).toNat)
  case atStart => exact ⟨0, Nat.zero_le _, rfl, Below.refl _ _⟩
  case round =>
    obtain ⟨k, hk, rfl, hB⟩ := hrel
    by_cases hlt : k < len
    · obtain ⟨b1, off1, rfl, hb1, c0, c1⟩ := HS.out k hlt
      obtain ⟨b2, off2, rfl, hb2, d0, d1⟩ := HT.out k hlt
      have k0 := (hB.cell (p := ⟨b1, off1 + k * 2, none⟩) hb1).trans c0
      have k1 := (hB.cell (p := ⟨b1, off1 + k * 2 + 1, none⟩) hb1).trans c1
      have l0 := (hB.cell (p := ⟨b2, off2 + k * 2, none⟩) hb2).trans d0
      have l1 := (hB.cell (p := ⟨b2, off2 + k * 2 + 1, none⟩) hb2).trans d1
      clear c0 c1 d0 d1
      generalize pr zs k = z at *
      obtain ⟨z0, z1⟩ := z
      dsimp only at *
      go_wp2_with fail
      go_quiet (fail)
      go_wp2_with fail
      go_roundw
      case rel => exact ⟨k + 1, by omega, by go_num, below_drewN hB _⟩
      case measure => simp [intOf]; omega
    · go_wp2_with fail
      go_ret
      exact ⟨rfl, hB⟩
set_option maxHeartbeats 1000000 in
theorem long_any (d an fr : Int) (a c : Option Addr) (l1 l2 k1 k2 : Nat) (w : World) :
    Calls Try.prog 14 #[.agg #[.int .i64 d, .slice a l1 k1, .int .i64 an, .int .i64 fr], .slice c l2 k2] w fun e w' => e = .returned (.bool (decide ((60 : Int) < (l1 : Int)) || decide ((60 : Int) < (l2 : Int)))) ∧ Below w.heap.size w w' := by
  by_cases h : 60 < l1
  all_goals
    go_enter Try.func14, Try.ntmps14
    go_wp2_with fail
    go_ret
    exact ⟨ret_bool (by first | rfl | (simp [h]; done) | (simp; omega) | (rw [decide_eq_false (by omega)]; simp) | (rw [decide_eq_true (by omega)]; simp)), (Below.refl _ _).alloc (Nat.le_refl _) _⟩
theorem moo_len {d : Int} {zs : List El} {an fr : Int} {n : Nat} (h : mooE d zs an fr = 0) (hn : n = zs.length) : n ≤ 40 := by have := (mooE_ok h).2.1; omega
theorem lifV_len (d : Int) (zs : List El) (an fr : Int) : (lifV d zs an fr).length ≤ 40 := by
  unfold lifV
  split
  · rename_i h; rw [lifL_len]; exact (mooE_ok h).2.1
  · simp
theorem forV_len (d : Int) (zs : List El) (an fr : Int) (cs : List Pr) : (forV d zs an fr cs).length ≤ 40 := by
  unfold forV
  split
  · rename_i h; rw [rowL_len]; exact (curE_ok h).1.most
  · simp
theorem pulV_len (d : Int) (zs : List El) (an fr : Int) (cs : List Pr) (free : Bool) : (pulV d zs an fr cs free).length ≤ 40 := by
  unfold pulV
  split
  · rename_i h; rw [rowL_len]; exact (curE_ok h).1.most
  · simp
theorem tenV_len (d : Int) (zs : List El) (an fr : Int) (cs : List Pr) (free : Bool) : (tenV d zs an fr cs free).length ≤ 40 := by
  unfold tenV
  split
  · rename_i h; rw [rowL_len]; exact (staE_ok h).1.most
  · simp
set_option maxRecDepth 100000 in
set_option maxHeartbeats 20000000 in
theorem law_forces (d an fr : Int) (sv cv : Value) (zs : List El) (cs : List Pr) (free : Bool) (w : World) (hI : Els w.heap.size w sv zs) (hC : Prs w.heap.size w cv cs) :
    Calls Try.prog 3 #[.agg #[.int .i64 d, sv, .int .i64 an, .int .i64 fr], cv, .bool free] w fun e w' => e = .returned (.bool true) ∧ Below w.heap.size w w' := by
  have c16 := fun w' (hb : Below w.heap.size w w') => liftsM_any d an fr sv zs w' (hI.at hb)
  have c17 := fun w' (hb : Below w.heap.size w w') => rliftsM_any d an fr sv zs w' (hI.at hb)
  have c18 := fun w' (hb : Below w.heap.size w w') => checkM_any d an fr sv zs w' (hI.at hb)
  have c19 := fun w' (hb : Below w.heap.size w w') => rcheckM_any d an fr sv zs w' (hI.at hb)
  have c20 := fun w' (hb : Below w.heap.size w w') => forces_any d an fr sv cv zs cs w' (hI.at hb) (hC.at hb)
  have c21 := fun w' (hb : Below w.heap.size w w') => rforcesM_any d an fr sv cv zs cs w' (hI.at hb) (hC.at hb)
  have c23 := fun w' (hb : Below w.heap.size w w') => pulls_any d an fr sv cv zs cs free w' (hI.at hb) (hC.at hb)
  have c24 := fun w' (hb : Below w.heap.size w w') => rpullsM_any d an fr sv cv zs cs free w' (hI.at hb) (hC.at hb)
  have c25 := fun w' (hb : Below w.heap.size w w') => tensions_any d an fr sv cv zs cs free w' (hI.at hb) (hC.at hb)
  have c26 := fun w' (hb : Below w.heap.size w w') => rtensionsM_any d an fr sv cv zs cs free w' (hI.at hb) (hC.at hb)
  have HF := Lib.hid (fun W => fine_any W)
  have n1 := lifV_len d zs an fr
  have n2 := forV_len d zs an fr cs
  have n3 := pulV_len d zs an fr cs free
  have n4 := tenV_len d zs an fr cs free
  obtain ⟨a, cap, rfl, -, -⟩ := hI
  obtain ⟨c, cap2, rfl, -, -⟩ := hC
  generalize lifV d zs an fr = LV at *
  generalize forV d zs an fr cs = FV at *
  generalize pulV d zs an fr cs free = PV at *
  generalize tenV d zs an fr cs free = TV at *
  generalize mooE d zs an fr = E1 at *
  generalize curE d zs an fr cs = E2 at *
  generalize staE d zs an fr cs = E3 at *
  generalize zs.length = len at *
  generalize cs.length = len2 at *
  obtain ⟨A, hA⟩ : ∃ A, A = w.alloc (.cells #[.int .i64 d, .slice a len cap, .int .i64 an, .int .i64 fr] 24) := ⟨_, rfl⟩
  have hzA : A.heap.size = w.heap.size + 1 := by rw [hA]; simp
  have KK := Lib.hid (show ∀ W, Below (w.heap.size + 1) A W → W.cell? ⟨w.heap.size, 0, none⟩ = some (.int .i64 d) ∧ W.cell? ⟨w.heap.size, 1, none⟩ = some (.slice a len cap) ∧ W.cell? ⟨w.heap.size, 2, none⟩ = some (.int .i64 an) ∧ W.cell? ⟨w.heap.size, 3, none⟩ = some (.int .i64 fr) from fun W h => by
    refine ⟨(h.cell (p := ⟨w.heap.size, 0, none⟩) (Nat.lt_succ_self _)).trans ?_, (h.cell (p := ⟨w.heap.size, 1, none⟩) (Nat.lt_succ_self _)).trans ?_, (h.cell (p := ⟨w.heap.size, 2, none⟩) (Nat.lt_succ_self _)).trans ?_, (h.cell (p := ⟨w.heap.size, 3, none⟩) (Nat.lt_succ_self _)).trans ?_⟩ <;> (rw [hA]; simp [go_sem]))
  have HBA := Lib.hid (show ∀ W, Below (w.heap.size + 1) A W → Below w.heap.size w W from fun W h => by
    have e : Below w.heap.size w A := by rw [hA]; exact (Below.refl _ _).alloc (Nat.le_refl _) _
    exact e.trans (h.mono (Nat.le_succ _)))
  by_cases hlong : (decide ((60 : Int) < (len : Int)) || decide ((60 : Int) < (len2 : Int))) = true
  · have cl := fun W => long_any d an fr a c len len2 cap cap2 W
    rw [hlong] at cl
    clear c16 c17 c18 c19 c20 c21 c23 c24 c25 c26
    go_enter Try.func3, Try.ntmps3
    go_wp2_with fail
    try rw [← hA]
    refine (cl _).mono ?_
    rintro e w1 ⟨rfl, hb⟩
    have hB := HBA.out w1 (hb.mono (by omega))
    clear hb
    go_wp2_with fail
    refine (HF.out _).mono ?_
    rintro e w2 ⟨rfl, hb⟩
    go_wp2_with fail
    go_ret
    exact ⟨rfl, hB.trans (hb.mono hB.size)⟩
  rw [Bool.not_eq_true] at hlong
  have cl := fun W => long_any d an fr a c len len2 cap cap2 W
  rw [hlong] at cl
  go_enter Try.func3, Try.ntmps3
  go_wp2_with fail
  try rw [← hA]
  refine (cl _).mono ?_
  rintro e w1 ⟨rfl, hb⟩
  have hB1 : Below (w.heap.size + 1) A w1 := hb.mono (by omega)
  clear hb cl hA
  obtain ⟨k0, k1, k2, k3⟩ := KK.out _ hB1
  go_wp2_with fail
  refine (c16 _ (HBA.out _ hB1)).mono ?_
  rintro e w2 ⟨v2, rfl, hP2, hb⟩
  have hB2 : Below (w.heap.size + 1) A w2 := hB1.trans (hb.mono (by have := hB1.size; omega))
  clear k0 k1 k2 k3
  obtain ⟨k0, k1, k2, k3⟩ := KK.out _ hB2
  have HX := Lib.hid (fun W (h : Below w2.heap.size w2 W) => hP2.at h)
  obtain ⟨ax2, cx2, rfl, -, -⟩ := hP2
  clear hb
  go_wp2_with fail
  refine (c17 _ (HBA.out _ hB2)).mono ?_
  rintro e w3 ⟨v3, rfl, hP3, hb⟩
  have hB3 : Below (w.heap.size + 1) A w3 := hB2.trans (hb.mono (by have := hB2.size; omega))
  clear k0 k1 k2 k3
  obtain ⟨k0, k1, k2, k3⟩ := KK.out _ hB3
  have HY := Lib.hid (fun W (h : Below w3.heap.size w3 W) => hP3.at h)
  have HX2 := Lib.hid (HX.out _ hb)
  obtain ⟨ay3, cy3, rfl, -, -⟩ := hP3
  clear hb HX
  have HXc := Lib.hid (show ∀ k, k < LV.length → ∃ b off, ax2 = some ⟨b, off, none⟩ ∧ b < w3.heap.size ∧ w3.cell? ⟨b, off + k, none⟩ = some (.int .i64 (LV[k]?.getD 0)) from fun k hk => by
    obtain ⟨a0, c0, e, -, h⟩ := HX2.out
    simp only [Value.slice.injEq] at e
    obtain ⟨rfl, -, -⟩ := e
    exact h k hk)
  have HYc := Lib.hid (show ∀ k, k < LV.length → ∃ b off, ay3 = some ⟨b, off, none⟩ ∧ b < w3.heap.size ∧ w3.cell? ⟨b, off + k, none⟩ = some (.int .i64 (LV[k]?.getD 0)) from fun k hk => by
    obtain ⟨a0, c0, e, -, h⟩ := HY.out _ (Below.refl _ _)
    simp only [Value.slice.injEq] at e
    obtain ⟨rfl, -, -⟩ := e
    exact h k hk)
  have hB3b := Lib.hid hB3
  clear HX2 HY c16 c17
  generalize LV.length = ll at *
  go_wp2_with fail
  refine wp_region_held_drew (S := fun w' => w'.cell? ⟨w.heap.size, 0, none⟩ = some (.int .i64 d) ∧ w'.cell? ⟨w.heap.size, 1, none⟩ = some (.slice a len cap) ∧ w'.cell? ⟨w.heap.size, 2, none⟩ = some (.int .i64 an) ∧ w'.cell? ⟨w.heap.size, 3, none⟩ = some (.int .i64 fr)) (by kernel_rfl) ⟨by simpa [go_sem] using k0, by simpa [go_sem] using k1, by simpa [go_sem] using k2, by simpa [go_sem] using k3⟩ (fun hHeld => ?_)
  refine wpAnyH_take (i := 0) (oi := _) (v := Value.agg #[.int .i64 d, .slice a len cap, .int .i64 an, .int .i64 fr]) rfl (by kernel_rfl) (by kernel_rfl) (by kernel_rfl) (fun _ _ _ h => h) (Or.inl ⟨by rfl, fun w' hSw => ?_⟩) hHeld ?_
  · obtain ⟨s0, s1, s2, s3⟩ := hSw
    go_simp
    try (intro hh; exfalso; omega)
    try omega
  try simp only [Act.put, List.setIfInBounds_toArray, List.set_cons_zero, List.set_cons_succ, List.getElem_toArray, List.getElem_cons_succ, List.getElem_cons_zero]
  refine wpAnyH_take (i := 2) (oi := _) (v := Value.agg #[.int .i64 d, .slice a len cap, .int .i64 an, .int .i64 fr]) rfl (by kernel_rfl) (by kernel_rfl) (by kernel_rfl) (fun _ _ _ h => h) (Or.inl ⟨by rfl, fun w' hSw => ?_⟩) hHeld ?_
  · obtain ⟨s0, s1, s2, s3⟩ := hSw
    go_simp
    try (intro hh; exfalso; omega)
    try omega
  try simp only [Act.put, List.setIfInBounds_toArray, List.set_cons_zero, List.set_cons_succ, List.getElem_toArray, List.getElem_cons_succ, List.getElem_cons_zero]
  refine wpAnyH_ready (rs := [1]) (by kernel_rfl) (by simp) ?_
  refine AllReadyH.cons (o := _) rfl (fun K hK => ?_) (AllReadyH.nil)
  go_simp
  go_at_call 18
  refine Calls.mono (c18 _ (HBA.out _ hB3.drew)) ?_
  rintro e w4 ⟨rfl, hb⟩
  have hB4 : Below (w.heap.size + 1) A w4 := hB3.drew.trans (hb.mono (by have := hB3.size; simp only [World.size_drew]; omega))
  have g34 : Below w3.heap.size w3 w4 := (Below.drew (Below.refl _ _)).trans hb
  clear hb
  obtain ⟨m0, m1, m2, m3⟩ := KK.out _ hB4
  clear hHeld
  refine hK.out _ _ ⟨m0, m1, m2, m3⟩ (fun hHeld => ?_)
  clear hK K
  try simp only [Act.put, List.setIfInBounds_toArray, List.set_cons_zero, List.set_cons_succ, List.getElem_toArray, List.getElem_cons_succ, List.getElem_cons_zero]
  refine wpAnyH_ready (rs := [3]) (by kernel_rfl) (by simp) ?_
  refine AllReadyH.cons (o := _) rfl (fun K hK => ?_) (AllReadyH.nil)
  go_simp
  go_at_call 19
  refine Calls.mono (c19 _ (HBA.out _ hB4)) ?_
  rintro e w5 ⟨rfl, hb⟩
  have hB5 : Below (w.heap.size + 1) A w5 := hB4.trans (hb.mono (by have := hB4.size; omega))
  have g35 : Below w3.heap.size w3 w5 := g34.trans (hb.mono g34.size)
  clear hb
  obtain ⟨q0, q1, q2, q3⟩ := KK.out _ hB5
  clear hHeld
  refine hK.out _ _ ⟨q0, q1, q2, q3⟩ (fun hHeld => ?_)
  clear hK K
  try simp only [Act.put, List.setIfInBounds_toArray, List.set_cons_zero, List.set_cons_succ, List.getElem_toArray, List.getElem_cons_succ, List.getElem_cons_zero]
  refine wpAnyH_take (i := 4) (oi := _) (v := Value.bool false) rfl (by kernel_rfl) (by kernel_rfl) (by kernel_rfl) (fun _ _ _ h => h) (Or.inl ⟨by rfl, fun w' hSw => ?_⟩) hHeld ?_
  · obtain ⟨s0, s1, s2, s3⟩ := hSw
    go_simp
    try simp
  try simp only [Act.put, List.setIfInBounds_toArray, List.set_cons_zero, List.set_cons_succ, List.getElem_toArray, List.getElem_cons_succ, List.getElem_cons_zero]
  refine wpAnyH_take (i := 5) (oi := _) (v := Value.bool false) rfl (by kernel_rfl) (by kernel_rfl) (by kernel_rfl) (fun _ _ _ h => h) (Or.inl ⟨by rfl, fun w' hSw => ?_⟩) hHeld ?_
  · obtain ⟨s0, s1, s2, s3⟩ := hSw
    go_simp
    try simp
  try simp only [Act.put, List.setIfInBounds_toArray, List.set_cons_zero, List.set_cons_succ, List.getElem_toArray, List.getElem_cons_succ, List.getElem_cons_zero]
  refine wpAnyH_take (i := 6) (oi := _) (v := Value.int .i64 E1) rfl (by kernel_rfl) (by kernel_rfl) (by kernel_rfl) (fun _ _ _ h => h) (Or.inl ⟨by rfl, fun w' hSw => ?_⟩) hHeld ?_
  · obtain ⟨s0, s1, s2, s3⟩ := hSw
    go_simp
    try simp
  try simp only [Act.put, List.setIfInBounds_toArray, List.set_cons_zero, List.set_cons_succ, List.getElem_toArray, List.getElem_cons_succ, List.getElem_cons_zero]
  refine wpAnyH_take (i := 7) (oi := _) (v := Value.int .i64 E1) rfl (by kernel_rfl) (by kernel_rfl) (by kernel_rfl) (fun _ _ _ h => h) (Or.inl ⟨by rfl, fun w' hSw => ?_⟩) hHeld ?_
  · obtain ⟨s0, s1, s2, s3⟩ := hSw
    go_simp
    try simp
  try simp only [Act.put, List.setIfInBounds_toArray, List.set_cons_zero, List.set_cons_succ, List.getElem_toArray, List.getElem_cons_succ, List.getElem_cons_zero]
  refine wpAnyH_take (i := 8) (oi := _) (v := Value.bool false) rfl (by kernel_rfl) (by kernel_rfl) (by kernel_rfl) (fun _ _ _ h => h) (Or.inl ⟨by rfl, fun w' hSw => ?_⟩) hHeld ?_
  · obtain ⟨s0, s1, s2, s3⟩ := hSw
    go_simp
    try simp
  try simp only [Act.put, List.setIfInBounds_toArray, List.set_cons_zero, List.set_cons_succ, List.getElem_toArray, List.getElem_cons_succ, List.getElem_cons_zero]
  refine wpAnyH_take (i := 9) (oi := _) (v := Value.bool false) rfl (by kernel_rfl) (by kernel_rfl) (by kernel_rfl) (fun _ _ _ h => h) (Or.inl ⟨by rfl, fun w' hSw => ?_⟩) hHeld ?_
  · obtain ⟨s0, s1, s2, s3⟩ := hSw
    go_simp
    try simp
  try simp only [Act.put, List.setIfInBounds_toArray, List.set_cons_zero, List.set_cons_succ, List.getElem_toArray, List.getElem_cons_succ, List.getElem_cons_zero]
  refine wpAnyH_take (i := 10) (oi := _) (v := Value.bool false) rfl (by kernel_rfl) (by kernel_rfl) (by kernel_rfl) (fun _ _ _ h => h) (Or.inl ⟨by rfl, fun w' hSw => ?_⟩) hHeld ?_
  · obtain ⟨s0, s1, s2, s3⟩ := hSw
    go_simp
    try simp
  try simp only [Act.put, List.setIfInBounds_toArray, List.set_cons_zero, List.set_cons_succ, List.getElem_toArray, List.getElem_cons_succ, List.getElem_cons_zero]
  refine wpAnyH_take (i := 11) (oi := _) (v := Value.slice ax2 ll cx2) rfl (by kernel_rfl) (by kernel_rfl) (by kernel_rfl) (fun _ _ _ h => h) (Or.inl ⟨by rfl, fun w' hSw => ?_⟩) hHeld ?_
  · obtain ⟨s0, s1, s2, s3⟩ := hSw
    go_simp
    try simp
  try simp only [Act.put, List.setIfInBounds_toArray, List.set_cons_zero, List.set_cons_succ, List.getElem_toArray, List.getElem_cons_succ, List.getElem_cons_zero]
  refine wpAnyH_take (i := 12) (oi := _) (v := Value.int .i64 ll) rfl (by kernel_rfl) (by kernel_rfl) (by kernel_rfl) (fun _ _ _ h => h) (Or.inl ⟨by rfl, fun w' hSw => ?_⟩) hHeld ?_
  · obtain ⟨s0, s1, s2, s3⟩ := hSw
    go_simp
    try simp
  try simp only [Act.put, List.setIfInBounds_toArray, List.set_cons_zero, List.set_cons_succ, List.getElem_toArray, List.getElem_cons_succ, List.getElem_cons_zero]
  refine wpAnyH_take (i := 13) (oi := _) (v := Value.slice ay3 ll cy3) rfl (by kernel_rfl) (by kernel_rfl) (by kernel_rfl) (fun _ _ _ h => h) (Or.inl ⟨by rfl, fun w' hSw => ?_⟩) hHeld ?_
  · obtain ⟨s0, s1, s2, s3⟩ := hSw
    go_simp
    try simp
  try simp only [Act.put, List.setIfInBounds_toArray, List.set_cons_zero, List.set_cons_succ, List.getElem_toArray, List.getElem_cons_succ, List.getElem_cons_zero]
  refine wpAnyH_take (i := 14) (oi := _) (v := Value.int .i64 ll) rfl (by kernel_rfl) (by kernel_rfl) (by kernel_rfl) (fun _ _ _ h => h) (Or.inl ⟨by rfl, fun w' hSw => ?_⟩) hHeld ?_
  · obtain ⟨s0, s1, s2, s3⟩ := hSw
    go_simp
    try simp
  try simp only [Act.put, List.setIfInBounds_toArray, List.set_cons_zero, List.set_cons_succ, List.getElem_toArray, List.getElem_cons_succ, List.getElem_cons_zero]
  refine wpAnyH_take (i := 15) (oi := _) (v := Value.bool false) rfl (by kernel_rfl) (by kernel_rfl) (by kernel_rfl) (fun _ _ _ h => h) (Or.inl ⟨by rfl, fun w' hSw => ?_⟩) hHeld ?_
  · obtain ⟨s0, s1, s2, s3⟩ := hSw
    go_simp
    try simp
  try simp only [Act.put, List.setIfInBounds_toArray, List.set_cons_zero, List.set_cons_succ, List.getElem_toArray, List.getElem_cons_succ, List.getElem_cons_zero]
  refine wpAnyH_take (i := 16) (oi := _) (v := Value.bool false) rfl (by kernel_rfl) (by kernel_rfl) (by kernel_rfl) (fun _ _ _ h => h) (Or.inl ⟨by rfl, fun w' hSw => ?_⟩) hHeld ?_
  · obtain ⟨s0, s1, s2, s3⟩ := hSw
    go_simp
    try simp
  try simp only [Act.put, List.setIfInBounds_toArray, List.set_cons_zero, List.set_cons_succ, List.getElem_toArray, List.getElem_cons_succ, List.getElem_cons_zero]
  refine wpAnyH_done (by kernel_rfl) ?_ _
  clear hHeld
  clear q0 q1 q2 q3 m0 m1 m2 m3 hB4 g34 c18 c19
  go_wp2_with fail
  go_loopw [11] (fun i wr => ∃ k : Nat, k ≤ ll ∧ i = .int .i64 k ∧ Below (w.heap.size + 1) A wr ∧ Below w3.heap.size w3 wr) (fun i _ => ll - (intOf i).toNat)
  case atStart => exact ⟨0, Nat.zero_le _, rfl, hB5, g35⟩
  case round =>
    obtain ⟨k, hk, rfl, hB6, g36⟩ := hrel
    clear k0 k1 k2 k3
    by_cases hlt : k < ll
    · obtain ⟨b1, off1, rfl, hb1, c0⟩ := HXc.out k hlt
      obtain ⟨b2, off2, rfl, hb2, c1⟩ := HYc.out k hlt
      have x0 := (g36.cell (p := ⟨b1, off1 + k, none⟩) hb1).trans c0
      have x1 := (g36.cell (p := ⟨b2, off2 + k, none⟩) hb2).trans c1
      clear c0 c1
      generalize LV[k]?.getD 0 = z at *
      have hli : (k : Int) < (ll : Int) := by omega
      have HK := Lib.hid (show k + 1 ≤ ll by omega)
      have H6 := Lib.hid hB6
      have G6 := Lib.hid g36
      clear c20 c21 c23 c24 c25 c26 hB6 g36 hB5 g35
      go_wp2_with fail
      go_quiet (fail)
      go_wp2_with fail
      go_roundw
      case rel => exact ⟨k + 1, HK.out, by go_num, below_drewN H6.out _, below_drewN G6.out _⟩
      case measure => have := HK.out; simp [intOf]; omega
    · obtain rfl : k = ll := by omega
      clear g36 g35 hB5 HXc HYc hlt
      obtain ⟨k0, k1, k2, k3⟩ := KK.out _ hB6
      go_wp2_with fail
      refine (c20 _ (HBA.out _ hB6)).mono ?_
      rintro e w7 ⟨v7, rfl, hP7, hb⟩
      have hB7 : Below (w.heap.size + 1) A w7 := hB6.trans (hb.mono (by have := hB6.size; omega))
      clear k0 k1 k2 k3
      obtain ⟨k0, k1, k2, k3⟩ := KK.out _ hB7
      have HX := Lib.hid (fun W (h : Below w7.heap.size w7 W) => hP7.at h)
      obtain ⟨ax7, cx7, rfl, -, -⟩ := hP7
      clear hb
      go_wp2_with fail
      refine (c21 _ (HBA.out _ hB7)).mono ?_
      rintro e w8 ⟨v8, rfl, hP8, hb⟩
      have hB8 : Below (w.heap.size + 1) A w8 := hB7.trans (hb.mono (by have := hB7.size; omega))
      clear k0 k1 k2 k3
      obtain ⟨k0, k1, k2, k3⟩ := KK.out _ hB8
      have HY := Lib.hid (fun W (h : Below w8.heap.size w8 W) => hP8.at h)
      have HX2 := Lib.hid (HX.out _ hb)
      obtain ⟨ay8, cy8, rfl, -, -⟩ := hP8
      clear hb HX
      go_wp2_with fail
      refine (spans_yes _ _ FV (by omega) _ HX2.out (HY.out _ (Below.refl _ _))).mono ?_
      rintro e w9 ⟨rfl, hb⟩
      have hB9 : Below (w.heap.size + 1) A w9 := hB8.trans (hb.mono (by have := hB8.size; omega))
      clear hb HX2 HY
      clear k0 k1 k2 k3
      obtain ⟨k0, k1, k2, k3⟩ := KK.out _ hB9
      go_wp2_with fail
      refine (c23 _ (HBA.out _ hB9)).mono ?_
      rintro e w10 ⟨v10, rfl, hP10, hb⟩
      have hB10 : Below (w.heap.size + 1) A w10 := hB9.trans (hb.mono (by have := hB9.size; omega))
      clear k0 k1 k2 k3
      obtain ⟨k0, k1, k2, k3⟩ := KK.out _ hB10
      have HX := Lib.hid (fun W (h : Below w10.heap.size w10 W) => hP10.at h)
      obtain ⟨ax10, cx10, rfl, -, -⟩ := hP10
      clear hb
      go_wp2_with fail
      refine (c24 _ (HBA.out _ hB10)).mono ?_
      rintro e w11 ⟨v11, rfl, hP11, hb⟩
      have hB11 : Below (w.heap.size + 1) A w11 := hB10.trans (hb.mono (by have := hB10.size; omega))
      clear k0 k1 k2 k3
      obtain ⟨k0, k1, k2, k3⟩ := KK.out _ hB11
      have HY := Lib.hid (fun W (h : Below w11.heap.size w11 W) => hP11.at h)
      have HX2 := Lib.hid (HX.out _ hb)
      obtain ⟨ay11, cy11, rfl, -, -⟩ := hP11
      clear hb HX
      go_wp2_with fail
      refine (spans_yes _ _ PV (by omega) _ HX2.out (HY.out _ (Below.refl _ _))).mono ?_
      rintro e w12 ⟨rfl, hb⟩
      have hB12 : Below (w.heap.size + 1) A w12 := hB11.trans (hb.mono (by have := hB11.size; omega))
      clear hb HX2 HY
      clear k0 k1 k2 k3
      obtain ⟨k0, k1, k2, k3⟩ := KK.out _ hB12
      go_wp2_with fail
      refine (c25 _ (HBA.out _ hB12)).mono ?_
      rintro e w13 ⟨v13, rfl, hP13, hb⟩
      have hB13 : Below (w.heap.size + 1) A w13 := hB12.trans (hb.mono (by have := hB12.size; omega))
      clear k0 k1 k2 k3
      obtain ⟨k0, k1, k2, k3⟩ := KK.out _ hB13
      have HX := Lib.hid (fun W (h : Below w13.heap.size w13 W) => hP13.at h)
      obtain ⟨ax13, cx13, rfl, -, -⟩ := hP13
      clear hb
      go_wp2_with fail
      refine (c26 _ (HBA.out _ hB13)).mono ?_
      rintro e w14 ⟨v14, rfl, hP14, hb⟩
      have hB14 : Below (w.heap.size + 1) A w14 := hB13.trans (hb.mono (by have := hB13.size; omega))
      clear k0 k1 k2 k3
      obtain ⟨k0, k1, k2, k3⟩ := KK.out _ hB14
      have HY := Lib.hid (fun W (h : Below w14.heap.size w14 W) => hP14.at h)
      have HX2 := Lib.hid (HX.out _ hb)
      obtain ⟨ay14, cy14, rfl, -, -⟩ := hP14
      clear hb HX
      go_wp2_with fail
      refine (spans_yes _ _ TV (by omega) _ HX2.out (HY.out _ (Below.refl _ _))).mono ?_
      rintro e w15 ⟨rfl, hb⟩
      have hB15 : Below (w.heap.size + 1) A w15 := hB14.trans (hb.mono (by have := hB14.size; omega))
      clear hb HX2 HY
      clear k0 k1 k2 k3
      obtain ⟨k0, k1, k2, k3⟩ := KK.out _ hB15
      have HBf := Lib.hid (HBA.out _ hB15)
      clear k0 k1 k2 k3 c20 c21 c23 c24 c25 c26
      go_wp2_with fail
      refine (HF.out _).mono ?_
      rintro e w16 ⟨rfl, hb⟩
      have hBz := HBf.out.trans (hb.mono HBf.out.size)
      clear hb
      go_wp2_with fail
      go_ret
      exact ⟨rfl, hBz⟩
end Go.Proofs.Ythogahdnidjelaa

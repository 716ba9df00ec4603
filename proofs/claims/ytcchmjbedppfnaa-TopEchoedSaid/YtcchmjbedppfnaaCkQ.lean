/-
  Clock: Contradiction, CheckContradiction.
-/
import Derived.Test.YtcchmjbedppfnaaCkP
namespace Go.Proofs.Ytcchmjbedppfnaa
open Go.RowKit Go.Shelf
set_option linter.unusedSimpArgs false
/-- what Contradiction returns -/
def CtrP (p r : Int) (xs : List Xc) (i k e : Int) : Prop :=
  (lrnE p r xs ≠ 0 ∧ i = 0 ∧ k = 0 ∧ e = lrnE p r xs) ∨
  (lrnE p r xs = 0 ∧ ∃ z : Nat × Nat, CdP r (ofA r xs) z ∧ ((z = (0, 0) ∧ i = 0 ∧ k = 0 ∧ e = 5) ∨ (z.1 < z.2 ∧ i = (z.1 : Int) ∧ k = (z.2 : Int) ∧ e = 0)))
set_option maxRecDepth 100000 in
set_option maxHeartbeats 4000000 in
theorem contra30_any (p r : Int) (sv : Value) (xs : List Xc) (w : World) (hX : Xcs w.heap.size w sv xs) :
    Calls Try.prog 30 #[.agg #[.int .i64 p, .int .i64 r, sv]] w fun e w' => ∃ i k f, e = .returned (.tuple #[.int .i64 i, .int .i64 k, .int .i64 f]) ∧ CtrP p r xs i k f ∧ Below w.heap.size w w' := by
  have c79 := Lib.hid (fun W (hb : Below w.heap.size w W) => learn_any p r sv xs W (hX.at hb))
  have c88 := Lib.hid (fun v (h0 : lrnE p r xs = 0) W (hO : Ofs W.heap.size W v (ofA r xs)) => contradiction_any p r v (ofA r xs) (valid_of h0) W hO)
  have HD1 := Lib.hid (show lrnE p r xs ≠ 0 → CtrP p r xs 0 0 (lrnE p r xs) from fun h => .inl ⟨h, rfl, rfl, rfl⟩)
  have HD2 := Lib.hid (show lrnE p r xs = 0 → ∀ z, CdP r (ofA r xs) z → (z = (0, 0) ∧ CtrP p r xs 0 0 5) ∨ (z.1 < z.2 ∧ CtrP p r xs z.1 z.2 0) from fun h z hz => by
    rcases hz.sd with ⟨e, -⟩ | ⟨e, -, -⟩
    · exact .inl ⟨e, .inr ⟨h, z, hz, .inl ⟨e, rfl, rfl, rfl⟩⟩⟩
    · exact .inr ⟨e, .inr ⟨h, z, hz, .inr ⟨e, rfl, rfl, rfl⟩⟩⟩)
  generalize CtrP p r xs = DP at *
  obtain ⟨a, cap, hsv⟩ := hX.form
  subst hsv
  unfold LrnR at c79
  have HOA := Lib.hid (show ofA r xs = ofTo r xs xs.length from rfl)
  have HBA := Lib.hid (show Below w.heap.size w (w.alloc (.cells #[.int .i64 p, .int .i64 r, .slice a xs.length cap] 28)) from (Below.refl _ _).alloc (Nat.le_refl _) _)
  clear hX
  generalize hE : lrnE p r xs = E0 at *
  clear hE
  generalize ofA r xs = oa at *
  go_enter Try.func30, Try.ntmps30
  go_wp2_with fail
  refine (c79.out _ HBA.out).mono ?_
  rintro e w1 ⟨p', r', v, E, rfl, hE1, hok, ⟨a1, n1, c1, rfl⟩, hb⟩
  have hE2 := hE1.symm
  subst hE2
  have HB1 := Lib.hid (HBA.out.trans (hb.mono HBA.out.size))
  have HOK := Lib.hid hok
  clear hb hok
  have HB1a := Lib.hid (HB1.out.alloc HB1.out.size (.cells #[.int .i64 p', .int .i64 r', .slice a1 n1 c1] 129))
  by_cases h0 : E0 = 0
  rotate_left
  · have hb0 : (E0 != 0) = true := by simpa using h0
    have hd := HD1.out h0
    go_wp2_with fail
    refine bodyPost_ret (v := .tuple #[.int .i64 0, .int .i64 0, .int .i64 E0]) (by simp [results, Try.results30, go_sem]) rfl ⟨0, 0, E0, rfl, hd, HB1a.out⟩
  obtain ⟨hp, hr, hO⟩ := HOK.out h0
  subst hp hr
  subst h0
  have hO1 : Ofs w1.heap.size w1 (.slice a1 n1 c1) oa := by rw [HOA.out]; exact hO
  have hA1 : Below w1.heap.size w1 (w1.alloc (.cells #[.int .i64 p', .int .i64 r', .slice a1 n1 c1] 129)) := (Below.refl _ _).alloc (Nat.le_refl _) _
  have HC1 := Lib.hid (c88.out _ (by trivial) _ (hO1.at hA1))
  have HD3 := Lib.hid (HD2.out (by trivial))
  clear hO hO1 hA1
  go_wp2_with fail
  refine HC1.out.mono ?_
  rintro e w3 ⟨z, hz, rfl, hb3⟩
  have HB3 := Lib.hid (HB1a.out.trans (hb3.mono HB1a.out.size))
  have hdd := HD3.out z hz
  clear hb3 hz
  obtain ⟨z1, z2⟩ := z
  simp only at *
  rcases hdd with ⟨hz, hd⟩ | ⟨hlt0, hd⟩
  · simp only [Prod.mk.injEq] at hz
    obtain ⟨rfl, rfl⟩ := hz
    obtain ⟨V, hV⟩ : ∃ V, V = w3.alloc (.cells #[.int .i64 0, .int .i64 0] 134) := ⟨_, rfl⟩
    have k0 : V.cell? ⟨w3.heap.size, 0, none⟩ = some (.int .i64 0) := by rw [hV]; simp [go_sem]
    have k1 : V.cell? ⟨w3.heap.size, 1, none⟩ = some (.int .i64 0) := by rw [hV]; simp [go_sem]
    have hlt : w3.heap.size < V.heap.size := by rw [hV]; simp
    have HV := Lib.hid hV
    have HBV := Lib.hid (show Below w.heap.size w V by rw [hV]; exact HB3.out.alloc HB3.out.size _)
    clear hV
    go_wp2_with fail
    try rw [← HV.out]
    refine wp_region_held_drew (S := fun w' => w'.cell? ⟨w3.heap.size, 0, none⟩ = some (.int .i64 0) ∧ w'.cell? ⟨w3.heap.size, 1, none⟩ = some (.int .i64 0)) (by kernel_rfl) ⟨by simpa [go_sem] using k0, by simpa [go_sem] using k1⟩ (fun hHeld => ?_)
    refine wpAnyH_take (i := 0) (oi := _) (v := Value.agg #[Value.int .i64 0, Value.int .i64 0]) rfl (by kernel_rfl) (by kernel_rfl) (by kernel_rfl) (fun _ _ _ h => h) (Or.inl ⟨by rfl, fun w' hSw => ?_⟩) hHeld ?_
    · obtain ⟨t0, t1⟩ := hSw
      go_simp
      try simp [*]
      try (intro hh; exfalso; omega)
      try omega
    try simp only [Act.put, List.setIfInBounds_toArray, List.set_cons_zero, List.set_cons_succ, List.getElem_toArray, List.getElem_cons_succ, List.getElem_cons_zero]
    refine wpAnyH_ready (rs := [1]) (by kernel_rfl) (by simp) ?_
    refine AllReadyH.cons (o := _) rfl (fun K hK => ?_) AllReadyH.nil
    go_simp
    go_at_call 89
    refine Calls.mono (none_any _) ?_
    rintro e v1 ⟨rfl, hb⟩
    have hbd : Below V.heap.size V v1 := Below.trans ((Below.refl V.heap.size V).drew) hb
    have l0 := (hbd.cell (p := ⟨w3.heap.size, 0, none⟩) hlt).trans k0
    have l1 := (hbd.cell (p := ⟨w3.heap.size, 1, none⟩) hlt).trans k1
    have HB5 := Lib.hid (HBV.out.trans (hbd.mono HBV.out.size))
    clear hb hbd
    clear hHeld
    refine hK.out _ _ ⟨l0, l1⟩ (fun hHeld => ?_)
    clear hK K
    try simp only [Act.put, List.setIfInBounds_toArray, List.set_cons_zero, List.set_cons_succ, List.getElem_toArray, List.getElem_cons_succ, List.getElem_cons_zero]
    refine wpAnyH_take (i := 2) (oi := _) (v := Value.bool true) rfl (by kernel_rfl) (by kernel_rfl) (by kernel_rfl) (fun _ _ _ h => h) (Or.inl ⟨by rfl, fun w' hSw => ?_⟩) hHeld ?_
    · obtain ⟨t0, t1⟩ := hSw
      go_simp
      try simp [*]
      try (intro hh; exfalso; omega)
      try omega
    try simp only [Act.put, List.setIfInBounds_toArray, List.set_cons_zero, List.set_cons_succ, List.getElem_toArray, List.getElem_cons_succ, List.getElem_cons_zero]
    refine wpAnyH_done (by kernel_rfl) ?_ _
    clear hHeld
    go_wp2_with fail
    refine bodyPost_ret (v := .tuple #[.int .i64 0, .int .i64 0, .int .i64 5]) (by simp [results, Try.results30, go_sem]) rfl ⟨0, 0, 5, rfl, hd, HB5.out⟩
  · have hz2 : ((z2 : Int) == 0) = false := by simp; omega
    obtain ⟨V, hV⟩ : ∃ V, V = w3.alloc (.cells #[.int .i64 (z1 : Int), .int .i64 (z2 : Int)] 134) := ⟨_, rfl⟩
    have k0 : V.cell? ⟨w3.heap.size, 0, none⟩ = some (.int .i64 (z1 : Int)) := by rw [hV]; simp [go_sem]
    have k1 : V.cell? ⟨w3.heap.size, 1, none⟩ = some (.int .i64 (z2 : Int)) := by rw [hV]; simp [go_sem]
    have hlt : w3.heap.size < V.heap.size := by rw [hV]; simp
    have HV := Lib.hid hV
    have HBV := Lib.hid (show Below w.heap.size w V by rw [hV]; exact HB3.out.alloc HB3.out.size _)
    clear hV
    go_wp2_with fail
    try rw [← HV.out]
    refine wp_region_held_drew (S := fun w' => w'.cell? ⟨w3.heap.size, 0, none⟩ = some (.int .i64 (z1 : Int)) ∧ w'.cell? ⟨w3.heap.size, 1, none⟩ = some (.int .i64 (z2 : Int))) (by kernel_rfl) ⟨by simpa [go_sem] using k0, by simpa [go_sem] using k1⟩ (fun hHeld => ?_)
    refine wpAnyH_take (i := 0) (oi := _) (v := Value.agg #[Value.int .i64 (z1 : Int), Value.int .i64 (z2 : Int)]) rfl (by kernel_rfl) (by kernel_rfl) (by kernel_rfl) (fun _ _ _ h => h) (Or.inl ⟨by rfl, fun w' hSw => ?_⟩) hHeld ?_
    · obtain ⟨t0, t1⟩ := hSw
      go_simp
      try simp [*]
      try (intro hh; exfalso; omega)
      try omega
    try simp only [Act.put, List.setIfInBounds_toArray, List.set_cons_zero, List.set_cons_succ, List.getElem_toArray, List.getElem_cons_succ, List.getElem_cons_zero]
    refine wpAnyH_ready (rs := [1]) (by kernel_rfl) (by simp) ?_
    refine AllReadyH.cons (o := _) rfl (fun K hK => ?_) AllReadyH.nil
    go_simp
    go_at_call 89
    refine Calls.mono (none_any _) ?_
    rintro e v1 ⟨rfl, hb⟩
    have hbd : Below V.heap.size V v1 := Below.trans ((Below.refl V.heap.size V).drew) hb
    have l0 := (hbd.cell (p := ⟨w3.heap.size, 0, none⟩) hlt).trans k0
    have l1 := (hbd.cell (p := ⟨w3.heap.size, 1, none⟩) hlt).trans k1
    have HB5 := Lib.hid (HBV.out.trans (hbd.mono HBV.out.size))
    clear hb hbd
    clear hHeld
    refine hK.out _ _ ⟨l0, l1⟩ (fun hHeld => ?_)
    clear hK K
    try simp only [Act.put, List.setIfInBounds_toArray, List.set_cons_zero, List.set_cons_succ, List.getElem_toArray, List.getElem_cons_succ, List.getElem_cons_zero]
    refine wpAnyH_take (i := 2) (oi := _) (v := Value.bool false) rfl (by kernel_rfl) (by kernel_rfl) (by kernel_rfl) (fun _ _ _ h => h) (Or.inl ⟨by rfl, fun w' hSw => ?_⟩) hHeld ?_
    · obtain ⟨t0, t1⟩ := hSw
      go_simp
      try simp [*]
      try (intro hh; exfalso; omega)
      try omega
    try simp only [Act.put, List.setIfInBounds_toArray, List.set_cons_zero, List.set_cons_succ, List.getElem_toArray, List.getElem_cons_succ, List.getElem_cons_zero]
    refine wpAnyH_done (by kernel_rfl) ?_ _
    clear hHeld
    clear k0 k1
    go_wp2_with fail
    refine wp_region_held_drew (S := fun w' => w'.cell? ⟨w3.heap.size, 0, none⟩ = some (.int .i64 (z1 : Int)) ∧ w'.cell? ⟨w3.heap.size, 1, none⟩ = some (.int .i64 (z2 : Int))) (by kernel_rfl) ⟨by simpa [go_sem] using l0, by simpa [go_sem] using l1⟩ (fun hHeld => ?_)
    refine wpAnyH_take (i := 0) (oi := _) (v := Value.pointer (some ⟨w3.heap.size, 0, none⟩)) rfl (by kernel_rfl) (by kernel_rfl) (by kernel_rfl) (fun _ _ _ h => h) (Or.inl ⟨by rfl, fun w' hSw => ?_⟩) hHeld ?_
    · obtain ⟨t0, t1⟩ := hSw
      go_simp
      try simp [*]
      try (intro hh; exfalso; omega)
      try omega
    try simp only [Act.put, List.setIfInBounds_toArray, List.set_cons_zero, List.set_cons_succ, List.getElem_toArray, List.getElem_cons_succ, List.getElem_cons_zero]
    refine wpAnyH_take (i := 1) (oi := _) (v := Value.int .i64 (z1 : Int)) rfl (by kernel_rfl) (by kernel_rfl) (by kernel_rfl) (fun _ _ _ h => h) (Or.inl ⟨by rfl, fun w' hSw => ?_⟩) hHeld ?_
    · obtain ⟨t0, t1⟩ := hSw
      go_simp
      try simp [*]
      try (intro hh; exfalso; omega)
      try omega
    try simp only [Act.put, List.setIfInBounds_toArray, List.set_cons_zero, List.set_cons_succ, List.getElem_toArray, List.getElem_cons_succ, List.getElem_cons_zero]
    refine wpAnyH_take (i := 2) (oi := _) (v := Value.pointer (some ⟨w3.heap.size, 1, none⟩)) rfl (by kernel_rfl) (by kernel_rfl) (by kernel_rfl) (fun _ _ _ h => h) (Or.inl ⟨by rfl, fun w' hSw => ?_⟩) hHeld ?_
    · obtain ⟨t0, t1⟩ := hSw
      go_simp
      try simp [*]
      try (intro hh; exfalso; omega)
      try omega
    try simp only [Act.put, List.setIfInBounds_toArray, List.set_cons_zero, List.set_cons_succ, List.getElem_toArray, List.getElem_cons_succ, List.getElem_cons_zero]
    refine wpAnyH_take (i := 3) (oi := _) (v := Value.int .i64 (z2 : Int)) rfl (by kernel_rfl) (by kernel_rfl) (by kernel_rfl) (fun _ _ _ h => h) (Or.inl ⟨by rfl, fun w' hSw => ?_⟩) hHeld ?_
    · obtain ⟨t0, t1⟩ := hSw
      go_simp
      try simp [*]
      try (intro hh; exfalso; omega)
      try omega
    try simp only [Act.put, List.setIfInBounds_toArray, List.set_cons_zero, List.set_cons_succ, List.getElem_toArray, List.getElem_cons_succ, List.getElem_cons_zero]
    refine wpAnyH_take (i := 4) (oi := _) (v := Value.int .i64 (z1 : Int)) rfl (by kernel_rfl) (by kernel_rfl) (by kernel_rfl) (fun _ _ _ h => h) (Or.inl ⟨by rfl, fun w' hSw => ?_⟩) hHeld ?_
    · obtain ⟨t0, t1⟩ := hSw
      go_simp
      try simp [*]
      try (intro hh; exfalso; omega)
      try omega
    try simp only [Act.put, List.setIfInBounds_toArray, List.set_cons_zero, List.set_cons_succ, List.getElem_toArray, List.getElem_cons_succ, List.getElem_cons_zero]
    refine wpAnyH_take (i := 5) (oi := _) (v := Value.int .i64 (z2 : Int)) rfl (by kernel_rfl) (by kernel_rfl) (by kernel_rfl) (fun _ _ _ h => h) (Or.inl ⟨by rfl, fun w' hSw => ?_⟩) hHeld ?_
    · obtain ⟨t0, t1⟩ := hSw
      go_simp
      try simp [*]
      try (intro hh; exfalso; omega)
      try omega
    try simp only [Act.put, List.setIfInBounds_toArray, List.set_cons_zero, List.set_cons_succ, List.getElem_toArray, List.getElem_cons_succ, List.getElem_cons_zero]
    refine wpAnyH_take (i := 6) (oi := _) (v := Value.int .i64 0) rfl (by kernel_rfl) (by kernel_rfl) (by kernel_rfl) (fun _ _ _ h => h) (Or.inl ⟨by rfl, fun w' hSw => ?_⟩) hHeld ?_
    · obtain ⟨t0, t1⟩ := hSw
      go_simp
      try simp [*]
      try (intro hh; exfalso; omega)
      try omega
    try simp only [Act.put, List.setIfInBounds_toArray, List.set_cons_zero, List.set_cons_succ, List.getElem_toArray, List.getElem_cons_succ, List.getElem_cons_zero]
    refine wpAnyH_done (by kernel_rfl) ?_ _
    clear hHeld
    have HB6 := Lib.hid HB5.out.drew
    go_wp2_with fail
    refine bodyPost_ret (v := .tuple #[.int .i64 z1, .int .i64 z2, .int .i64 0]) (by simp [results, Try.results30, go_sem]) rfl ⟨_, _, _, rfl, hd, HB6.out⟩
end Go.Proofs.Ytcchmjbedppfnaa

/-
  Clock: the reference's offset at a reading.
-/
import Derived.Test.YtcchmjbedppfnaaRkE
namespace Go.Proofs.Ytcchmjbedppfnaa
open Go.RowKit Go.Shelf
set_option linter.unusedSimpArgs false
/-- what the first k exchanges tell at a reading -/
def ratK (r t : Int) (xs : List Xc) (k : Nat) : Int × Int := meets (-4611686018427387904, 4611686018427387904) ((ofTo r xs k).map (bnd r t))
theorem ratK_succ (r t : Int) (xs : List Xc) (k : Nat) : ratK r t xs (k + 1) = (max (ratK r t xs k).1 (offL r (xc xs k) - grw r (gap t (xc xs k).ba)), min (ratK r t xs k).2 (offH r (xc xs k) + grw r (gap t (xc xs k).ba))) := by
  unfold ratK
  rw [show ofTo r xs (k + 1) = ofTo r xs k ++ [ofX r (xc xs k)] from rfl, List.map_append]
  exact meets_snoc _ _ _
set_option maxRecDepth 100000 in
set_option maxHeartbeats 8000000 in
theorem rat_any (p r t : Int) (sv : Value) (xs : List Xc) (hr : rtB r = true) (hlen : xs.length ≤ 64) (hok : ∀ k, k < xs.length → okX r (xc xs k) = true) (ht : -4503599627370496 ≤ t ∧ t ≤ 4503599627370496) (w : World) (hX : Xcs w.heap.size w sv xs) :
    Calls Try.prog 85 #[.agg #[.int .i64 p, .int .i64 r, sv], .int .i64 t] w fun e w' => e = .returned (spv (ratK r t xs xs.length)) ∧ Below w.heap.size w w' := by
  have HOK := Lib.hid hok
  have HX := Lib.hid hX
  have HT := Lib.hid ht
  obtain ⟨a, cap, rfl, -, -⟩ := hX
  obtain ⟨A, hA⟩ : ∃ A, A = (w.alloc (.cells #[.int .i64 p, .int .i64 r, .slice a xs.length cap] 28)).alloc (.cells #[.int .i64 0, .int .i64 0] 23) := ⟨_, rfl⟩
  have hzA : A.heap.size = w.heap.size + 2 := by rw [hA]; simp
  have HBA := Lib.hid (show Below w.heap.size w A by rw [hA]; exact ((Below.refl _ _).alloc (Nat.le_refl _) _).alloc (by simp) _)
  have HBW := Lib.hid (show ∀ W, Below (w.heap.size + 2) A W → Below w.heap.size w W from fun W h => HBA.out.trans (h.mono (by omega)))
  have KK := Lib.hid (show ∀ W, Below (w.heap.size + 2) A W → W.cell? ⟨w.heap.size, 0, none⟩ = some (.int .i64 p) ∧ W.cell? ⟨w.heap.size, 1, none⟩ = some (.int .i64 r) ∧ W.cell? ⟨w.heap.size, 2, none⟩ = some (.slice a xs.length cap) from fun W h => by
    have e : ∀ o, W.cell? ⟨w.heap.size, o, none⟩ = A.cell? ⟨w.heap.size, o, none⟩ := fun o => h.cell (p := ⟨w.heap.size, o, none⟩) (by show w.heap.size < w.heap.size + 2; omega)
    refine ⟨?_, ?_, ?_⟩ <;> (rw [e, hA]; simp [go_sem]))
  have hRA : Bx2 A (w.heap.size + 1) (.int .i64 0) (.int .i64 0) := by
    rw [hA]
    have q := Bx2.new (w.alloc (.cells #[.int .i64 p, .int .i64 r, .slice a xs.length cap] 28)) (.int .i64 0) (.int .i64 0)
    rwa [World.size_alloc] at q
  have KR := Lib.hid (show ∀ W, Below (w.heap.size + 2) A W → (W.cell? ⟨w.heap.size + 1, 0, none⟩ = some (.int .i64 0) ∧ W.cell? ⟨w.heap.size + 1, 1, none⟩ = some (.int .i64 0)) ∧ W.frozen? ⟨w.heap.size + 1, 0, none⟩ = false ∧ W.frozen? ⟨w.heap.size + 1, 1, none⟩ = false from fun W h => by
    have q := hRA.keep (by rw [hzA]; exact h)
    exact ⟨⟨q.c0, q.c1⟩, q.f0 0, q.f0 1⟩)
  have HEND := Lib.hid (show ∀ W v0 v1, Below (w.heap.size + 2) A W → Below w.heap.size w ((W.setCell ⟨w.heap.size + 1, 0, none⟩ v0).setCell ⟨w.heap.size + 1, 1, none⟩ v1) from fun W v0 v1 h =>
    ((HBW.out W h).setCell (p := ⟨w.heap.size + 1, 0, none⟩) (by show w.heap.size ≤ w.heap.size + 1; omega) _).setCell (p := ⟨w.heap.size + 1, 1, none⟩) (by show w.heap.size ≤ w.heap.size + 1; omega) _)
  have HGET := Lib.hid (show ∀ W, Below w.heap.size w W → Xcs w.heap.size W (.slice a xs.length cap) xs from fun W hb => by
    obtain ⟨a', c', e, hl, hc⟩ := HX.out
    refine ⟨a', c', e, hl, fun k hk => ?_⟩
    obtain ⟨b, off, g1, g2, g⟩ := hc k hk
    have ce : ∀ o, W.cell? ⟨b, o, none⟩ = w.cell? ⟨b, o, none⟩ := fun o => hb.cell (p := ⟨b, o, none⟩) g2
    exact ⟨b, off, g1, g2, by simpa only [ce] using g⟩)
  have HR := Lib.hid hr
  have HA0 := Lib.hid (show Below (w.heap.size + 2) A A from Below.refl _ _)
  have HK0 := Lib.hid (show Bx2 (A.alloc (.cells #[.int .i64 (-4611686018427387904), .int .i64 4611686018427387904] 23)) (w.heap.size + 2) (.int .i64 (ratK r t xs 0).1) (.int .i64 (ratK r t xs 0).2) from by rw [← hzA]; exact Bx2.new A _ _)
  have HB0 := Lib.hid (show Below (w.heap.size + 2) A (A.alloc (.cells #[.int .i64 (-4611686018427387904), .int .i64 4611686018427387904] 23)) from HA0.out.alloc (by omega) _)
  have HZA := Lib.hid hzA
  clear HX hr hok ht hRA
  unfold spv
  generalize hlenq : xs.length = len at *
  have HLEN := Lib.hid hlenq
  clear hlenq
  go_enter Try.func85, Try.ntmps85
  go_wp2_with fail
  try rw [← hA]
  clear hA
  obtain ⟨k0, k1, k2⟩ := KK.out _ HA0.out
  generalize hV : A.alloc (.cells #[.int .i64 (-4611686018427387904), .int .i64 4611686018427387904] 23) = V0 at *
  have HV := Lib.hid hV
  clear hV
  go_wp2_with fail
  try rw [HV.out]
  go_loopw [6] (fun i wr => ∃ (k : Nat), k ≤ len ∧ i = .int .i64 k ∧ Bx2 wr (w.heap.size + 2) (.int .i64 (ratK r t xs k).1) (.int .i64 (ratK r t xs k).2) ∧ Below (w.heap.size + 2) A wr) (fun i _ => len - (intOf i).toNat)
  case atStart => exact ⟨0, Nat.zero_le _, rfl, HK0.out, HB0.out⟩
  case round =>
    obtain ⟨k, hk, rfl, hbx, hB⟩ := hrel
    have hrl := hbx.lt
    have HBX := Lib.hid hbx
    have HB := Lib.hid hB
    try clear k0 k1 k2
    obtain ⟨g0, g1, g2⟩ := KK.out _ hB
    have x0 := hbx.c0
    have x1 := hbx.c1
    clear hbx hB
    by_cases hlt : k < len
    · have hki : (k : Int) < (len : Int) := by omega
      obtain ⟨a9, c9, e9, -, hcc⟩ := HGET.out _ (HBW.out _ HB.out)
      rw [HLEN.out] at e9
      simp only [Value.slice.injEq, true_and] at e9
      obtain ⟨rfl, rfl⟩ := e9
      obtain ⟨b, off, rfl, hb, m0, m1, m2, m3, m4, m5, m6, m7⟩ := hcc k (by rw [HLEN.out]; exact hlt)
      obtain ⟨_, o2, o3, _, _⟩ := okX_get (HOK.out k hlt)
      have o4 := (vB_iff _ _).1 o2
      have o5 := (xcB_iff _).1 o3
      have o6 := (rtB_iff _).1 HR.out
      have o7 := HT.out
      have hgp : gap t (xc xs k).ba ≤ 9007199254740992 := by unfold gap; omega
      have hgb := (grw_bd (r := r) o6 ⟨gap_nn t (xc xs k).ba, hgp⟩).2.2
      have c78 := fun W => roffset_any (xc xs k) r o3 HR.out W
      have c55 := fun W => rgrowth_any r (t - (xc xs k).ba) o6 (by omega) W
      rw [show max (t - (xc xs k).ba) (-(t - (xc xs k).ba)) = gap t (xc xs k).ba from by unfold gap; omega] at c55
      have c133 := fun W => rgrown_any (offL r (xc xs k)) (offH r (xc xs k)) (grw r (gap t (xc xs k).ba)) (by omega) (by omega) (by omega) W
      have c108 := fun W => rmeet_any (ratK r t xs k).1 (ratK r t xs k).2 (offL r (xc xs k) - grw r (gap t (xc xs k).ba)) (offH r (xc xs k) + grw r (gap t (xc xs k).ba)) W
      have HS := Lib.hid (ratK_succ r t xs k)
      have wv : IntKind.i64.wrap (t - (xc xs k).ba) = t - (xc xs k).ba := by rw [IntKind.wrap_i64]; omega
      have wv2 : wrap64 (t - (xc xs k).ba) = t - (xc xs k).ba := by unfold wrap64; omega
      clear o2 o3 o4 o5 o6 o7 hgp hgb
      unfold spv Xc.val at c78
      dsimp only at c78
      generalize max (ratK r t xs k).1 (offL r (xc xs k) - grw r (gap t (xc xs k).ba)) = z0 at *
      generalize min (ratK r t xs k).2 (offH r (xc xs k) + grw r (gap t (xc xs k).ba)) = z1 at *
      generalize (ratK r t xs k).1 = l0 at *
      generalize (ratK r t xs k).2 = l1 at *
      generalize offL r (xc xs k) - grw r (gap t (xc xs k).ba) = n0 at *
      generalize offH r (xc xs k) + grw r (gap t (xc xs k).ba) = n1 at *
      generalize grw r (gap t (xc xs k).ba) = G at *
      generalize offL r (xc xs k) = oL at *
      generalize offH r (xc xs k) = oH at *
      generalize (xc xs k).se = y0 at *
      generalize (xc xs k).he = y1 at *
      generalize (xc xs k).an = y2 at *
      generalize (xc xs k).ba = y3 at *
      generalize (xc xs k).fLo = y4 at *
      generalize (xc xs k).fHi = y5 at *
      generalize (xc xs k).hLo = y6 at *
      generalize (xc xs k).hHi = y7 at *
      clear hcc
      go_wp2_with fail
      obtain ⟨V, hV⟩ : ∃ V, V = wr.alloc (.cells #[.int .i64 y0, .int .i64 y1, .int .i64 y2, .int .i64 y3, .int .i64 y4, .int .i64 y5, .int .i64 y6, .int .i64 y7] 25) := ⟨_, rfl⟩
      try rw [← hV]
      have hzV : V.heap.size = wr.heap.size + 1 := by rw [hV]; simp
      have hBV : Below (w.heap.size + 2) A V := by rw [hV]; exact HB.out.alloc (by omega) _
      have hXV : Bx2 V (w.heap.size + 2) (.int .i64 l0) (.int .i64 l1) := by rw [hV]; exact HBX.out.keep ((Below.refl _ _).alloc (Nat.le_refl _) _)
      have d0 : V.cell? ⟨wr.heap.size, 0, none⟩ = some (.int .i64 y0) := by rw [hV]; simp [go_sem]
      have d1 : V.cell? ⟨wr.heap.size, 1, none⟩ = some (.int .i64 y1) := by rw [hV]; simp [go_sem]
      have d2 : V.cell? ⟨wr.heap.size, 2, none⟩ = some (.int .i64 y2) := by rw [hV]; simp [go_sem]
      have d3 : V.cell? ⟨wr.heap.size, 3, none⟩ = some (.int .i64 y3) := by rw [hV]; simp [go_sem]
      have d4 : V.cell? ⟨wr.heap.size, 4, none⟩ = some (.int .i64 y4) := by rw [hV]; simp [go_sem]
      have d5 : V.cell? ⟨wr.heap.size, 5, none⟩ = some (.int .i64 y5) := by rw [hV]; simp [go_sem]
      have d6 : V.cell? ⟨wr.heap.size, 6, none⟩ = some (.int .i64 y6) := by rw [hV]; simp [go_sem]
      have d7 : V.cell? ⟨wr.heap.size, 7, none⟩ = some (.int .i64 y7) := by rw [hV]; simp [go_sem]
      have u0 := hXV.c0
      have u1 := hXV.c1
      have gr := (KK.out _ hBV).2.1
      have HXV := Lib.hid hXV
      have HBV := Lib.hid hBV
      have hlV := hXV.lt
      clear hBV hXV hV m0 m1 m2 m3 m4 m5 m6 m7 g0 g1 g2 x0 x1
      have KS := Lib.hid (show ∀ W, Below V.heap.size V W → W.cell? ⟨w.heap.size, 1, none⟩ = some (.int .i64 r) ∧ W.cell? ⟨wr.heap.size, 0, none⟩ = some (.int .i64 y0) ∧ W.cell? ⟨wr.heap.size, 1, none⟩ = some (.int .i64 y1) ∧ W.cell? ⟨wr.heap.size, 2, none⟩ = some (.int .i64 y2) ∧ W.cell? ⟨wr.heap.size, 3, none⟩ = some (.int .i64 y3) ∧ W.cell? ⟨wr.heap.size, 4, none⟩ = some (.int .i64 y4) ∧ W.cell? ⟨wr.heap.size, 5, none⟩ = some (.int .i64 y5) ∧ W.cell? ⟨wr.heap.size, 6, none⟩ = some (.int .i64 y6) ∧ W.cell? ⟨wr.heap.size, 7, none⟩ = some (.int .i64 y7) from fun W h => ⟨(h.cell (p := ⟨w.heap.size, 1, none⟩) (by show w.heap.size < V.heap.size; omega)).trans gr, (h.cell (p := ⟨wr.heap.size, 0, none⟩) (by show wr.heap.size < V.heap.size; omega)).trans d0, (h.cell (p := ⟨wr.heap.size, 1, none⟩) (by show wr.heap.size < V.heap.size; omega)).trans d1, (h.cell (p := ⟨wr.heap.size, 2, none⟩) (by show wr.heap.size < V.heap.size; omega)).trans d2, (h.cell (p := ⟨wr.heap.size, 3, none⟩) (by show wr.heap.size < V.heap.size; omega)).trans d3, (h.cell (p := ⟨wr.heap.size, 4, none⟩) (by show wr.heap.size < V.heap.size; omega)).trans d4, (h.cell (p := ⟨wr.heap.size, 5, none⟩) (by show wr.heap.size < V.heap.size; omega)).trans d5, (h.cell (p := ⟨wr.heap.size, 6, none⟩) (by show wr.heap.size < V.heap.size; omega)).trans d6, (h.cell (p := ⟨wr.heap.size, 7, none⟩) (by show wr.heap.size < V.heap.size; omega)).trans d7⟩)
      refine wp_region_held_drew (S := fun w' => w'.cell? ⟨w.heap.size, 1, none⟩ = some (.int .i64 r) ∧ w'.cell? ⟨wr.heap.size, 0, none⟩ = some (.int .i64 y0) ∧ w'.cell? ⟨wr.heap.size, 1, none⟩ = some (.int .i64 y1) ∧ w'.cell? ⟨wr.heap.size, 2, none⟩ = some (.int .i64 y2) ∧ w'.cell? ⟨wr.heap.size, 3, none⟩ = some (.int .i64 y3) ∧ w'.cell? ⟨wr.heap.size, 4, none⟩ = some (.int .i64 y4) ∧ w'.cell? ⟨wr.heap.size, 5, none⟩ = some (.int .i64 y5) ∧ w'.cell? ⟨wr.heap.size, 6, none⟩ = some (.int .i64 y6) ∧ w'.cell? ⟨wr.heap.size, 7, none⟩ = some (.int .i64 y7)) (by kernel_rfl) ⟨by simpa [go_sem] using gr, by simpa [go_sem] using d0, by simpa [go_sem] using d1, by simpa [go_sem] using d2, by simpa [go_sem] using d3, by simpa [go_sem] using d4, by simpa [go_sem] using d5, by simpa [go_sem] using d6, by simpa [go_sem] using d7⟩ (fun hHeld => ?_)
      refine wpAnyH_take (i := 1) (oi := _) (v := Value.agg #[Value.int .i64 y0, Value.int .i64 y1, Value.int .i64 y2, Value.int .i64 y3, Value.int .i64 y4, Value.int .i64 y5, Value.int .i64 y6, Value.int .i64 y7]) rfl (by kernel_rfl) (by kernel_rfl) (by kernel_rfl) (fun _ _ _ h => h) (Or.inl ⟨by rfl, fun w' hSw => ?_⟩) hHeld ?_
      · obtain ⟨t0, t1, t2, t3, t4, t5, t6, t7, t8⟩ := hSw
        go_simp
        try simp [*]
        try (intro hh; exfalso; omega)
        try omega
      try simp only [Act.put, List.setIfInBounds_toArray, List.set_cons_zero, List.set_cons_succ, List.getElem_toArray, List.getElem_cons_succ, List.getElem_cons_zero]
      refine wpAnyH_take (i := 2) (oi := _) (v := Value.pointer (some ⟨w.heap.size, 1, none⟩)) rfl (by kernel_rfl) (by kernel_rfl) (by kernel_rfl) (fun _ _ _ h => h) (Or.inl ⟨by rfl, fun w' hSw => ?_⟩) hHeld ?_
      · obtain ⟨t0, t1, t2, t3, t4, t5, t6, t7, t8⟩ := hSw
        go_simp
        try simp [*]
        try (intro hh; exfalso; omega)
        try omega
      try simp only [Act.put, List.setIfInBounds_toArray, List.set_cons_zero, List.set_cons_succ, List.getElem_toArray, List.getElem_cons_succ, List.getElem_cons_zero]
      refine wpAnyH_take (i := 3) (oi := _) (v := Value.int .i64 r) rfl (by kernel_rfl) (by kernel_rfl) (by kernel_rfl) (fun _ _ _ h => h) (Or.inl ⟨by rfl, fun w' hSw => ?_⟩) hHeld ?_
      · obtain ⟨t0, t1, t2, t3, t4, t5, t6, t7, t8⟩ := hSw
        go_simp
        try simp [*]
        try (intro hh; exfalso; omega)
        try omega
      try simp only [Act.put, List.setIfInBounds_toArray, List.set_cons_zero, List.set_cons_succ, List.getElem_toArray, List.getElem_cons_succ, List.getElem_cons_zero]
      refine wpAnyH_take (i := 5) (oi := _) (v := Value.pointer (some ⟨w.heap.size, 1, none⟩)) rfl (by kernel_rfl) (by kernel_rfl) (by kernel_rfl) (fun _ _ _ h => h) (Or.inl ⟨by rfl, fun w' hSw => ?_⟩) hHeld ?_
      · obtain ⟨t0, t1, t2, t3, t4, t5, t6, t7, t8⟩ := hSw
        go_simp
        try simp [*]
        try (intro hh; exfalso; omega)
        try omega
      try simp only [Act.put, List.setIfInBounds_toArray, List.set_cons_zero, List.set_cons_succ, List.getElem_toArray, List.getElem_cons_succ, List.getElem_cons_zero]
      refine wpAnyH_take (i := 6) (oi := _) (v := Value.int .i64 r) rfl (by kernel_rfl) (by kernel_rfl) (by kernel_rfl) (fun _ _ _ h => h) (Or.inl ⟨by rfl, fun w' hSw => ?_⟩) hHeld ?_
      · obtain ⟨t0, t1, t2, t3, t4, t5, t6, t7, t8⟩ := hSw
        go_simp
        try simp [*]
        try (intro hh; exfalso; omega)
        try omega
      try simp only [Act.put, List.setIfInBounds_toArray, List.set_cons_zero, List.set_cons_succ, List.getElem_toArray, List.getElem_cons_succ, List.getElem_cons_zero]
      refine wpAnyH_take (i := 7) (oi := _) (v := Value.int .i64 t) rfl (by kernel_rfl) (by kernel_rfl) (by kernel_rfl) (fun _ _ _ h => h) (Or.inl ⟨by rfl, fun w' hSw => ?_⟩) hHeld ?_
      · obtain ⟨t0, t1, t2, t3, t4, t5, t6, t7, t8⟩ := hSw
        go_simp
        try simp [*]
        try (intro hh; exfalso; omega)
        try omega
      try simp only [Act.put, List.setIfInBounds_toArray, List.set_cons_zero, List.set_cons_succ, List.getElem_toArray, List.getElem_cons_succ, List.getElem_cons_zero]
      refine wpAnyH_take (i := 8) (oi := _) (v := Value.pointer (some ⟨wr.heap.size, 3, none⟩)) rfl (by kernel_rfl) (by kernel_rfl) (by kernel_rfl) (fun _ _ _ h => h) (Or.inl ⟨by rfl, fun w' hSw => ?_⟩) hHeld ?_
      · obtain ⟨t0, t1, t2, t3, t4, t5, t6, t7, t8⟩ := hSw
        go_simp
        try simp [*]
        try (intro hh; exfalso; omega)
        try omega
      try simp only [Act.put, List.setIfInBounds_toArray, List.set_cons_zero, List.set_cons_succ, List.getElem_toArray, List.getElem_cons_succ, List.getElem_cons_zero]
      refine wpAnyH_take (i := 9) (oi := _) (v := Value.int .i64 y3) rfl (by kernel_rfl) (by kernel_rfl) (by kernel_rfl) (fun _ _ _ h => h) (Or.inl ⟨by rfl, fun w' hSw => ?_⟩) hHeld ?_
      · obtain ⟨t0, t1, t2, t3, t4, t5, t6, t7, t8⟩ := hSw
        go_simp
        try simp [*]
        try (intro hh; exfalso; omega)
        try omega
      try simp only [Act.put, List.setIfInBounds_toArray, List.set_cons_zero, List.set_cons_succ, List.getElem_toArray, List.getElem_cons_succ, List.getElem_cons_zero]
      refine wpAnyH_take (i := 10) (oi := _) (v := Value.int .i64 (t - y3)) rfl (by kernel_rfl) (by kernel_rfl) (by kernel_rfl) (fun _ _ _ h => h) (Or.inl ⟨by rfl, fun w' hSw => ?_⟩) hHeld ?_
      · obtain ⟨t0, t1, t2, t3, t4, t5, t6, t7, t8⟩ := hSw
        go_simp
        try simp [*]
        try (intro hh; exfalso; omega)
        try omega
      try simp only [Act.put, List.setIfInBounds_toArray, List.set_cons_zero, List.set_cons_succ, List.getElem_toArray, List.getElem_cons_succ, List.getElem_cons_zero]
      refine wpAnyH_ready (rs := [0, 4]) (by kernel_rfl) (by simp) ?_
      refine AllReadyH.cons (o := _) rfl (fun K hK => ?_) (AllReadyH.cons (o := _) rfl (fun K hK => ?_) (AllReadyH.nil))
      · go_simp
        clear hHeld
        refine hK.out _ _ (KS.out _ ((Below.refl V.heap.size V).drew)) (fun hHeld => ?_)
        clear hK K
        try simp only [Act.put, List.setIfInBounds_toArray, List.set_cons_zero, List.set_cons_succ, List.getElem_toArray, List.getElem_cons_succ, List.getElem_cons_zero]
        refine wpAnyH_ready (rs := [4]) (by kernel_rfl) (by simp) ?_
        refine AllReadyH.cons (o := _) rfl (fun K hK => ?_) AllReadyH.nil
        go_simp
        go_at_call 78
        refine Calls.mono (c78 _) ?_
        rintro e v1 ⟨rfl, hb⟩
        have HV1 := Lib.hid (show Below V.heap.size V v1 from Below.trans (show Below V.heap.size V V.drew from (Below.refl V.heap.size V).drew) (hb.mono (Below.size (show Below V.heap.size V V.drew from (Below.refl V.heap.size V).drew))))
        clear hb
        clear hHeld
        refine hK.out _ _ (KS.out _ HV1.out) (fun hHeld => ?_)
        clear hK K
        try simp only [Act.put, List.setIfInBounds_toArray, List.set_cons_zero, List.set_cons_succ, List.getElem_toArray, List.getElem_cons_succ, List.getElem_cons_zero]
        refine wpAnyH_ready (rs := [11]) (by kernel_rfl) (by simp) ?_
        refine AllReadyH.cons (o := _) rfl (fun K hK => ?_) AllReadyH.nil
        go_simp
        go_at_call 55
        refine Calls.mono (c55 _) ?_
        rintro e v2 ⟨rfl, hw⟩
        have HV2 := Lib.hid (show Below V.heap.size V v2 by rw [hw]; exact HV1.out)
        clear hw
        clear hHeld
        refine hK.out _ _ (KS.out _ HV2.out) (fun hHeld => ?_)
        clear hK K
        try simp only [Act.put, List.setIfInBounds_toArray, List.set_cons_zero, List.set_cons_succ, List.getElem_toArray, List.getElem_cons_succ, List.getElem_cons_zero]
        refine wpAnyH_ready (rs := [12]) (by kernel_rfl) (by simp) ?_
        refine AllReadyH.cons (o := _) rfl (fun K hK => ?_) AllReadyH.nil
        go_simp
        go_at_call 133
        refine Calls.mono (c133 _) ?_
        rintro e v3 ⟨rfl, hb⟩
        have HV3 := Lib.hid (show Below V.heap.size V v3 from Below.trans HV2.out (hb.mono (Below.size HV2.out)))
        clear hb
        clear hHeld
        refine hK.out _ _ (KS.out _ HV3.out) (fun hHeld => ?_)
        clear hK K
        try simp only [Act.put, List.setIfInBounds_toArray, List.set_cons_zero, List.set_cons_succ, List.getElem_toArray, List.getElem_cons_succ, List.getElem_cons_zero]
        refine wpAnyH_ready (rs := [13]) (by kernel_rfl) (by simp) ?_
        refine AllReadyH.cons (o := _) rfl (fun K hK => ?_) AllReadyH.nil
        go_simp
        go_at_call 108
        refine Calls.mono (c108 _) ?_
        rintro e v4 ⟨rfl, hb⟩
        have HV4 := Lib.hid (show Below V.heap.size V v4 from Below.trans HV3.out (hb.mono (Below.size HV3.out)))
        clear hb
        clear hHeld
        refine hK.out _ _ (KS.out _ HV4.out) (fun hHeld => ?_)
        clear hK K
        try simp only [Act.put, List.setIfInBounds_toArray, List.set_cons_zero, List.set_cons_succ, List.getElem_toArray, List.getElem_cons_succ, List.getElem_cons_zero]
        have hX4 := HXV.out.keep HV4.out
        have r0 := hX4.c0
        have r1 := hX4.c1
        have rf0 := hX4.f0 0
        have rf1 := hX4.f0 1
        have HX4 := Lib.hid hX4
        clear hX4
        obtain ⟨W9, hW9⟩ : ∃ W9, W9 = (v4.setCell ⟨w.heap.size + 2, 0, none⟩ (.int .i64 z0)).setCell ⟨w.heap.size + 2, 1, none⟩ (.int .i64 z1) := ⟨_, rfl⟩
        have q9 : W9.cell? ⟨w.heap.size, 1, none⟩ = some (.int .i64 r) ∧ W9.cell? ⟨wr.heap.size, 0, none⟩ = some (.int .i64 y0) ∧ W9.cell? ⟨wr.heap.size, 1, none⟩ = some (.int .i64 y1) ∧ W9.cell? ⟨wr.heap.size, 2, none⟩ = some (.int .i64 y2) ∧ W9.cell? ⟨wr.heap.size, 3, none⟩ = some (.int .i64 y3) ∧ W9.cell? ⟨wr.heap.size, 4, none⟩ = some (.int .i64 y4) ∧ W9.cell? ⟨wr.heap.size, 5, none⟩ = some (.int .i64 y5) ∧ W9.cell? ⟨wr.heap.size, 6, none⟩ = some (.int .i64 y6) ∧ W9.cell? ⟨wr.heap.size, 7, none⟩ = some (.int .i64 y7) := by
          obtain ⟨q0, q1, q2, q3, q4, q5, q6, q7, q8⟩ := KS.out _ HV4.out
          have ne1 : ¬ wr.heap.size = w.heap.size + 2 := by omega
          have ne2 : ¬ w.heap.size + 2 = wr.heap.size := by omega
          rw [hW9]
          refine ⟨?_, ?_, ?_, ?_, ?_, ?_, ?_, ?_, ?_⟩ <;> simp [go_sem, q0, q1, q2, q3, q4, q5, q6, q7, q8, ne1, ne2]
        refine wpAnyH_ready (rs := [14]) (by kernel_rfl) (by simp) ?_
        refine AllReadyH.cons (o := _) rfl (fun K hK => ?_) AllReadyH.nil
        go_simp
        try rw [← hW9]
        clear hHeld
        refine hK.out _ _ q9 (fun hHeld => ?_)
        clear hK K
        try simp only [Act.put, List.setIfInBounds_toArray, List.set_cons_zero, List.set_cons_succ, List.getElem_toArray, List.getElem_cons_succ, List.getElem_cons_zero]
        refine wpAnyH_done (by kernel_rfl) ?_ _
        clear hHeld
        have hZ : Bx2 W9 (w.heap.size + 2) (.int .i64 z0) (.int .i64 z1) := by rw [hW9]; exact HX4.out.set _ _
        have HZ := Lib.hid hZ
        have HB9 := Lib.hid (show Below (w.heap.size + 2) A W9 by rw [hW9]; exact ((HBV.out.trans (HV4.out.mono (by omega))).setCell (p := ⟨w.heap.size + 2, 0, none⟩) (Nat.le_refl _) _).setCell (p := ⟨w.heap.size + 2, 1, none⟩) (Nat.le_refl _) _)
        clear hW9 hZ q9 r0 r1 rf0 rf1 u0 u1 gr d0 d1 d2 d3 d4 d5 d6 d7
        go_wp2_with fail
        go_roundw
        case rel => exact ⟨k + 1, by omega, by go_num, by rw [HS.out]; exact HZ.out, HB9.out⟩
        case measure => simp [intOf]; omega
      · go_simp
        go_at_call 78
        refine Calls.mono (c78 _) ?_
        rintro e v1 ⟨rfl, hb⟩
        have HV1 := Lib.hid (show Below V.heap.size V v1 from Below.trans (show Below V.heap.size V V.drew from (Below.refl V.heap.size V).drew) (hb.mono (Below.size (show Below V.heap.size V V.drew from (Below.refl V.heap.size V).drew))))
        clear hb
        clear hHeld
        refine hK.out _ _ (KS.out _ HV1.out) (fun hHeld => ?_)
        clear hK K
        try simp only [Act.put, List.setIfInBounds_toArray, List.set_cons_zero, List.set_cons_succ, List.getElem_toArray, List.getElem_cons_succ, List.getElem_cons_zero]
        have lz := HXV.out.keep HV1.out
        have lz0 := lz.c0
        have lz1 := lz.c1
        clear lz
        refine wpAnyH_ready (rs := [0, 11]) (by kernel_rfl) (by simp) ?_
        refine AllReadyH.cons (o := _) rfl (fun K hK => ?_) (AllReadyH.cons (o := _) rfl (fun K hK => ?_) (AllReadyH.nil))
        · go_simp
          clear hHeld
          refine hK.out _ _ (KS.out _ HV1.out) (fun hHeld => ?_)
          clear hK K
          try simp only [Act.put, List.setIfInBounds_toArray, List.set_cons_zero, List.set_cons_succ, List.getElem_toArray, List.getElem_cons_succ, List.getElem_cons_zero]
          clear lz0 lz1
          refine wpAnyH_ready (rs := [11]) (by kernel_rfl) (by simp) ?_
          refine AllReadyH.cons (o := _) rfl (fun K hK => ?_) AllReadyH.nil
          go_simp
          go_at_call 55
          refine Calls.mono (c55 _) ?_
          rintro e v2 ⟨rfl, hw⟩
          have HV2 := Lib.hid (show Below V.heap.size V v2 by rw [hw]; exact HV1.out)
          clear hw
          clear hHeld
          refine hK.out _ _ (KS.out _ HV2.out) (fun hHeld => ?_)
          clear hK K
          try simp only [Act.put, List.setIfInBounds_toArray, List.set_cons_zero, List.set_cons_succ, List.getElem_toArray, List.getElem_cons_succ, List.getElem_cons_zero]
          refine wpAnyH_ready (rs := [12]) (by kernel_rfl) (by simp) ?_
          refine AllReadyH.cons (o := _) rfl (fun K hK => ?_) AllReadyH.nil
          go_simp
          go_at_call 133
          refine Calls.mono (c133 _) ?_
          rintro e v3 ⟨rfl, hb⟩
          have HV3 := Lib.hid (show Below V.heap.size V v3 from Below.trans HV2.out (hb.mono (Below.size HV2.out)))
          clear hb
          clear hHeld
          refine hK.out _ _ (KS.out _ HV3.out) (fun hHeld => ?_)
          clear hK K
          try simp only [Act.put, List.setIfInBounds_toArray, List.set_cons_zero, List.set_cons_succ, List.getElem_toArray, List.getElem_cons_succ, List.getElem_cons_zero]
          refine wpAnyH_ready (rs := [13]) (by kernel_rfl) (by simp) ?_
          refine AllReadyH.cons (o := _) rfl (fun K hK => ?_) AllReadyH.nil
          go_simp
          go_at_call 108
          refine Calls.mono (c108 _) ?_
          rintro e v4 ⟨rfl, hb⟩
          have HV4 := Lib.hid (show Below V.heap.size V v4 from Below.trans HV3.out (hb.mono (Below.size HV3.out)))
          clear hb
          clear hHeld
          refine hK.out _ _ (KS.out _ HV4.out) (fun hHeld => ?_)
          clear hK K
          try simp only [Act.put, List.setIfInBounds_toArray, List.set_cons_zero, List.set_cons_succ, List.getElem_toArray, List.getElem_cons_succ, List.getElem_cons_zero]
          have hX4 := HXV.out.keep HV4.out
          have r0 := hX4.c0
          have r1 := hX4.c1
          have rf0 := hX4.f0 0
          have rf1 := hX4.f0 1
          have HX4 := Lib.hid hX4
          clear hX4
          obtain ⟨W9, hW9⟩ : ∃ W9, W9 = (v4.setCell ⟨w.heap.size + 2, 0, none⟩ (.int .i64 z0)).setCell ⟨w.heap.size + 2, 1, none⟩ (.int .i64 z1) := ⟨_, rfl⟩
          have q9 : W9.cell? ⟨w.heap.size, 1, none⟩ = some (.int .i64 r) ∧ W9.cell? ⟨wr.heap.size, 0, none⟩ = some (.int .i64 y0) ∧ W9.cell? ⟨wr.heap.size, 1, none⟩ = some (.int .i64 y1) ∧ W9.cell? ⟨wr.heap.size, 2, none⟩ = some (.int .i64 y2) ∧ W9.cell? ⟨wr.heap.size, 3, none⟩ = some (.int .i64 y3) ∧ W9.cell? ⟨wr.heap.size, 4, none⟩ = some (.int .i64 y4) ∧ W9.cell? ⟨wr.heap.size, 5, none⟩ = some (.int .i64 y5) ∧ W9.cell? ⟨wr.heap.size, 6, none⟩ = some (.int .i64 y6) ∧ W9.cell? ⟨wr.heap.size, 7, none⟩ = some (.int .i64 y7) := by
            obtain ⟨q0, q1, q2, q3, q4, q5, q6, q7, q8⟩ := KS.out _ HV4.out
            have ne1 : ¬ wr.heap.size = w.heap.size + 2 := by omega
            have ne2 : ¬ w.heap.size + 2 = wr.heap.size := by omega
            rw [hW9]
            refine ⟨?_, ?_, ?_, ?_, ?_, ?_, ?_, ?_, ?_⟩ <;> simp [go_sem, q0, q1, q2, q3, q4, q5, q6, q7, q8, ne1, ne2]
          refine wpAnyH_ready (rs := [14]) (by kernel_rfl) (by simp) ?_
          refine AllReadyH.cons (o := _) rfl (fun K hK => ?_) AllReadyH.nil
          go_simp
          try rw [← hW9]
          clear hHeld
          refine hK.out _ _ q9 (fun hHeld => ?_)
          clear hK K
          try simp only [Act.put, List.setIfInBounds_toArray, List.set_cons_zero, List.set_cons_succ, List.getElem_toArray, List.getElem_cons_succ, List.getElem_cons_zero]
          refine wpAnyH_done (by kernel_rfl) ?_ _
          clear hHeld
          have hZ : Bx2 W9 (w.heap.size + 2) (.int .i64 z0) (.int .i64 z1) := by rw [hW9]; exact HX4.out.set _ _
          have HZ := Lib.hid hZ
          have HB9 := Lib.hid (show Below (w.heap.size + 2) A W9 by rw [hW9]; exact ((HBV.out.trans (HV4.out.mono (by omega))).setCell (p := ⟨w.heap.size + 2, 0, none⟩) (Nat.le_refl _) _).setCell (p := ⟨w.heap.size + 2, 1, none⟩) (Nat.le_refl _) _)
          clear hW9 hZ q9 r0 r1 rf0 rf1 u0 u1 gr d0 d1 d2 d3 d4 d5 d6 d7
          go_wp2_with fail
          go_roundw
          case rel => exact ⟨k + 1, by omega, by go_num, by rw [HS.out]; exact HZ.out, HB9.out⟩
          case measure => simp [intOf]; omega
        · go_simp
          go_at_call 55
          refine Calls.mono (c55 _) ?_
          rintro e v2 ⟨rfl, hw⟩
          have HV2 := Lib.hid (show Below V.heap.size V v2 by rw [hw]; exact HV1.out)
          clear hw
          clear hHeld
          refine hK.out _ _ (KS.out _ HV2.out) (fun hHeld => ?_)
          clear hK K
          try simp only [Act.put, List.setIfInBounds_toArray, List.set_cons_zero, List.set_cons_succ, List.getElem_toArray, List.getElem_cons_succ, List.getElem_cons_zero]
          clear lz0 lz1
          have lz := HXV.out.keep HV2.out
          have lz0 := lz.c0
          have lz1 := lz.c1
          clear lz
          refine wpAnyH_ready (rs := [0, 12]) (by kernel_rfl) (by simp) ?_
          refine AllReadyH.cons (o := _) rfl (fun K hK => ?_) (AllReadyH.cons (o := _) rfl (fun K hK => ?_) (AllReadyH.nil))
          · go_simp
            clear hHeld
            refine hK.out _ _ (KS.out _ HV2.out) (fun hHeld => ?_)
            clear hK K
            try simp only [Act.put, List.setIfInBounds_toArray, List.set_cons_zero, List.set_cons_succ, List.getElem_toArray, List.getElem_cons_succ, List.getElem_cons_zero]
            clear lz0 lz1
            refine wpAnyH_ready (rs := [12]) (by kernel_rfl) (by simp) ?_
            refine AllReadyH.cons (o := _) rfl (fun K hK => ?_) AllReadyH.nil
            go_simp
            go_at_call 133
            refine Calls.mono (c133 _) ?_
            rintro e v3 ⟨rfl, hb⟩
            have HV3 := Lib.hid (show Below V.heap.size V v3 from Below.trans HV2.out (hb.mono (Below.size HV2.out)))
            clear hb
            clear hHeld
            refine hK.out _ _ (KS.out _ HV3.out) (fun hHeld => ?_)
            clear hK K
            try simp only [Act.put, List.setIfInBounds_toArray, List.set_cons_zero, List.set_cons_succ, List.getElem_toArray, List.getElem_cons_succ, List.getElem_cons_zero]
            refine wpAnyH_ready (rs := [13]) (by kernel_rfl) (by simp) ?_
            refine AllReadyH.cons (o := _) rfl (fun K hK => ?_) AllReadyH.nil
            go_simp
            go_at_call 108
            refine Calls.mono (c108 _) ?_
            rintro e v4 ⟨rfl, hb⟩
            have HV4 := Lib.hid (show Below V.heap.size V v4 from Below.trans HV3.out (hb.mono (Below.size HV3.out)))
            clear hb
            clear hHeld
            refine hK.out _ _ (KS.out _ HV4.out) (fun hHeld => ?_)
            clear hK K
            try simp only [Act.put, List.setIfInBounds_toArray, List.set_cons_zero, List.set_cons_succ, List.getElem_toArray, List.getElem_cons_succ, List.getElem_cons_zero]
            have hX4 := HXV.out.keep HV4.out
            have r0 := hX4.c0
            have r1 := hX4.c1
            have rf0 := hX4.f0 0
            have rf1 := hX4.f0 1
            have HX4 := Lib.hid hX4
            clear hX4
            obtain ⟨W9, hW9⟩ : ∃ W9, W9 = (v4.setCell ⟨w.heap.size + 2, 0, none⟩ (.int .i64 z0)).setCell ⟨w.heap.size + 2, 1, none⟩ (.int .i64 z1) := ⟨_, rfl⟩
            have q9 : W9.cell? ⟨w.heap.size, 1, none⟩ = some (.int .i64 r) ∧ W9.cell? ⟨wr.heap.size, 0, none⟩ = some (.int .i64 y0) ∧ W9.cell? ⟨wr.heap.size, 1, none⟩ = some (.int .i64 y1) ∧ W9.cell? ⟨wr.heap.size, 2, none⟩ = some (.int .i64 y2) ∧ W9.cell? ⟨wr.heap.size, 3, none⟩ = some (.int .i64 y3) ∧ W9.cell? ⟨wr.heap.size, 4, none⟩ = some (.int .i64 y4) ∧ W9.cell? ⟨wr.heap.size, 5, none⟩ = some (.int .i64 y5) ∧ W9.cell? ⟨wr.heap.size, 6, none⟩ = some (.int .i64 y6) ∧ W9.cell? ⟨wr.heap.size, 7, none⟩ = some (.int .i64 y7) := by
              obtain ⟨q0, q1, q2, q3, q4, q5, q6, q7, q8⟩ := KS.out _ HV4.out
              have ne1 : ¬ wr.heap.size = w.heap.size + 2 := by omega
              have ne2 : ¬ w.heap.size + 2 = wr.heap.size := by omega
              rw [hW9]
              refine ⟨?_, ?_, ?_, ?_, ?_, ?_, ?_, ?_, ?_⟩ <;> simp [go_sem, q0, q1, q2, q3, q4, q5, q6, q7, q8, ne1, ne2]
            refine wpAnyH_ready (rs := [14]) (by kernel_rfl) (by simp) ?_
            refine AllReadyH.cons (o := _) rfl (fun K hK => ?_) AllReadyH.nil
            go_simp
            try rw [← hW9]
            clear hHeld
            refine hK.out _ _ q9 (fun hHeld => ?_)
            clear hK K
            try simp only [Act.put, List.setIfInBounds_toArray, List.set_cons_zero, List.set_cons_succ, List.getElem_toArray, List.getElem_cons_succ, List.getElem_cons_zero]
            refine wpAnyH_done (by kernel_rfl) ?_ _
            clear hHeld
            have hZ : Bx2 W9 (w.heap.size + 2) (.int .i64 z0) (.int .i64 z1) := by rw [hW9]; exact HX4.out.set _ _
            have HZ := Lib.hid hZ
            have HB9 := Lib.hid (show Below (w.heap.size + 2) A W9 by rw [hW9]; exact ((HBV.out.trans (HV4.out.mono (by omega))).setCell (p := ⟨w.heap.size + 2, 0, none⟩) (Nat.le_refl _) _).setCell (p := ⟨w.heap.size + 2, 1, none⟩) (Nat.le_refl _) _)
            clear hW9 hZ q9 r0 r1 rf0 rf1 u0 u1 gr d0 d1 d2 d3 d4 d5 d6 d7
            go_wp2_with fail
            go_roundw
            case rel => exact ⟨k + 1, by omega, by go_num, by rw [HS.out]; exact HZ.out, HB9.out⟩
            case measure => simp [intOf]; omega
          · go_simp
            go_at_call 133
            refine Calls.mono (c133 _) ?_
            rintro e v3 ⟨rfl, hb⟩
            have HV3 := Lib.hid (show Below V.heap.size V v3 from Below.trans HV2.out (hb.mono (Below.size HV2.out)))
            clear hb
            clear hHeld
            refine hK.out _ _ (KS.out _ HV3.out) (fun hHeld => ?_)
            clear hK K
            try simp only [Act.put, List.setIfInBounds_toArray, List.set_cons_zero, List.set_cons_succ, List.getElem_toArray, List.getElem_cons_succ, List.getElem_cons_zero]
            clear lz0 lz1
            have lz := HXV.out.keep HV3.out
            have lz0 := lz.c0
            have lz1 := lz.c1
            clear lz
            refine wpAnyH_ready (rs := [0]) (by kernel_rfl) (by simp) ?_
            refine AllReadyH.cons (o := _) rfl (fun K hK => ?_) AllReadyH.nil
            go_simp
            clear hHeld
            refine hK.out _ _ (KS.out _ HV3.out) (fun hHeld => ?_)
            clear hK K
            try simp only [Act.put, List.setIfInBounds_toArray, List.set_cons_zero, List.set_cons_succ, List.getElem_toArray, List.getElem_cons_succ, List.getElem_cons_zero]
            clear lz0 lz1
            refine wpAnyH_ready (rs := [13]) (by kernel_rfl) (by simp) ?_
            refine AllReadyH.cons (o := _) rfl (fun K hK => ?_) AllReadyH.nil
            go_simp
            go_at_call 108
            refine Calls.mono (c108 _) ?_
            rintro e v4 ⟨rfl, hb⟩
            have HV4 := Lib.hid (show Below V.heap.size V v4 from Below.trans HV3.out (hb.mono (Below.size HV3.out)))
            clear hb
            clear hHeld
            refine hK.out _ _ (KS.out _ HV4.out) (fun hHeld => ?_)
            clear hK K
            try simp only [Act.put, List.setIfInBounds_toArray, List.set_cons_zero, List.set_cons_succ, List.getElem_toArray, List.getElem_cons_succ, List.getElem_cons_zero]
            have hX4 := HXV.out.keep HV4.out
            have r0 := hX4.c0
            have r1 := hX4.c1
            have rf0 := hX4.f0 0
            have rf1 := hX4.f0 1
            have HX4 := Lib.hid hX4
            clear hX4
            obtain ⟨W9, hW9⟩ : ∃ W9, W9 = (v4.setCell ⟨w.heap.size + 2, 0, none⟩ (.int .i64 z0)).setCell ⟨w.heap.size + 2, 1, none⟩ (.int .i64 z1) := ⟨_, rfl⟩
            have q9 : W9.cell? ⟨w.heap.size, 1, none⟩ = some (.int .i64 r) ∧ W9.cell? ⟨wr.heap.size, 0, none⟩ = some (.int .i64 y0) ∧ W9.cell? ⟨wr.heap.size, 1, none⟩ = some (.int .i64 y1) ∧ W9.cell? ⟨wr.heap.size, 2, none⟩ = some (.int .i64 y2) ∧ W9.cell? ⟨wr.heap.size, 3, none⟩ = some (.int .i64 y3) ∧ W9.cell? ⟨wr.heap.size, 4, none⟩ = some (.int .i64 y4) ∧ W9.cell? ⟨wr.heap.size, 5, none⟩ = some (.int .i64 y5) ∧ W9.cell? ⟨wr.heap.size, 6, none⟩ = some (.int .i64 y6) ∧ W9.cell? ⟨wr.heap.size, 7, none⟩ = some (.int .i64 y7) := by
              obtain ⟨q0, q1, q2, q3, q4, q5, q6, q7, q8⟩ := KS.out _ HV4.out
              have ne1 : ¬ wr.heap.size = w.heap.size + 2 := by omega
              have ne2 : ¬ w.heap.size + 2 = wr.heap.size := by omega
              rw [hW9]
              refine ⟨?_, ?_, ?_, ?_, ?_, ?_, ?_, ?_, ?_⟩ <;> simp [go_sem, q0, q1, q2, q3, q4, q5, q6, q7, q8, ne1, ne2]
            refine wpAnyH_ready (rs := [14]) (by kernel_rfl) (by simp) ?_
            refine AllReadyH.cons (o := _) rfl (fun K hK => ?_) AllReadyH.nil
            go_simp
            try rw [← hW9]
            clear hHeld
            refine hK.out _ _ q9 (fun hHeld => ?_)
            clear hK K
            try simp only [Act.put, List.setIfInBounds_toArray, List.set_cons_zero, List.set_cons_succ, List.getElem_toArray, List.getElem_cons_succ, List.getElem_cons_zero]
            refine wpAnyH_done (by kernel_rfl) ?_ _
            clear hHeld
            have hZ : Bx2 W9 (w.heap.size + 2) (.int .i64 z0) (.int .i64 z1) := by rw [hW9]; exact HX4.out.set _ _
            have HZ := Lib.hid hZ
            have HB9 := Lib.hid (show Below (w.heap.size + 2) A W9 by rw [hW9]; exact ((HBV.out.trans (HV4.out.mono (by omega))).setCell (p := ⟨w.heap.size + 2, 0, none⟩) (Nat.le_refl _) _).setCell (p := ⟨w.heap.size + 2, 1, none⟩) (Nat.le_refl _) _)
            clear hW9 hZ q9 r0 r1 rf0 rf1 u0 u1 gr d0 d1 d2 d3 d4 d5 d6 d7
            go_wp2_with fail
            go_roundw
            case rel => exact ⟨k + 1, by omega, by go_num, by rw [HS.out]; exact HZ.out, HB9.out⟩
            case measure => simp [intOf]; omega
    · have hke : k = len := by omega
      subst hke
      have hki : ¬ (k : Int) < (k : Int) := by omega
      obtain ⟨⟨q0, q1⟩, q2, q3⟩ := KR.out _ HB.out
      go_wp2_with fail
      refine bodyPost_ret (v := .agg #[.int .i64 (ratK r t xs k).1, .int .i64 (ratK r t xs k).2]) (by simp [results, Try.results85, go_sem, q0, q1]) rfl ⟨rfl, HEND.out _ _ _ HB.out⟩
end Go.Proofs.Ytcchmjbedppfnaa

/-
  GdB: what dives take of an energy (layer 3), in the cable seat.
-/
import Derived.Test.YtdohfpnnmppdkaaGdA
import Derived.Shelf.RegionOpenPlain
import Derived.Maps.AppendAt
import Derived.Deep.CutRange
namespace Go.Proofs.Ytdohfpnnmppdkaa.Gd
open Go.RowKit Go.Shelf
set_option linter.unusedSimpArgs false
set_option maxHeartbeats 4000000
attribute [local go_sem] Oper.semAt_some
theorem taken206 (u0 u1 t0 t1 r : Int) (w : World) : Calls Try.prog 206 #[.agg #[.int .i64 0, .int .i64 1, .int .i64 u0, .int .i64 u1, .int .i64 t0, .int .i64 t1, .int .i64 r], .agg #[.int .i64 0, .int .i64 0]] w fun e w' => e = .returned (.agg #[.int .i64 u0, .int .i64 u1]) ∧ Below w.heap.size w w' := by
  obtain ⟨A, hA⟩ : ∃ A, A = ((w.alloc (.cells #[.int .i64 0, .int .i64 1, .int .i64 u0, .int .i64 u1, .int .i64 t0, .int .i64 t1, .int .i64 r] 110)).alloc (.cells #[.int .i64 0, .int .i64 0] 211)).alloc (.cells #[.int .i64 0, .int .i64 0] 23) := ⟨_, rfl⟩
  have HBA := Lib.hid (show Below w.heap.size w A by rw [hA]; exact (((Below.refl _ _).alloc (Nat.le_refl _) _).alloc (by simp) _).alloc (by simp; omega) _)
  have k2 : A.cell? ⟨w.heap.size, 2, none⟩ = some (.int .i64 u0) := by rw [hA]; simp [go_sem]
  have k3 : A.cell? ⟨w.heap.size, 3, none⟩ = some (.int .i64 u1) := by rw [hA]; simp [go_sem]
  have k0 : A.cell? ⟨w.heap.size + 1, 0, none⟩ = some (.int .i64 0) := by rw [hA]; simp [go_sem]
  have hz : A.heap[w.heap.size + 1 + 1]? = some (.cells #[.int .i64 0, .int .i64 0] 23 (0, 0)) := by
    have h := World.alloc_heap_new ((w.alloc (.cells #[.int .i64 0, .int .i64 1, .int .i64 u0, .int .i64 u1, .int .i64 t0, .int .i64 t1, .int .i64 r] 110)).alloc (.cells #[.int .i64 0, .int .i64 0] 211)) (.cells #[.int .i64 0, .int .i64 0] 23)
    rw [show ((w.alloc (.cells #[.int .i64 0, .int .i64 1, .int .i64 u0, .int .i64 u1, .int .i64 t0, .int .i64 t1, .int .i64 r] 110)).alloc (.cells #[.int .i64 0, .int .i64 0] 211)).heap.size = w.heap.size + 1 + 1 by simp] at h
    rw [hA]; exact h
  have HX := Lib.hid (show Bx2 A (w.heap.size + 1 + 1) (.int .i64 0) (.int .i64 0) from hz)
  have z0 := HX.out.c0
  have z1 := HX.out.c1
  have f0 := HX.out.f0 0
  have f1 := HX.out.f0 1
  clear hz
  go_enter Try.func206, Try.ntmps206
  go_upto_region 1 with fail
  rw [← hA]
  clear hA
  go_wp2_with fail
  have q0 := (HX.out.set (.int .i64 u0) (.int .i64 u1)).c0
  have q1 := (HX.out.set (.int .i64 u0) (.int .i64 u1)).c1
  refine bodyPost_ret (v := .agg #[.int .i64 u0, .int .i64 u1]) (by simp [results, Try.results206, go_sem, q0, q1]) rfl ⟨rfl, (HBA.out.setCell (p := ⟨w.heap.size + 1 + 1, 0, none⟩) (show w.heap.size ≤ w.heap.size + 1 + 1 by omega) _).setCell (p := ⟨w.heap.size + 1 + 1, 1, none⟩) (show w.heap.size ≤ w.heap.size + 1 + 1 by omega) _⟩
set_option maxRecDepth 100000 in
theorem spend177 (u0 u1 t0 t1 r x y : Int) (hu : vB u0 u1 = true) (hu0 : 0 ≤ u0) (hxy : vB x y = true) (hx : 0 ≤ x - u1) (hk : r ≤ x - u1) (w : World) : Calls Try.prog 177 #[.agg #[.int .i64 0, .int .i64 1, .int .i64 u0, .int .i64 u1, .int .i64 t0, .int .i64 t1, .int .i64 r], .agg #[.int .i64 x, .int .i64 y], .agg #[.int .i64 0, .int .i64 0]] w fun e w' => e = .returned (.tuple #[.agg #[.int .i64 (x - u1), .int .i64 (y - u0)], .bool true]) ∧ Below w.heap.size w w' := by
  have mixed : Try.prog.follows Departure.mixedOrders = true := by kernel_rfl
  have c1 := fun W => taken206 u0 u1 t0 t1 r W
  have c2 := fun W => bsub_any x y u0 u1 W
  have hu2 := (vB_iff _ _).1 hu
  have hx2 := (vB_iff _ _).1 hxy
  rw [show subS x y u0 u1 = ⟨x - u1, y - u0, 0⟩ from by
    unfold subS
    rw [if_pos ⟨hxy, hu⟩]
    unfold fit
    rw [if_pos ((vB_iff _ _).2 (by omega))]] at c2
  dsimp only at c2
  have hkd : decide (r ≤ x - u1) = true := decide_eq_true hk
  clear hu hxy
  generalize x - u1 = p at *
  generalize y - u0 = q at *
  obtain ⟨A, hA⟩ : ∃ A, A = (((w.alloc (.cells #[.int .i64 0, .int .i64 1, .int .i64 u0, .int .i64 u1, .int .i64 t0, .int .i64 t1, .int .i64 r] 110)).alloc (.cells #[.int .i64 x, .int .i64 y] 23)).alloc (.cells #[.int .i64 0, .int .i64 0] 211)).alloc (.cells #[.int .i64 0, .int .i64 0] 23) := ⟨_, rfl⟩
  have HBA := Lib.hid (show Below w.heap.size w A by rw [hA]; exact ((((Below.refl _ _).alloc (Nat.le_refl _) _).alloc (by simp) _).alloc (by simp; omega) _).alloc (by simp; omega) _)
  have hzA : A.heap.size = w.heap.size + 1 + 1 + 1 + 1 := by rw [hA]; simp
  have k7 : A.cell? ⟨w.heap.size + 1, 0, none⟩ = some (Value.int .i64 x) := by rw [hA]; simp [go_sem]
  have k8 : A.cell? ⟨w.heap.size + 1, 1, none⟩ = some (Value.int .i64 y) := by rw [hA]; simp [go_sem]
  have k0 : A.cell? ⟨w.heap.size, 0, none⟩ = some (Value.int .i64 0) := by rw [hA]; simp [go_sem]
  have k1 : A.cell? ⟨w.heap.size, 1, none⟩ = some (Value.int .i64 1) := by rw [hA]; simp [go_sem]
  have k2 : A.cell? ⟨w.heap.size, 2, none⟩ = some (Value.int .i64 u0) := by rw [hA]; simp [go_sem]
  have k3 : A.cell? ⟨w.heap.size, 3, none⟩ = some (Value.int .i64 u1) := by rw [hA]; simp [go_sem]
  have k4 : A.cell? ⟨w.heap.size, 4, none⟩ = some (Value.int .i64 t0) := by rw [hA]; simp [go_sem]
  have k5 : A.cell? ⟨w.heap.size, 5, none⟩ = some (Value.int .i64 t1) := by rw [hA]; simp [go_sem]
  have k6 : A.cell? ⟨w.heap.size, 6, none⟩ = some (Value.int .i64 r) := by rw [hA]; simp [go_sem]
  have k9 : A.cell? ⟨w.heap.size + 1 + 1, 0, none⟩ = some (Value.int .i64 0) := by rw [hA]; simp [go_sem]
  have ka : A.cell? ⟨w.heap.size + 1 + 1, 1, none⟩ = some (Value.int .i64 0) := by rw [hA]; simp [go_sem]
  have HZ := Lib.hid (show Bx2 A (w.heap.size + 1 + 1 + 1) (.int .i64 0) (.int .i64 0) by
    have h := World.alloc_heap_new (((w.alloc (.cells #[.int .i64 0, .int .i64 1, .int .i64 u0, .int .i64 u1, .int .i64 t0, .int .i64 t1, .int .i64 r] 110)).alloc (.cells #[.int .i64 x, .int .i64 y] 23)).alloc (.cells #[.int .i64 0, .int .i64 0] 211)) (.cells #[.int .i64 0, .int .i64 0] 23)
    rw [show (((w.alloc (.cells #[.int .i64 0, .int .i64 1, .int .i64 u0, .int .i64 u1, .int .i64 t0, .int .i64 t1, .int .i64 r] 110)).alloc (.cells #[.int .i64 x, .int .i64 y] 23)).alloc (.cells #[.int .i64 0, .int .i64 0] 211)).heap.size = w.heap.size + 1 + 1 + 1 by simp] at h
    rw [hA]; exact h)
  have KK := Lib.hid (show ∀ W, Below A.heap.size A W → W.cell? ⟨w.heap.size + 1, 0, none⟩ = some (Value.int .i64 x) ∧ W.cell? ⟨w.heap.size + 1, 1, none⟩ = some (Value.int .i64 y) ∧ W.cell? ⟨w.heap.size, 0, none⟩ = some (Value.int .i64 0) ∧ W.cell? ⟨w.heap.size, 1, none⟩ = some (Value.int .i64 1) ∧ W.cell? ⟨w.heap.size, 2, none⟩ = some (Value.int .i64 u0) ∧ W.cell? ⟨w.heap.size, 3, none⟩ = some (Value.int .i64 u1) ∧ W.cell? ⟨w.heap.size, 4, none⟩ = some (Value.int .i64 t0) ∧ W.cell? ⟨w.heap.size, 5, none⟩ = some (Value.int .i64 t1) ∧ W.cell? ⟨w.heap.size, 6, none⟩ = some (Value.int .i64 r) ∧ W.cell? ⟨w.heap.size + 1 + 1, 0, none⟩ = some (Value.int .i64 0) ∧ W.cell? ⟨w.heap.size + 1 + 1, 1, none⟩ = some (Value.int .i64 0) from fun W h => ⟨(h.cell (p := ⟨w.heap.size + 1, 0, none⟩) (by show w.heap.size + 1 < A.heap.size; omega)).trans k7, (h.cell (p := ⟨w.heap.size + 1, 1, none⟩) (by show w.heap.size + 1 < A.heap.size; omega)).trans k8, (h.cell (p := ⟨w.heap.size, 0, none⟩) (by show w.heap.size < A.heap.size; omega)).trans k0, (h.cell (p := ⟨w.heap.size, 1, none⟩) (by show w.heap.size < A.heap.size; omega)).trans k1, (h.cell (p := ⟨w.heap.size, 2, none⟩) (by show w.heap.size < A.heap.size; omega)).trans k2, (h.cell (p := ⟨w.heap.size, 3, none⟩) (by show w.heap.size < A.heap.size; omega)).trans k3, (h.cell (p := ⟨w.heap.size, 4, none⟩) (by show w.heap.size < A.heap.size; omega)).trans k4, (h.cell (p := ⟨w.heap.size, 5, none⟩) (by show w.heap.size < A.heap.size; omega)).trans k5, (h.cell (p := ⟨w.heap.size, 6, none⟩) (by show w.heap.size < A.heap.size; omega)).trans k6, (h.cell (p := ⟨w.heap.size + 1 + 1, 0, none⟩) (by show w.heap.size + 1 + 1 < A.heap.size; omega)).trans k9, (h.cell (p := ⟨w.heap.size + 1 + 1, 1, none⟩) (by show w.heap.size + 1 + 1 < A.heap.size; omega)).trans ka⟩)
  have HZL := Lib.hid hzA
  clear hzA
  go_enter Try.func177, Try.ntmps177
  go_upto_region 1 with fail
  rw [← hA]
  clear hA
  go_cut [8, 9] from 10 to 18 (fun s8 s9 wc => ∃ B, s9 = Value.int .i64 0 ∧ s8 = Value.pointer (some ⟨B, 0, none⟩) ∧ Bx2 wc B (.int .i64 p) (.int .i64 q) ∧ A.heap.size ≤ B ∧ Below A.heap.size A wc)
  case first => as_aux_lemma =>
    have HD := Lib.hid (show Below A.heap.size A A.drew from (Below.refl _ _).drew)
    refine wp_region_held_drew (S := fun w' => w'.cell? ⟨w.heap.size + 1, 0, none⟩ = some (Value.int .i64 x) ∧ w'.cell? ⟨w.heap.size + 1, 1, none⟩ = some (Value.int .i64 y) ∧ w'.cell? ⟨w.heap.size, 0, none⟩ = some (Value.int .i64 0) ∧ w'.cell? ⟨w.heap.size, 1, none⟩ = some (Value.int .i64 1) ∧ w'.cell? ⟨w.heap.size, 2, none⟩ = some (Value.int .i64 u0) ∧ w'.cell? ⟨w.heap.size, 3, none⟩ = some (Value.int .i64 u1) ∧ w'.cell? ⟨w.heap.size, 4, none⟩ = some (Value.int .i64 t0) ∧ w'.cell? ⟨w.heap.size, 5, none⟩ = some (Value.int .i64 t1) ∧ w'.cell? ⟨w.heap.size, 6, none⟩ = some (Value.int .i64 r) ∧ w'.cell? ⟨w.heap.size + 1 + 1, 0, none⟩ = some (Value.int .i64 0) ∧ w'.cell? ⟨w.heap.size + 1 + 1, 1, none⟩ = some (Value.int .i64 0)) (by kernel_rfl) ⟨by simpa [go_sem] using k7, by simpa [go_sem] using k8, by simpa [go_sem] using k0, by simpa [go_sem] using k1, by simpa [go_sem] using k2, by simpa [go_sem] using k3, by simpa [go_sem] using k4, by simpa [go_sem] using k5, by simpa [go_sem] using k6, by simpa [go_sem] using k9, by simpa [go_sem] using ka⟩ (fun hHeld => ?_)
    refine wpAnyH_take (i := 0) (oi := _) (v := Value.agg #[Value.int .i64 x, Value.int .i64 y]) rfl (by kernel_rfl) (by kernel_rfl) (by kernel_rfl) (fun _ _ _ h => h) (Or.inl ⟨by rfl, fun w' hSw => ?_⟩) hHeld ?_
    · obtain ⟨t0, t1, t2, t3, t4, t5, t6, t7, t8, t9, t10⟩ := hSw
      go_simp
      try simp [*]
      try (intro hh; exfalso; omega)
      try omega
    try simp only [Act.put, List.setIfInBounds_toArray, List.set_cons_zero, List.set_cons_succ, List.getElem_toArray, List.getElem_cons_succ, List.getElem_cons_zero]
    refine wpAnyH_take (i := 1) (oi := _) (v := Value.agg #[Value.int .i64 0, Value.int .i64 1, Value.int .i64 u0, Value.int .i64 u1, Value.int .i64 t0, Value.int .i64 t1, Value.int .i64 r]) rfl (by kernel_rfl) (by kernel_rfl) (by kernel_rfl) (fun _ _ _ h => h) (Or.inl ⟨by rfl, fun w' hSw => ?_⟩) hHeld ?_
    · obtain ⟨t0, t1, t2, t3, t4, t5, t6, t7, t8, t9, t10⟩ := hSw
      go_simp
      try simp [*]
      try (intro hh; exfalso; omega)
      try omega
    try simp only [Act.put, List.setIfInBounds_toArray, List.set_cons_zero, List.set_cons_succ, List.getElem_toArray, List.getElem_cons_succ, List.getElem_cons_zero]
    refine wpAnyH_take (i := 2) (oi := _) (v := Value.agg #[Value.int .i64 0, Value.int .i64 0]) rfl (by kernel_rfl) (by kernel_rfl) (by kernel_rfl) (fun _ _ _ h => h) (Or.inl ⟨by rfl, fun w' hSw => ?_⟩) hHeld ?_
    · obtain ⟨t0, t1, t2, t3, t4, t5, t6, t7, t8, t9, t10⟩ := hSw
      go_simp
      try simp [*]
      try (intro hh; exfalso; omega)
      try omega
    try simp only [Act.put, List.setIfInBounds_toArray, List.set_cons_zero, List.set_cons_succ, List.getElem_toArray, List.getElem_cons_succ, List.getElem_cons_zero]
    refine wpAnyH_ready (rs := [3, 8]) (by kernel_rfl) (by simp) ?_
    refine AllReadyH.cons (o := _) rfl (fun K hK => ?_) (AllReadyH.cons (o := _) rfl (fun K hK => ?_) (AllReadyH.nil))
    · go_simp
      go_at_call 206
      refine Calls.mono (c1 _) ?_
      rintro e v1 ⟨rfl, hbx⟩
      have HV2 := Lib.hid (show Below A.heap.size A v1 from Below.trans HD.out (hbx.mono (Below.size HD.out)))
      clear hbx
      clear hHeld
      refine hK.out _ _ (KK.out _ HV2.out) (fun hHeld => ?_)
      clear hK K
      try simp only [Act.put, List.setIfInBounds_toArray, List.set_cons_zero, List.set_cons_succ, List.getElem_toArray, List.getElem_cons_succ, List.getElem_cons_zero]
      refine wpAnyH_ready (rs := [4, 8]) (by kernel_rfl) (by simp) ?_
      refine AllReadyH.cons (o := _) rfl (fun K hK => ?_) (AllReadyH.cons (o := _) rfl (fun K hK => ?_) (AllReadyH.nil))
      · go_simp
        go_at_call 64
        refine Calls.mono (c2 _) ?_
        rintro e v5 ⟨rfl, hbx⟩
        have HV6 := Lib.hid (show Below A.heap.size A v5 from Below.trans HV2.out (hbx.mono (Below.size HV2.out)))
        clear hbx
        clear hHeld
        refine hK.out _ _ (KK.out _ HV6.out) (fun hHeld => ?_)
        clear hK K
        try simp only [Act.put, List.setIfInBounds_toArray, List.set_cons_zero, List.set_cons_succ, List.getElem_toArray, List.getElem_cons_succ, List.getElem_cons_zero]
        refine wpAnyH_take (i := 5) (oi := _) (v := Value.tuple #[.agg #[.int .i64 p, .int .i64 q], .int .i64 0]) rfl (by kernel_rfl) (by kernel_rfl) (by kernel_rfl) (fun _ _ _ h => h) (Or.inl ⟨by rfl, fun w' hSw => ?_⟩) hHeld ?_
        · obtain ⟨t0, t1, t2, t3, t4, t5, t6, t7, t8, t9, t10⟩ := hSw
          go_simp
          try simp [*]
          try (intro hh; exfalso; omega)
          try omega
        try simp only [Act.put, List.setIfInBounds_toArray, List.set_cons_zero, List.set_cons_succ, List.getElem_toArray, List.getElem_cons_succ, List.getElem_cons_zero]
        refine wpAnyH_take (i := 6) (oi := _) (v := .agg #[.int .i64 p, .int .i64 q]) rfl (by kernel_rfl) (by kernel_rfl) (by kernel_rfl) (fun _ _ _ h => h) (Or.inl ⟨by rfl, fun w' hSw => ?_⟩) hHeld ?_
        · obtain ⟨t0, t1, t2, t3, t4, t5, t6, t7, t8, t9, t10⟩ := hSw
          go_simp
          try simp [*]
          try (intro hh; exfalso; omega)
          try omega
        try simp only [Act.put, List.setIfInBounds_toArray, List.set_cons_zero, List.set_cons_succ, List.getElem_toArray, List.getElem_cons_succ, List.getElem_cons_zero]
        refine wpAnyH_ready (rs := [7, 8]) (by kernel_rfl) (by simp) ?_
        refine AllReadyH.cons (o := _) rfl (fun K hK => ?_) (AllReadyH.cons (o := _) rfl (fun K hK => ?_) (AllReadyH.nil))
        · go_simp
          clear hHeld
          refine hK.out _ _ (KK.out _ HV6.out) (fun hHeld => ?_)
          clear hK K
          try simp only [Act.put, List.setIfInBounds_toArray, List.set_cons_zero, List.set_cons_succ, List.getElem_toArray, List.getElem_cons_succ, List.getElem_cons_zero]
          refine wpAnyH_ready (rs := [8]) (by kernel_rfl) (by simp) ?_
          refine AllReadyH.cons (o := _) rfl (fun K hK => ?_) (AllReadyH.nil)
          go_simp
          have HVa11 := Lib.hid (show Below A.heap.size A (v5.alloc (.cells #[.int .i64 0, .int .i64 0] 23)) from HV6.out.alloc (Below.size HV6.out) _)
          have HXa12 := Lib.hid (show Bx2 (v5.alloc (.cells #[.int .i64 0, .int .i64 0] 23)) v5.heap.size (.int .i64 0) (.int .i64 0) from Bx2.new _ _ _)
          clear hHeld
          refine hK.out _ _ (KK.out _ HVa11.out) (fun hHeld => ?_)
          clear hK K
          try simp only [Act.put, List.setIfInBounds_toArray, List.set_cons_zero, List.set_cons_succ, List.getElem_toArray, List.getElem_cons_succ, List.getElem_cons_zero]
          have hBLE : A.heap.size ≤ v5.heap.size := (Below.size HV6.out)
          obtain ⟨Z, hZe⟩ : ∃ Z, Z = v5.alloc (.cells #[.int .i64 p, .int .i64 q] 23) := ⟨_, rfl⟩
          have hZ : Bx2 Z v5.heap.size (.int .i64 p) (.int .i64 q) := by rw [hZe]; exact Bx2.new _ _ _
          have hBZ : Below A.heap.size A Z := by rw [hZe]; exact HV6.out.alloc (Below.size HV6.out) _
          refine wpAnyH_ready (rs := [9]) (by kernel_rfl) (by simp) ?_
          refine AllReadyH.cons (o := _) rfl (fun K hK => ?_) AllReadyH.nil
          go_simp
          try rw [← hZe]
          clear hHeld
          refine hK.out _ _ (KK.out _ hBZ) (fun hHeld => ?_)
          clear hK K
          try simp only [Act.put, List.setIfInBounds_toArray, List.set_cons_zero, List.set_cons_succ, List.getElem_toArray, List.getElem_cons_succ, List.getElem_cons_zero]
          clear hZe
          refine wpAnyH_take (i := 10) (oi := _) (v := Value.int .i64 0) rfl (by kernel_rfl) (by kernel_rfl) (by kernel_rfl) (fun _ _ _ h => h) (Or.inl ⟨by rfl, fun w' hSw => ?_⟩) hHeld ?_
          · obtain ⟨t0, t1, t2, t3, t4, t5, t6, t7, t8, t9, t10⟩ := hSw
            go_simp
            try simp [*]
            try (intro hh; exfalso; omega)
            try omega
          try simp only [Act.put, List.setIfInBounds_toArray, List.set_cons_zero, List.set_cons_succ, List.getElem_toArray, List.getElem_cons_succ, List.getElem_cons_zero]
          refine wpAnyH_done (by kernel_rfl) ?_ _
          clear hHeld
          go_wp2_with fail
          go_meet
          case rel => exact ⟨_, rfl, rfl, hZ, hBLE, hBZ⟩
        · go_simp
          have HVa9 := Lib.hid (show Below A.heap.size A (v5.alloc (.cells #[.int .i64 0, .int .i64 0] 23)) from HV6.out.alloc (Below.size HV6.out) _)
          have HXa10 := Lib.hid (show Bx2 (v5.alloc (.cells #[.int .i64 0, .int .i64 0] 23)) v5.heap.size (.int .i64 0) (.int .i64 0) from Bx2.new _ _ _)
          clear hHeld
          refine hK.out _ _ (KK.out _ HVa9.out) (fun hHeld => ?_)
          clear hK K
          try simp only [Act.put, List.setIfInBounds_toArray, List.set_cons_zero, List.set_cons_succ, List.getElem_toArray, List.getElem_cons_succ, List.getElem_cons_zero]
          have hBLE : A.heap.size ≤ v5.heap.size := (Below.size HV6.out)
          obtain ⟨Z, hZe⟩ : ∃ Z, Z = v5.alloc (.cells #[.int .i64 p, .int .i64 q] 23) := ⟨_, rfl⟩
          have hZ : Bx2 Z v5.heap.size (.int .i64 p) (.int .i64 q) := by rw [hZe]; exact Bx2.new _ _ _
          have hBZ : Below A.heap.size A Z := by rw [hZe]; exact HV6.out.alloc (Below.size HV6.out) _
          refine wpAnyH_ready (rs := [7, 9]) (by kernel_rfl) (by simp) ?_
          refine AllReadyH.cons (o := _) rfl (fun K hK => ?_) (AllReadyH.cons (o := _) rfl (fun K hK => ?_) (AllReadyH.nil))
          · go_simp
            clear hHeld
            refine hK.out _ _ (KK.out _ HVa9.out) (fun hHeld => ?_)
            clear hK K
            try simp only [Act.put, List.setIfInBounds_toArray, List.set_cons_zero, List.set_cons_succ, List.getElem_toArray, List.getElem_cons_succ, List.getElem_cons_zero]
            refine wpAnyH_ready (rs := [9]) (by kernel_rfl) (by simp) ?_
            refine AllReadyH.cons (o := _) rfl (fun K hK => ?_) AllReadyH.nil
            go_simp
            try rw [← hZe]
            clear hHeld
            refine hK.out _ _ (KK.out _ hBZ) (fun hHeld => ?_)
            clear hK K
            try simp only [Act.put, List.setIfInBounds_toArray, List.set_cons_zero, List.set_cons_succ, List.getElem_toArray, List.getElem_cons_succ, List.getElem_cons_zero]
            clear hZe
            refine wpAnyH_take (i := 10) (oi := _) (v := Value.int .i64 0) rfl (by kernel_rfl) (by kernel_rfl) (by kernel_rfl) (fun _ _ _ h => h) (Or.inl ⟨by rfl, fun w' hSw => ?_⟩) hHeld ?_
            · obtain ⟨t0, t1, t2, t3, t4, t5, t6, t7, t8, t9, t10⟩ := hSw
              go_simp
              try simp [*]
              try (intro hh; exfalso; omega)
              try omega
            try simp only [Act.put, List.setIfInBounds_toArray, List.set_cons_zero, List.set_cons_succ, List.getElem_toArray, List.getElem_cons_succ, List.getElem_cons_zero]
            refine wpAnyH_done (by kernel_rfl) ?_ _
            clear hHeld
            go_wp2_with fail
            go_meet
            case rel => exact ⟨_, rfl, rfl, hZ, hBLE, hBZ⟩
          · go_simp
            try rw [← hZe]
            clear hHeld
            refine hK.out _ _ (KK.out _ hBZ) (fun hHeld => ?_)
            clear hK K
            try simp only [Act.put, List.setIfInBounds_toArray, List.set_cons_zero, List.set_cons_succ, List.getElem_toArray, List.getElem_cons_succ, List.getElem_cons_zero]
            clear hZe
            refine wpAnyH_take (i := 7) (oi := _) (v := .int .i64 0) rfl (by kernel_rfl) (by kernel_rfl) (by kernel_rfl) (fun _ _ _ h => h) (Or.inl ⟨by rfl, fun w' hSw => ?_⟩) hHeld ?_
            · obtain ⟨t0, t1, t2, t3, t4, t5, t6, t7, t8, t9, t10⟩ := hSw
              go_simp
              try simp [*]
              try (intro hh; exfalso; omega)
              try omega
            try simp only [Act.put, List.setIfInBounds_toArray, List.set_cons_zero, List.set_cons_succ, List.getElem_toArray, List.getElem_cons_succ, List.getElem_cons_zero]
            refine wpAnyH_take (i := 10) (oi := _) (v := .int .i64 0) rfl (by kernel_rfl) (by kernel_rfl) (by kernel_rfl) (fun _ _ _ h => h) (Or.inl ⟨by rfl, fun w' hSw => ?_⟩) hHeld ?_
            · obtain ⟨t0, t1, t2, t3, t4, t5, t6, t7, t8, t9, t10⟩ := hSw
              go_simp
              try simp [*]
              try (intro hh; exfalso; omega)
              try omega
            try simp only [Act.put, List.setIfInBounds_toArray, List.set_cons_zero, List.set_cons_succ, List.getElem_toArray, List.getElem_cons_succ, List.getElem_cons_zero]
            refine wpAnyH_done (by kernel_rfl) ?_ _
            clear hHeld
            go_wp2_with fail
            go_meet
            case rel => exact ⟨_, rfl, rfl, hZ, hBLE, hBZ⟩
      · go_simp
        have HVa7 := Lib.hid (show Below A.heap.size A (v1.alloc (.cells #[.int .i64 0, .int .i64 0] 23)) from HV2.out.alloc (Below.size HV2.out) _)
        have HXa8 := Lib.hid (show Bx2 (v1.alloc (.cells #[.int .i64 0, .int .i64 0] 23)) v1.heap.size (.int .i64 0) (.int .i64 0) from Bx2.new _ _ _)
        clear hHeld
        refine hK.out _ _ (KK.out _ HVa7.out) (fun hHeld => ?_)
        clear hK K
        try simp only [Act.put, List.setIfInBounds_toArray, List.set_cons_zero, List.set_cons_succ, List.getElem_toArray, List.getElem_cons_succ, List.getElem_cons_zero]
        refine wpAnyH_ready (rs := [4]) (by kernel_rfl) (by simp) ?_
        refine AllReadyH.cons (o := _) rfl (fun K hK => ?_) (AllReadyH.nil)
        go_simp
        go_at_call 64
        refine Calls.mono (c2 _) ?_
        rintro e v13 ⟨rfl, hbx⟩
        have HV14 := Lib.hid (show Below A.heap.size A v13 from Below.trans HVa7.out (hbx.mono (Below.size HVa7.out)))
        have HXk15 := Lib.hid (HXa8.out.keep hbx)
        clear hbx
        clear hHeld
        refine hK.out _ _ (KK.out _ HV14.out) (fun hHeld => ?_)
        clear hK K
        try simp only [Act.put, List.setIfInBounds_toArray, List.set_cons_zero, List.set_cons_succ, List.getElem_toArray, List.getElem_cons_succ, List.getElem_cons_zero]
        refine wpAnyH_take (i := 5) (oi := _) (v := Value.tuple #[.agg #[.int .i64 p, .int .i64 q], .int .i64 0]) rfl (by kernel_rfl) (by kernel_rfl) (by kernel_rfl) (fun _ _ _ h => h) (Or.inl ⟨by rfl, fun w' hSw => ?_⟩) hHeld ?_
        · obtain ⟨t0, t1, t2, t3, t4, t5, t6, t7, t8, t9, t10⟩ := hSw
          go_simp
          try simp [*]
          try (intro hh; exfalso; omega)
          try omega
        try simp only [Act.put, List.setIfInBounds_toArray, List.set_cons_zero, List.set_cons_succ, List.getElem_toArray, List.getElem_cons_succ, List.getElem_cons_zero]
        refine wpAnyH_take (i := 6) (oi := _) (v := .agg #[.int .i64 p, .int .i64 q]) rfl (by kernel_rfl) (by kernel_rfl) (by kernel_rfl) (fun _ _ _ h => h) (Or.inl ⟨by rfl, fun w' hSw => ?_⟩) hHeld ?_
        · obtain ⟨t0, t1, t2, t3, t4, t5, t6, t7, t8, t9, t10⟩ := hSw
          go_simp
          try simp [*]
          try (intro hh; exfalso; omega)
          try omega
        try simp only [Act.put, List.setIfInBounds_toArray, List.set_cons_zero, List.set_cons_succ, List.getElem_toArray, List.getElem_cons_succ, List.getElem_cons_zero]
        have hBLE : A.heap.size ≤ v1.heap.size := (Below.size HV2.out)
        have r0 := HXk15.out.c0
        have r1 := HXk15.out.c1
        have rf0 := HXk15.out.f0 0
        have rf1 := HXk15.out.f0 1
        have hBl : A.heap.size ≤ v1.heap.size := (Below.size HV2.out)
        obtain ⟨Z, hZe⟩ : ∃ Z, Z = ((v13).setCell ⟨v1.heap.size, 0, none⟩ (.int .i64 p)).setCell ⟨v1.heap.size, 1, none⟩ (.int .i64 q) := ⟨_, rfl⟩
        have hZ : Bx2 Z (v1.heap.size) (.int .i64 p) (.int .i64 q) := by rw [hZe]; exact HXk15.out.set _ _
        have hBZ : Below A.heap.size A Z := by rw [hZe]; exact (HV14.out.setCell (p := ⟨v1.heap.size, 0, none⟩) hBl _).setCell (p := ⟨v1.heap.size, 1, none⟩) hBl _
        refine wpAnyH_ready (rs := [7, 9]) (by kernel_rfl) (by simp) ?_
        refine AllReadyH.cons (o := _) rfl (fun K hK => ?_) (AllReadyH.cons (o := _) rfl (fun K hK => ?_) (AllReadyH.nil))
        · go_simp
          clear hHeld
          refine hK.out _ _ (KK.out _ HV14.out) (fun hHeld => ?_)
          clear hK K
          try simp only [Act.put, List.setIfInBounds_toArray, List.set_cons_zero, List.set_cons_succ, List.getElem_toArray, List.getElem_cons_succ, List.getElem_cons_zero]
          refine wpAnyH_ready (rs := [9]) (by kernel_rfl) (by simp) ?_
          refine AllReadyH.cons (o := _) rfl (fun K hK => ?_) AllReadyH.nil
          go_simp
          try rw [← hZe]
          clear hHeld
          refine hK.out _ _ (KK.out _ hBZ) (fun hHeld => ?_)
          clear hK K
          try simp only [Act.put, List.setIfInBounds_toArray, List.set_cons_zero, List.set_cons_succ, List.getElem_toArray, List.getElem_cons_succ, List.getElem_cons_zero]
          clear hZe r0 r1 rf0 rf1
          refine wpAnyH_take (i := 10) (oi := _) (v := Value.int .i64 0) rfl (by kernel_rfl) (by kernel_rfl) (by kernel_rfl) (fun _ _ _ h => h) (Or.inl ⟨by rfl, fun w' hSw => ?_⟩) hHeld ?_
          · obtain ⟨t0, t1, t2, t3, t4, t5, t6, t7, t8, t9, t10⟩ := hSw
            go_simp
            try simp [*]
            try (intro hh; exfalso; omega)
            try omega
          try simp only [Act.put, List.setIfInBounds_toArray, List.set_cons_zero, List.set_cons_succ, List.getElem_toArray, List.getElem_cons_succ, List.getElem_cons_zero]
          refine wpAnyH_done (by kernel_rfl) ?_ _
          clear hHeld
          go_wp2_with fail
          go_meet
          case rel => exact ⟨_, rfl, rfl, hZ, hBLE, hBZ⟩
        · go_simp
          try rw [← hZe]
          clear hHeld
          refine hK.out _ _ (KK.out _ hBZ) (fun hHeld => ?_)
          clear hK K
          try simp only [Act.put, List.setIfInBounds_toArray, List.set_cons_zero, List.set_cons_succ, List.getElem_toArray, List.getElem_cons_succ, List.getElem_cons_zero]
          clear hZe r0 r1 rf0 rf1
          refine wpAnyH_take (i := 7) (oi := _) (v := .int .i64 0) rfl (by kernel_rfl) (by kernel_rfl) (by kernel_rfl) (fun _ _ _ h => h) (Or.inl ⟨by rfl, fun w' hSw => ?_⟩) hHeld ?_
          · obtain ⟨t0, t1, t2, t3, t4, t5, t6, t7, t8, t9, t10⟩ := hSw
            go_simp
            try simp [*]
            try (intro hh; exfalso; omega)
            try omega
          try simp only [Act.put, List.setIfInBounds_toArray, List.set_cons_zero, List.set_cons_succ, List.getElem_toArray, List.getElem_cons_succ, List.getElem_cons_zero]
          refine wpAnyH_take (i := 10) (oi := _) (v := .int .i64 0) rfl (by kernel_rfl) (by kernel_rfl) (by kernel_rfl) (fun _ _ _ h => h) (Or.inl ⟨by rfl, fun w' hSw => ?_⟩) hHeld ?_
          · obtain ⟨t0, t1, t2, t3, t4, t5, t6, t7, t8, t9, t10⟩ := hSw
            go_simp
            try simp [*]
            try (intro hh; exfalso; omega)
            try omega
          try simp only [Act.put, List.setIfInBounds_toArray, List.set_cons_zero, List.set_cons_succ, List.getElem_toArray, List.getElem_cons_succ, List.getElem_cons_zero]
          refine wpAnyH_done (by kernel_rfl) ?_ _
          clear hHeld
          go_wp2_with fail
          go_meet
          case rel => exact ⟨_, rfl, rfl, hZ, hBLE, hBZ⟩
    · go_simp
      have HVa3 := Lib.hid (show Below A.heap.size A (A.drew.alloc (.cells #[.int .i64 0, .int .i64 0] 23)) from HD.out.alloc (Below.size HD.out) _)
      have HXa4 := Lib.hid (show Bx2 (A.drew.alloc (.cells #[.int .i64 0, .int .i64 0] 23)) A.heap.size (.int .i64 0) (.int .i64 0) from Bx2.new _ _ _)
      clear hHeld
      refine hK.out _ _ (KK.out _ HVa3.out) (fun hHeld => ?_)
      clear hK K
      try simp only [Act.put, List.setIfInBounds_toArray, List.set_cons_zero, List.set_cons_succ, List.getElem_toArray, List.getElem_cons_succ, List.getElem_cons_zero]
      refine wpAnyH_ready (rs := [3]) (by kernel_rfl) (by simp) ?_
      refine AllReadyH.cons (o := _) rfl (fun K hK => ?_) (AllReadyH.nil)
      go_simp
      go_at_call 206
      refine Calls.mono (c1 _) ?_
      rintro e v16 ⟨rfl, hbx⟩
      have HV17 := Lib.hid (show Below A.heap.size A v16 from Below.trans HVa3.out (hbx.mono (Below.size HVa3.out)))
      have HXk18 := Lib.hid (HXa4.out.keep hbx)
      clear hbx
      clear hHeld
      refine hK.out _ _ (KK.out _ HV17.out) (fun hHeld => ?_)
      clear hK K
      try simp only [Act.put, List.setIfInBounds_toArray, List.set_cons_zero, List.set_cons_succ, List.getElem_toArray, List.getElem_cons_succ, List.getElem_cons_zero]
      refine wpAnyH_ready (rs := [4]) (by kernel_rfl) (by simp) ?_
      refine AllReadyH.cons (o := _) rfl (fun K hK => ?_) (AllReadyH.nil)
      go_simp
      go_at_call 64
      refine Calls.mono (c2 _) ?_
      rintro e v19 ⟨rfl, hbx⟩
      have HV20 := Lib.hid (show Below A.heap.size A v19 from Below.trans HV17.out (hbx.mono (Below.size HV17.out)))
      have HXk21 := Lib.hid (HXk18.out.keep hbx)
      clear hbx
      clear hHeld
      refine hK.out _ _ (KK.out _ HV20.out) (fun hHeld => ?_)
      clear hK K
      try simp only [Act.put, List.setIfInBounds_toArray, List.set_cons_zero, List.set_cons_succ, List.getElem_toArray, List.getElem_cons_succ, List.getElem_cons_zero]
      refine wpAnyH_take (i := 5) (oi := _) (v := Value.tuple #[.agg #[.int .i64 p, .int .i64 q], .int .i64 0]) rfl (by kernel_rfl) (by kernel_rfl) (by kernel_rfl) (fun _ _ _ h => h) (Or.inl ⟨by rfl, fun w' hSw => ?_⟩) hHeld ?_
      · obtain ⟨t0, t1, t2, t3, t4, t5, t6, t7, t8, t9, t10⟩ := hSw
        go_simp
        try simp [*]
        try (intro hh; exfalso; omega)
        try omega
      try simp only [Act.put, List.setIfInBounds_toArray, List.set_cons_zero, List.set_cons_succ, List.getElem_toArray, List.getElem_cons_succ, List.getElem_cons_zero]
      refine wpAnyH_take (i := 6) (oi := _) (v := .agg #[.int .i64 p, .int .i64 q]) rfl (by kernel_rfl) (by kernel_rfl) (by kernel_rfl) (fun _ _ _ h => h) (Or.inl ⟨by rfl, fun w' hSw => ?_⟩) hHeld ?_
      · obtain ⟨t0, t1, t2, t3, t4, t5, t6, t7, t8, t9, t10⟩ := hSw
        go_simp
        try simp [*]
        try (intro hh; exfalso; omega)
        try omega
      try simp only [Act.put, List.setIfInBounds_toArray, List.set_cons_zero, List.set_cons_succ, List.getElem_toArray, List.getElem_cons_succ, List.getElem_cons_zero]
      have hBLE : A.heap.size ≤ A.heap.size := (Nat.le_refl _)
      have r0 := HXk21.out.c0
      have r1 := HXk21.out.c1
      have rf0 := HXk21.out.f0 0
      have rf1 := HXk21.out.f0 1
      have hBl : A.heap.size ≤ A.heap.size := (Nat.le_refl _)
      obtain ⟨Z, hZe⟩ : ∃ Z, Z = ((v19).setCell ⟨A.heap.size, 0, none⟩ (.int .i64 p)).setCell ⟨A.heap.size, 1, none⟩ (.int .i64 q) := ⟨_, rfl⟩
      have hZ : Bx2 Z (A.heap.size) (.int .i64 p) (.int .i64 q) := by rw [hZe]; exact HXk21.out.set _ _
      have hBZ : Below A.heap.size A Z := by rw [hZe]; exact (HV20.out.setCell (p := ⟨A.heap.size, 0, none⟩) hBl _).setCell (p := ⟨A.heap.size, 1, none⟩) hBl _
      refine wpAnyH_ready (rs := [7, 9]) (by kernel_rfl) (by simp) ?_
      refine AllReadyH.cons (o := _) rfl (fun K hK => ?_) (AllReadyH.cons (o := _) rfl (fun K hK => ?_) (AllReadyH.nil))
      · go_simp
        clear hHeld
        refine hK.out _ _ (KK.out _ HV20.out) (fun hHeld => ?_)
        clear hK K
        try simp only [Act.put, List.setIfInBounds_toArray, List.set_cons_zero, List.set_cons_succ, List.getElem_toArray, List.getElem_cons_succ, List.getElem_cons_zero]
        refine wpAnyH_ready (rs := [9]) (by kernel_rfl) (by simp) ?_
        refine AllReadyH.cons (o := _) rfl (fun K hK => ?_) AllReadyH.nil
        go_simp
        try rw [← hZe]
        clear hHeld
        refine hK.out _ _ (KK.out _ hBZ) (fun hHeld => ?_)
        clear hK K
        try simp only [Act.put, List.setIfInBounds_toArray, List.set_cons_zero, List.set_cons_succ, List.getElem_toArray, List.getElem_cons_succ, List.getElem_cons_zero]
        clear hZe r0 r1 rf0 rf1
        refine wpAnyH_take (i := 10) (oi := _) (v := Value.int .i64 0) rfl (by kernel_rfl) (by kernel_rfl) (by kernel_rfl) (fun _ _ _ h => h) (Or.inl ⟨by rfl, fun w' hSw => ?_⟩) hHeld ?_
        · obtain ⟨t0, t1, t2, t3, t4, t5, t6, t7, t8, t9, t10⟩ := hSw
          go_simp
          try simp [*]
          try (intro hh; exfalso; omega)
          try omega
        try simp only [Act.put, List.setIfInBounds_toArray, List.set_cons_zero, List.set_cons_succ, List.getElem_toArray, List.getElem_cons_succ, List.getElem_cons_zero]
        refine wpAnyH_done (by kernel_rfl) ?_ _
        clear hHeld
        go_wp2_with fail
        go_meet
        case rel => exact ⟨_, rfl, rfl, hZ, hBLE, hBZ⟩
      · go_simp
        try rw [← hZe]
        clear hHeld
        refine hK.out _ _ (KK.out _ hBZ) (fun hHeld => ?_)
        clear hK K
        try simp only [Act.put, List.setIfInBounds_toArray, List.set_cons_zero, List.set_cons_succ, List.getElem_toArray, List.getElem_cons_succ, List.getElem_cons_zero]
        clear hZe r0 r1 rf0 rf1
        refine wpAnyH_take (i := 7) (oi := _) (v := .int .i64 0) rfl (by kernel_rfl) (by kernel_rfl) (by kernel_rfl) (fun _ _ _ h => h) (Or.inl ⟨by rfl, fun w' hSw => ?_⟩) hHeld ?_
        · obtain ⟨t0, t1, t2, t3, t4, t5, t6, t7, t8, t9, t10⟩ := hSw
          go_simp
          try simp [*]
          try (intro hh; exfalso; omega)
          try omega
        try simp only [Act.put, List.setIfInBounds_toArray, List.set_cons_zero, List.set_cons_succ, List.getElem_toArray, List.getElem_cons_succ, List.getElem_cons_zero]
        refine wpAnyH_take (i := 10) (oi := _) (v := .int .i64 0) rfl (by kernel_rfl) (by kernel_rfl) (by kernel_rfl) (fun _ _ _ h => h) (Or.inl ⟨by rfl, fun w' hSw => ?_⟩) hHeld ?_
        · obtain ⟨t0, t1, t2, t3, t4, t5, t6, t7, t8, t9, t10⟩ := hSw
          go_simp
          try simp [*]
          try (intro hh; exfalso; omega)
          try omega
        try simp only [Act.put, List.setIfInBounds_toArray, List.set_cons_zero, List.set_cons_succ, List.getElem_toArray, List.getElem_cons_succ, List.getElem_cons_zero]
        refine wpAnyH_done (by kernel_rfl) ?_ _
        clear hHeld
        go_wp2_with fail
        go_meet
        case rel => exact ⟨_, rfl, rfl, hZ, hBLE, hBZ⟩
  case rest =>
    obtain ⟨B8, rfl, rfl, hX, hBLE, hW⟩ := hcut
    have HBLE := Lib.hid hBLE
    clear hBLE
    have HX := Lib.hid hX
    have HW := Lib.hid hW
    clear hX hW
    obtain ⟨W1, rfl⟩ : ∃ W0, W0 = wc := ⟨_, rfl⟩
    have HZ1 := Lib.hid (HZ.out.keep HW.out)
    have HBW := Lib.hid (show Below w.heap.size w W1 from HBA.out.trans (HW.out.mono HBA.out.size))
    clear k0 k1 k2 k3 k4 k5 k6 k7 k8 k9 ka
    obtain ⟨k7, k8, k0, k1, k2, k3, k4, k5, k6, k9, ka⟩ := KK.out _ HW.out
    clear k0 k1 k2 k3 k4 k5 k7 k8 k9 ka KK c1 c2 HBA HZ HW hkd
    have x0 := HX.out.c0
    have x1 := HX.out.c1
    have z0 := HZ1.out.c0
    have z1 := HZ1.out.c1
    have f0 := HZ1.out.f0 0
    have f1 := HZ1.out.f0 1
    have q0 := (HZ1.out.set (.int .i64 p) (.int .i64 q)).c0
    have q1 := (HZ1.out.set (.int .i64 p) (.int .i64 q)).c1
    have hn1 : B8 ≠ w.heap.size + 1 + 1 + 1 := by have := HBLE.out; have := HZL.out; omega
    have hn2 : w.heap.size + 1 + 1 + 1 ≠ B8 := Ne.symm hn1
    have hn3 : w.heap.size ≠ w.heap.size + 1 + 1 + 1 := by omega
    have hn4 : w.heap.size + 1 + 1 + 1 ≠ w.heap.size := by omega
    clear HBLE HZL
    go_upto_region 2 with fail
    go_region_o
    go_wp2_with fail
    refine bodyPost_ret (v := .tuple #[.agg #[.int .i64 p, .int .i64 q], .bool true]) (by simp [results, Try.results177, go_sem, q0, q1]) rfl ⟨rfl, ((HBW.out.setCell (p := ⟨w.heap.size + 1 + 1 + 1, 0, none⟩) (show w.heap.size ≤ w.heap.size + 1 + 1 + 1 by omega) _).setCell (p := ⟨w.heap.size + 1 + 1 + 1, 1, none⟩) (show w.heap.size ≤ w.heap.size + 1 + 1 + 1 by omega) _).drew⟩
end Go.Proofs.Ytdohfpnnmppdkaa.Gd

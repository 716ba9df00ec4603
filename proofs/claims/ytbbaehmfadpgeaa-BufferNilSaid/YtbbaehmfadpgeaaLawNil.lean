/-
  The walk of BufferNil.
-/
import Derived.Test.YtbbaehmfadpgeaaNilA
namespace Go.Proofs.Ytbbaehmfadpgeaa
open Go.RowKit Go.Shelf
set_option linter.unusedSimpArgs false
set_option maxRecDepth 100000 in
set_option maxHeartbeats 8000000 in
theorem law_nil (r : Rc) (n : Int) (w : World) : Calls Try.prog 13 #[.agg #[.int .i64 r.id, .int .i64 r.cls, .int .i64 r.made, .int .i64 r.size, .int .i64 r.packed], .int .i64 n] w fun e w' => e = .returned (.bool true) ∧ Below w.heap.size w w' := by
  obtain ⟨A, hA⟩ : ∃ A, A = (((((w).alloc (.cells #[.int .i64 r.id, .int .i64 r.cls, .int .i64 r.made, .int .i64 r.size, .int .i64 r.packed] 23)).alloc (.cells #[.pointer none, .int .i64 0, .int .i64 0, .map none, .slice none 0 0] 108)).alloc (.cells #[.pointer none, .pointer (some ⟨w.heap.size + 1, 0, none⟩)] 27)).alloc (.cells #[.pointer none, .map none] 111)).alloc (.cells #[.pointer none, .pointer (some ⟨w.heap.size + 3, 0, none⟩)] 59) := ⟨_, rfl⟩
  have hBA : Below w.heap.size w A := by rw [hA]; exact ((((((Below.refl _ _).alloc (Nat.le_refl _) _).alloc (by simp) _).alloc (by simp; omega) _).alloc (by simp; omega) _).alloc (by simp; omega) _)
  have hz : A.heap.size = w.heap.size + 5 := by rw [hA]; simp
  have b0 : A.heap[w.heap.size]? = some (.cells #[.int .i64 r.id, .int .i64 r.cls, .int .i64 r.made, .int .i64 r.size, .int .i64 r.packed] 23 (0, 0)) := by
    rw [hA]
    refine (Below.heap_alloc _ _ _ (by simp; try omega)).trans ?_
    refine (Below.heap_alloc _ _ _ (by simp; try omega)).trans ?_
    refine (Below.heap_alloc _ _ _ (by simp; try omega)).trans ?_
    refine (Below.heap_alloc _ _ _ (by simp; try omega)).trans ?_
    have q := World.alloc_heap_new (w) (.cells #[.int .i64 r.id, .int .i64 r.cls, .int .i64 r.made, .int .i64 r.size, .int .i64 r.packed] 23)
    simpa using q
  have b1 : A.heap[w.heap.size + 1]? = some (.cells #[.pointer none, .int .i64 0, .int .i64 0, .map none, .slice none 0 0] 108 (0, 0)) := by
    rw [hA]
    refine (Below.heap_alloc _ _ _ (by simp; try omega)).trans ?_
    refine (Below.heap_alloc _ _ _ (by simp; try omega)).trans ?_
    refine (Below.heap_alloc _ _ _ (by simp; try omega)).trans ?_
    have q := World.alloc_heap_new ((w).alloc (.cells #[.int .i64 r.id, .int .i64 r.cls, .int .i64 r.made, .int .i64 r.size, .int .i64 r.packed] 23)) (.cells #[.pointer none, .int .i64 0, .int .i64 0, .map none, .slice none 0 0] 108)
    simpa using q
  have b2 : A.heap[w.heap.size + 2]? = some (.cells #[.pointer none, .pointer (some ⟨w.heap.size + 1, 0, none⟩)] 27 (0, 0)) := by
    rw [hA]
    refine (Below.heap_alloc _ _ _ (by simp; try omega)).trans ?_
    refine (Below.heap_alloc _ _ _ (by simp; try omega)).trans ?_
    have q := World.alloc_heap_new (((w).alloc (.cells #[.int .i64 r.id, .int .i64 r.cls, .int .i64 r.made, .int .i64 r.size, .int .i64 r.packed] 23)).alloc (.cells #[.pointer none, .int .i64 0, .int .i64 0, .map none, .slice none 0 0] 108)) (.cells #[.pointer none, .pointer (some ⟨w.heap.size + 1, 0, none⟩)] 27)
    simpa using q
  have b3 : A.heap[w.heap.size + 3]? = some (.cells #[.pointer none, .map none] 111 (0, 0)) := by
    rw [hA]
    refine (Below.heap_alloc _ _ _ (by simp; try omega)).trans ?_
    have q := World.alloc_heap_new ((((w).alloc (.cells #[.int .i64 r.id, .int .i64 r.cls, .int .i64 r.made, .int .i64 r.size, .int .i64 r.packed] 23)).alloc (.cells #[.pointer none, .int .i64 0, .int .i64 0, .map none, .slice none 0 0] 108)).alloc (.cells #[.pointer none, .pointer (some ⟨w.heap.size + 1, 0, none⟩)] 27)) (.cells #[.pointer none, .map none] 111)
    simpa using q
  have b4 : A.heap[w.heap.size + 4]? = some (.cells #[.pointer none, .pointer (some ⟨w.heap.size + 3, 0, none⟩)] 59 (0, 0)) := by
    rw [hA]
    have q := World.alloc_heap_new (((((w).alloc (.cells #[.int .i64 r.id, .int .i64 r.cls, .int .i64 r.made, .int .i64 r.size, .int .i64 r.packed] 23)).alloc (.cells #[.pointer none, .int .i64 0, .int .i64 0, .map none, .slice none 0 0] 108)).alloc (.cells #[.pointer none, .pointer (some ⟨w.heap.size + 1, 0, none⟩)] 27)).alloc (.cells #[.pointer none, .map none] 111)) (.cells #[.pointer none, .pointer (some ⟨w.heap.size + 3, 0, none⟩)] 59)
    simpa using q
  have HX := Lib.hid (show BxR A w.heap.size r from b0)
  have HC := Lib.hid (show ∀ i, i < 2 → ∃ p q, (∀ W, Below A.heap.size A W → BadP W p ∧ BadP W q ∧ W.cell? ⟨w.heap.size + 2, i, none⟩ = some p ∧ W.cell? ⟨w.heap.size + 4, i, none⟩ = some q) from fun i hi => by
    match i, hi with
    | 0, _ => exact ⟨.pointer none, .pointer none, fun W h => ⟨.inl rfl, .inl rfl, (h.cell (p := ⟨w.heap.size + 2, 0, none⟩) (by show w.heap.size + 2 < A.heap.size; omega)).trans ((cellH b2 0).trans (by simp)), (h.cell (p := ⟨w.heap.size + 4, 0, none⟩) (by show w.heap.size + 4 < A.heap.size; omega)).trans ((cellH b4 0).trans (by simp))⟩⟩
    | 1, _ => exact ⟨.pointer (some ⟨w.heap.size + 1, 0, none⟩), .pointer (some ⟨w.heap.size + 3, 0, none⟩), fun W h => ⟨.inr ⟨_, rfl, by have := h.size; omega, (h.cell (p := ⟨w.heap.size + 1, 0, none⟩) (by show w.heap.size + 1 < A.heap.size; omega)).trans ((cellH b1 0).trans (by simp))⟩, .inr ⟨_, rfl, by have := h.size; omega, (h.cell (p := ⟨w.heap.size + 3, 0, none⟩) (by show w.heap.size + 3 < A.heap.size; omega)).trans ((cellH b3 0).trans (by simp))⟩, (h.cell (p := ⟨w.heap.size + 2, 1, none⟩) (by show w.heap.size + 2 < A.heap.size; omega)).trans ((cellH b2 1).trans (by simp)), (h.cell (p := ⟨w.heap.size + 4, 1, none⟩) (by show w.heap.size + 4 < A.heap.size; omega)).trans ((cellH b4 1).trans (by simp))⟩⟩)
  have HBA := Lib.hid hBA
  clear hBA hz b0 b1 b2 b3 b4
  go_enter Try.func13, Try.ntmps13
  go_upto_region 3 with fail
  simp only [Nat.add_assoc, Nat.reduceAdd]
  rw [← hA]
  clear hA
  generalize w.heap.size + 2 = X1 at *
  generalize w.heap.size + 4 = X2 at *
  go_wp2_with fail
  go_loopw [7] (fun iv wr => ∃ i : Nat, i ≤ 2 ∧ iv = .int .i64 i ∧ Below A.heap.size A wr) (fun iv _ => 2 - (intOf iv).toNat)
  case atStart => exact ⟨0, by omega, rfl, Below.refl _ _⟩
  case round =>
    obtain ⟨i, hi, rfl, hB⟩ := hrel
    have HB := Lib.hid hB
    clear hB
    by_cases hlt : i < 2
    · obtain ⟨p, q, hpq⟩ := HC.out i hlt
      have HPQ := Lib.hid hpq
      have KC := Lib.hid (show ∀ W1, Below A.heap.size A W1 → W1.cell? ⟨X1, i, none⟩ = some (p) ∧ W1.cell? ⟨X2, i, none⟩ = some (q) from fun W1 h => (hpq W1 h).2.2)
      clear hpq
      have hii : (i : Int) < 2 := by omega
      have hi2 : ¬((2 : Int) ≤ (i : Int)) := by omega
      go_upto_region 6 with fail
      refine wp_region_held_drew (S := fun w' => w'.cell? ⟨X1, i, none⟩ = some (p) ∧ w'.cell? ⟨X2, i, none⟩ = some (q)) (by kernel_rfl) (KC.out _ HB.out.drew) (fun hHeld => ?_)
      refine wpAnyH_take (i := 0) (oi := _) (v := Value.slice (some ⟨X1, 0, none⟩) 2 2) rfl (by kernel_rfl) (by kernel_rfl) (by kernel_rfl) (fun _ _ _ h => h) (Or.inl ⟨by rfl, fun w' hSw => ?_⟩) hHeld ?_
      · obtain ⟨t0, t1⟩ := hSw
        go_simp
        try simp [*]
        try (intro hh; exfalso; omega)
        try omega
      try simp only [Act.put, List.setIfInBounds_toArray, List.set_cons_zero, List.set_cons_succ, List.getElem_toArray, List.getElem_cons_succ, List.getElem_cons_zero]
      refine wpAnyH_take (i := 1) (oi := _) (v := Value.int .i64 (i : Int)) rfl (by kernel_rfl) (by kernel_rfl) (by kernel_rfl) (fun _ _ _ h => h) (Or.inl ⟨by rfl, fun w' hSw => ?_⟩) hHeld ?_
      · obtain ⟨t0, t1⟩ := hSw
        go_simp
        try simp [*]
        try (intro hh; exfalso; omega)
        try omega
      try simp only [Act.put, List.setIfInBounds_toArray, List.set_cons_zero, List.set_cons_succ, List.getElem_toArray, List.getElem_cons_succ, List.getElem_cons_zero]
      refine wpAnyH_take (i := 2) (oi := _) (v := Value.pointer (some ⟨X1, i, none⟩)) rfl (by kernel_rfl) (by kernel_rfl) (by kernel_rfl) (fun _ _ _ h => h) (Or.inl ⟨by rfl, fun w' hSw => ?_⟩) hHeld ?_
      · obtain ⟨t0, t1⟩ := hSw
        go_simp
        try simp [*]
        try (intro hh; exfalso; omega)
        try omega
      try simp only [Act.put, List.setIfInBounds_toArray, List.set_cons_zero, List.set_cons_succ, List.getElem_toArray, List.getElem_cons_succ, List.getElem_cons_zero]
      refine wpAnyH_take (i := 3) (oi := _) (v := p) rfl (by kernel_rfl) (by kernel_rfl) (by kernel_rfl) (fun _ _ _ h => h) (Or.inl ⟨by rfl, fun w' hSw => ?_⟩) hHeld ?_
      · obtain ⟨t0, t1⟩ := hSw
        go_simp
        try simp [*]
        try (intro hh; exfalso; omega)
        try omega
      try simp only [Act.put, List.setIfInBounds_toArray, List.set_cons_zero, List.set_cons_succ, List.getElem_toArray, List.getElem_cons_succ, List.getElem_cons_zero]
      refine wpAnyH_take (i := 4) (oi := _) (v := Value.slice (some ⟨X2, 0, none⟩) 2 2) rfl (by kernel_rfl) (by kernel_rfl) (by kernel_rfl) (fun _ _ _ h => h) (Or.inl ⟨by rfl, fun w' hSw => ?_⟩) hHeld ?_
      · obtain ⟨t0, t1⟩ := hSw
        go_simp
        try simp [*]
        try (intro hh; exfalso; omega)
        try omega
      try simp only [Act.put, List.setIfInBounds_toArray, List.set_cons_zero, List.set_cons_succ, List.getElem_toArray, List.getElem_cons_succ, List.getElem_cons_zero]
      refine wpAnyH_take (i := 5) (oi := _) (v := Value.int .i64 (i : Int)) rfl (by kernel_rfl) (by kernel_rfl) (by kernel_rfl) (fun _ _ _ h => h) (Or.inl ⟨by rfl, fun w' hSw => ?_⟩) hHeld ?_
      · obtain ⟨t0, t1⟩ := hSw
        go_simp
        try simp [*]
        try (intro hh; exfalso; omega)
        try omega
      try simp only [Act.put, List.setIfInBounds_toArray, List.set_cons_zero, List.set_cons_succ, List.getElem_toArray, List.getElem_cons_succ, List.getElem_cons_zero]
      refine wpAnyH_take (i := 6) (oi := _) (v := Value.pointer (some ⟨X2, i, none⟩)) rfl (by kernel_rfl) (by kernel_rfl) (by kernel_rfl) (fun _ _ _ h => h) (Or.inl ⟨by rfl, fun w' hSw => ?_⟩) hHeld ?_
      · obtain ⟨t0, t1⟩ := hSw
        go_simp
        try simp [*]
        try (intro hh; exfalso; omega)
        try omega
      try simp only [Act.put, List.setIfInBounds_toArray, List.set_cons_zero, List.set_cons_succ, List.getElem_toArray, List.getElem_cons_succ, List.getElem_cons_zero]
      refine wpAnyH_take (i := 7) (oi := _) (v := q) rfl (by kernel_rfl) (by kernel_rfl) (by kernel_rfl) (fun _ _ _ h => h) (Or.inl ⟨by rfl, fun w' hSw => ?_⟩) hHeld ?_
      · obtain ⟨t0, t1⟩ := hSw
        go_simp
        try simp [*]
        try (intro hh; exfalso; omega)
        try omega
      try simp only [Act.put, List.setIfInBounds_toArray, List.set_cons_zero, List.set_cons_succ, List.getElem_toArray, List.getElem_cons_succ, List.getElem_cons_zero]
      refine wpAnyH_take (i := 8) (oi := _) (v := p) rfl (by kernel_rfl) (by kernel_rfl) (by kernel_rfl) (fun _ _ _ h => h) (Or.inl ⟨by rfl, fun w' hSw => ?_⟩) hHeld ?_
      · obtain ⟨t0, t1⟩ := hSw
        go_simp
        try simp [*]
        try (intro hh; exfalso; omega)
        try omega
      try simp only [Act.put, List.setIfInBounds_toArray, List.set_cons_zero, List.set_cons_succ, List.getElem_toArray, List.getElem_cons_succ, List.getElem_cons_zero]
      refine wpAnyH_take (i := 9) (oi := _) (v := q) rfl (by kernel_rfl) (by kernel_rfl) (by kernel_rfl) (fun _ _ _ h => h) (Or.inl ⟨by rfl, fun w' hSw => ?_⟩) hHeld ?_
      · obtain ⟨t0, t1⟩ := hSw
        go_simp
        try simp [*]
        try (intro hh; exfalso; omega)
        try omega
      try simp only [Act.put, List.setIfInBounds_toArray, List.set_cons_zero, List.set_cons_succ, List.getElem_toArray, List.getElem_cons_succ, List.getElem_cons_zero]
      refine wpAnyH_done (by kernel_rfl) ?_ _
      clear hHeld
      have HB1 := Lib.hid HB.out.drew
      have c := fun W (h : BadP W p) => put_nil p r W h
      obtain ⟨k0, k1, k2, k3, k4⟩ := (HX.out.keep HB1.out).all
      go_wp2_with fail
      refine (c _ (HPQ.out _ HB1.out).1).mono ?_
      rintro e w0 ⟨rfl, hb⟩
      have HB2 := Lib.hid (HB1.out.trans (hb.mono HB1.out.size))
      clear hb c k0 k1 k2 k3 k4
      have c := fun W (h : BadP W p) => burst_nil p n n n W h
      go_wp2_with fail
      refine (c _ (HPQ.out _ HB2.out).1).mono ?_
      rintro e w1 ⟨rfl, hb⟩
      have HB3 := Lib.hid (HB2.out.trans (hb.mono HB2.out.size))
      clear hb c
      have c := fun W (h : BadP W p) => ack_bad p W h
      go_wp2_with fail
      refine (c _ (HPQ.out _ HB3.out).1).mono ?_
      rintro e w2 ⟨rfl, hb⟩
      have HB4 := Lib.hid (HB3.out.trans (hb.mono HB3.out.size))
      clear hb c
      have c := fun W (h : BadP W q) => take_nil q r W h
      obtain ⟨k0, k1, k2, k3, k4⟩ := (HX.out.keep HB4.out).all
      go_wp2_with fail
      refine (c _ (HPQ.out _ HB4.out).2.1).mono ?_
      rintro e w3 ⟨rfl, hb⟩
      have HB5 := Lib.hid (HB4.out.trans (hb.mono HB4.out.size))
      clear hb c k0 k1 k2 k3 k4
      have c := fun W (h : BadP W p) => held_bad p W h
      go_wp2_with fail
      refine (c _ (HPQ.out _ HB5.out).1).mono ?_
      rintro e w4 ⟨rfl, hb⟩
      have HB6 := Lib.hid (HB5.out.trans (hb.mono HB5.out.size))
      clear hb c
      have c := fun W (h : BadP W p) => used_bad p W h
      go_wp2_with fail
      refine (c _ (HPQ.out _ HB6.out).1).mono ?_
      rintro e w5 ⟨rfl, hb⟩
      have HB7 := Lib.hid (HB6.out.trans (hb.mono HB6.out.size))
      clear hb c
      have c := fun W (h : BadP W p) => copy_bad p W h
      go_wp2_with fail
      refine (c _ (HPQ.out _ HB7.out).1).mono ?_
      rintro e w6 ⟨rfl, hb⟩
      have HB8 := Lib.hid (HB7.out.trans (hb.mono HB7.out.size))
      clear hb c
      have c := fun W (h : BadP W q) => acks_bad q W h
      go_wp2_with fail
      refine (c _ (HPQ.out _ HB8.out).2.1).mono ?_
      rintro e w7 ⟨rfl, hb⟩
      have HB9 := Lib.hid (HB8.out.trans (hb.mono HB8.out.size))
      clear hb c
      have c := fun W (h : BadP W q) => records_bad q W h
      go_wp2_with fail
      refine (c _ (HPQ.out _ HB9.out).2.1).mono ?_
      rintro e w8 ⟨rfl, hb⟩
      have HB10 := Lib.hid (HB9.out.trans (hb.mono HB9.out.size))
      clear hb c
      have c := fun W (h : BadP W q) => icopy_bad q W h
      go_wp2_with fail
      refine (c _ (HPQ.out _ HB10.out).2.1).mono ?_
      rintro e w9 ⟨rfl, hb⟩
      have HB11 := Lib.hid (HB10.out.trans (hb.mono HB10.out.size))
      clear hb c
      go_wp2_with fail
      go_roundw
      case rel => exact ⟨i + 1, by omega, by go_num, HB11.out⟩
      case measure => simp [intOf]; omega
    · obtain rfl : i = 2 := by omega
      go_wp2_with fail
      refine (fine_any _).mono ?_
      rintro e wf ⟨rfl, hb⟩
      have HBF := Lib.hid (HBA.out.trans ((HB.out.trans (hb.mono HB.out.size)).mono HBA.out.size))
      clear hb
      go_wp2_with fail
      go_ret
      exact ⟨by first | rfl | simp, HBF.out⟩

end Go.Proofs.Ytbbaehmfadpgeaa

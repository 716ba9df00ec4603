/-
  Buffers: an ID is found; lists are compared; a record by small numbers.
-/
import Derived.Test.YtbbaehmfadpgeaaBfW
namespace Go.Proofs.Ytbbaehmfadpgeaa
open Go.RowKit Go.Shelf
set_option linter.unusedSimpArgs false
/-- where an ID is found -/
def FndP (L : List Hd) (id z : Int) : Prop := (z = -1 ∧ ∀ x ∈ L, x.r.id ≠ id) ∨ ∃ (k : Nat) (hk : k < L.length), z = k ∧ L[k].r.id = id
set_option maxHeartbeats 1000000 in
set_option maxRecDepth 100000 in
theorem find44_any (v : Value) (L : List Hd) (id : Int) (w : World) (h : HsAt w v L) (hlen : L.length ≤ 1000) : Calls Try.prog 44 #[v, .int .i64 id] w fun e w' => ∃ z, e = .returned (.int .i64 z) ∧ FndP L id z ∧ w' = w := by
  obtain ⟨p, c, rfl, hc⟩ := h.at
  have HC := Lib.hid (show ∀ k, k < L.length → ∃ (g : Nat) (y : Int), p = some ⟨g, 0, none⟩ ∧ w.cell? ⟨g, k * 7, none⟩ = some (.int .i64 y) ∧ (y = id → FndP L id k) ∧ (y ≠ id → (∀ x ∈ L.take k, x.r.id ≠ id) → ∀ x ∈ L.take (k + 1), x.r.id ≠ id) from fun k hk => by
    obtain ⟨g, e1, h2, h3, _⟩ := hc k hk
    refine ⟨g, _, e1, h3, fun e => .inr ⟨k, hk, rfl, e⟩, fun hn ha x hx => ?_⟩
    rw [List.take_succ_eq_append_getElem hk, List.mem_append] at hx
    rcases hx with hx | hx
    · exact ha x hx
    · rw [List.mem_singleton.1 hx]; exact hn)
  have HN := Lib.hid (show ∀ k, k = L.length → (∀ x ∈ L.take k, x.r.id ≠ id) → FndP L id (-1) from fun k e ha => .inl ⟨rfl, fun x hx => ha x (by rw [e, List.take_length]; exact hx)⟩)
  have hP0 : ∀ x ∈ L.take 0, x.r.id ≠ id := fun x hx => by simp at hx
  obtain ⟨PP, hPP⟩ : ∃ PP : Nat → Prop, ∀ k, PP k ↔ ∀ x ∈ L.take k, x.r.id ≠ id := ⟨_, fun k => Iff.rfl⟩
  simp only [← hPP] at HC HN hP0
  obtain ⟨RR, hRR⟩ : ∃ RR : Int → Prop, ∀ z, RR z ↔ FndP L id z := ⟨_, fun z => Iff.rfl⟩
  simp only [← hRR] at HC HN ⊢
  clear hPP hRR hc h
  generalize L.length = n at *
  go_enter Try.func44, Try.ntmps44
  go_wp2_with fail
  go_loopw [5] (fun iv wr => ∃ k : Nat, k ≤ n ∧ iv = .int .i64 k ∧ PP k ∧ wr = w) (fun iv _ => n - (intOf iv).toNat)
  case atStart => exact ⟨0, Nat.zero_le _, rfl, hP0, rfl⟩
  case round =>
    obtain ⟨k, hk, rfl, hP, rfl⟩ := hrel
    have HP := Lib.hid hP
    clear hP hP0
    by_cases hlt : k < n
    · obtain ⟨g, y, rfl, hy, hy1, hy2⟩ := HC.out k hlt
      have H1 := Lib.hid hy1
      have H2 := Lib.hid hy2
      clear hy1 hy2
      have hki : (k : Int) < (n : Int) := by omega
      by_cases he : y = id
      · have HR := Lib.hid (H1.out he)
        have heb : (y == id) = true := by rw [he]; simp
        clear he
        go_wp2_with fail
        go_ret
        exact ⟨_, rfl, HR.out, rfl⟩
      · have HR := Lib.hid (H2.out he HP.out)
        go_wp2_with fail
        go_roundw
        case rel => exact ⟨k + 1, by omega, by go_num, HR.out, by first | rfl | trivial⟩
        case measure => simp [intOf]; omega
    · obtain rfl : k = n := by omega
      have HR := Lib.hid (HN.out k (by first | rfl | trivial) HP.out)
      go_wp2_with fail
      go_ret
      exact ⟨_, rfl, HR.out, by first | rfl | trivial⟩
set_option maxHeartbeats 1000000 in
theorem bytes45_any (h : Hd) (w : World) : Calls Try.prog 45 #[vH h] w fun e w' => e = .returned (.int .i64 (byH h)) ∧ Below w.heap.size w w' := by
  obtain ⟨A, hA⟩ : ∃ A, A = w.alloc (.cells #[.int .i64 h.r.id, .int .i64 h.r.cls, .int .i64 h.r.made, .int .i64 h.r.size, .int .i64 h.r.packed, .bool h.small, .int .i64 h.sent] 82) := ⟨_, rfl⟩
  have HBA := Lib.hid (show Below w.heap.size w A by rw [hA]; exact ((Below.refl _ _).alloc (Nat.le_refl _) _))
  have HX := Lib.hid (show BxH A w.heap.size h by rw [hA]; exact BxH.new w h)
  have k3 : A.cell? ⟨w.heap.size, 3, none⟩ = some (.int .i64 h.r.size) := (cellH HX.out 3).trans (by simp)
  have k4 : A.cell? ⟨w.heap.size, 4, none⟩ = some (.int .i64 h.r.packed) := (cellH HX.out 4).trans (by simp)
  have k5 : A.cell? ⟨w.heap.size, 5, none⟩ = some (.bool h.small) := (cellH HX.out 5).trans (by simp)
  unfold vH byH
  cases hs : h.small
  · rw [hs] at hA k5
    rw [if_neg (by simp)]
    clear hs
    go_enter Try.func45, Try.ntmps45
    go_upto_region 1 with fail
    rw [← hA]
    clear hA
    go_wp2_with fail
    go_ret
    exact ⟨rfl, HBA.out⟩
  · rw [hs] at hA k5
    rw [if_pos rfl]
    clear hs
    go_enter Try.func45, Try.ntmps45
    go_upto_region 1 with fail
    rw [← hA]
    clear hA
    go_wp2_with fail
    go_ret
    exact ⟨rfl, HBA.out⟩
set_option maxHeartbeats 2000000 in
set_option maxRecDepth 100000 in
theorem held_same (u v : Value) (L : List Hd) (w : World) (h : HsAt w u L) (h2 : HsAt w v L) (hlen : L.length ≤ 1000) : Calls Try.prog 30 #[u, v] w fun e w' => e = .returned (.bool true) ∧ Below w.heap.size w w' := by
  obtain ⟨p, c, rfl, hc⟩ := h.at
  obtain ⟨p', c', rfl, hc'⟩ := h2.at
  have HC := Lib.hid (show ∀ k, k < L.length → ∃ (g g' : Nat) (x : Hd), p = some ⟨g, 0, none⟩ ∧ p' = some ⟨g', 0, none⟩ ∧ (∀ W, Below w.heap.size w W → (W.cell? ⟨g, k * 7, none⟩ = some (Value.int .i64 x.r.id) ∧ W.cell? ⟨g, k * 7 + 1, none⟩ = some (Value.int .i64 x.r.cls) ∧ W.cell? ⟨g, k * 7 + 2, none⟩ = some (Value.int .i64 x.r.made) ∧ W.cell? ⟨g, k * 7 + 3, none⟩ = some (Value.int .i64 x.r.size) ∧ W.cell? ⟨g, k * 7 + 4, none⟩ = some (Value.int .i64 x.r.packed) ∧ W.cell? ⟨g, k * 7 + 5, none⟩ = some (Value.bool x.small) ∧ W.cell? ⟨g, k * 7 + 6, none⟩ = some (Value.int .i64 x.sent)) ∧ (W.cell? ⟨g', k * 7, none⟩ = some (Value.int .i64 x.r.id) ∧ W.cell? ⟨g', k * 7 + 1, none⟩ = some (Value.int .i64 x.r.cls) ∧ W.cell? ⟨g', k * 7 + 2, none⟩ = some (Value.int .i64 x.r.made) ∧ W.cell? ⟨g', k * 7 + 3, none⟩ = some (Value.int .i64 x.r.size) ∧ W.cell? ⟨g', k * 7 + 4, none⟩ = some (Value.int .i64 x.r.packed) ∧ W.cell? ⟨g', k * 7 + 5, none⟩ = some (Value.bool x.small) ∧ W.cell? ⟨g', k * 7 + 6, none⟩ = some (Value.int .i64 x.sent))) from fun k hk => by
    obtain ⟨g, e1, h2, h3⟩ := hc k hk
    obtain ⟨g', e1', h2', h3'⟩ := hc' k hk
    refine ⟨g, g', L[k], e1, e1', fun W hW => ⟨⟨(hW.cell (p := ⟨g, k * 7, none⟩) h2).trans h3.1, (hW.cell (p := ⟨g, k * 7 + 1, none⟩) h2).trans h3.2.1, (hW.cell (p := ⟨g, k * 7 + 2, none⟩) h2).trans h3.2.2.1, (hW.cell (p := ⟨g, k * 7 + 3, none⟩) h2).trans h3.2.2.2.1, (hW.cell (p := ⟨g, k * 7 + 4, none⟩) h2).trans h3.2.2.2.2.1, (hW.cell (p := ⟨g, k * 7 + 5, none⟩) h2).trans h3.2.2.2.2.2.1, (hW.cell (p := ⟨g, k * 7 + 6, none⟩) h2).trans h3.2.2.2.2.2.2⟩, (hW.cell (p := ⟨g', k * 7, none⟩) h2').trans h3'.1, (hW.cell (p := ⟨g', k * 7 + 1, none⟩) h2').trans h3'.2.1, (hW.cell (p := ⟨g', k * 7 + 2, none⟩) h2').trans h3'.2.2.1, (hW.cell (p := ⟨g', k * 7 + 3, none⟩) h2').trans h3'.2.2.2.1, (hW.cell (p := ⟨g', k * 7 + 4, none⟩) h2').trans h3'.2.2.2.2.1, (hW.cell (p := ⟨g', k * 7 + 5, none⟩) h2').trans h3'.2.2.2.2.2.1, (hW.cell (p := ⟨g', k * 7 + 6, none⟩) h2').trans h3'.2.2.2.2.2.2⟩⟩)
  clear hc hc' h h2
  generalize L.length = n at *
  go_enter Try.func30, Try.ntmps30
  go_wp2_with fail
  go_loopw [5] (fun iv wr => ∃ k : Nat, k ≤ n ∧ iv = .int .i64 k ∧ Below w.heap.size w wr) (fun iv _ => n - (intOf iv).toNat)
  case atStart => exact ⟨0, Nat.zero_le _, rfl, Below.refl _ _⟩
  case round =>
    obtain ⟨k, hk, rfl, hB⟩ := hrel
    have HB := Lib.hid hB
    clear hB
    by_cases hlt : k < n
    · obtain ⟨g, g', x, rfl, rfl, hx⟩ := HC.out k hlt
      have KS := Lib.hid (show ∀ W, Below w.heap.size w W → W.cell? ⟨g, k * 7, none⟩ = some (Value.int .i64 x.r.id) ∧ W.cell? ⟨g, k * 7 + 1, none⟩ = some (Value.int .i64 x.r.cls) ∧ W.cell? ⟨g, k * 7 + 2, none⟩ = some (Value.int .i64 x.r.made) ∧ W.cell? ⟨g, k * 7 + 3, none⟩ = some (Value.int .i64 x.r.size) ∧ W.cell? ⟨g, k * 7 + 4, none⟩ = some (Value.int .i64 x.r.packed) ∧ W.cell? ⟨g, k * 7 + 5, none⟩ = some (Value.bool x.small) ∧ W.cell? ⟨g, k * 7 + 6, none⟩ = some (Value.int .i64 x.sent) ∧ W.cell? ⟨g', k * 7, none⟩ = some (Value.int .i64 x.r.id) ∧ W.cell? ⟨g', k * 7 + 1, none⟩ = some (Value.int .i64 x.r.cls) ∧ W.cell? ⟨g', k * 7 + 2, none⟩ = some (Value.int .i64 x.r.made) ∧ W.cell? ⟨g', k * 7 + 3, none⟩ = some (Value.int .i64 x.r.size) ∧ W.cell? ⟨g', k * 7 + 4, none⟩ = some (Value.int .i64 x.r.packed) ∧ W.cell? ⟨g', k * 7 + 5, none⟩ = some (Value.bool x.small) ∧ W.cell? ⟨g', k * 7 + 6, none⟩ = some (Value.int .i64 x.sent) from fun W hW => by
        obtain ⟨⟨a0, a1, a2, a3, a4, a5, a6⟩, b0, b1, b2, b3, b4, b5, b6⟩ := hx W hW
        exact ⟨a0, a1, a2, a3, a4, a5, a6, b0, b1, b2, b3, b4, b5, b6⟩)
      have hki : (k : Int) < (n : Int) := by omega
      clear hx
      go_upto_region 6 with fail
      refine wp_region_held_drew (S := fun w' => w'.cell? ⟨g, k * 7, none⟩ = some (Value.int .i64 x.r.id) ∧ w'.cell? ⟨g, k * 7 + 1, none⟩ = some (Value.int .i64 x.r.cls) ∧ w'.cell? ⟨g, k * 7 + 2, none⟩ = some (Value.int .i64 x.r.made) ∧ w'.cell? ⟨g, k * 7 + 3, none⟩ = some (Value.int .i64 x.r.size) ∧ w'.cell? ⟨g, k * 7 + 4, none⟩ = some (Value.int .i64 x.r.packed) ∧ w'.cell? ⟨g, k * 7 + 5, none⟩ = some (Value.bool x.small) ∧ w'.cell? ⟨g, k * 7 + 6, none⟩ = some (Value.int .i64 x.sent) ∧ w'.cell? ⟨g', k * 7, none⟩ = some (Value.int .i64 x.r.id) ∧ w'.cell? ⟨g', k * 7 + 1, none⟩ = some (Value.int .i64 x.r.cls) ∧ w'.cell? ⟨g', k * 7 + 2, none⟩ = some (Value.int .i64 x.r.made) ∧ w'.cell? ⟨g', k * 7 + 3, none⟩ = some (Value.int .i64 x.r.size) ∧ w'.cell? ⟨g', k * 7 + 4, none⟩ = some (Value.int .i64 x.r.packed) ∧ w'.cell? ⟨g', k * 7 + 5, none⟩ = some (Value.bool x.small) ∧ w'.cell? ⟨g', k * 7 + 6, none⟩ = some (Value.int .i64 x.sent)) (by kernel_rfl) (KS.out _ HB.out.drew) (fun hHeld => ?_)
      refine wpAnyH_take (i := 0) (oi := _) (v := Value.slice (some ⟨g, 0, none⟩) n c) rfl (by kernel_rfl) (by kernel_rfl) (by kernel_rfl) (fun _ _ _ h => h) (Or.inl ⟨by rfl, fun w' hSw => ?_⟩) hHeld ?_
      · obtain ⟨t0, t1, t2, t3, t4, t5, t6, t7, t8, t9, t10, t11, t12, t13⟩ := hSw
        go_simp
        try simp [*]
        try (intro hh; exfalso; omega)
        try omega
      try simp only [Act.put, List.setIfInBounds_toArray, List.set_cons_zero, List.set_cons_succ, List.getElem_toArray, List.getElem_cons_succ, List.getElem_cons_zero]
      refine wpAnyH_take (i := 1) (oi := _) (v := Value.int .i64 (k : Int)) rfl (by kernel_rfl) (by kernel_rfl) (by kernel_rfl) (fun _ _ _ h => h) (Or.inl ⟨by rfl, fun w' hSw => ?_⟩) hHeld ?_
      · obtain ⟨t0, t1, t2, t3, t4, t5, t6, t7, t8, t9, t10, t11, t12, t13⟩ := hSw
        go_simp
        try simp [*]
        try (intro hh; exfalso; omega)
        try omega
      try simp only [Act.put, List.setIfInBounds_toArray, List.set_cons_zero, List.set_cons_succ, List.getElem_toArray, List.getElem_cons_succ, List.getElem_cons_zero]
      refine wpAnyH_take (i := 2) (oi := _) (v := Value.pointer (some ⟨g, k * 7, none⟩)) rfl (by kernel_rfl) (by kernel_rfl) (by kernel_rfl) (fun _ _ _ h => h) (Or.inl ⟨by rfl, fun w' hSw => ?_⟩) hHeld ?_
      · obtain ⟨t0, t1, t2, t3, t4, t5, t6, t7, t8, t9, t10, t11, t12, t13⟩ := hSw
        go_simp
        try simp [*]
        try (intro hh; exfalso; omega)
        try omega
      try simp only [Act.put, List.setIfInBounds_toArray, List.set_cons_zero, List.set_cons_succ, List.getElem_toArray, List.getElem_cons_succ, List.getElem_cons_zero]
      refine wpAnyH_take (i := 3) (oi := _) (v := Value.agg #[Value.int .i64 x.r.id, Value.int .i64 x.r.cls, Value.int .i64 x.r.made, Value.int .i64 x.r.size, Value.int .i64 x.r.packed, Value.bool x.small, Value.int .i64 x.sent]) rfl (by kernel_rfl) (by kernel_rfl) (by kernel_rfl) (fun _ _ _ h => h) (Or.inl ⟨by rfl, fun w' hSw => ?_⟩) hHeld ?_
      · obtain ⟨t0, t1, t2, t3, t4, t5, t6, t7, t8, t9, t10, t11, t12, t13⟩ := hSw
        go_simp
        try simp [*]
        try (intro hh; exfalso; omega)
        try omega
      try simp only [Act.put, List.setIfInBounds_toArray, List.set_cons_zero, List.set_cons_succ, List.getElem_toArray, List.getElem_cons_succ, List.getElem_cons_zero]
      refine wpAnyH_take (i := 4) (oi := _) (v := Value.slice (some ⟨g', 0, none⟩) n c') rfl (by kernel_rfl) (by kernel_rfl) (by kernel_rfl) (fun _ _ _ h => h) (Or.inl ⟨by rfl, fun w' hSw => ?_⟩) hHeld ?_
      · obtain ⟨t0, t1, t2, t3, t4, t5, t6, t7, t8, t9, t10, t11, t12, t13⟩ := hSw
        go_simp
        try simp [*]
        try (intro hh; exfalso; omega)
        try omega
      try simp only [Act.put, List.setIfInBounds_toArray, List.set_cons_zero, List.set_cons_succ, List.getElem_toArray, List.getElem_cons_succ, List.getElem_cons_zero]
      refine wpAnyH_take (i := 5) (oi := _) (v := Value.int .i64 (k : Int)) rfl (by kernel_rfl) (by kernel_rfl) (by kernel_rfl) (fun _ _ _ h => h) (Or.inl ⟨by rfl, fun w' hSw => ?_⟩) hHeld ?_
      · obtain ⟨t0, t1, t2, t3, t4, t5, t6, t7, t8, t9, t10, t11, t12, t13⟩ := hSw
        go_simp
        try simp [*]
        try (intro hh; exfalso; omega)
        try omega
      try simp only [Act.put, List.setIfInBounds_toArray, List.set_cons_zero, List.set_cons_succ, List.getElem_toArray, List.getElem_cons_succ, List.getElem_cons_zero]
      refine wpAnyH_take (i := 6) (oi := _) (v := Value.pointer (some ⟨g', k * 7, none⟩)) rfl (by kernel_rfl) (by kernel_rfl) (by kernel_rfl) (fun _ _ _ h => h) (Or.inl ⟨by rfl, fun w' hSw => ?_⟩) hHeld ?_
      · obtain ⟨t0, t1, t2, t3, t4, t5, t6, t7, t8, t9, t10, t11, t12, t13⟩ := hSw
        go_simp
        try simp [*]
        try (intro hh; exfalso; omega)
        try omega
      try simp only [Act.put, List.setIfInBounds_toArray, List.set_cons_zero, List.set_cons_succ, List.getElem_toArray, List.getElem_cons_succ, List.getElem_cons_zero]
      refine wpAnyH_take (i := 7) (oi := _) (v := Value.agg #[Value.int .i64 x.r.id, Value.int .i64 x.r.cls, Value.int .i64 x.r.made, Value.int .i64 x.r.size, Value.int .i64 x.r.packed, Value.bool x.small, Value.int .i64 x.sent]) rfl (by kernel_rfl) (by kernel_rfl) (by kernel_rfl) (fun _ _ _ h => h) (Or.inl ⟨by rfl, fun w' hSw => ?_⟩) hHeld ?_
      · obtain ⟨t0, t1, t2, t3, t4, t5, t6, t7, t8, t9, t10, t11, t12, t13⟩ := hSw
        go_simp
        try simp [*]
        try (intro hh; exfalso; omega)
        try omega
      try simp only [Act.put, List.setIfInBounds_toArray, List.set_cons_zero, List.set_cons_succ, List.getElem_toArray, List.getElem_cons_succ, List.getElem_cons_zero]
      refine wpAnyH_take (i := 8) (oi := _) (v := Value.bool false) rfl (by kernel_rfl) (by kernel_rfl) (by kernel_rfl) (fun _ _ _ h => h) (Or.inl ⟨by rfl, fun w' hSw => ?_⟩) hHeld ?_
      · obtain ⟨t0, t1, t2, t3, t4, t5, t6, t7, t8, t9, t10, t11, t12, t13⟩ := hSw
        go_simp
        try simp [*]
        try (intro hh; exfalso; omega)
        try omega
      try simp only [Act.put, List.setIfInBounds_toArray, List.set_cons_zero, List.set_cons_succ, List.getElem_toArray, List.getElem_cons_succ, List.getElem_cons_zero]
      refine wpAnyH_done (by kernel_rfl) ?_ _
      clear hHeld
      go_wp2_with fail
      go_roundw
      case rel => exact ⟨k + 1, by omega, by go_num, HB.out.drew⟩
      case measure => simp [intOf]; omega
    · obtain rfl : k = n := by omega
      go_wp2_with fail
      go_ret
      exact ⟨rfl, HB.out⟩
/-- a record by small numbers -/
def recP (p0 p1 p2 p3 p4 : Int) : Rc := ⟨p0 % 64, p1 % 10, p2 % 16, 1 + p3, 1 + p4 % (1 + p3)⟩
def U8 (x : Int) : Prop := 0 ≤ x ∧ x ≤ 255
theorem recP_ok {p0 p1 p2 p3 p4 : Int} (h3 : U8 p3) : OkR (recP p0 p1 p2 p3 p4) := by
  unfold U8 at *
  unfold OkR recP
  have a1 := Int.emod_nonneg p4 (show (1 + p3) ≠ 0 by omega)
  have a2 := Int.emod_lt_of_pos p4 (show 0 < 1 + p3 by omega)
  simp only
  omega
set_option maxHeartbeats 2000000 in
set_option maxRecDepth 100000 in
theorem record_any (p0 p1 p2 p3 p4 : Int) (h0 : U8 p0) (h1 : U8 p1) (h2 : U8 p2) (h3 : U8 p3) (h4 : U8 p4) (w : World) : Calls Try.prog 43 #[.agg #[.int .u8 p0, .int .u8 p1, .int .u8 p2, .int .u8 p3, .int .u8 p4]] w fun e w' => e = .returned (vR (recP p0 p1 p2 p3 p4)) ∧ Below w.heap.size w w' := by
  obtain ⟨A, hA⟩ : ∃ A, A = (w.alloc (.cells #[.int .u8 p0, .int .u8 p1, .int .u8 p2, .int .u8 p3, .int .u8 p4] 77)).alloc (.cells #[.int .i64 0, .int .i64 0, .int .i64 0, .int .i64 0, .int .i64 0] 23) := ⟨_, rfl⟩
  have HBA := Lib.hid (show Below w.heap.size w A by rw [hA]; exact ((Below.refl _ _).alloc (Nat.le_refl _) _).alloc (by simp) _)
  have hX : A.heap[w.heap.size]? = some (.cells #[.int .u8 p0, .int .u8 p1, .int .u8 p2, .int .u8 p3, .int .u8 p4] 77 (0, 0)) := by rw [hA]; exact (Below.heap_alloc _ _ _ (by simp)).trans (World.alloc_heap_new _ _)
  have hY : A.heap[w.heap.size + 1]? = some (.cells #[.int .i64 0, .int .i64 0, .int .i64 0, .int .i64 0, .int .i64 0] 23 (0, 0)) := by
    rw [hA]
    have q := World.alloc_heap_new (w.alloc (.cells #[.int .u8 p0, .int .u8 p1, .int .u8 p2, .int .u8 p3, .int .u8 p4] 77)) (.cells #[.int .i64 0, .int .i64 0, .int .i64 0, .int .i64 0, .int .i64 0] 23)
    simpa using q
  unfold U8 at *
  have HE := Lib.hid (show vR (recP p0 p1 p2 p3 p4) = .agg #[.int .i64 (p0.tmod 64), .int .i64 (p1.tmod 10), .int .i64 (p2.tmod 16), .int .i64 (1 + p3), .int .i64 (1 + p4.tmod (1 + p3))] by
    unfold vR recP
    rw [Int.tmod_eq_emod_of_nonneg h0.1, Int.tmod_eq_emod_of_nonneg h1.1, Int.tmod_eq_emod_of_nonneg h2.1, Int.tmod_eq_emod_of_nonneg h4.1])
  have b4 : 0 ≤ p4.tmod (1 + p3) ∧ p4.tmod (1 + p3) < 1 + p3 := by
    rw [Int.tmod_eq_emod_of_nonneg h4.1]
    exact ⟨Int.emod_nonneg _ (by omega), Int.emod_lt_of_pos _ (by omega)⟩
  obtain ⟨k0, k1, k2, k3, k4⟩ : A.cell? ⟨w.heap.size, 0, none⟩ = some (.int .u8 p0) ∧ A.cell? ⟨w.heap.size, 1, none⟩ = some (.int .u8 p1) ∧ A.cell? ⟨w.heap.size, 2, none⟩ = some (.int .u8 p2) ∧ A.cell? ⟨w.heap.size, 3, none⟩ = some (.int .u8 p3) ∧ A.cell? ⟨w.heap.size, 4, none⟩ = some (.int .u8 p4) := ⟨(cellH hX 0).trans (by simp), (cellH hX 1).trans (by simp), (cellH hX 2).trans (by simp), (cellH hX 3).trans (by simp), (cellH hX 4).trans (by simp)⟩
  obtain ⟨j0, j1, j2, j3, j4⟩ : A.cell? ⟨w.heap.size + 1, 0, none⟩ = some (.int .i64 0) ∧ A.cell? ⟨w.heap.size + 1, 1, none⟩ = some (.int .i64 0) ∧ A.cell? ⟨w.heap.size + 1, 2, none⟩ = some (.int .i64 0) ∧ A.cell? ⟨w.heap.size + 1, 3, none⟩ = some (.int .i64 0) ∧ A.cell? ⟨w.heap.size + 1, 4, none⟩ = some (.int .i64 0) := ⟨(cellH hY 0).trans (by simp), (cellH hY 1).trans (by simp), (cellH hY 2).trans (by simp), (cellH hY 3).trans (by simp), (cellH hY 4).trans (by simp)⟩
  obtain ⟨f0, f1, f2, f3, f4⟩ : A.frozen? ⟨w.heap.size + 1, 0, none⟩ = false ∧ A.frozen? ⟨w.heap.size + 1, 1, none⟩ = false ∧ A.frozen? ⟨w.heap.size + 1, 2, none⟩ = false ∧ A.frozen? ⟨w.heap.size + 1, 3, none⟩ = false ∧ A.frozen? ⟨w.heap.size + 1, 4, none⟩ = false := ⟨frozH hY 0, frozH hY 1, frozH hY 2, frozH hY 3, frozH hY 4⟩
  have HY := Lib.hid hY
  clear hX hY
  have t0 := Int.tmod_lt_of_pos p0 (show (0 : Int) < 64 by omega)
  have t1 := Int.tmod_lt_of_pos p1 (show (0 : Int) < 10 by omega)
  have t2 := Int.tmod_lt_of_pos p2 (show (0 : Int) < 16 by omega)
  have t0b := Int.tmod_nonneg 64 h0.1
  have t1b := Int.tmod_nonneg 10 h1.1
  have t2b := Int.tmod_nonneg 16 h2.1
  have hw0 : IntKind.i64.wrap p0 = p0 := by rw [IntKind.wrap_i64]; omega
  have hw1 : IntKind.i64.wrap p1 = p1 := by rw [IntKind.wrap_i64]; omega
  have hw2 : IntKind.i64.wrap p2 = p2 := by rw [IntKind.wrap_i64]; omega
  have hw3 : IntKind.i64.wrap p3 = p3 := by rw [IntKind.wrap_i64]; omega
  have hw4 : IntKind.i64.wrap p4 = p4 := by rw [IntKind.wrap_i64]; omega
  have hw5 : IntKind.i64.wrap (p0.tmod 64) = (p0.tmod 64) := by rw [IntKind.wrap_i64]; omega
  have hw6 : IntKind.i64.wrap (p1.tmod 10) = (p1.tmod 10) := by rw [IntKind.wrap_i64]; omega
  have hw7 : IntKind.i64.wrap (p2.tmod 16) = (p2.tmod 16) := by rw [IntKind.wrap_i64]; omega
  have hw8 : IntKind.i64.wrap (1 + p3) = (1 + p3) := by rw [IntKind.wrap_i64]; omega
  have hw9 : IntKind.i64.wrap (p4.tmod (1 + p3)) = (p4.tmod (1 + p3)) := by rw [IntKind.wrap_i64]; omega
  have hw10 : IntKind.i64.wrap (1 + p4.tmod (1 + p3)) = (1 + p4.tmod (1 + p3)) := by rw [IntKind.wrap_i64]; omega
  go_enter Try.func43, Try.ntmps43
  go_upto_region 1 with fail
  rw [← hA]
  clear hA
  go_upto_region 2 with fail
  refine wp_region_held_drew (S := fun w' => w'.cell? ⟨w.heap.size, 0, none⟩ = some (Value.int .u8 p0) ∧ w'.cell? ⟨w.heap.size, 1, none⟩ = some (Value.int .u8 p1) ∧ w'.cell? ⟨w.heap.size, 2, none⟩ = some (Value.int .u8 p2) ∧ w'.cell? ⟨w.heap.size, 3, none⟩ = some (Value.int .u8 p3) ∧ w'.cell? ⟨w.heap.size, 4, none⟩ = some (Value.int .u8 p4)) (by kernel_rfl) ⟨by simpa [go_sem] using k0, by simpa [go_sem] using k1, by simpa [go_sem] using k2, by simpa [go_sem] using k3, by simpa [go_sem] using k4⟩ (fun hHeld => ?_)
  refine wpAnyH_take (i := 0) (oi := _) (v := Value.pointer (some ⟨w.heap.size, 0, none⟩)) rfl (by kernel_rfl) (by kernel_rfl) (by kernel_rfl) (fun _ _ _ h => h) (Or.inl ⟨by rfl, fun w' hSw => ?_⟩) hHeld ?_
  · obtain ⟨t0, t1, t2, t3, t4⟩ := hSw
    go_simp
    try simp [*]
    try (intro hh; exfalso; omega)
    try omega
  try simp only [Act.put, List.setIfInBounds_toArray, List.set_cons_zero, List.set_cons_succ, List.getElem_toArray, List.getElem_cons_succ, List.getElem_cons_zero]
  refine wpAnyH_take (i := 1) (oi := _) (v := Value.int .u8 p0) rfl (by kernel_rfl) (by kernel_rfl) (by kernel_rfl) (fun _ _ _ h => h) (Or.inl ⟨by rfl, fun w' hSw => ?_⟩) hHeld ?_
  · obtain ⟨t0, t1, t2, t3, t4⟩ := hSw
    go_simp
    try simp [*]
    try (intro hh; exfalso; omega)
    try omega
  try simp only [Act.put, List.setIfInBounds_toArray, List.set_cons_zero, List.set_cons_succ, List.getElem_toArray, List.getElem_cons_succ, List.getElem_cons_zero]
  refine wpAnyH_take (i := 2) (oi := _) (v := Value.int .i64 p0) rfl (by kernel_rfl) (by kernel_rfl) (by kernel_rfl) (fun _ _ _ h => h) (Or.inl ⟨by rfl, fun w' hSw => ?_⟩) hHeld ?_
  · obtain ⟨t0, t1, t2, t3, t4⟩ := hSw
    go_simp
    try simp [*]
    try (intro hh; exfalso; omega)
    try omega
  try simp only [Act.put, List.setIfInBounds_toArray, List.set_cons_zero, List.set_cons_succ, List.getElem_toArray, List.getElem_cons_succ, List.getElem_cons_zero]
  refine wpAnyH_take (i := 3) (oi := _) (v := Value.int .i64 (p0.tmod 64)) rfl (by kernel_rfl) (by kernel_rfl) (by kernel_rfl) (fun _ _ _ h => h) (Or.inl ⟨by rfl, fun w' hSw => ?_⟩) hHeld ?_
  · obtain ⟨t0, t1, t2, t3, t4⟩ := hSw
    go_simp
    try simp [*]
    try (intro hh; exfalso; omega)
    try omega
  try simp only [Act.put, List.setIfInBounds_toArray, List.set_cons_zero, List.set_cons_succ, List.getElem_toArray, List.getElem_cons_succ, List.getElem_cons_zero]
  refine wpAnyH_take (i := 4) (oi := _) (v := Value.pointer (some ⟨w.heap.size, 1, none⟩)) rfl (by kernel_rfl) (by kernel_rfl) (by kernel_rfl) (fun _ _ _ h => h) (Or.inl ⟨by rfl, fun w' hSw => ?_⟩) hHeld ?_
  · obtain ⟨t0, t1, t2, t3, t4⟩ := hSw
    go_simp
    try simp [*]
    try (intro hh; exfalso; omega)
    try omega
  try simp only [Act.put, List.setIfInBounds_toArray, List.set_cons_zero, List.set_cons_succ, List.getElem_toArray, List.getElem_cons_succ, List.getElem_cons_zero]
  refine wpAnyH_take (i := 5) (oi := _) (v := Value.int .u8 p1) rfl (by kernel_rfl) (by kernel_rfl) (by kernel_rfl) (fun _ _ _ h => h) (Or.inl ⟨by rfl, fun w' hSw => ?_⟩) hHeld ?_
  · obtain ⟨t0, t1, t2, t3, t4⟩ := hSw
    go_simp
    try simp [*]
    try (intro hh; exfalso; omega)
    try omega
  try simp only [Act.put, List.setIfInBounds_toArray, List.set_cons_zero, List.set_cons_succ, List.getElem_toArray, List.getElem_cons_succ, List.getElem_cons_zero]
  refine wpAnyH_take (i := 6) (oi := _) (v := Value.int .i64 p1) rfl (by kernel_rfl) (by kernel_rfl) (by kernel_rfl) (fun _ _ _ h => h) (Or.inl ⟨by rfl, fun w' hSw => ?_⟩) hHeld ?_
  · obtain ⟨t0, t1, t2, t3, t4⟩ := hSw
    go_simp
    try simp [*]
    try (intro hh; exfalso; omega)
    try omega
  try simp only [Act.put, List.setIfInBounds_toArray, List.set_cons_zero, List.set_cons_succ, List.getElem_toArray, List.getElem_cons_succ, List.getElem_cons_zero]
  refine wpAnyH_take (i := 7) (oi := _) (v := Value.int .i64 (p1.tmod 10)) rfl (by kernel_rfl) (by kernel_rfl) (by kernel_rfl) (fun _ _ _ h => h) (Or.inl ⟨by rfl, fun w' hSw => ?_⟩) hHeld ?_
  · obtain ⟨t0, t1, t2, t3, t4⟩ := hSw
    go_simp
    try simp [*]
    try (intro hh; exfalso; omega)
    try omega
  try simp only [Act.put, List.setIfInBounds_toArray, List.set_cons_zero, List.set_cons_succ, List.getElem_toArray, List.getElem_cons_succ, List.getElem_cons_zero]
  refine wpAnyH_take (i := 8) (oi := _) (v := Value.pointer (some ⟨w.heap.size, 2, none⟩)) rfl (by kernel_rfl) (by kernel_rfl) (by kernel_rfl) (fun _ _ _ h => h) (Or.inl ⟨by rfl, fun w' hSw => ?_⟩) hHeld ?_
  · obtain ⟨t0, t1, t2, t3, t4⟩ := hSw
    go_simp
    try simp [*]
    try (intro hh; exfalso; omega)
    try omega
  try simp only [Act.put, List.setIfInBounds_toArray, List.set_cons_zero, List.set_cons_succ, List.getElem_toArray, List.getElem_cons_succ, List.getElem_cons_zero]
  refine wpAnyH_take (i := 9) (oi := _) (v := Value.int .u8 p2) rfl (by kernel_rfl) (by kernel_rfl) (by kernel_rfl) (fun _ _ _ h => h) (Or.inl ⟨by rfl, fun w' hSw => ?_⟩) hHeld ?_
  · obtain ⟨t0, t1, t2, t3, t4⟩ := hSw
    go_simp
    try simp [*]
    try (intro hh; exfalso; omega)
    try omega
  try simp only [Act.put, List.setIfInBounds_toArray, List.set_cons_zero, List.set_cons_succ, List.getElem_toArray, List.getElem_cons_succ, List.getElem_cons_zero]
  refine wpAnyH_take (i := 10) (oi := _) (v := Value.int .i64 p2) rfl (by kernel_rfl) (by kernel_rfl) (by kernel_rfl) (fun _ _ _ h => h) (Or.inl ⟨by rfl, fun w' hSw => ?_⟩) hHeld ?_
  · obtain ⟨t0, t1, t2, t3, t4⟩ := hSw
    go_simp
    try simp [*]
    try (intro hh; exfalso; omega)
    try omega
  try simp only [Act.put, List.setIfInBounds_toArray, List.set_cons_zero, List.set_cons_succ, List.getElem_toArray, List.getElem_cons_succ, List.getElem_cons_zero]
  refine wpAnyH_take (i := 11) (oi := _) (v := Value.int .i64 (p2.tmod 16)) rfl (by kernel_rfl) (by kernel_rfl) (by kernel_rfl) (fun _ _ _ h => h) (Or.inl ⟨by rfl, fun w' hSw => ?_⟩) hHeld ?_
  · obtain ⟨t0, t1, t2, t3, t4⟩ := hSw
    go_simp
    try simp [*]
    try (intro hh; exfalso; omega)
    try omega
  try simp only [Act.put, List.setIfInBounds_toArray, List.set_cons_zero, List.set_cons_succ, List.getElem_toArray, List.getElem_cons_succ, List.getElem_cons_zero]
  refine wpAnyH_take (i := 12) (oi := _) (v := Value.int .i64 (1 + p3)) rfl (by kernel_rfl) (by kernel_rfl) (by kernel_rfl) (fun _ _ _ h => h) (Or.inl ⟨by rfl, fun w' hSw => ?_⟩) hHeld ?_
  · obtain ⟨t0, t1, t2, t3, t4⟩ := hSw
    go_simp
    try simp [*]
    try (intro hh; exfalso; omega)
    try omega
  try simp only [Act.put, List.setIfInBounds_toArray, List.set_cons_zero, List.set_cons_succ, List.getElem_toArray, List.getElem_cons_succ, List.getElem_cons_zero]
  refine wpAnyH_take (i := 13) (oi := _) (v := Value.pointer (some ⟨w.heap.size, 4, none⟩)) rfl (by kernel_rfl) (by kernel_rfl) (by kernel_rfl) (fun _ _ _ h => h) (Or.inl ⟨by rfl, fun w' hSw => ?_⟩) hHeld ?_
  · obtain ⟨t0, t1, t2, t3, t4⟩ := hSw
    go_simp
    try simp [*]
    try (intro hh; exfalso; omega)
    try omega
  try simp only [Act.put, List.setIfInBounds_toArray, List.set_cons_zero, List.set_cons_succ, List.getElem_toArray, List.getElem_cons_succ, List.getElem_cons_zero]
  refine wpAnyH_take (i := 14) (oi := _) (v := Value.int .u8 p4) rfl (by kernel_rfl) (by kernel_rfl) (by kernel_rfl) (fun _ _ _ h => h) (Or.inl ⟨by rfl, fun w' hSw => ?_⟩) hHeld ?_
  · obtain ⟨t0, t1, t2, t3, t4⟩ := hSw
    go_simp
    try simp [*]
    try (intro hh; exfalso; omega)
    try omega
  try simp only [Act.put, List.setIfInBounds_toArray, List.set_cons_zero, List.set_cons_succ, List.getElem_toArray, List.getElem_cons_succ, List.getElem_cons_zero]
  refine wpAnyH_take (i := 15) (oi := _) (v := Value.int .i64 p4) rfl (by kernel_rfl) (by kernel_rfl) (by kernel_rfl) (fun _ _ _ h => h) (Or.inl ⟨by rfl, fun w' hSw => ?_⟩) hHeld ?_
  · obtain ⟨t0, t1, t2, t3, t4⟩ := hSw
    go_simp
    try simp [*]
    try (intro hh; exfalso; omega)
    try omega
  try simp only [Act.put, List.setIfInBounds_toArray, List.set_cons_zero, List.set_cons_succ, List.getElem_toArray, List.getElem_cons_succ, List.getElem_cons_zero]
  refine wpAnyH_take (i := 16) (oi := _) (v := Value.int .i64 (1 + p3)) rfl (by kernel_rfl) (by kernel_rfl) (by kernel_rfl) (fun _ _ _ h => h) (Or.inl ⟨by rfl, fun w' hSw => ?_⟩) hHeld ?_
  · obtain ⟨t0, t1, t2, t3, t4⟩ := hSw
    go_simp
    try simp [*]
    try (intro hh; exfalso; omega)
    try omega
  try simp only [Act.put, List.setIfInBounds_toArray, List.set_cons_zero, List.set_cons_succ, List.getElem_toArray, List.getElem_cons_succ, List.getElem_cons_zero]
  refine wpAnyH_take (i := 17) (oi := _) (v := Value.int .i64 (p4.tmod (1 + p3))) rfl (by kernel_rfl) (by kernel_rfl) (by kernel_rfl) (fun _ _ _ h => h) (Or.inl ⟨by rfl, fun w' hSw => ?_⟩) hHeld ?_
  · obtain ⟨t0, t1, t2, t3, t4⟩ := hSw
    go_simp
    try simp [*]
    try (intro hh; exfalso; omega)
    try omega
  try simp only [Act.put, List.setIfInBounds_toArray, List.set_cons_zero, List.set_cons_succ, List.getElem_toArray, List.getElem_cons_succ, List.getElem_cons_zero]
  refine wpAnyH_take (i := 18) (oi := _) (v := Value.int .i64 (1 + p4.tmod (1 + p3))) rfl (by kernel_rfl) (by kernel_rfl) (by kernel_rfl) (fun _ _ _ h => h) (Or.inl ⟨by rfl, fun w' hSw => ?_⟩) hHeld ?_
  · obtain ⟨t0, t1, t2, t3, t4⟩ := hSw
    go_simp
    try simp [*]
    try (intro hh; exfalso; omega)
    try omega
  try simp only [Act.put, List.setIfInBounds_toArray, List.set_cons_zero, List.set_cons_succ, List.getElem_toArray, List.getElem_cons_succ, List.getElem_cons_zero]
  refine wpAnyH_take (i := 19) (oi := _) (v := Value.agg #[Value.int .i64 (p0.tmod 64), Value.int .i64 (p1.tmod 10), Value.int .i64 (p2.tmod 16), Value.int .i64 (1 + p3), Value.int .i64 (1 + p4.tmod (1 + p3))]) rfl (by kernel_rfl) (by kernel_rfl) (by kernel_rfl) (fun _ _ _ h => h) (Or.inl ⟨by rfl, fun w' hSw => ?_⟩) hHeld ?_
  · obtain ⟨t0, t1, t2, t3, t4⟩ := hSw
    go_simp
    try simp [*]
    try (intro hh; exfalso; omega)
    try omega
  try simp only [Act.put, List.setIfInBounds_toArray, List.set_cons_zero, List.set_cons_succ, List.getElem_toArray, List.getElem_cons_succ, List.getElem_cons_zero]
  refine wpAnyH_ready (rs := [20]) (by kernel_rfl) (by simp) ?_
  refine AllReadyH.cons (o := _) rfl (fun K hK => ?_) AllReadyH.nil
  go_simp
  clear hHeld
  refine hK.out _ _ ⟨by simp [go_sem, *], by simp [go_sem, *], by simp [go_sem, *], by simp [go_sem, *], by simp [go_sem, *]⟩ (fun hHeld => ?_)
  clear hK K
  try simp only [Act.put, List.setIfInBounds_toArray, List.set_cons_zero, List.set_cons_succ, List.getElem_toArray, List.getElem_cons_succ, List.getElem_cons_zero]
  refine wpAnyH_done (by kernel_rfl) ?_ _
  clear hHeld
  go_wp2_with fail
  rw [HE.out]
  obtain ⟨V, hV⟩ : ∃ V, V = (((((A.setCell ⟨w.heap.size + 1, 0, none⟩ (.int .i64 (p0.tmod 64))).setCell ⟨w.heap.size + 1, 1, none⟩ (.int .i64 (p1.tmod 10))).setCell ⟨w.heap.size + 1, 2, none⟩ (.int .i64 (p2.tmod 16))).setCell ⟨w.heap.size + 1, 3, none⟩ (.int .i64 (1 + p3))).setCell ⟨w.heap.size + 1, 4, none⟩ (.int .i64 (1 + p4.tmod (1 + p3)))).drew := ⟨_, rfl⟩
  have hVX : V.heap[w.heap.size + 1]? = some (.cells #[.int .i64 (p0.tmod 64), .int .i64 (p1.tmod 10), .int .i64 (p2.tmod 16), .int .i64 (1 + p3), .int .i64 (1 + p4.tmod (1 + p3))] 23 (0, 0)) := by
    rw [hV]
    show (((((A.setCell ⟨w.heap.size + 1, 0, none⟩ (.int .i64 (p0.tmod 64))).setCell ⟨w.heap.size + 1, 1, none⟩ (.int .i64 (p1.tmod 10))).setCell ⟨w.heap.size + 1, 2, none⟩ (.int .i64 (p2.tmod 16))).setCell ⟨w.heap.size + 1, 3, none⟩ (.int .i64 (1 + p3))).setCell ⟨w.heap.size + 1, 4, none⟩ (.int .i64 (1 + p4.tmod (1 + p3)))).heap[w.heap.size + 1]? = _
    simp [World.setCell, Array.getElem?_modify, HY.out]
  have hVB : Below w.heap.size w V := by
    rw [hV]
    exact (((((HBA.out.setCell (p := ⟨w.heap.size + 1, 0, none⟩) (Nat.le_succ _) _).setCell (p := ⟨w.heap.size + 1, 1, none⟩) (Nat.le_succ _) _).setCell (p := ⟨w.heap.size + 1, 2, none⟩) (Nat.le_succ _) _).setCell (p := ⟨w.heap.size + 1, 3, none⟩) (Nat.le_succ _) _).setCell (p := ⟨w.heap.size + 1, 4, none⟩) (Nat.le_succ _) _).drew
  rw [← hV]
  have u0 : V.cell? ⟨w.heap.size + 1, 0, none⟩ = some (.int .i64 (p0.tmod 64)) := (cellH hVX 0).trans (by simp)
  have u1 : V.cell? ⟨w.heap.size + 1, 1, none⟩ = some (.int .i64 (p1.tmod 10)) := (cellH hVX 1).trans (by simp)
  have u2 : V.cell? ⟨w.heap.size + 1, 2, none⟩ = some (.int .i64 (p2.tmod 16)) := (cellH hVX 2).trans (by simp)
  have u3 : V.cell? ⟨w.heap.size + 1, 3, none⟩ = some (.int .i64 (1 + p3)) := (cellH hVX 3).trans (by simp)
  have u4 : V.cell? ⟨w.heap.size + 1, 4, none⟩ = some (.int .i64 (1 + p4.tmod (1 + p3))) := (cellH hVX 4).trans (by simp)
  refine bodyPost_ret (v := .agg #[.int .i64 (p0.tmod 64), .int .i64 (p1.tmod 10), .int .i64 (p2.tmod 16), .int .i64 (1 + p3), .int .i64 (1 + p4.tmod (1 + p3))]) (by simp [results, Try.results43, go_sem, u0, u1, u2, u3, u4]) rfl ⟨rfl, hVB⟩

end Go.Proofs.Ytbbaehmfadpgeaa

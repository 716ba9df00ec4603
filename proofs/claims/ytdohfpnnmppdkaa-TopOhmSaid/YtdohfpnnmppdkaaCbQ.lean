/-
  Cables: the examples of the chapter.
-/
import Derived.Test.YtdohfpnnmppdkaaCbP
import Derived.Test.YtdohfpnnmppdkaaCbJ
namespace Go.Proofs.Ytdohfpnnmppdkaa
open Go.RowKit Go.Shelf
set_option linter.unusedSimpArgs false
attribute [local go_sem] Oper.semAt_some
set_option maxRecDepth 100000 in
set_option maxHeartbeats 4000000 in
theorem ints_any (av bv : Value) (xs ys : List Int) (w : World) (hX : Il w.heap.size w av xs) (hY : Il w.heap.size w bv ys) (hx : xs.length ≤ 1000) :
    Calls Try.prog 27 #[av, bv] w fun e w' => e = .returned (.bool (decide (xs = ys))) ∧ Below w.heap.size w w' := by
  obtain ⟨a, ca, rfl, -, hca⟩ := hX
  obtain ⟨b, cb, rfl, -, hcb⟩ := hY
  have HA := Lib.hid (show ∀ W k, Below w.heap.size w W → k < xs.length → ∃ g off, a = some ⟨g, off, none⟩ ∧ g < W.heap.size ∧ W.cell? ⟨g, off + k, none⟩ = some (.int .i64 (ti xs k)) from fun W k hb hk => by
    obtain ⟨g, off, h1, h2, e0⟩ := hca k hk
    exact ⟨g, off, h1, Nat.lt_of_lt_of_le h2 hb.size, (hb.cell (p := ⟨g, _, none⟩) h2).trans e0⟩)
  have HB := Lib.hid (show ∀ W k, Below w.heap.size w W → k < ys.length → ∃ g off, b = some ⟨g, off, none⟩ ∧ g < W.heap.size ∧ W.cell? ⟨g, off + k, none⟩ = some (.int .i64 (ti ys k)) from fun W k hb hk => by
    obtain ⟨g, off, h1, h2, e0⟩ := hcb k hk
    exact ⟨g, off, h1, Nat.lt_of_lt_of_le h2 hb.size, (hb.cell (p := ⟨g, _, none⟩) h2).trans e0⟩)
  have HL := Lib.hid (show xs.length ≠ ys.length → decide (xs = ys) = false from fun h => by
    rw [decide_eq_false]; intro e; exact h (by rw [e]))
  have HQ := Lib.hid (show xs.length = ys.length → (∀ k, k < xs.length → ti xs k = ti ys k) → decide (xs = ys) = true from fun hl h => by
    rw [decide_eq_true]
    refine List.ext_getElem hl fun k h1 h2 => ?_
    have q := h k h1
    unfold ti at q
    simpa [h1, h2] using q)
  have HN := Lib.hid (show ∀ k, ti xs k ≠ ti ys k → decide (xs = ys) = false from fun k h => by
    rw [decide_eq_false]; intro e; exact h (by rw [e]))
  clear hca hcb
  generalize decide (xs = ys) = R at *
  generalize xs.length = m at *
  generalize ys.length = p at *
  by_cases hl : m = p
  rotate_left
  · have hR := HL.out hl
    subst hR
    have hl' : ((m : Int) != (p : Int)) = true := by simp; omega
    clear hl
    go_enter Try.func27, Try.ntmps27
    go_wp2_with fail
    go_ret
    exact ⟨rfl, Below.refl _ _⟩
  subst hl
  go_enter Try.func27, Try.ntmps27
  go_wp2_with fail
  go_loopw [5] (fun iv wr => ∃ k : Nat, k ≤ m ∧ iv = .int .i64 k ∧ (∀ j, j < k → ti xs j = ti ys j) ∧ Below w.heap.size w wr) (fun iv _ => m - (intOf iv).toNat)
  case atStart => exact ⟨0, Nat.zero_le _, rfl, fun j hj => absurd hj (Nat.not_lt_zero _), Below.refl _ _⟩
  case round =>
    obtain ⟨k, hk, rfl, hv, hB⟩ := hrel
    have HV := Lib.hid hv
    have HW := Lib.hid hB
    clear hv hB
    by_cases hlt : k < m
    · have hki : (k : Int) < (m : Int) := by omega
      obtain ⟨g1, o1, rfl, hg1, c0⟩ := HA.out _ k HW.out hlt
      obtain ⟨g2, o2, rfl, hg2, c1⟩ := HB.out _ k HW.out hlt
      have HK := Lib.hid (show ti xs k = ti ys k → ∀ j, j < k + 1 → ti xs j = ti ys j from fun h j hj => by
        rcases (show j < k ∨ j = k by omega) with e | e
        · exact HV.out j e
        · rw [e]; exact h)
      have HNK := Lib.hid (HN.out k)
      generalize ti xs k = x at *
      generalize ti ys k = y at *
      go_upto_region 6 with fail
      have HD := Lib.hid (show Below w.heap.size w wr.drew from HW.out.trans (((Below.refl wr.heap.size wr).drew).mono HW.out.size))
      by_cases hxy : x = y
      · have hb : (x != y) = false := by simp [hxy]
        have HK2 := Lib.hid (HK.out hxy)
        clear hxy
        refine wp_region_held_drew (S := fun w' => w'.cell? ⟨g1, o1 + k, none⟩ = some (Value.int .i64 x) ∧ w'.cell? ⟨g2, o2 + k, none⟩ = some (Value.int .i64 y)) (by kernel_rfl) ⟨by simpa [go_sem] using c0, by simpa [go_sem] using c1⟩ (fun hHeld => ?_)
        refine wpAnyH_take (i := 0) (oi := _) (v := Value.slice (some ⟨g1, o1, none⟩) m ca) rfl (by kernel_rfl) (by kernel_rfl) (by kernel_rfl) (fun _ _ _ h => h) (Or.inl ⟨by rfl, fun w' hSw => ?_⟩) hHeld ?_
        · obtain ⟨t0, t1⟩ := hSw
          go_simp
          try simp [*]
          try (intro hh; exfalso; omega)
          try omega
        try simp only [Act.put, List.setIfInBounds_toArray, List.set_cons_zero, List.set_cons_succ, List.getElem_toArray, List.getElem_cons_succ, List.getElem_cons_zero]
        refine wpAnyH_take (i := 1) (oi := _) (v := Value.int .i64 (k : Int)) rfl (by kernel_rfl) (by kernel_rfl) (by kernel_rfl) (fun _ _ _ h => h) (Or.inl ⟨by rfl, fun w' hSw => ?_⟩) hHeld ?_
        · obtain ⟨t0, t1⟩ := hSw
          go_simp
          try simp [*]
          try (intro hh; exfalso; omega)
          try omega
        try simp only [Act.put, List.setIfInBounds_toArray, List.set_cons_zero, List.set_cons_succ, List.getElem_toArray, List.getElem_cons_succ, List.getElem_cons_zero]
        refine wpAnyH_take (i := 2) (oi := _) (v := Value.pointer (some ⟨g1, o1 + k, none⟩)) rfl (by kernel_rfl) (by kernel_rfl) (by kernel_rfl) (fun _ _ _ h => h) (Or.inl ⟨by rfl, fun w' hSw => ?_⟩) hHeld ?_
        · obtain ⟨t0, t1⟩ := hSw
          go_simp
          try simp [*]
          try (intro hh; exfalso; omega)
          try omega
        try simp only [Act.put, List.setIfInBounds_toArray, List.set_cons_zero, List.set_cons_succ, List.getElem_toArray, List.getElem_cons_succ, List.getElem_cons_zero]
        refine wpAnyH_take (i := 3) (oi := _) (v := Value.int .i64 x) rfl (by kernel_rfl) (by kernel_rfl) (by kernel_rfl) (fun _ _ _ h => h) (Or.inl ⟨by rfl, fun w' hSw => ?_⟩) hHeld ?_
        · obtain ⟨t0, t1⟩ := hSw
          go_simp
          try simp [*]
          try (intro hh; exfalso; omega)
          try omega
        try simp only [Act.put, List.setIfInBounds_toArray, List.set_cons_zero, List.set_cons_succ, List.getElem_toArray, List.getElem_cons_succ, List.getElem_cons_zero]
        refine wpAnyH_take (i := 4) (oi := _) (v := Value.slice (some ⟨g2, o2, none⟩) m cb) rfl (by kernel_rfl) (by kernel_rfl) (by kernel_rfl) (fun _ _ _ h => h) (Or.inl ⟨by rfl, fun w' hSw => ?_⟩) hHeld ?_
        · obtain ⟨t0, t1⟩ := hSw
          go_simp
          try simp [*]
          try (intro hh; exfalso; omega)
          try omega
        try simp only [Act.put, List.setIfInBounds_toArray, List.set_cons_zero, List.set_cons_succ, List.getElem_toArray, List.getElem_cons_succ, List.getElem_cons_zero]
        refine wpAnyH_take (i := 5) (oi := _) (v := Value.int .i64 (k : Int)) rfl (by kernel_rfl) (by kernel_rfl) (by kernel_rfl) (fun _ _ _ h => h) (Or.inl ⟨by rfl, fun w' hSw => ?_⟩) hHeld ?_
        · obtain ⟨t0, t1⟩ := hSw
          go_simp
          try simp [*]
          try (intro hh; exfalso; omega)
          try omega
        try simp only [Act.put, List.setIfInBounds_toArray, List.set_cons_zero, List.set_cons_succ, List.getElem_toArray, List.getElem_cons_succ, List.getElem_cons_zero]
        refine wpAnyH_take (i := 6) (oi := _) (v := Value.pointer (some ⟨g2, o2 + k, none⟩)) rfl (by kernel_rfl) (by kernel_rfl) (by kernel_rfl) (fun _ _ _ h => h) (Or.inl ⟨by rfl, fun w' hSw => ?_⟩) hHeld ?_
        · obtain ⟨t0, t1⟩ := hSw
          go_simp
          try simp [*]
          try (intro hh; exfalso; omega)
          try omega
        try simp only [Act.put, List.setIfInBounds_toArray, List.set_cons_zero, List.set_cons_succ, List.getElem_toArray, List.getElem_cons_succ, List.getElem_cons_zero]
        refine wpAnyH_take (i := 7) (oi := _) (v := Value.int .i64 y) rfl (by kernel_rfl) (by kernel_rfl) (by kernel_rfl) (fun _ _ _ h => h) (Or.inl ⟨by rfl, fun w' hSw => ?_⟩) hHeld ?_
        · obtain ⟨t0, t1⟩ := hSw
          go_simp
          try simp [*]
          try (intro hh; exfalso; omega)
          try omega
        try simp only [Act.put, List.setIfInBounds_toArray, List.set_cons_zero, List.set_cons_succ, List.getElem_toArray, List.getElem_cons_succ, List.getElem_cons_zero]
        refine wpAnyH_take (i := 8) (oi := _) (v := Value.bool false) rfl (by kernel_rfl) (by kernel_rfl) (by kernel_rfl) (fun _ _ _ h => h) (Or.inl ⟨by rfl, fun w' hSw => ?_⟩) hHeld ?_
        · obtain ⟨t0, t1⟩ := hSw
          go_simp
          try simp [*]
          try (intro hh; exfalso; omega)
          try omega
        try simp only [Act.put, List.setIfInBounds_toArray, List.set_cons_zero, List.set_cons_succ, List.getElem_toArray, List.getElem_cons_succ, List.getElem_cons_zero]
        refine wpAnyH_done (by kernel_rfl) ?_ _
        clear hHeld
        go_wp2_with fail
        go_roundw
        case rel => exact ⟨k + 1, by omega, by go_num, HK2.out, HD.out⟩
        case measure => simp [intOf]; omega
      · have hb : (x != y) = true := by simpa using hxy
        have hR := HNK.out hxy
        subst hR
        clear hxy
        refine wp_region_held_drew (S := fun w' => w'.cell? ⟨g1, o1 + k, none⟩ = some (Value.int .i64 x) ∧ w'.cell? ⟨g2, o2 + k, none⟩ = some (Value.int .i64 y)) (by kernel_rfl) ⟨by simpa [go_sem] using c0, by simpa [go_sem] using c1⟩ (fun hHeld => ?_)
        refine wpAnyH_take (i := 0) (oi := _) (v := Value.slice (some ⟨g1, o1, none⟩) m ca) rfl (by kernel_rfl) (by kernel_rfl) (by kernel_rfl) (fun _ _ _ h => h) (Or.inl ⟨by rfl, fun w' hSw => ?_⟩) hHeld ?_
        · obtain ⟨t0, t1⟩ := hSw
          go_simp
          try simp [*]
          try (intro hh; exfalso; omega)
          try omega
        try simp only [Act.put, List.setIfInBounds_toArray, List.set_cons_zero, List.set_cons_succ, List.getElem_toArray, List.getElem_cons_succ, List.getElem_cons_zero]
        refine wpAnyH_take (i := 1) (oi := _) (v := Value.int .i64 (k : Int)) rfl (by kernel_rfl) (by kernel_rfl) (by kernel_rfl) (fun _ _ _ h => h) (Or.inl ⟨by rfl, fun w' hSw => ?_⟩) hHeld ?_
        · obtain ⟨t0, t1⟩ := hSw
          go_simp
          try simp [*]
          try (intro hh; exfalso; omega)
          try omega
        try simp only [Act.put, List.setIfInBounds_toArray, List.set_cons_zero, List.set_cons_succ, List.getElem_toArray, List.getElem_cons_succ, List.getElem_cons_zero]
        refine wpAnyH_take (i := 2) (oi := _) (v := Value.pointer (some ⟨g1, o1 + k, none⟩)) rfl (by kernel_rfl) (by kernel_rfl) (by kernel_rfl) (fun _ _ _ h => h) (Or.inl ⟨by rfl, fun w' hSw => ?_⟩) hHeld ?_
        · obtain ⟨t0, t1⟩ := hSw
          go_simp
          try simp [*]
          try (intro hh; exfalso; omega)
          try omega
        try simp only [Act.put, List.setIfInBounds_toArray, List.set_cons_zero, List.set_cons_succ, List.getElem_toArray, List.getElem_cons_succ, List.getElem_cons_zero]
        refine wpAnyH_take (i := 3) (oi := _) (v := Value.int .i64 x) rfl (by kernel_rfl) (by kernel_rfl) (by kernel_rfl) (fun _ _ _ h => h) (Or.inl ⟨by rfl, fun w' hSw => ?_⟩) hHeld ?_
        · obtain ⟨t0, t1⟩ := hSw
          go_simp
          try simp [*]
          try (intro hh; exfalso; omega)
          try omega
        try simp only [Act.put, List.setIfInBounds_toArray, List.set_cons_zero, List.set_cons_succ, List.getElem_toArray, List.getElem_cons_succ, List.getElem_cons_zero]
        refine wpAnyH_take (i := 4) (oi := _) (v := Value.slice (some ⟨g2, o2, none⟩) m cb) rfl (by kernel_rfl) (by kernel_rfl) (by kernel_rfl) (fun _ _ _ h => h) (Or.inl ⟨by rfl, fun w' hSw => ?_⟩) hHeld ?_
        · obtain ⟨t0, t1⟩ := hSw
          go_simp
          try simp [*]
          try (intro hh; exfalso; omega)
          try omega
        try simp only [Act.put, List.setIfInBounds_toArray, List.set_cons_zero, List.set_cons_succ, List.getElem_toArray, List.getElem_cons_succ, List.getElem_cons_zero]
        refine wpAnyH_take (i := 5) (oi := _) (v := Value.int .i64 (k : Int)) rfl (by kernel_rfl) (by kernel_rfl) (by kernel_rfl) (fun _ _ _ h => h) (Or.inl ⟨by rfl, fun w' hSw => ?_⟩) hHeld ?_
        · obtain ⟨t0, t1⟩ := hSw
          go_simp
          try simp [*]
          try (intro hh; exfalso; omega)
          try omega
        try simp only [Act.put, List.setIfInBounds_toArray, List.set_cons_zero, List.set_cons_succ, List.getElem_toArray, List.getElem_cons_succ, List.getElem_cons_zero]
        refine wpAnyH_take (i := 6) (oi := _) (v := Value.pointer (some ⟨g2, o2 + k, none⟩)) rfl (by kernel_rfl) (by kernel_rfl) (by kernel_rfl) (fun _ _ _ h => h) (Or.inl ⟨by rfl, fun w' hSw => ?_⟩) hHeld ?_
        · obtain ⟨t0, t1⟩ := hSw
          go_simp
          try simp [*]
          try (intro hh; exfalso; omega)
          try omega
        try simp only [Act.put, List.setIfInBounds_toArray, List.set_cons_zero, List.set_cons_succ, List.getElem_toArray, List.getElem_cons_succ, List.getElem_cons_zero]
        refine wpAnyH_take (i := 7) (oi := _) (v := Value.int .i64 y) rfl (by kernel_rfl) (by kernel_rfl) (by kernel_rfl) (fun _ _ _ h => h) (Or.inl ⟨by rfl, fun w' hSw => ?_⟩) hHeld ?_
        · obtain ⟨t0, t1⟩ := hSw
          go_simp
          try simp [*]
          try (intro hh; exfalso; omega)
          try omega
        try simp only [Act.put, List.setIfInBounds_toArray, List.set_cons_zero, List.set_cons_succ, List.getElem_toArray, List.getElem_cons_succ, List.getElem_cons_zero]
        refine wpAnyH_take (i := 8) (oi := _) (v := Value.bool true) rfl (by kernel_rfl) (by kernel_rfl) (by kernel_rfl) (fun _ _ _ h => h) (Or.inl ⟨by rfl, fun w' hSw => ?_⟩) hHeld ?_
        · obtain ⟨t0, t1⟩ := hSw
          go_simp
          try simp [*]
          try (intro hh; exfalso; omega)
          try omega
        try simp only [Act.put, List.setIfInBounds_toArray, List.set_cons_zero, List.set_cons_succ, List.getElem_toArray, List.getElem_cons_succ, List.getElem_cons_zero]
        refine wpAnyH_done (by kernel_rfl) ?_ _
        clear hHeld
        go_wp2_with fail
        go_ret
        exact ⟨rfl, HD.out⟩
    · obtain rfl : k = m := by omega
      have hR := HQ.out (by first | rfl | trivial) HV.out
      subst hR
      go_wp2_with fail
      go_ret
      exact ⟨rfl, HW.out⟩
/-- the chapter's example -/
def exN : List Nd := [⟨-1, 0, 0, 1000, 0, 0, 0, -1⟩, ⟨0, 100, 200, 500, 100, 100, 9000, 30⟩, ⟨1, 1000, 1000, 300, 200, 300, 9700, 10⟩, ⟨1, 500, 500, 300, 0, 50, 9900, -1⟩]
theorem ex_all : AllN exN := by
  intro k hk
  match k, hk with
  | 0, _ => decide
  | 1, _ => decide
  | 2, _ => decide
  | 3, _ => decide
theorem ex_valid : ValidC 10000 10000 exN := ⟨by decide, by decide, by decide, ex_all⟩
theorem ex_vol : vol 10000 10000 exN 2 = (9610, 9770) := by decide
theorem ex_losE : losE 10000 10000 exN [2, 3] [] = 0 := by
  have h : stuE 10000 10000 exN [] = 0 := by
    rw [stuE_def, if_pos ex_valid.err, if_neg (by decide), if_pos]
    intro k hk
    exact absurd hk (Nat.not_lt_zero _)
  rw [losE_def, if_pos h, if_neg (by decide), if_pos]
  intro k hk
  match k, hk with
  | 0, _ => decide
  | 1, _ => decide
theorem ex_lost : lostL exN [] [2, 3] = [1, 2, 3] := by decide
set_option maxRecDepth 100000 in
set_option maxHeartbeats 4000000 in
theorem example_any (w : World) :
    Calls Try.prog 78 #[] w fun e w' => ∃ v, e = .returned (.agg #[.int .i64 10000, .int .i64 10000, v]) ∧ Nds w'.heap.size w' v exN ∧ Below w.heap.size w w' := by
  go_enter Try.func78, Try.ntmps78
  go_wp2_with fail
  refine bodyPost_ret (v := .agg #[.int .i64 10000, .int .i64 10000, .slice (some ⟨w.heap.size + 1, 0, none⟩) 4 4]) (by simp [results, Try.results78, go_sem]) rfl ⟨_, rfl, ?_, ((Below.refl _ _).alloc (Nat.le_refl _) _).alloc (by simp) _⟩
  refine ⟨_, 4, rfl, Nat.le_refl _, fun k hk => ⟨w.heap.size + 1, 0, rfl, by simp, ?_⟩⟩
  have hk2 : k < 4 := hk
  clear hk
  rcases (by omega : k = 0 ∨ k = 1 ∨ k = 2 ∨ k = 3) with rfl | rfl | rfl | rfl
  all_goals refine ⟨?_, ?_, ?_, ?_, ?_, ?_, ?_, ?_⟩ <;> simp [go_sem, nd, exN]
theorem il_two {W : World} {b : Nat} (x y : Int) (hb : b < W.heap.size) (c0 : W.cell? ⟨b, 0, none⟩ = some (.int .i64 x)) (c1 : W.cell? ⟨b, 1, none⟩ = some (.int .i64 y)) : Il W.heap.size W (.slice (some ⟨b, 0, none⟩) 2 2) [x, y] := by
  refine ⟨_, _, rfl, Nat.le_refl _, fun k hk => ⟨b, 0, rfl, hb, ?_⟩⟩
  match k, hk with
  | 0, _ => exact c0
  | 1, _ => exact c1
theorem il_three {W : World} {b : Nat} (x y z : Int) (hb : b < W.heap.size) (c0 : W.cell? ⟨b, 0, none⟩ = some (.int .i64 x)) (c1 : W.cell? ⟨b, 1, none⟩ = some (.int .i64 y)) (c2 : W.cell? ⟨b, 2, none⟩ = some (.int .i64 z)) : Il W.heap.size W (.slice (some ⟨b, 0, none⟩) 3 3) [x, y, z] := by
  refine ⟨_, _, rfl, Nat.le_refl _, fun k hk => ⟨b, 0, rfl, hb, ?_⟩⟩
  match k, hk with
  | 0, _ => exact c0
  | 1, _ => exact c1
  | 2, _ => exact c2
theorem il_nil (n : Nat) (W : World) : Il n W (.slice none 0 0) [] := ⟨_, _, rfl, Nat.le_refl _, fun _ hk => absurd hk (Nat.not_lt_zero _)⟩
/-- a row of numbers of the call's own, as a slice of numbers -/
theorem il_of_own {W : World} {base : Nat} {v : Value} {l : List Nat} (h : W.ownsRow base 3 1 v l.length (flatN l)) : Il W.heap.size W v (zs l) := by
  have hz : (zs l).length = l.length := by unfold zs; simp
  obtain ⟨hl, h⟩ := h
  rcases h with ⟨hv, h0⟩ | ⟨g, cap, cur, hv, hb, hg, hc1, hc2, hs, ht⟩
  · subst hv
    obtain rfl : l = [] := by cases l with | nil => rfl | cons => simp at h0
    exact il_nil _ _
  · subst hv
    refine ⟨some ⟨g, 0, none⟩, cap, by rw [hz], by rw [hz]; exact hc1, fun k hk => ⟨g, 0, rfl, (Array.getElem?_eq_some_iff.1 hg).1, ?_⟩⟩
    rw [hz] at hk
    rw [cellHB hg, Nat.zero_add]
    have e : cur.toList[k]? = (flatN l)[k]? := by
      rw [← ht, List.getElem?_take_of_lt (by simpa using hk)]
    have e2 : cur[k]? = (flatN l)[k]? := by simpa using e
    rw [e2]
    unfold flatN ti zs
    simp [hk]
set_option maxRecDepth 100000 in
set_option maxHeartbeats 8000000 in
theorem fine_any (w : World) : Calls Try.prog 20 #[] w fun e w' => e = .returned (.bool true) ∧ Below w.heap.size w w' := by
  have cV := Lib.hid (fun v W h => voltages_ok 10000 10000 v exN ex_valid W h)
  have cL := Lib.hid (fun v fv W h hF => lost_any 10000 10000 v fv (.slice none 0 0) exN [2, 3] [] W h hF (il_nil _ _) (by decide) (by decide))
  unfold LosP at cL
  rw [ex_losE, ex_lost] at cL
  have cI := Lib.hid (fun av bv W hX hY => ints_any av bv (zs [1, 2, 3]) [1, 2, 3] W hX hY (by decide))
  rw [show decide (zs [1, 2, 3] = [1, 2, 3]) = true by decide] at cI
  have HQ := Lib.hid (show ∀ W g, RowC W g 23 (exN.length * 2) (spc (vol 10000 10000 exN)) → g < W.heap.size ∧ W.cell? ⟨g, 4, none⟩ = some (.int .i64 9610) ∧ W.cell? ⟨g, 4 + 1, none⟩ = some (.int .i64 9770) from fun W g h => by
    have e1 := h.cell (j := 2 * 2) (by decide)
    have e2 := h.cell (j := 2 * 2 + 1) (by decide)
    rw [spc_even, ex_vol] at e1
    rw [spc_odd, ex_vol] at e2
    exact ⟨h.lt, e1, e2⟩)
  rw [show exN.length = 4 from rfl] at cV HQ
  generalize spc (vol 10000 10000 exN) = SV at *
  go_enter Try.func20, Try.ntmps20
  go_wp2_with fail
  refine (example_any _).mono ?_
  rintro e w1 ⟨v, rfl, hN, hb1⟩
  have HN := Lib.hid hN
  have HB1 := Lib.hid hb1
  clear hN hb1
  go_wp2_with fail
  refine (cV.out v w1 HN.out).mono ?_
  rintro e w2 ⟨g, rfl, hr, hg, hb2⟩
  have HR := Lib.hid hr
  have HB2 := Lib.hid (HB1.out.trans (hb2.mono HB1.out.size))
  clear hr hg hb2
  go_wp2_with fail
  refine (example_any _).mono ?_
  rintro e w3 ⟨u, rfl, hN, hb3⟩
  have HN3 := Lib.hid hN
  have HR3 := Lib.hid (HR.out.keep hb3)
  have HB3 := Lib.hid (HB2.out.trans (hb3.mono HB2.out.size))
  clear hN hb3
  go_wp2_with fail
  refine (cL.out u _ _ (HN3.out.at ((Below.refl _ _).alloc (Nat.le_refl _) _)) (il_two 2 3 (by simp) (by simp [go_sem]) (by simp [go_sem]))).mono ?_
  rintro e w4 ⟨lv, rfl, -, hrow, hb4⟩
  have hb34 : Below w3.heap.size w3 w4 := ((Below.refl _ _).alloc (Nat.le_refl _) _).trans (hb4.mono (by simp))
  have HR4 := Lib.hid (HR3.out.keep hb34)
  have HL := Lib.hid (il_of_own (hrow (by first | rfl | trivial)))
  have HB4 := Lib.hid (HB3.out.trans (hb34.mono HB3.out.size))
  clear hrow hb4 hb34
  obtain ⟨q0, q1, q2⟩ := HQ.out _ _ HR4.out
  obtain ⟨la, lc, rfl⟩ := HL.out.form
  go_wp2_with fail
  refine (cI.out _ _ _ (HL.out.at ((Below.refl _ _).alloc (Nat.le_refl _) _)) (il_three 1 2 3 (by simp) (by simp [go_sem]) (by simp [go_sem]) (by simp [go_sem]))).mono ?_
  rintro e w5 ⟨rfl, hb5⟩
  have HB5 := Lib.hid (HB4.out.trans (((Below.refl w4.heap.size w4).alloc (Nat.le_refl _) _).trans (hb5.mono (by simp)) |>.mono HB4.out.size))
  clear hb5 q0 q1 q2
  go_wp2_with fail
  go_ret
  exact ⟨by first | rfl | simp, HB5.out⟩
end Go.Proofs.Ytdohfpnnmppdkaa

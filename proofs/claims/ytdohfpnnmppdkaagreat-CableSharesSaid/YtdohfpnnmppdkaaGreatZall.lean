/-
  Cables: sums, CheckShare and Share of the program and of the reference (four texts in one).
-/
import Derived.Test.YtdohfpnnmppdkaaGreatZc
import Derived.Test.YtdohfpnnmppdkaaGreatCbW
import Derived.Test.YtdohfpnnmppdkaaGreatCbQ
import Derived.Test.YtdohfpnnmppdkaaGreatCbR
namespace Go.Proofs.YtdohfpnnmppdkaaGreat
open Go.RowKit Go.Shelf
set_option linter.unusedSimpArgs false
attribute [local go_sem] Oper.semAt_some
/-- the sum over a list of nodes -/
def ls (f : Nat → Int) : List Nat → Int
  | [] => 0
  | a :: l => f a + ls f l
theorem ls_app (f : Nat → Int) (l m : List Nat) : ls f (l ++ m) = ls f l + ls f m := by
  induction l with
  | nil => simp [ls]
  | cons a l ih => show f a + ls f (l ++ m) = f a + ls f l + ls f m; rw [ih]; omega
theorem ls_bd {f : Nat → Int} {M : Int} (hf : ∀ k, 0 ≤ f k ∧ f k ≤ M) (l : List Nat) : 0 ≤ ls f l ∧ ls f l ≤ l.length * M := by
  induction l with
  | nil => simp [ls]
  | cons a l ih =>
    have := hf a
    show 0 ≤ f a + ls f l ∧ f a + ls f l ≤ ((l.length + 1 : Nat) : Int) * M
    rw [Int.natCast_add, Int.add_mul]
    simp only [Int.natCast_one, Int.one_mul]
    omega
theorem ls_pick (f : Nat → Int) (p : Nat → Bool) : ∀ n, ls f (pick n p) = sm f p n := by
  intro n
  induction n with
  | zero => rfl
  | succ n ih =>
    have e : pick (n + 1) p = pick n p ++ (if p n = true then [n] else []) := by
      unfold pick
      rw [List.range_succ, List.filter_append]
      by_cases h : p n = true
      · simp [h]
      · simp [h]
    rw [e, ls_app, ih]
    show _ = sm f p n + _
    by_cases h : p n = true
    · rw [if_pos h, if_pos h]; simp [ls]
    · rw [if_neg h, if_neg h]; simp [ls]
theorem mem_tn {l : List Nat} {x : Nat} (h : x ∈ l) : ∃ t, t < l.length ∧ tn l t = x := by
  obtain ⟨t, ht, e⟩ := List.getElem_of_mem h
  exact ⟨t, ht, by unfold tn; rw [List.getElem?_eq_getElem ht]; exact e⟩
set_option maxRecDepth 100000 in
set_option maxHeartbeats 4000000 in
theorem longs_any (av bv : Value) (xs ys : List Int) (w : World) (hX : Il w.heap.size w av xs) (hY : Il w.heap.size w bv ys) (hx : xs.length ≤ 1000) :
    Calls Tryz.prog 11 #[av, bv] w fun e w' => e = .returned (.bool (decide (xs = ys))) ∧ Below w.heap.size w w' := by
  obtain ⟨a, ca, rfl, -, hca⟩ := hX
  obtain ⟨b, cb, rfl, -, hcb⟩ := hY
  have HA := Lib.hid (show ∀ W k, Below w.heap.size w W → k < xs.length → ∃ g off, a = some ⟨g, off, none⟩ ∧ g < W.heap.size ∧ W.cell? ⟨g, off + k, none⟩ = some (.int .i64 (ti xs k)) from fun W k hb hk => by
    obtain ⟨g, off, h1, h2, e0⟩ := hca k hk
    exact ⟨g, off, h1, Nat.lt_of_lt_of_le h2 hb.size, (hb.cell (p := ⟨g, _, none⟩) h2).trans e0⟩)
  have HB := Lib.hid (show ∀ W k, Below w.heap.size w W → k < ys.length → ∃ g off, b = some ⟨g, off, none⟩ ∧ g < W.heap.size ∧ W.cell? ⟨g, off + k, none⟩ = some (.int .i64 (ti ys k)) from fun W k hb hk => by
    obtain ⟨g, off, h1, h2, e0⟩ := hcb k hk
    exact ⟨g, off, h1, Nat.lt_of_lt_of_le h2 hb.size, (hb.cell (p := ⟨g, _, none⟩) h2).trans e0⟩)
  have HL := Lib.hid (show xs.length ≠ ys.length → decide (xs = ys) = false from fun h => by
    rw [decide_eq_false]; intro e; exact h (by rw [e]))
  have HQ := Lib.hid (show xs.length = ys.length → (∀ k, k < xs.length → ti xs k = ti ys k) → decide (xs = ys) = true from fun hl h => by
    rw [decide_eq_true]
    refine List.ext_getElem hl fun k h1 h2 => ?_
    have q := h k h1
    unfold ti at q
    simpa [h1, h2] using q)
  have HN := Lib.hid (show ∀ k, ti xs k ≠ ti ys k → decide (xs = ys) = false from fun k h => by
    rw [decide_eq_false]; intro e; exact h (by rw [e]))
  clear hca hcb
  generalize decide (xs = ys) = R at *
  generalize xs.length = m at *
  generalize ys.length = p at *
  by_cases hl : m = p
  rotate_left
  · have hR := HL.out hl
    subst hR
    have hl' : ((m : Int) != (p : Int)) = true := by simp; omega
    clear hl
    go_enter Tryz.func11, Tryz.ntmps11
    go_wp2_with fail
    go_ret
    exact ⟨rfl, Below.refl _ _⟩
  subst hl
  go_enter Tryz.func11, Tryz.ntmps11
  go_wp2_with fail
  go_loopw [5] (fun iv wr => ∃ k : Nat, k ≤ m ∧ iv = .int .i64 k ∧ (∀ j, j < k → ti xs j = ti ys j) ∧ Below w.heap.size w wr) (fun iv _ => m - (intOf iv).toNat)
  case atStart => exact ⟨0, Nat.zero_le _, rfl, fun j hj => absurd hj (Nat.not_lt_zero _), Below.refl _ _⟩
  case round =>
    obtain ⟨k, hk, rfl, hv, hB⟩ := hrel
    have HV := Lib.hid hv
    have HW := Lib.hid hB
    clear hv hB
    by_cases hlt : k < m
    · have hki : (k : Int) < (m : Int) := by omega
      obtain ⟨g1, o1, rfl, hg1, c0⟩ := HA.out _ k HW.out hlt
      obtain ⟨g2, o2, rfl, hg2, c1⟩ := HB.out _ k HW.out hlt
      have HK := Lib.hid (show ti xs k = ti ys k → ∀ j, j < k + 1 → ti xs j = ti ys j from fun h j hj => by
        rcases (show j < k ∨ j = k by omega) with e | e
        · exact HV.out j e
        · rw [e]; exact h)
      have HNK := Lib.hid (HN.out k)
      generalize ti xs k = x at *
      generalize ti ys k = y at *
      go_upto_region 6 with fail
      have HD := Lib.hid (show Below w.heap.size w wr.drew from HW.out.trans (((Below.refl wr.heap.size wr).drew).mono HW.out.size))
      by_cases hxy : x = y
      · have hb : (x != y) = false := by simp [hxy]
        have HK2 := Lib.hid (HK.out hxy)
        clear hxy
        refine wp_region_held_drew (S := fun w' => w'.cell? ⟨g1, o1 + k, none⟩ = some (Value.int .i64 x) ∧ w'.cell? ⟨g2, o2 + k, none⟩ = some (Value.int .i64 y)) (by kernel_rfl) ⟨by simpa [go_sem] using c0, by simpa [go_sem] using c1⟩ (fun hHeld => ?_)
        refine wpAnyH_take (i := 0) (oi := _) (v := Value.slice (some ⟨g1, o1, none⟩) m ca) rfl (by kernel_rfl) (by kernel_rfl) (by kernel_rfl) (fun _ _ _ h => h) (Or.inl ⟨by rfl, fun w' hSw => ?_⟩) hHeld ?_
        · obtain ⟨t0, t1⟩ := hSw
          go_simp
          try simp [*]
          try (intro hh; exfalso; omega)
          try omega
        try simp only [Act.put, List.setIfInBounds_toArray, List.set_cons_zero, List.set_cons_succ, List.getElem_toArray, List.getElem_cons_succ, List.getElem_cons_zero]
        refine wpAnyH_take (i := 1) (oi := _) (v := Value.int .i64 (k : Int)) rfl (by kernel_rfl) (by kernel_rfl) (by kernel_rfl) (fun _ _ _ h => h) (Or.inl ⟨by rfl, fun w' hSw => ?_⟩) hHeld ?_
        · obtain ⟨t0, t1⟩ := hSw
          go_simp
          try simp [*]
          try (intro hh; exfalso; omega)
          try omega
        try simp only [Act.put, List.setIfInBounds_toArray, List.set_cons_zero, List.set_cons_succ, List.getElem_toArray, List.getElem_cons_succ, List.getElem_cons_zero]
        refine wpAnyH_take (i := 2) (oi := _) (v := Value.pointer (some ⟨g1, o1 + k, none⟩)) rfl (by kernel_rfl) (by kernel_rfl) (by kernel_rfl) (fun _ _ _ h => h) (Or.inl ⟨by rfl, fun w' hSw => ?_⟩) hHeld ?_
        · obtain ⟨t0, t1⟩ := hSw
          go_simp
          try simp [*]
          try (intro hh; exfalso; omega)
          try omega
        try simp only [Act.put, List.setIfInBounds_toArray, List.set_cons_zero, List.set_cons_succ, List.getElem_toArray, List.getElem_cons_succ, List.getElem_cons_zero]
        refine wpAnyH_take (i := 3) (oi := _) (v := Value.int .i64 x) rfl (by kernel_rfl) (by kernel_rfl) (by kernel_rfl) (fun _ _ _ h => h) (Or.inl ⟨by rfl, fun w' hSw => ?_⟩) hHeld ?_
        · obtain ⟨t0, t1⟩ := hSw
          go_simp
          try simp [*]
          try (intro hh; exfalso; omega)
          try omega
        try simp only [Act.put, List.setIfInBounds_toArray, List.set_cons_zero, List.set_cons_succ, List.getElem_toArray, List.getElem_cons_succ, List.getElem_cons_zero]
        refine wpAnyH_take (i := 4) (oi := _) (v := Value.slice (some ⟨g2, o2, none⟩) m cb) rfl (by kernel_rfl) (by kernel_rfl) (by kernel_rfl) (fun _ _ _ h => h) (Or.inl ⟨by rfl, fun w' hSw => ?_⟩) hHeld ?_
        · obtain ⟨t0, t1⟩ := hSw
          go_simp
          try simp [*]
          try (intro hh; exfalso; omega)
          try omega
        try simp only [Act.put, List.setIfInBounds_toArray, List.set_cons_zero, List.set_cons_succ, List.getElem_toArray, List.getElem_cons_succ, List.getElem_cons_zero]
        refine wpAnyH_take (i := 5) (oi := _) (v := Value.int .i64 (k : Int)) rfl (by kernel_rfl) (by kernel_rfl) (by kernel_rfl) (fun _ _ _ h => h) (Or.inl ⟨by rfl, fun w' hSw => ?_⟩) hHeld ?_
        · obtain ⟨t0, t1⟩ := hSw
          go_simp
          try simp [*]
          try (intro hh; exfalso; omega)
          try omega
        try simp only [Act.put, List.setIfInBounds_toArray, List.set_cons_zero, List.set_cons_succ, List.getElem_toArray, List.getElem_cons_succ, List.getElem_cons_zero]
        refine wpAnyH_take (i := 6) (oi := _) (v := Value.pointer (some ⟨g2, o2 + k, none⟩)) rfl (by kernel_rfl) (by kernel_rfl) (by kernel_rfl) (fun _ _ _ h => h) (Or.inl ⟨by rfl, fun w' hSw => ?_⟩) hHeld ?_
        · obtain ⟨t0, t1⟩ := hSw
          go_simp
          try simp [*]
          try (intro hh; exfalso; omega)
          try omega
        try simp only [Act.put, List.setIfInBounds_toArray, List.set_cons_zero, List.set_cons_succ, List.getElem_toArray, List.getElem_cons_succ, List.getElem_cons_zero]
        refine wpAnyH_take (i := 7) (oi := _) (v := Value.int .i64 y) rfl (by kernel_rfl) (by kernel_rfl) (by kernel_rfl) (fun _ _ _ h => h) (Or.inl ⟨by rfl, fun w' hSw => ?_⟩) hHeld ?_
        · obtain ⟨t0, t1⟩ := hSw
          go_simp
          try simp [*]
          try (intro hh; exfalso; omega)
          try omega
        try simp only [Act.put, List.setIfInBounds_toArray, List.set_cons_zero, List.set_cons_succ, List.getElem_toArray, List.getElem_cons_succ, List.getElem_cons_zero]
        refine wpAnyH_take (i := 8) (oi := _) (v := Value.bool false) rfl (by kernel_rfl) (by kernel_rfl) (by kernel_rfl) (fun _ _ _ h => h) (Or.inl ⟨by rfl, fun w' hSw => ?_⟩) hHeld ?_
        · obtain ⟨t0, t1⟩ := hSw
          go_simp
          try simp [*]
          try (intro hh; exfalso; omega)
          try omega
        try simp only [Act.put, List.setIfInBounds_toArray, List.set_cons_zero, List.set_cons_succ, List.getElem_toArray, List.getElem_cons_succ, List.getElem_cons_zero]
        refine wpAnyH_done (by kernel_rfl) ?_ _
        clear hHeld
        go_wp2_with fail
        go_roundw
        case rel => exact ⟨k + 1, by omega, by go_num, HK2.out, HD.out⟩
        case measure => simp [intOf]; omega
      · have hb : (x != y) = true := by simpa using hxy
        have hR := HNK.out hxy
        subst hR
        clear hxy
        refine wp_region_held_drew (S := fun w' => w'.cell? ⟨g1, o1 + k, none⟩ = some (Value.int .i64 x) ∧ w'.cell? ⟨g2, o2 + k, none⟩ = some (Value.int .i64 y)) (by kernel_rfl) ⟨by simpa [go_sem] using c0, by simpa [go_sem] using c1⟩ (fun hHeld => ?_)
        refine wpAnyH_take (i := 0) (oi := _) (v := Value.slice (some ⟨g1, o1, none⟩) m ca) rfl (by kernel_rfl) (by kernel_rfl) (by kernel_rfl) (fun _ _ _ h => h) (Or.inl ⟨by rfl, fun w' hSw => ?_⟩) hHeld ?_
        · obtain ⟨t0, t1⟩ := hSw
          go_simp
          try simp [*]
          try (intro hh; exfalso; omega)
          try omega
        try simp only [Act.put, List.setIfInBounds_toArray, List.set_cons_zero, List.set_cons_succ, List.getElem_toArray, List.getElem_cons_succ, List.getElem_cons_zero]
        refine wpAnyH_take (i := 1) (oi := _) (v := Value.int .i64 (k : Int)) rfl (by kernel_rfl) (by kernel_rfl) (by kernel_rfl) (fun _ _ _ h => h) (Or.inl ⟨by rfl, fun w' hSw => ?_⟩) hHeld ?_
        · obtain ⟨t0, t1⟩ := hSw
          go_simp
          try simp [*]
          try (intro hh; exfalso; omega)
          try omega
        try simp only [Act.put, List.setIfInBounds_toArray, List.set_cons_zero, List.set_cons_succ, List.getElem_toArray, List.getElem_cons_succ, List.getElem_cons_zero]
        refine wpAnyH_take (i := 2) (oi := _) (v := Value.pointer (some ⟨g1, o1 + k, none⟩)) rfl (by kernel_rfl) (by kernel_rfl) (by kernel_rfl) (fun _ _ _ h => h) (Or.inl ⟨by rfl, fun w' hSw => ?_⟩) hHeld ?_
        · obtain ⟨t0, t1⟩ := hSw
          go_simp
          try simp [*]
          try (intro hh; exfalso; omega)
          try omega
        try simp only [Act.put, List.setIfInBounds_toArray, List.set_cons_zero, List.set_cons_succ, List.getElem_toArray, List.getElem_cons_succ, List.getElem_cons_zero]
        refine wpAnyH_take (i := 3) (oi := _) (v := Value.int .i64 x) rfl (by kernel_rfl) (by kernel_rfl) (by kernel_rfl) (fun _ _ _ h => h) (Or.inl ⟨by rfl, fun w' hSw => ?_⟩) hHeld ?_
        · obtain ⟨t0, t1⟩ := hSw
          go_simp
          try simp [*]
          try (intro hh; exfalso; omega)
          try omega
        try simp only [Act.put, List.setIfInBounds_toArray, List.set_cons_zero, List.set_cons_succ, List.getElem_toArray, List.getElem_cons_succ, List.getElem_cons_zero]
        refine wpAnyH_take (i := 4) (oi := _) (v := Value.slice (some ⟨g2, o2, none⟩) m cb) rfl (by kernel_rfl) (by kernel_rfl) (by kernel_rfl) (fun _ _ _ h => h) (Or.inl ⟨by rfl, fun w' hSw => ?_⟩) hHeld ?_
        · obtain ⟨t0, t1⟩ := hSw
          go_simp
          try simp [*]
          try (intro hh; exfalso; omega)
          try omega
        try simp only [Act.put, List.setIfInBounds_toArray, List.set_cons_zero, List.set_cons_succ, List.getElem_toArray, List.getElem_cons_succ, List.getElem_cons_zero]
        refine wpAnyH_take (i := 5) (oi := _) (v := Value.int .i64 (k : Int)) rfl (by kernel_rfl) (by kernel_rfl) (by kernel_rfl) (fun _ _ _ h => h) (Or.inl ⟨by rfl, fun w' hSw => ?_⟩) hHeld ?_
        · obtain ⟨t0, t1⟩ := hSw
          go_simp
          try simp [*]
          try (intro hh; exfalso; omega)
          try omega
        try simp only [Act.put, List.setIfInBounds_toArray, List.set_cons_zero, List.set_cons_succ, List.getElem_toArray, List.getElem_cons_succ, List.getElem_cons_zero]
        refine wpAnyH_take (i := 6) (oi := _) (v := Value.pointer (some ⟨g2, o2 + k, none⟩)) rfl (by kernel_rfl) (by kernel_rfl) (by kernel_rfl) (fun _ _ _ h => h) (Or.inl ⟨by rfl, fun w' hSw => ?_⟩) hHeld ?_
        · obtain ⟨t0, t1⟩ := hSw
          go_simp
          try simp [*]
          try (intro hh; exfalso; omega)
          try omega
        try simp only [Act.put, List.setIfInBounds_toArray, List.set_cons_zero, List.set_cons_succ, List.getElem_toArray, List.getElem_cons_succ, List.getElem_cons_zero]
        refine wpAnyH_take (i := 7) (oi := _) (v := Value.int .i64 y) rfl (by kernel_rfl) (by kernel_rfl) (by kernel_rfl) (fun _ _ _ h => h) (Or.inl ⟨by rfl, fun w' hSw => ?_⟩) hHeld ?_
        · obtain ⟨t0, t1⟩ := hSw
          go_simp
          try simp [*]
          try (intro hh; exfalso; omega)
          try omega
        try simp only [Act.put, List.setIfInBounds_toArray, List.set_cons_zero, List.set_cons_succ, List.getElem_toArray, List.getElem_cons_succ, List.getElem_cons_zero]
        refine wpAnyH_take (i := 8) (oi := _) (v := Value.bool true) rfl (by kernel_rfl) (by kernel_rfl) (by kernel_rfl) (fun _ _ _ h => h) (Or.inl ⟨by rfl, fun w' hSw => ?_⟩) hHeld ?_
        · obtain ⟨t0, t1⟩ := hSw
          go_simp
          try simp [*]
          try (intro hh; exfalso; omega)
          try omega
        try simp only [Act.put, List.setIfInBounds_toArray, List.set_cons_zero, List.set_cons_succ, List.getElem_toArray, List.getElem_cons_succ, List.getElem_cons_zero]
        refine wpAnyH_done (by kernel_rfl) ?_ _
        clear hHeld
        go_wp2_with fail
        go_ret
        exact ⟨rfl, HD.out⟩
    · obtain rfl : k = m := by omega
      have hR := HQ.out (by first | rfl | trivial) HV.out
      subst hR
      go_wp2_with fail
      go_ret
      exact ⟨rfl, HW.out⟩
set_option maxRecDepth 100000 in
set_option maxHeartbeats 8000000 in
/-- what the reference says that a segment carries -/
theorem carried_any (sl sh : Int) (sv gv : Value) (ns : List Nd) (g : Nat → Int) (k : Nat) (hv : ValidC sl sh ns) (hgb : ∀ k, 0 ≤ g k ∧ g k ≤ 65536) (w : World) (hN : Nds w.heap.size w sv ns) (hG : Il w.heap.size w gv (fL g ns.length)) :
    Calls Tryz.prog 27 #[.agg #[.int .i64 sl, .int .i64 sh, sv], gv, .int .i64 (k : Int)] w fun e w' => e = .returned (.int .i64 (caF ns g k)) ∧ Below w.heap.size w w' := by
  have hn0 := hv.pos
  have c1 := Lib.hid (fun W (h : Below w.heap.size w W) => refsub_any sl sh sv ns hv.all hv.len k W (hN.at h))
  obtain ⟨a, cap, hsv⟩ := hN.form
  subst hsv
  obtain ⟨gb, go, gc, rfl, -, hgc⟩ := rd_of_il hG hn0
  have HGC := Lib.hid hgc
  have HLS := Lib.hid (show ∀ l, l.length ≤ 60 → 0 ≤ ls g l ∧ ls g l ≤ 4000000 from fun l hl => by
    have q := ls_bd (M := 65536) hgb l
    have : (l.length : Int) * 65536 ≤ 60 * 65536 := Int.mul_le_mul_of_nonneg_right (by omega) (by decide)
    omega)
  have HSL := Lib.hid (show (sub (par ns) ns.length k).length ≤ 60 from by
    have : (sub (par ns) ns.length k).length ≤ (List.range ns.length).length := List.length_filter_le _ _
    simp at this
    have := hv.len
    omega)
  have HSX := Lib.hid (show ∀ t, t < (sub (par ns) ns.length k).length → tn (sub (par ns) ns.length k) t < ns.length from fun t ht => (mem_pick.1 (tn_mem ht)).1)
  have HSS := Lib.hid (show ls g (sub (par ns) ns.length k) = caF ns g k from ls_pick g _ _)
  clear hN hG hgc hv hgb
  generalize caF ns g k = R at *
  generalize sub (par ns) ns.length k = U at *
  generalize ns.length = n at *
  obtain ⟨A, hA⟩ : ∃ A, A = w.alloc (.cells #[.int .i64 sl, .int .i64 sh, .slice a n cap] 26) := ⟨_, rfl⟩
  have HBA := Lib.hid (show Below w.heap.size w A by rw [hA]; exact ((Below.refl _ _).alloc (Nat.le_refl _) _))
  have q0 : A.cell? ⟨w.heap.size, 0, none⟩ = some (.int .i64 sl) := by rw [hA]; exact (cellHB (World.alloc_heap_new w _) 0).trans (by simp)
  have q1 : A.cell? ⟨w.heap.size, 1, none⟩ = some (.int .i64 sh) := by rw [hA]; exact (cellHB (World.alloc_heap_new w _) 1).trans (by simp)
  have q2 : A.cell? ⟨w.heap.size, 2, none⟩ = some (.slice a n cap) := by rw [hA]; exact (cellHB (World.alloc_heap_new w _) 2).trans (by simp)
  go_enter Tryz.func27, Tryz.ntmps27
  go_upto_region 1 with fail
  rw [← hA]
  clear hA
  go_wp2_with fail
  refine (c1.out _ HBA.out).mono ?_
  rintro e w1 ⟨uv, rfl, hU, hb⟩
  have HB1 := Lib.hid (HBA.out.trans (hb.mono HBA.out.size))
  clear hb q0 q1 q2
  rcases Nat.eq_zero_or_pos U.length with hu0 | hup
  · have hU0 : U = [] := List.eq_nil_of_length_eq_zero hu0
    subst hU0
    obtain ⟨ua, uc, rfl⟩ := own_any1 hU
    have HR0 := Lib.hid (show R = 0 from HSS.out.symm)
    clear hU hu0 HSX
    go_wp2_with fail
    go_loopw [7, 9] (fun sv' jv wr => sv' = .int .i64 0 ∧ jv = .int .i64 0 ∧ Below w1.heap.size w1 wr) (fun _ jv _ => 0)
    case atStart => exact ⟨rfl, rfl, Below.refl _ _⟩
    case round =>
      obtain ⟨rfl, rfl, hBj⟩ := hrel
      have HBJ := Lib.hid hBj
      clear hBj
      go_wp2_with fail
      go_ret
      exact ⟨by rw [HR0.out]; rfl, HB1.out.trans (HBJ.out.mono HB1.out.size)⟩
  obtain ⟨ug, uc, rfl, -, -, hugl, huc⟩ := own_next hU hup
  have HUC := Lib.hid (show ∀ Z, Below w1.heap.size w1 Z → ∀ t, t < U.length → Z.cell? ⟨ug, t, none⟩ = some (.int .i64 (tn U t : Int)) from fun Z h t ht => (h.cell (p := ⟨ug, t, none⟩) hugl).trans (huc t ht))
  generalize hum : U.length = um at *
  have HUM := Lib.hid hum
  clear hum hU huc hugl hup
  have hum60 := HSL.out
  go_wp2_with fail
  go_loopw [7, 9] (fun sv' jv wr => ∃ j : Nat, j ≤ um ∧ jv = .int .i64 j ∧ sv' = .int .i64 (ls g (U.take j)) ∧ Below w1.heap.size w1 wr) (fun _ jv _ => um - (intOf jv).toNat)
  case atStart => exact ⟨0, Nat.zero_le _, rfl, rfl, Below.refl _ _⟩
  case round =>
    obtain ⟨j, hj, rfl, rfl, hBj⟩ := hrel
    have HBJ := Lib.hid hBj
    clear hBj
    have HBW := Lib.hid (show Below w.heap.size w wr from HB1.out.trans (HBJ.out.mono HB1.out.size))
    by_cases hltj : j < um
    · have hji : (j : Int) < (um : Int) := by omega
      have z0 := HUC.out wr HBJ.out j hltj
      have hyn := HSX.out j hltj
      have HLJ := Lib.hid (show ls g (U.take (j + 1)) = ls g (U.take j) + g (tn U j) by rw [tn_take (by have := HUM.out; omega), ls_app]; simp [ls])
      have hb1 := HLS.out (U.take (j + 1)) (by rw [List.length_take]; omega)
      rw [HLJ.out] at hb1
      generalize tn U j = y at *
      have z1 := HGC.out wr HBW.out y hyn
      generalize g y = gy at *
      generalize ls g (U.take j) = s0 at *
      have hyi : (y : Int) < (n : Int) := by omega
      have hw2 : wrap64 (s0 + gy) = s0 + gy := by unfold wrap64; omega
      clear hb1
      go_wp2_with fail
      go_roundw
      case rel => exact ⟨j + 1, by omega, by go_num, by rw [HLJ.out, hw2], HBJ.out⟩
      case measure => simp [intOf]; omega
    · obtain rfl : um = j := by omega
      have HTK := Lib.hid (show ls g (U.take um) = R by rw [← HUM.out, List.take_length]; exact HSS.out)
      rw [HTK.out]
      go_wp2_with fail
      go_ret
      exact ⟨rfl, HBW.out⟩
open Go.RowKit Go.Shelf
set_option linter.unusedSimpArgs false
attribute [local go_sem] Oper.semAt_some
/-- k is the first of n that has it, or n -/
def FirstAt (p : Nat → Bool) (n k : Nat) : Prop := k ≤ n ∧ (∀ i, i < k → p i = false) ∧ (k < n → p k = true)
theorem FirstAt.one {p : Nat → Bool} {n k k' : Nat} (h : FirstAt p n k) (h' : FirstAt p n k') : k = k' := by
  obtain ⟨a, b, c⟩ := h
  obtain ⟨a', b', c'⟩ := h'
  rcases Nat.lt_trichotomy k k' with e | e | e
  · have := b' k e; rw [c (by omega)] at this; cases this
  · exact e
  · have := b k' e; rw [c' (by omega)] at this; cases this
set_option maxRecDepth 100000 in
set_option maxHeartbeats 4000000 in
theorem index28_any (v : Value) (zs : List Int) (hl : zs.length ≤ 1000) (w : World) (hI : Il w.heap.size w v zs) : Calls Tryz.prog 28 #[v, .int .i64 0] w fun e w' => (∃ k, FirstAt (fun i => ti zs i == 0) zs.length k ∧ e = .returned (.int .i64 (if k < zs.length then (k : Int) else -1))) ∧ w' = w := by
  obtain ⟨a, cap, rfl, -, hc⟩ := hI
  have HC := Lib.hid hc
  clear hc
  generalize zs.length = n at *
  go_enter Tryz.func28, Tryz.ntmps28
  go_wp2_with fail
  go_loopw [8] (fun iv wr => ∃ k : Nat, k ≤ n ∧ iv = .int .i64 k ∧ wr = w ∧ ∀ i, i < k → (ti zs i == 0) = false) (fun iv _ => n - (intOf iv).toNat)
  case atStart => exact ⟨0, Nat.zero_le _, rfl, rfl, fun i h => absurd h (Nat.not_lt_zero i)⟩
  case round =>
    obtain ⟨k, hk, rfl, hwr, hall⟩ := hrel
    subst hwr
    have HALL := Lib.hid hall
    clear hall
    by_cases hlt : k < n
    · have hki : (k : Int) < (n : Int) := by omega
      obtain ⟨b, off, hab, hb, c0⟩ := HC.out k hlt
      subst hab
      by_cases hz : ti zs k = 0
      · have HZ := Lib.hid hz
        rw [hz] at c0
        clear hz
        go_wp2_with fail
        go_ret
        exact ⟨⟨k, ⟨hk, HALL.out, fun _ => by simp [HZ.out]⟩, by rw [if_pos hlt]; rfl⟩, rfl⟩
      · have hne2 : ¬ (0 : Int) = ti zs k := fun e => hz e.symm
        have hne' : ((0 : Int) == ti zs k) = false := by simpa using hne2
        have HZ := Lib.hid (show (ti zs k == 0) = false by simpa using hz)
        clear hz
        obtain ⟨z, hz⟩ : ∃ z, z = ti zs k := ⟨_, rfl⟩
        rw [← hz] at c0 hne2 hne'
        clear hz
        go_wp2_with fail
        go_roundw
        case rel =>
          refine ⟨k + 1, by omega, by go_num, by simp, fun i hi => ?_⟩
          by_cases e : i = k
          · subst e; exact HZ.out
          · exact HALL.out i (by omega)
        case measure => simp [intOf]; omega
    · obtain rfl : n = k := by omega
      go_wp2_with fail
      go_ret
      exact ⟨⟨n, ⟨Nat.le_refl _, HALL.out, fun h => absurd h (Nat.lt_irrefl _)⟩, by rw [if_neg (Nat.lt_irrefl _)]; rfl⟩, rfl⟩
/-- what CheckShare says: the segment and the error -/
def ChkP (sl sh : Int) (ns : List Nd) (gs : List Int) (K E : Int) : Prop :=
  (cabE sl sh ns ≠ 0 ∧ K = 0 ∧ E = cabE sl sh ns) ∨ (cabE sl sh ns = 0 ∧ gs.length ≠ ns.length ∧ K = 0 ∧ E = 17) ∨ (cabE sl sh ns = 0 ∧ gs.length = ns.length ∧ (∃ k, k < gs.length ∧ ¬ (0 ≤ ti gs k ∧ ti gs k ≤ 65536)) ∧ K = 0 ∧ E = 3) ∨
  (cabE sl sh ns = 0 ∧ gs.length = ns.length ∧ (∀ k, k < gs.length → 0 ≤ ti gs k ∧ ti gs k ≤ 65536) ∧ ∃ k, FirstAt (fun i => decide ((nd ns i).lim < caF ns (ti gs) i)) ns.length k ∧ ((k < ns.length ∧ K = k ∧ E = 18) ∨ (k = ns.length ∧ K = 0 ∧ E = 0)))
theorem ChkP.one {sl sh : Int} {ns : List Nd} {gs : List Int} {K E K' E' : Int} (h : ChkP sl sh ns gs K E) (h' : ChkP sl sh ns gs K' E') : K = K' ∧ E = E' := by
  rcases h with ⟨h1, h2, h3⟩ | ⟨h1, h2, h3, h4⟩ | ⟨h1, h2, ⟨q, h3, h4⟩, h5, h6⟩ | ⟨h1, h2, h3, q, h4, h5⟩ <;> rcases h' with ⟨g1, g2, g3⟩ | ⟨g1, g2, g3, g4⟩ | ⟨g1, g2, ⟨r, g3, g4⟩, g5, g6⟩ | ⟨g1, g2, g3, r, g4, g5⟩
  all_goals first
    | exact absurd g1 h1
    | exact absurd h1 g1
    | exact absurd g2 h2
    | exact absurd h2 g2
    | exact absurd (h3 r g3) g4
    | exact absurd (g3 q h3) h4
    | (subst_vars; exact ⟨rfl, rfl⟩)
    | (have e := h4.one g4; subst e; omega)
theorem ansW_dw {ns : List Nd} {g : Nat → Int} {k : Nat} (hk : k < ns.length) : (ansW (dwL ns g) k == 0) = decide ((nd ns k).lim < caF ns g k) := by
  unfold ansW
  rw [dwL_nd hk, (dwL_cur g k).1, (dwL_cur g k).2]
  have e0 : (dwN ns g k).lim = (nd ns k).lim := rfl
  rw [e0]
  by_cases h : caF ns g k ≤ (nd ns k).lim
  · rw [decide_eq_true h, decide_eq_false (by omega)]; rfl
  · rw [decide_eq_false h, decide_eq_true (by omega)]; rfl
set_option maxRecDepth 100000 in
set_option maxHeartbeats 8000000 in
theorem check9_all (sl sh : Int) (sv gv : Value) (ns : List Nd) (gs : List Int) (hgl : gs.length ≤ 1000) (w : World) (hN : Nds w.heap.size w sv ns) (hG : Il w.heap.size w gv gs) :
    Calls Tryz.prog 9 #[.agg #[.int .i64 sl, .int .i64 sh, sv], gv] w fun e w' => ∃ K E, e = .returned (.tuple #[.int .i64 K, .int .i64 E]) ∧ ChkP sl sh ns gs K E ∧ Below w.heap.size w w' := by
  have c1 := Lib.hid (fun W (h : Below w.heap.size w W) => check25 sl sh sv ns W (hN.at h))
  have c2 := Lib.hid (fun W (h : Below w.heap.size w W) => upTo_all gv gs 65536 W (hG.at h) hgl)
  have c3 := Lib.hid (fun (hv : ValidC sl sh ns) (hl : gs.length = ns.length) W (h : Below w.heap.size w W) => drawing_any sl sh sv gv ns gs hv hl W (hN.at h) (hG.at h))
  have c4 := Lib.hid (fun (hdv : ValidC sl sh (dwL ns (ti gs))) W dv (h : Nds W.heap.size W dv (dwL ns (ti gs))) => allowed_any sl sh dv (dwL ns (ti gs)) hdv W h)
  have c5 := Lib.hid (show ns.length ≤ 60 → ∀ W base v, W.ownsRow base 61 1 v (dwL ns (ti gs)).length ((fL (ansW (dwL ns (ti gs))) (dwL ns (ti gs)).length).map (fun x => Value.int .i64 x)) → Calls Tryz.prog 28 #[v, .int .i64 0] W fun e w' => (∃ k, FirstAt (fun i => decide ((nd ns i).lim < caF ns (ti gs) i)) ns.length k ∧ e = .returned (.int .i64 (if k < ns.length then (k : Int) else -1))) ∧ w' = W from fun hn W base v h => by
    refine (index28_any v (fL (ansW (dwL ns (ti gs))) (dwL ns (ti gs)).length) (by rw [fL_len, dwL_len]; omega) W (il_of_ints h)).mono fun e w' hp => ?_
    obtain ⟨⟨k, hf, he⟩, hw⟩ := hp
    rw [fL_len, dwL_len] at hf he
    refine ⟨⟨k, ⟨hf.1, fun i hi => ?_, fun hk => ?_⟩, he⟩, hw⟩
    · have hin : i < ns.length := by have := hf.1; omega
      have q : (ti (fL (ansW (dwL ns (ti gs))) ns.length) i == 0) = false := hf.2.1 i hi
      rw [fL_ti _ hin, ansW_dw hin] at q
      exact q
    · have q : (ti (fL (ansW (dwL ns (ti gs))) ns.length) k == 0) = true := hf.2.2 hk
      rw [fL_ti _ hk, ansW_dw hk] at q
      exact q)
  have HDV := Lib.hid (fun (hv : ValidC sl sh ns) (hg : ∀ k, k < ns.length → 0 ≤ ti gs k ∧ ti gs k ≤ 65536) => dwL_valid (g := ti gs) hg hv)
  have P1 := Lib.hid (fun h => show ChkP sl sh ns gs 0 (cabE sl sh ns) from .inl ⟨h, rfl, rfl⟩)
  have P2 := Lib.hid (fun h h' => show ChkP sl sh ns gs 0 17 from .inr (.inl ⟨h, h', rfl, rfl⟩))
  have P3 := Lib.hid (fun h h' h'' => show ChkP sl sh ns gs 0 3 from .inr (.inr (.inl ⟨h, h', h'', rfl, rfl⟩)))
  have P4 := Lib.hid (fun h h' h'' (k : Nat) hk e => show ChkP sl sh ns gs k 18 from .inr (.inr (.inr ⟨h, h', h'', k, hk, .inl ⟨e, rfl, rfl⟩⟩)))
  have P5 := Lib.hid (fun h h' h'' hk => show ChkP sl sh ns gs 0 0 from .inr (.inr (.inr ⟨h, h', h'', ns.length, hk, .inr ⟨rfl, rfl, rfl⟩⟩)))
  have HOK := Lib.hid (fun (h : cabE sl sh ns = 0) => cabE_ok h)
  obtain ⟨a, cap, hsv⟩ := hN.form
  subst hsv
  obtain ⟨ga, gc, rfl⟩ := hG.form
  have HNX := Lib.hid (show ∀ M, M = decide (∀ k, k < gs.length → 0 ≤ ti gs k ∧ ti gs k ≤ 65536) → (M = false → ∃ k, k < gs.length ∧ ¬ (0 ≤ ti gs k ∧ ti gs k ≤ 65536)) ∧ (M = true → ∀ k, k < gs.length → 0 ≤ ti gs k ∧ ti gs k ≤ 65536) from fun M hM => by
    subst hM
    refine ⟨fun h => ?_, fun h => of_decide_eq_true h⟩
    have h := of_decide_eq_false h
    exact Classical.byContradiction fun hn => h fun k hk => Classical.byContradiction fun hc => hn ⟨k, hk, hc⟩)
  clear hN hG
  obtain ⟨M, hM⟩ : ∃ M, M = decide (∀ k, k < gs.length → 0 ≤ ti gs k ∧ ti gs k ≤ 65536) := ⟨_, rfl⟩
  obtain ⟨hMf, hMt⟩ := HNX.out M hM
  rw [← hM] at c2
  have HMF := Lib.hid hMf
  have HMT := Lib.hid hMt
  clear hM hMf hMt HNX
  generalize hPP : ChkP sl sh ns gs = PP at *
  generalize hFF : cabE sl sh ns = F at *
  generalize hnn : ns.length = n at *
  generalize hrn : gs.length = rn at *
  clear hPP
  have HFF := Lib.hid hFF
  have HNN := Lib.hid hnn
  have HRN := Lib.hid hrn
  clear hFF hnn hrn
  obtain ⟨A, hA⟩ : ∃ A, A = w.alloc (.cells #[.int .i64 sl, .int .i64 sh, .slice a n cap] 26) := ⟨_, rfl⟩
  have HBA := Lib.hid (show Below w.heap.size w A by rw [hA]; exact ((Below.refl _ _).alloc (Nat.le_refl _) _))
  have hltA : w.heap.size < A.heap.size := by rw [hA]; simp
  have q0 : A.cell? ⟨w.heap.size, 0, none⟩ = some (.int .i64 sl) := by rw [hA]; exact (cellHB (World.alloc_heap_new w _) 0).trans (by simp)
  have q1 : A.cell? ⟨w.heap.size, 1, none⟩ = some (.int .i64 sh) := by rw [hA]; exact (cellHB (World.alloc_heap_new w _) 1).trans (by simp)
  have q2 : A.cell? ⟨w.heap.size, 2, none⟩ = some (.slice a n cap) := by rw [hA]; exact (cellHB (World.alloc_heap_new w _) 2).trans (by simp)
  have KK := Lib.hid (show ∀ W, Below A.heap.size A W → W.cell? ⟨w.heap.size, 0, none⟩ = some (.int .i64 sl) ∧ W.cell? ⟨w.heap.size, 1, none⟩ = some (.int .i64 sh) ∧ W.cell? ⟨w.heap.size, 2, none⟩ = some (.slice a n cap) from fun W h => ⟨(h.cell (p := ⟨w.heap.size, 0, none⟩) hltA).trans q0, (h.cell (p := ⟨w.heap.size, 1, none⟩) hltA).trans q1, (h.cell (p := ⟨w.heap.size, 2, none⟩) hltA).trans q2⟩)
  clear hltA q0 q1 q2
  have HUP := Lib.hid (show ∀ W, Below A.heap.size A W → Below w.heap.size w W from fun W h => HBA.out.trans (h.mono HBA.out.size))
  obtain ⟨k0, k1, k2⟩ := KK.out _ (Below.refl _ _)
  go_enter Tryz.func9, Tryz.ntmps9
  go_upto_region 1 with fail
  rw [← hA]
  clear hA
  go_wp2_with fail
  refine (c1.out _ HBA.out).mono ?_
  rintro e w1 ⟨rfl, hb⟩
  have HB1 := Lib.hid hb
  clear hb k0 k1 k2
  obtain ⟨k0, k1, k2⟩ := KK.out _ HB1.out
  by_cases hF : F = 0
  · by_cases ha : rn = n
    · cases M
      · have hp := P3.out hF ha (HMF.out rfl)
        subst hF ha
        clear P1 P2 P3 P4 P5 HOK c3 c4 c5 HDV
        go_wp2_with fail
        refine (c2.out _ (HUP.out _ HB1.out)).mono ?_
        rintro e w2 ⟨rfl, hw2⟩
        subst hw2
        go_wp2_with fail
        go_ret2
        exact ⟨_, _, rfl, hp, HUP.out _ HB1.out⟩
      · have hv := HOK.out hF
        have hall := HMT.out rfl
        have Q4 := Lib.hid (P4.out hF ha hall)
        have Q5 := Lib.hid (P5.out hF ha hall)
        have d3 := Lib.hid (c3.out hv ha)
        have d4 := Lib.hid (c4.out (HDV.out hv (by rw [← ha]; exact hall)))
        have hn60 := hv.len
        have d5 := Lib.hid (c5.out (by have := HNN.out; omega))
        subst hF ha
        clear P1 P2 P3 P4 P5 HOK c3 c4 c5 HDV hv hall HMF HMT hn60
        generalize (dwL ns (ti gs)).length = dn at *
        generalize (fL (ansW (dwL ns (ti gs))) dn).map (fun x => Value.int .i64 x) = AW at *
        generalize dwL ns (ti gs) = dns at *
        generalize (fun i => decide ((nd ns i).lim < caF ns (ti gs) i)) = FP at *
        go_wp2_with fail
        refine (c2.out _ (HUP.out _ HB1.out)).mono ?_
        rintro e w2 ⟨rfl, hw2⟩
        subst hw2
        go_wp2_with fail
        refine (d3.out _ (HUP.out _ HB1.out)).mono ?_
        rintro e w3 ⟨dv, rfl, hdn, hb⟩
        have HB3 := Lib.hid (HB1.out.trans (hb.mono HB1.out.size))
        have HDN := Lib.hid hdn
        clear hb hdn k0 k1 k2
        go_wp2_with fail
        refine (d4.out _ dv HDN.out).mono ?_
        rintro e w4 ⟨av, rfl, ho, hb⟩
        have HB4 := Lib.hid (HB3.out.trans (hb.mono HB3.out.size))
        have HO := Lib.hid ho
        clear hb ho
        go_wp2_with fail
        refine (d5.out _ _ av HO.out).mono ?_
        rintro e w5 ⟨⟨q, hq, rfl⟩, hw5⟩
        subst hw5
        have HQ := Lib.hid hq
        clear hq
        by_cases hqn : q < rn
        · rw [if_pos hqn]
          have hq0 : (0 : Int) ≤ (q : Int) := by omega
          go_wp2_with fail
          go_ret2
          exact ⟨_, _, rfl, Q4.out q HQ.out hqn, HUP.out _ HB4.out⟩
        · rw [if_neg hqn]
          have hqe : q = rn := by have := HQ.out.1; omega
          subst hqe
          go_wp2_with fail
          go_ret2
          exact ⟨_, _, rfl, Q5.out HQ.out, HUP.out _ HB4.out⟩
    · have hp := P2.out hF ha
      subst hF
      clear P1 P2 P3 P4 P5 HOK c2 c3 c4 c5 HDV
      have hb' : ((rn : Int) != (n : Int)) = true := by simpa using (show ¬ (rn : Int) = (n : Int) by omega)
      go_wp2_with fail
      go_ret2
      exact ⟨_, _, rfl, hp, HUP.out _ HB1.out⟩
  · have hp := P1.out hF
    clear P1 P2 P3 P4 P5 HOK c2 c3 c4 c5 HDV
    have hF' : (F != 0) = true := by simpa using hF
    go_wp2_with fail
    go_ret2
    exact ⟨_, _, rfl, hp, HUP.out _ HB1.out⟩
open Go.RowKit Go.Shelf
set_option linter.unusedSimpArgs false
attribute [local go_sem] Oper.semAt_some
theorem ti_get (l : List Int) (i : Nat) (h : i < l.length) : ti l i = l[i] := by
  unfold ti
  rw [List.getElem?_eq_getElem h]
  rfl
theorem fL_self (gs : List Int) (n : Nat) (h : gs.length = n) : gs = fL (ti gs) n := by
  refine List.ext_getElem (by rw [fL_len, h]) fun i h1 h2 => ?_
  rw [← ti_get gs i h1, ← ti_get _ i h2, fL_ti _ (by omega)]
set_option maxRecDepth 100000 in
set_option maxHeartbeats 16000000 in
/-- the reference's CheckShare -/
theorem ref10_all (sl sh : Int) (sv gv : Value) (ns : List Nd) (gs : List Int) (w : World) (hN : Nds w.heap.size w sv ns) (hG : Il w.heap.size w gv gs) :
    Calls Tryz.prog 10 #[.agg #[.int .i64 sl, .int .i64 sh, sv], gv] w fun e w' => ∃ K E, e = .returned (.tuple #[.int .i64 K, .int .i64 E]) ∧ ChkP sl sh ns gs K E ∧ Below w.heap.size w w' := by
  have c1 := Lib.hid (fun W (h : Below w.heap.size w W) => refCheck_any sl sh sv ns W (hN.at h))
  have cC := Lib.hid (show ValidC sl sh ns → gs.length = ns.length → (∀ k, k < gs.length → 0 ≤ ti gs k ∧ ti gs k ≤ 65536) → ∀ (k : Nat) W, Below w.heap.size w W → Calls Tryz.prog 27 #[.agg #[.int .i64 sl, .int .i64 sh, sv], gv, .int .i64 (k : Int)] W fun e w' => e = .returned (.int .i64 (caF ns (ti gs) k)) ∧ Below W.heap.size W w' from fun hv hl hb k W h => by
    have e : gs = fL (ti gs) ns.length := fL_self gs _ hl
    refine carried_any sl sh sv gv ns (ti gs) k hv (fun q => ?_) W (hN.at h) (by rw [← e]; exact hG.at h)
    by_cases hq : q < gs.length
    · exact hb q hq
    · unfold ti; rw [List.getElem?_eq_none (by omega)]; decide)
  have P1 := Lib.hid (fun h => show ChkP sl sh ns gs 0 (cabE sl sh ns) from .inl ⟨h, rfl, rfl⟩)
  have P2 := Lib.hid (fun h h' => show ChkP sl sh ns gs 0 17 from .inr (.inl ⟨h, h', rfl, rfl⟩))
  have P3 := Lib.hid (fun h h' h'' => show ChkP sl sh ns gs 0 3 from .inr (.inr (.inl ⟨h, h', h'', rfl, rfl⟩)))
  have P4 := Lib.hid (fun h h' h'' (k : Nat) hk e => show ChkP sl sh ns gs k 18 from .inr (.inr (.inr ⟨h, h', h'', k, hk, .inl ⟨e, rfl, rfl⟩⟩)))
  have P5 := Lib.hid (fun h h' h'' hk => show ChkP sl sh ns gs 0 0 from .inr (.inr (.inr ⟨h, h', h'', ns.length, hk, .inr ⟨rfl, rfl, rfl⟩⟩)))
  have HOK := Lib.hid (fun (h : cabE sl sh ns = 0) => cabE_ok h)
  have HLC := Lib.hid (show ∀ W k, Below w.heap.size w W → k < ns.length → ∃ b off c, sv = .slice (some ⟨b, off, none⟩) ns.length c ∧ W.cell? ⟨b, off + k * 8 + 3, none⟩ = some (.int .i64 (nd ns k).lim) from fun W k hb hk => by
    obtain ⟨a, cap, rfl, -, hcc⟩ := hN
    obtain ⟨b', off', h1, h2, e0, e1, e2, e3, e4, e5, e6, e7⟩ := hcc k hk
    subst h1
    exact ⟨b', off', cap, rfl, (hb.cell (p := ⟨b', _, none⟩) h2).trans e3⟩)
  obtain ⟨ga, gc, rfl, -, hgc⟩ := hG
  have HGC := Lib.hid (show ∀ W k, Below w.heap.size w W → k < gs.length → ∃ b off, ga = some ⟨b, off, none⟩ ∧ W.cell? ⟨b, off + k, none⟩ = some (.int .i64 (ti gs k)) from fun W k hb hk => by
    obtain ⟨b, off, h1, h2, e⟩ := hgc k hk
    exact ⟨b, off, h1, (hb.cell (p := ⟨b, _, none⟩) h2).trans e⟩)
  obtain ⟨a, cap, hsv⟩ := hN.form
  subst hsv
  clear hN hgc
  have HFA := Lib.hid (show ∀ k, k ≤ ns.length → (∀ i, i < k → caF ns (ti gs) i ≤ (nd ns i).lim) → (k < ns.length → (nd ns k).lim < caF ns (ti gs) k) → FirstAt (fun i => decide ((nd ns i).lim < caF ns (ti gs) i)) ns.length k from fun k h1 h2 h3 => ⟨h1, fun i hi => decide_eq_false (by have := h2 i hi; omega), fun h => decide_eq_true (h3 h)⟩)
  have HCB := Lib.hid (show ValidC sl sh ns → ns.length ≤ 60 ∧ 0 < ns.length from fun h => ⟨h.len, h.pos⟩)
  generalize hPP : ChkP sl sh ns gs = PP at *
  clear hPP
  generalize hFF : cabE sl sh ns = F at *
  clear hFF
  generalize (fun i => decide ((nd ns i).lim < caF ns (ti gs) i)) = FP at *
  generalize hVV : ValidC sl sh ns = VV at *
  clear hVV
  generalize caF ns (ti gs) = ca at *
  generalize ns.length = n at *
  generalize gs.length = rn at *
  obtain ⟨A, hA⟩ : ∃ A, A = w.alloc (.cells #[.int .i64 sl, .int .i64 sh, .slice a n cap] 26) := ⟨_, rfl⟩
  have HBA := Lib.hid (show Below w.heap.size w A by rw [hA]; exact ((Below.refl _ _).alloc (Nat.le_refl _) _))
  have hltA : w.heap.size < A.heap.size := by rw [hA]; simp
  have q0 : A.cell? ⟨w.heap.size, 0, none⟩ = some (.int .i64 sl) := by rw [hA]; exact (cellHB (World.alloc_heap_new w _) 0).trans (by simp)
  have q1 : A.cell? ⟨w.heap.size, 1, none⟩ = some (.int .i64 sh) := by rw [hA]; exact (cellHB (World.alloc_heap_new w _) 1).trans (by simp)
  have q2 : A.cell? ⟨w.heap.size, 2, none⟩ = some (.slice a n cap) := by rw [hA]; exact (cellHB (World.alloc_heap_new w _) 2).trans (by simp)
  have KK := Lib.hid (show ∀ W, Below A.heap.size A W → W.cell? ⟨w.heap.size, 0, none⟩ = some (.int .i64 sl) ∧ W.cell? ⟨w.heap.size, 1, none⟩ = some (.int .i64 sh) ∧ W.cell? ⟨w.heap.size, 2, none⟩ = some (.slice a n cap) from fun W h => ⟨(h.cell (p := ⟨w.heap.size, 0, none⟩) hltA).trans q0, (h.cell (p := ⟨w.heap.size, 1, none⟩) hltA).trans q1, (h.cell (p := ⟨w.heap.size, 2, none⟩) hltA).trans q2⟩)
  clear hltA q0 q1 q2
  have HUP := Lib.hid (show ∀ W, Below A.heap.size A W → Below w.heap.size w W from fun W h => HBA.out.trans (h.mono HBA.out.size))
  obtain ⟨k0, k1, k2⟩ := KK.out _ (Below.refl _ _)
  go_enter Tryz.func10, Tryz.ntmps10
  go_upto_region 1 with fail
  rw [← hA]
  clear hA
  go_wp2_with fail
  refine (c1.out _ HBA.out).mono ?_
  rintro e w1 ⟨rfl, hb⟩
  have HB1 := Lib.hid hb
  clear hb k0 k1 k2
  obtain ⟨k0, k1, k2⟩ := KK.out _ HB1.out
  by_cases hF : F = 0
  · by_cases ha : rn = n
    · have hv := HOK.out hF
      obtain ⟨hn60, hn0⟩ := HCB.out hv
      have Q3 := Lib.hid (P3.out hF ha)
      have Q4 := Lib.hid (P4.out hF ha)
      have Q5 := Lib.hid (P5.out hF ha)
      have dC := Lib.hid (cC.out hv ha)
      subst hF ha
      clear P1 P2 P3 P4 P5 HOK cC HCB hv
      go_wp2_with fail
      go_loopw [7] (fun iv wr => ∃ i : Nat, i ≤ rn ∧ iv = .int .i64 i ∧ (∀ t, t < i → 0 ≤ ti gs t ∧ ti gs t ≤ 65536) ∧ Below w1.heap.size w1 wr) (fun iv _ => rn - (intOf iv).toNat)
      case atStart => exact ⟨0, Nat.zero_le _, rfl, fun t h => absurd h (Nat.not_lt_zero t), Below.refl _ _⟩
      case round =>
        obtain ⟨i, hi, rfl, hall, hBi⟩ := hrel
        have HALL := Lib.hid hall
        have HBI := Lib.hid hBi
        clear hall hBi
        have HBW := Lib.hid (show Below A.heap.size A wr from HB1.out.trans (HBI.out.mono HB1.out.size))
        by_cases hlt : i < rn
        · have hii : (i : Int) < (rn : Int) := by omega
          obtain ⟨b, off, hab, u0⟩ := HGC.out wr i (HUP.out _ HBW.out) hlt
          subst hab
          by_cases hz : 0 ≤ ti gs i ∧ ti gs i ≤ 65536
          · have HZ := Lib.hid hz
            obtain ⟨z, hzz⟩ : ∃ z, z = ti gs i := ⟨_, rfl⟩
            rw [← hzz] at u0 hz
            clear hzz
            have hz1 : ¬ z < 0 := by omega
            have hz2 : ¬ 65536 < z := by omega
            clear hz
            go_wp2_with fail
            go_roundw
            case rel =>
              refine ⟨i + 1, by omega, by go_num, fun t ht => ?_, HBI.out⟩
              by_cases e : t = i
              · subst e; exact HZ.out
              · exact HALL.out t (by omega)
            case measure => simp [intOf]; omega
          · have hp := Q3.out ⟨i, hlt, hz⟩
            obtain ⟨z, hzz⟩ : ∃ z, z = ti gs i := ⟨_, rfl⟩
            rw [← hzz] at u0 hz
            clear hzz Q3 Q4 Q5 dC
            by_cases hz1 : z < 0
            · clear hz
              go_wp2_with fail
              go_ret2
              exact ⟨_, _, rfl, hp, HUP.out _ HBW.out⟩
            · have hz2 : 65536 < z := by omega
              clear hz
              go_wp2_with fail
              go_ret2
              exact ⟨_, _, rfl, hp, HUP.out _ HBW.out⟩
        · obtain rfl : rn = i := by omega
          have R4 := Lib.hid (Q4.out HALL.out)
          have R5 := Lib.hid (Q5.out HALL.out)
          have eC := Lib.hid (dC.out HALL.out)
          obtain ⟨W0, rfl⟩ : ∃ W0, W0 = wr := ⟨_, rfl⟩
          clear Q3 Q4 Q5 dC k0 k1 k2
          obtain ⟨b, off, c9, hsv9, -⟩ := HLC.out W0 0 (HUP.out _ HBW.out) hn0
          simp only [Value.slice.injEq] at hsv9
          obtain ⟨rfl, -, rfl⟩ := hsv9
          have HLM := Lib.hid (show ∀ W k, Below w.heap.size w W → k < rn → W.cell? ⟨b, off + k * 8 + 3, none⟩ = some (.int .i64 (nd ns k).lim) from fun W k hb hk => by
            obtain ⟨b', off', c', e1, e2⟩ := HLC.out W k hb hk
            simp only [Value.slice.injEq, Option.some.injEq, Addr.mk.injEq] at e1
            obtain ⟨⟨rfl, rfl, -⟩, -, -⟩ := e1
            exact e2)
          clear HLC
          obtain ⟨k0, k1, k2⟩ := KK.out _ HBW.out
          go_wp2_with fail
          go_loopw [8] (fun iv wr => ∃ k : Nat, k ≤ rn ∧ iv = .int .i64 k ∧ (∀ t, t < k → ca t ≤ (nd ns t).lim) ∧ Below W0.heap.size W0 wr) (fun iv _ => rn - (intOf iv).toNat)
          case atStart => exact ⟨0, Nat.zero_le _, rfl, fun t h => absurd h (Nat.not_lt_zero t), Below.refl _ _⟩
          case round =>
            obtain ⟨k, hk, rfl, hno, hBk⟩ := hrel
            have HNO := Lib.hid hno
            have HBK := Lib.hid hBk
            clear hno hBk k0 k1 k2
            have HBX := Lib.hid (show Below A.heap.size A wr from HBW.out.trans (HBK.out.mono HBW.out.size))
            obtain ⟨k0, k1, k2⟩ := KK.out _ HBX.out
            by_cases hlt : k < rn
            · have hki : (k : Int) < (rn : Int) := by omega
              have l0 := HLM.out wr k (HUP.out _ HBX.out) hlt
              have HD := Lib.hid (show Below A.heap.size A wr.drew from HBX.out.drew)
              have KX := Lib.hid (show ∀ Z, Below A.heap.size A Z → Z.cell? ⟨w.heap.size, 0, none⟩ = some (.int .i64 sl) ∧ Z.cell? ⟨w.heap.size, 1, none⟩ = some (.int .i64 sh) ∧ Z.cell? ⟨w.heap.size, 2, none⟩ = some (.slice (some ⟨b, off, none⟩) rn cap) ∧ Z.cell? ⟨b, off + k * 8 + 3, none⟩ = some (.int .i64 (nd ns k).lim) from fun Z h => by
                obtain ⟨q0, q1, q2⟩ := KK.out Z h
                exact ⟨q0, q1, q2, HLM.out Z k (HUP.out _ h) hlt⟩)
              have eK := Lib.hid (eC.out k)
              go_upto_region 14 with fail
              by_cases hgt : (nd ns k).lim < ca k
              · have hp := R4.out k (HFA.out k hk HNO.out (fun _ => hgt)) hlt
                generalize (nd ns k).lim = lk at *
                generalize ca k = ck at *
                refine wp_region_held_drew (S := fun w' => w'.cell? ⟨w.heap.size, 0, none⟩ = some (Value.int .i64 sl) ∧ w'.cell? ⟨w.heap.size, 1, none⟩ = some (Value.int .i64 sh) ∧ w'.cell? ⟨w.heap.size, 2, none⟩ = some (Value.slice (some ⟨b, off, none⟩) rn cap) ∧ w'.cell? ⟨b, off + k * 8 + 3, none⟩ = some (Value.int .i64 lk)) (by kernel_rfl) ⟨by simpa [go_sem] using k0, by simpa [go_sem] using k1, by simpa [go_sem] using k2, by simpa [go_sem] using l0⟩ (fun hHeld => ?_)
                refine wpAnyH_take (i := 0) (oi := _) (v := Value.agg #[Value.int .i64 sl, Value.int .i64 sh, Value.slice (some ⟨b, off, none⟩) rn cap]) rfl (by kernel_rfl) (by kernel_rfl) (by kernel_rfl) (fun _ _ _ h => h) (Or.inl ⟨by rfl, fun w' hSw => ?_⟩) hHeld ?_
                · obtain ⟨t0, t1, t2, t3⟩ := hSw
                  go_simp
                  try simp [*]
                  try (intro hh; exfalso; omega)
                  try omega
                try simp only [Act.put, List.setIfInBounds_toArray, List.set_cons_zero, List.set_cons_succ, List.getElem_toArray, List.getElem_cons_succ, List.getElem_cons_zero]
                refine wpAnyH_take (i := 1) (oi := _) (v := Value.slice ga rn gc) rfl (by kernel_rfl) (by kernel_rfl) (by kernel_rfl) (fun _ _ _ h => h) (Or.inl ⟨by rfl, fun w' hSw => ?_⟩) hHeld ?_
                · obtain ⟨t0, t1, t2, t3⟩ := hSw
                  go_simp
                  try simp [*]
                  try (intro hh; exfalso; omega)
                  try omega
                try simp only [Act.put, List.setIfInBounds_toArray, List.set_cons_zero, List.set_cons_succ, List.getElem_toArray, List.getElem_cons_succ, List.getElem_cons_zero]
                refine wpAnyH_take (i := 2) (oi := _) (v := Value.int .i64 (k : Int)) rfl (by kernel_rfl) (by kernel_rfl) (by kernel_rfl) (fun _ _ _ h => h) (Or.inl ⟨by rfl, fun w' hSw => ?_⟩) hHeld ?_
                · obtain ⟨t0, t1, t2, t3⟩ := hSw
                  go_simp
                  try simp [*]
                  try (intro hh; exfalso; omega)
                  try omega
                try simp only [Act.put, List.setIfInBounds_toArray, List.set_cons_zero, List.set_cons_succ, List.getElem_toArray, List.getElem_cons_succ, List.getElem_cons_zero]
                refine wpAnyH_take (i := 4) (oi := _) (v := Value.pointer (some ⟨w.heap.size, 2, none⟩)) rfl (by kernel_rfl) (by kernel_rfl) (by kernel_rfl) (fun _ _ _ h => h) (Or.inl ⟨by rfl, fun w' hSw => ?_⟩) hHeld ?_
                · obtain ⟨t0, t1, t2, t3⟩ := hSw
                  go_simp
                  try simp [*]
                  try (intro hh; exfalso; omega)
                  try omega
                try simp only [Act.put, List.setIfInBounds_toArray, List.set_cons_zero, List.set_cons_succ, List.getElem_toArray, List.getElem_cons_succ, List.getElem_cons_zero]
                refine wpAnyH_take (i := 5) (oi := _) (v := Value.slice (some ⟨b, off, none⟩) rn cap) rfl (by kernel_rfl) (by kernel_rfl) (by kernel_rfl) (fun _ _ _ h => h) (Or.inl ⟨by rfl, fun w' hSw => ?_⟩) hHeld ?_
                · obtain ⟨t0, t1, t2, t3⟩ := hSw
                  go_simp
                  try simp [*]
                  try (intro hh; exfalso; omega)
                  try omega
                try simp only [Act.put, List.setIfInBounds_toArray, List.set_cons_zero, List.set_cons_succ, List.getElem_toArray, List.getElem_cons_succ, List.getElem_cons_zero]
                refine wpAnyH_take (i := 6) (oi := _) (v := Value.int .i64 (k : Int)) rfl (by kernel_rfl) (by kernel_rfl) (by kernel_rfl) (fun _ _ _ h => h) (Or.inl ⟨by rfl, fun w' hSw => ?_⟩) hHeld ?_
                · obtain ⟨t0, t1, t2, t3⟩ := hSw
                  go_simp
                  try simp [*]
                  try (intro hh; exfalso; omega)
                  try omega
                try simp only [Act.put, List.setIfInBounds_toArray, List.set_cons_zero, List.set_cons_succ, List.getElem_toArray, List.getElem_cons_succ, List.getElem_cons_zero]
                refine wpAnyH_take (i := 7) (oi := _) (v := Value.pointer (some ⟨b, off + k * 8, none⟩)) rfl (by kernel_rfl) (by kernel_rfl) (by kernel_rfl) (fun _ _ _ h => h) (Or.inl ⟨by rfl, fun w' hSw => ?_⟩) hHeld ?_
                · obtain ⟨t0, t1, t2, t3⟩ := hSw
                  go_simp
                  try simp [*]
                  try (intro hh; exfalso; omega)
                  try omega
                try simp only [Act.put, List.setIfInBounds_toArray, List.set_cons_zero, List.set_cons_succ, List.getElem_toArray, List.getElem_cons_succ, List.getElem_cons_zero]
                refine wpAnyH_take (i := 8) (oi := _) (v := Value.pointer (some ⟨b, off + k * 8 + 3, none⟩)) rfl (by kernel_rfl) (by kernel_rfl) (by kernel_rfl) (fun _ _ _ h => h) (Or.inl ⟨by rfl, fun w' hSw => ?_⟩) hHeld ?_
                · obtain ⟨t0, t1, t2, t3⟩ := hSw
                  go_simp
                  try simp [*]
                  try (intro hh; exfalso; omega)
                  try omega
                try simp only [Act.put, List.setIfInBounds_toArray, List.set_cons_zero, List.set_cons_succ, List.getElem_toArray, List.getElem_cons_succ, List.getElem_cons_zero]
                refine wpAnyH_take (i := 9) (oi := _) (v := Value.int .i64 lk) rfl (by kernel_rfl) (by kernel_rfl) (by kernel_rfl) (fun _ _ _ h => h) (Or.inl ⟨by rfl, fun w' hSw => ?_⟩) hHeld ?_
                · obtain ⟨t0, t1, t2, t3⟩ := hSw
                  go_simp
                  try simp [*]
                  try (intro hh; exfalso; omega)
                  try omega
                try simp only [Act.put, List.setIfInBounds_toArray, List.set_cons_zero, List.set_cons_succ, List.getElem_toArray, List.getElem_cons_succ, List.getElem_cons_zero]
                refine wpAnyH_ready (rs := [3]) (by kernel_rfl) (by simp) ?_
                refine AllReadyH.cons (o := _) rfl (fun K hK => ?_) AllReadyH.nil
                go_simp
                go_at_call 27
                refine Calls.mono (eK.out _ (HUP.out _ HD.out)) ?_
                rintro e v9 ⟨rfl, hb⟩
                have HB9 := Lib.hid (HD.out.trans (hb.mono HD.out.size))
                have HB8 := Lib.hid (show Below W0.heap.size W0 v9 from HBK.out.drew.trans (hb.mono HBK.out.drew.size))
                clear hb
                clear hHeld
                refine hK.out _ _ (KX.out _ HB9.out) (fun hHeld => ?_)
                clear hK K
                try simp only [Act.put, List.setIfInBounds_toArray, List.set_cons_zero, List.set_cons_succ, List.getElem_toArray, List.getElem_cons_succ, List.getElem_cons_zero]
                refine wpAnyH_take (i := 10) (oi := _) (v := Value.bool true) rfl (by kernel_rfl) (by kernel_rfl) (by kernel_rfl) (fun _ _ _ h => h) (Or.inl ⟨by rfl, fun w' hSw => ?_⟩) hHeld ?_
                · obtain ⟨t0, t1, t2, t3⟩ := hSw
                  go_simp
                  try simp [*]
                  try (intro hh; exfalso; omega)
                  try omega
                try simp only [Act.put, List.setIfInBounds_toArray, List.set_cons_zero, List.set_cons_succ, List.getElem_toArray, List.getElem_cons_succ, List.getElem_cons_zero]
                refine wpAnyH_done (by kernel_rfl) ?_ _
                clear hHeld
                go_wp2_with fail
                go_ret2
                exact ⟨_, _, rfl, hp, HUP.out _ HB9.out⟩
              · have HGT := Lib.hid hgt
                generalize hlk : (nd ns k).lim = lk at *
                generalize hck : ca k = ck at *
                have HLK := Lib.hid hlk
                have HCK := Lib.hid hck
                clear hlk hck
                refine wp_region_held_drew (S := fun w' => w'.cell? ⟨w.heap.size, 0, none⟩ = some (Value.int .i64 sl) ∧ w'.cell? ⟨w.heap.size, 1, none⟩ = some (Value.int .i64 sh) ∧ w'.cell? ⟨w.heap.size, 2, none⟩ = some (Value.slice (some ⟨b, off, none⟩) rn cap) ∧ w'.cell? ⟨b, off + k * 8 + 3, none⟩ = some (Value.int .i64 lk)) (by kernel_rfl) ⟨by simpa [go_sem] using k0, by simpa [go_sem] using k1, by simpa [go_sem] using k2, by simpa [go_sem] using l0⟩ (fun hHeld => ?_)
                refine wpAnyH_take (i := 0) (oi := _) (v := Value.agg #[Value.int .i64 sl, Value.int .i64 sh, Value.slice (some ⟨b, off, none⟩) rn cap]) rfl (by kernel_rfl) (by kernel_rfl) (by kernel_rfl) (fun _ _ _ h => h) (Or.inl ⟨by rfl, fun w' hSw => ?_⟩) hHeld ?_
                · obtain ⟨t0, t1, t2, t3⟩ := hSw
                  go_simp
                  try simp [*]
                  try (intro hh; exfalso; omega)
                  try omega
                try simp only [Act.put, List.setIfInBounds_toArray, List.set_cons_zero, List.set_cons_succ, List.getElem_toArray, List.getElem_cons_succ, List.getElem_cons_zero]
                refine wpAnyH_take (i := 1) (oi := _) (v := Value.slice ga rn gc) rfl (by kernel_rfl) (by kernel_rfl) (by kernel_rfl) (fun _ _ _ h => h) (Or.inl ⟨by rfl, fun w' hSw => ?_⟩) hHeld ?_
                · obtain ⟨t0, t1, t2, t3⟩ := hSw
                  go_simp
                  try simp [*]
                  try (intro hh; exfalso; omega)
                  try omega
                try simp only [Act.put, List.setIfInBounds_toArray, List.set_cons_zero, List.set_cons_succ, List.getElem_toArray, List.getElem_cons_succ, List.getElem_cons_zero]
                refine wpAnyH_take (i := 2) (oi := _) (v := Value.int .i64 (k : Int)) rfl (by kernel_rfl) (by kernel_rfl) (by kernel_rfl) (fun _ _ _ h => h) (Or.inl ⟨by rfl, fun w' hSw => ?_⟩) hHeld ?_
                · obtain ⟨t0, t1, t2, t3⟩ := hSw
                  go_simp
                  try simp [*]
                  try (intro hh; exfalso; omega)
                  try omega
                try simp only [Act.put, List.setIfInBounds_toArray, List.set_cons_zero, List.set_cons_succ, List.getElem_toArray, List.getElem_cons_succ, List.getElem_cons_zero]
                refine wpAnyH_take (i := 4) (oi := _) (v := Value.pointer (some ⟨w.heap.size, 2, none⟩)) rfl (by kernel_rfl) (by kernel_rfl) (by kernel_rfl) (fun _ _ _ h => h) (Or.inl ⟨by rfl, fun w' hSw => ?_⟩) hHeld ?_
                · obtain ⟨t0, t1, t2, t3⟩ := hSw
                  go_simp
                  try simp [*]
                  try (intro hh; exfalso; omega)
                  try omega
                try simp only [Act.put, List.setIfInBounds_toArray, List.set_cons_zero, List.set_cons_succ, List.getElem_toArray, List.getElem_cons_succ, List.getElem_cons_zero]
                refine wpAnyH_take (i := 5) (oi := _) (v := Value.slice (some ⟨b, off, none⟩) rn cap) rfl (by kernel_rfl) (by kernel_rfl) (by kernel_rfl) (fun _ _ _ h => h) (Or.inl ⟨by rfl, fun w' hSw => ?_⟩) hHeld ?_
                · obtain ⟨t0, t1, t2, t3⟩ := hSw
                  go_simp
                  try simp [*]
                  try (intro hh; exfalso; omega)
                  try omega
                try simp only [Act.put, List.setIfInBounds_toArray, List.set_cons_zero, List.set_cons_succ, List.getElem_toArray, List.getElem_cons_succ, List.getElem_cons_zero]
                refine wpAnyH_take (i := 6) (oi := _) (v := Value.int .i64 (k : Int)) rfl (by kernel_rfl) (by kernel_rfl) (by kernel_rfl) (fun _ _ _ h => h) (Or.inl ⟨by rfl, fun w' hSw => ?_⟩) hHeld ?_
                · obtain ⟨t0, t1, t2, t3⟩ := hSw
                  go_simp
                  try simp [*]
                  try (intro hh; exfalso; omega)
                  try omega
                try simp only [Act.put, List.setIfInBounds_toArray, List.set_cons_zero, List.set_cons_succ, List.getElem_toArray, List.getElem_cons_succ, List.getElem_cons_zero]
                refine wpAnyH_take (i := 7) (oi := _) (v := Value.pointer (some ⟨b, off + k * 8, none⟩)) rfl (by kernel_rfl) (by kernel_rfl) (by kernel_rfl) (fun _ _ _ h => h) (Or.inl ⟨by rfl, fun w' hSw => ?_⟩) hHeld ?_
                · obtain ⟨t0, t1, t2, t3⟩ := hSw
                  go_simp
                  try simp [*]
                  try (intro hh; exfalso; omega)
                  try omega
                try simp only [Act.put, List.setIfInBounds_toArray, List.set_cons_zero, List.set_cons_succ, List.getElem_toArray, List.getElem_cons_succ, List.getElem_cons_zero]
                refine wpAnyH_take (i := 8) (oi := _) (v := Value.pointer (some ⟨b, off + k * 8 + 3, none⟩)) rfl (by kernel_rfl) (by kernel_rfl) (by kernel_rfl) (fun _ _ _ h => h) (Or.inl ⟨by rfl, fun w' hSw => ?_⟩) hHeld ?_
                · obtain ⟨t0, t1, t2, t3⟩ := hSw
                  go_simp
                  try simp [*]
                  try (intro hh; exfalso; omega)
                  try omega
                try simp only [Act.put, List.setIfInBounds_toArray, List.set_cons_zero, List.set_cons_succ, List.getElem_toArray, List.getElem_cons_succ, List.getElem_cons_zero]
                refine wpAnyH_take (i := 9) (oi := _) (v := Value.int .i64 lk) rfl (by kernel_rfl) (by kernel_rfl) (by kernel_rfl) (fun _ _ _ h => h) (Or.inl ⟨by rfl, fun w' hSw => ?_⟩) hHeld ?_
                · obtain ⟨t0, t1, t2, t3⟩ := hSw
                  go_simp
                  try simp [*]
                  try (intro hh; exfalso; omega)
                  try omega
                try simp only [Act.put, List.setIfInBounds_toArray, List.set_cons_zero, List.set_cons_succ, List.getElem_toArray, List.getElem_cons_succ, List.getElem_cons_zero]
                refine wpAnyH_ready (rs := [3]) (by kernel_rfl) (by simp) ?_
                refine AllReadyH.cons (o := _) rfl (fun K hK => ?_) AllReadyH.nil
                go_simp
                go_at_call 27
                refine Calls.mono (eK.out _ (HUP.out _ HD.out)) ?_
                rintro e v9 ⟨rfl, hb⟩
                have HB9 := Lib.hid (HD.out.trans (hb.mono HD.out.size))
                have HB8 := Lib.hid (show Below W0.heap.size W0 v9 from HBK.out.drew.trans (hb.mono HBK.out.drew.size))
                clear hb
                clear hHeld
                refine hK.out _ _ (KX.out _ HB9.out) (fun hHeld => ?_)
                clear hK K
                try simp only [Act.put, List.setIfInBounds_toArray, List.set_cons_zero, List.set_cons_succ, List.getElem_toArray, List.getElem_cons_succ, List.getElem_cons_zero]
                refine wpAnyH_take (i := 10) (oi := _) (v := Value.bool false) rfl (by kernel_rfl) (by kernel_rfl) (by kernel_rfl) (fun _ _ _ h => h) (Or.inl ⟨by rfl, fun w' hSw => ?_⟩) hHeld ?_
                · obtain ⟨t0, t1, t2, t3⟩ := hSw
                  go_simp
                  try simp [*]
                  try (intro hh; exfalso; omega)
                  try omega
                try simp only [Act.put, List.setIfInBounds_toArray, List.set_cons_zero, List.set_cons_succ, List.getElem_toArray, List.getElem_cons_succ, List.getElem_cons_zero]
                refine wpAnyH_done (by kernel_rfl) ?_ _
                clear hHeld
                have HBZ := Lib.hid (show Below W0.heap.size W0 v9 from HB8.out)
                go_wp2_with fail
                go_roundw
                case rel =>
                  refine ⟨k + 1, by omega, by go_num, fun t ht => ?_, HBZ.out⟩
                  by_cases e : t = k
                  · subst e; rw [HLK.out, HCK.out]; have := HGT.out; omega
                  · exact HNO.out t (by omega)
                case measure => simp [intOf]; omega
            · obtain rfl : rn = k := by omega
              have hp := R5.out (HFA.out rn (Nat.le_refl _) HNO.out (fun h => absurd h (Nat.lt_irrefl _)))
              go_wp2_with fail
              go_ret2
              exact ⟨_, _, rfl, hp, HUP.out _ HBX.out⟩
    · have hp := P2.out hF ha
      subst hF
      clear P1 P2 P3 P4 P5 HOK cC HCB
      have hb' : ((rn : Int) != (n : Int)) = true := by simpa using (show ¬ (rn : Int) = (n : Int) by omega)
      go_wp2_with fail
      go_ret2
      exact ⟨_, _, rfl, hp, HUP.out _ HB1.out⟩
  · have hp := P1.out hF
    clear P1 P2 P3 P4 P5 HOK cC HCB
    have hF' : (F != 0) = true := by simpa using hF
    go_wp2_with fail
    go_ret2
    exact ⟨_, _, rfl, hp, HUP.out _ HB1.out⟩
open Go.RowKit Go.Shelf
set_option linter.unusedSimpArgs false
attribute [local go_sem] Oper.semAt_some
set_option maxRecDepth 100000 in
set_option maxHeartbeats 32000000 in
/-- the reference's Share -/
theorem refshare_all (sl sh : Int) (sv qv kv : Value) (ns : List Nd) (rs ks : List Int) (w : World) (hN : Nds w.heap.size w sv ns) (hQ : Il w.heap.size w qv rs) (hK : Il w.heap.size w kv ks) :
    Calls Tryz.prog 8 #[.agg #[.int .i64 sl, .int .i64 sh, sv], qv, kv] w (NumR (shaE sl sh ns rs ks) (fun j => (shF (par ns) (limF ns) (ti rs) (ordO (ti ks) ns.length)).2 j) ns.length w) := by
  obtain ⟨i2, hi2, hz20, hz21, hz22⟩ := info_parts (t := 2) (z := .int .i64 0) (size := 1) (bytes := 8) (by kernel_rfl)
  have c1 := Lib.hid (fun W (h : Below w.heap.size w W) => refCheck_any sl sh sv ns W (hN.at h))
  have cO := Lib.hid (show ks.length = ns.length → 0 < ns.length → ns.length ≤ 60 → ∀ W, Below w.heap.size w W → Calls Tryz.prog 25 #[kv] W fun e w' => ∃ v, e = .returned v ∧ w'.ownsRow W.heap.size 3 1 v ns.length (flatN (ordO (ti ks) ns.length)) ∧ Below W.heap.size W w' from fun h1 h2 h3 W h => refOrder_any kv ks ns.length h1 h2 (by omega) W (hK.at h))
  have cP := Lib.hid (show ValidC sl sh ns → ∀ k, k < ns.length → ∀ W, Below w.heap.size w W → Calls Tryz.prog 26 #[.agg #[.int .i64 sl, .int .i64 sh, sv], .int .i64 (k : Int)] W fun e w' => ∃ v, e = .returned v ∧ w'.ownsRow W.heap.size 3 1 v (pth (par ns) k).length (flatN (pth (par ns) k)) ∧ Below W.heap.size W w' from fun hv k hk W h => refpath_any sl sh sv ns hv.all hv.len k hk W (hN.at h))
  have cC := Lib.hid (show ValidC sl sh ns → ∀ (g : Nat → Int) (gv : Value) (k : Nat) W, Below w.heap.size w W → (∀ k, 0 ≤ g k ∧ g k ≤ 65536) → Il W.heap.size W gv (fL g ns.length) → Calls Tryz.prog 27 #[.agg #[.int .i64 sl, .int .i64 sh, sv], gv, .int .i64 (k : Int)] W fun e w' => e = .returned (.int .i64 (caF ns g k)) ∧ Below W.heap.size W w' from fun hv g gv k W h hb hi => carried_any sl sh sv gv ns g k hv hb W (hN.at h) hi)
  have E1 := Lib.hid (show cabE sl sh ns ≠ 0 → shaE sl sh ns rs ks = cabE sl sh ns from fun h => by unfold shaE; rw [if_pos h])
  have E2 := Lib.hid (show cabE sl sh ns = 0 → rs.length ≠ ns.length → shaE sl sh ns rs ks = 17 from fun h h' => by unfold shaE; rw [if_neg (by simpa using h), if_pos h'])
  have E3 := Lib.hid (show cabE sl sh ns = 0 → rs.length = ns.length → ks.length ≠ ns.length → shaE sl sh ns rs ks = 17 from fun h h' h'' => by unfold shaE; rw [if_neg (by simpa using h), if_neg (by simpa using h'), if_pos h''])
  have E4 := Lib.hid (show cabE sl sh ns = 0 → rs.length = ns.length → ks.length = ns.length → (∃ k, k < rs.length ∧ ¬ (0 ≤ ti rs k ∧ ti rs k ≤ 65536)) → shaE sl sh ns rs ks = 3 from fun h h' h'' ⟨k, hk, hc⟩ => by unfold shaE; rw [if_neg (by simpa using h), if_neg (by simpa using h'), if_neg (by simpa using h''), if_neg fun hh => hc (hh k hk)])
  have E5 := Lib.hid (show cabE sl sh ns = 0 → rs.length = ns.length → ks.length = ns.length → (∀ k, k < rs.length → 0 ≤ ti rs k ∧ ti rs k ≤ 65536) → shaE sl sh ns rs ks = 0 ∧ ∀ k, 0 ≤ ti rs k ∧ ti rs k ≤ 65536 from fun h h' h'' hh => ⟨by unfold shaE; rw [if_neg (by simpa using h), if_neg (by simpa using h'), if_neg (by simpa using h''), if_pos hh], fun k => by
    by_cases hk : k < rs.length
    · exact hh k hk
    · unfold ti; rw [List.getElem?_eq_none (by omega)]; decide⟩)
  have HOK := Lib.hid (fun (h : cabE sl sh ns = 0) => cabE_ok h)
  have HVB := Lib.hid (show ValidC sl sh ns → ns.length ≤ 60 ∧ 0 < ns.length from fun h => ⟨h.len, h.pos⟩)
  obtain ⟨od, hod⟩ : ∃ od, od = ordO (ti ks) ns.length := ⟨_, rfl⟩
  obtain ⟨sF, hsF⟩ : ∃ sF : Nat → ShS, ∀ i, sF i = shF (par ns) (limF ns) (ti rs) (od.take i) := ⟨_, fun _ => rfl⟩
  have hT : Turn (ti ks) ns.length od := by rw [hod]; exact ordO_turn _ _
  have HOD := Lib.hid (show ∀ i, i < ns.length → tn od i < ns.length from fun i hi => (hT.all _).1 (tn_mem (by rw [hT.len]; exact hi)))
  have HST := Lib.hid (show ∀ i, i < ns.length → sF (i + 1) = shStep (par ns) (ti rs) (sF i) (tn od i) from fun i hi => by rw [hsF, hsF, tn_take (by rw [hT.len]; exact hi), shF_snoc])
  have HSB := Lib.hid (show ValidC sl sh ns → (∀ k, 0 ≤ ti rs k) → ∀ i, ShB (limF ns) (ti rs) (sF i) from fun hv hr i => by rw [hsF]; exact shF_bd (fun k => (limF_bd hv.all k).1) hr _)
  have HSP := Lib.hid (show ∀ i j, limF ns j - caF ns (sF i).2 j = (sF i).1 j from fun i j => by
    have q := shF_spare (par ns) (limF ns) (ti rs) ns.length (od.take i) (hT.nodup.sublist (List.take_sublist _ _)) (fun k hk => (hT.all k).1 (List.mem_of_mem_take hk)) j
    rw [← hsF] at q
    unfold caF
    omega)
  have HS0 := Lib.hid (show (sF 0).2 = (fun _ => 0) from by rw [hsF]; rfl)
  have HRS := Lib.hid (show (fun j => (shF (par ns) (limF ns) (ti rs) (ordO (ti ks) ns.length)).2 j) = (sF ns.length).2 from by rw [hsF, ← hod, ← hT.len, List.take_length])
  have HLB := Lib.hid (show ValidC sl sh ns → ∀ k, 0 ≤ limF ns k ∧ limF ns k ≤ 3932160 from fun hv k => limF_bd hv.all k)
  have HPN := Lib.hid (show ValidC sl sh ns → ∀ k, k < ns.length → ∀ t, t < (pth (par ns) k).length → tn (pth (par ns) k) t < ns.length from fun hv k hk t ht => hv.all.path_lt hk (tn_mem ht))
  have HPL := Lib.hid (show ValidC sl sh ns → ∀ k, k < ns.length → 0 < (pth (par ns) k).length ∧ (pth (par ns) k).length ≤ 60 from fun hv k hk => ⟨List.length_pos_of_mem (self_mem _ _), by have := pth_len hv.all.tree k; have := hv.len; omega⟩)
  have HLC := Lib.hid (show ∀ W k, Below w.heap.size w W → k < ns.length → ∃ b off c, sv = .slice (some ⟨b, off, none⟩) ns.length c ∧ W.cell? ⟨b, off + k * 8 + 3, none⟩ = some (.int .i64 (limF ns k)) from fun W k hb hk => by
    obtain ⟨a, cap, rfl, -, hcc⟩ := hN
    obtain ⟨b', off', h1, h2, e0, e1, e2, e3, e4, e5, e6, e7⟩ := hcc k hk
    subst h1
    unfold limF
    rw [if_pos hk]
    exact ⟨b', off', cap, rfl, (hb.cell (p := ⟨b', _, none⟩) h2).trans e3⟩)
  obtain ⟨qa, qc, rfl, -, hqc⟩ := hQ
  have HQC := Lib.hid (show ∀ W k, Below w.heap.size w W → k < rs.length → ∃ b off, qa = some ⟨b, off, none⟩ ∧ W.cell? ⟨b, off + k, none⟩ = some (.int .i64 (ti rs k)) from fun W k hb hk => by
    obtain ⟨b, off, h1, h2, e⟩ := hqc k hk
    exact ⟨b, off, h1, (hb.cell (p := ⟨b, _, none⟩) h2).trans e⟩)
  obtain ⟨a, cap, hsv⟩ := hN.form
  obtain ⟨ka, kc, rfl⟩ := hK.form
  subst hsv
  unfold NumR
  rw [HRS.out]
  rw [← hod] at cO
  clear hN hK hqc hod hsF hT HRS
  generalize hEE : shaE sl sh ns rs ks = EE at *
  clear hEE
  generalize hFF : cabE sl sh ns = F at *
  clear hFF
  generalize hVV : ValidC sl sh ns = VV at *
  clear hVV
  generalize limF ns = lim at *
  generalize hca : caF ns = ca at *
  clear hca
  generalize hPP : pth (par ns) = PF at *
  have HPP := Lib.hid hPP
  clear hPP
  generalize ns.length = n at *
  generalize rs.length = rn at *
  generalize ks.length = kn at *
  obtain ⟨A, hA⟩ : ∃ A, A = w.alloc (.cells #[.int .i64 sl, .int .i64 sh, .slice a n cap] 26) := ⟨_, rfl⟩
  have HBA := Lib.hid (show Below w.heap.size w A by rw [hA]; exact ((Below.refl _ _).alloc (Nat.le_refl _) _))
  have hltA : w.heap.size < A.heap.size := by rw [hA]; simp
  have q0 : A.cell? ⟨w.heap.size, 0, none⟩ = some (.int .i64 sl) := by rw [hA]; exact (cellHB (World.alloc_heap_new w _) 0).trans (by simp)
  have q1 : A.cell? ⟨w.heap.size, 1, none⟩ = some (.int .i64 sh) := by rw [hA]; exact (cellHB (World.alloc_heap_new w _) 1).trans (by simp)
  have q2 : A.cell? ⟨w.heap.size, 2, none⟩ = some (.slice a n cap) := by rw [hA]; exact (cellHB (World.alloc_heap_new w _) 2).trans (by simp)
  have KK := Lib.hid (show ∀ W, Below A.heap.size A W → W.cell? ⟨w.heap.size, 0, none⟩ = some (.int .i64 sl) ∧ W.cell? ⟨w.heap.size, 1, none⟩ = some (.int .i64 sh) ∧ W.cell? ⟨w.heap.size, 2, none⟩ = some (.slice a n cap) from fun W h => ⟨(h.cell (p := ⟨w.heap.size, 0, none⟩) hltA).trans q0, (h.cell (p := ⟨w.heap.size, 1, none⟩) hltA).trans q1, (h.cell (p := ⟨w.heap.size, 2, none⟩) hltA).trans q2⟩)
  clear hltA q0 q1 q2
  have HUP := Lib.hid (show ∀ W, Below A.heap.size A W → Below w.heap.size w W from fun W h => HBA.out.trans (h.mono HBA.out.size))
  obtain ⟨k0, k1, k2⟩ := KK.out _ (Below.refl _ _)
  go_enter Tryz.func8, Tryz.ntmps8
  go_upto_region 1 with fail
  rw [← hA]
  clear hA
  go_wp2_with fail
  refine (c1.out _ HBA.out).mono ?_
  rintro e w1 ⟨rfl, hb⟩
  have HB1 := Lib.hid hb
  clear hb k0 k1 k2
  obtain ⟨k0, k1, k2⟩ := KK.out _ HB1.out
  by_cases hF : F = 0
  · by_cases ha : rn = n
    · by_cases hkn : kn = n
      · have hv := HOK.out hF
        obtain ⟨hn60, hn0⟩ := HVB.out hv
        have Q4 := Lib.hid (E4.out hF ha hkn)
        have Q5 := Lib.hid (E5.out hF ha hkn)
        have dO := Lib.hid (cO.out hkn hn0 hn60)
        have dP := Lib.hid (cP.out hv)
        have dC := Lib.hid (cC.out hv)
        have dSB := Lib.hid (HSB.out hv)
        have dLB := Lib.hid (HLB.out hv)
        have dPN := Lib.hid (HPN.out hv)
        have dPL := Lib.hid (HPL.out hv)
        subst hF ha hkn
        clear E1 E2 E3 E4 E5 HOK cO cP cC HVB HSB HLB HPN HPL hv
        go_wp2_with fail
        go_loopw [9] (fun iv wr => ∃ i : Nat, i ≤ kn ∧ iv = .int .i64 i ∧ (∀ t, t < i → 0 ≤ ti rs t ∧ ti rs t ≤ 65536) ∧ Below w1.heap.size w1 wr) (fun iv _ => kn - (intOf iv).toNat)
        case atStart => exact ⟨0, Nat.zero_le _, rfl, fun t h => absurd h (Nat.not_lt_zero t), Below.refl _ _⟩
        case round =>
          obtain ⟨i, hi, rfl, hall, hBi⟩ := hrel
          have HALL := Lib.hid hall
          have HBI := Lib.hid hBi
          clear hall hBi
          have HBW := Lib.hid (show Below A.heap.size A wr from HB1.out.trans (HBI.out.mono HB1.out.size))
          by_cases hlt : i < kn
          · have hii : (i : Int) < (kn : Int) := by omega
            obtain ⟨b, off, hab, u0⟩ := HQC.out wr i (HUP.out _ HBW.out) hlt
            subst hab
            by_cases hz : 0 ≤ ti rs i ∧ ti rs i ≤ 65536
            · have HZ := Lib.hid hz
              obtain ⟨z, hzz⟩ : ∃ z, z = ti rs i := ⟨_, rfl⟩
              rw [← hzz] at u0 hz
              clear hzz
              have hz1 : ¬ z < 0 := by omega
              have hz2 : ¬ 65536 < z := by omega
              clear hz
              go_wp2_with fail
              go_roundw
              case rel =>
                refine ⟨i + 1, by omega, by go_num, fun t ht => ?_, HBI.out⟩
                by_cases e : t = i
                · subst e; exact HZ.out
                · exact HALL.out t (by omega)
              case measure => simp [intOf]; omega
            · have hp := Q4.out ⟨i, hlt, hz⟩
              subst hp
              obtain ⟨z, hzz⟩ : ∃ z, z = ti rs i := ⟨_, rfl⟩
              rw [← hzz] at u0 hz
              clear hzz Q5 dO dP dC dSB dLB dPN dPL Q4
              by_cases hz1 : z < 0
              · clear hz
                go_wp2_with fail
                go_ret2
                exact ⟨_, rfl, rfl, HUP.out _ HBW.out⟩
              · have hz2 : 65536 < z := by omega
                clear hz
                go_wp2_with fail
                go_ret2
                exact ⟨_, rfl, rfl, HUP.out _ HBW.out⟩
          · obtain rfl : kn = i := by omega
            obtain ⟨hp, hrb⟩ := Q5.out HALL.out
            subst hp
            have HRB := Lib.hid hrb
            have eSB := Lib.hid (dSB.out fun k => (hrb k).1)
            obtain ⟨W0, rfl⟩ : ∃ W0, W0 = wr := ⟨_, rfl⟩
            clear Q4 Q5 k0 k1 k2 dSB hrb
            obtain ⟨b, off, c9, hsv9, -⟩ := HLC.out W0 0 (HUP.out _ HBW.out) hn0
            simp only [Value.slice.injEq] at hsv9
            obtain ⟨rfl, -, rfl⟩ := hsv9
            have HLM := Lib.hid (show ∀ W k, Below w.heap.size w W → k < kn → W.cell? ⟨b, off + k * 8 + 3, none⟩ = some (.int .i64 (lim k)) from fun W k hb hk => by
              obtain ⟨b', off', c', e1, e2⟩ := HLC.out W k hb hk
              simp only [Value.slice.injEq, Option.some.injEq, Addr.mk.injEq] at e1
              obtain ⟨⟨rfl, rfl, -⟩, -, -⟩ := e1
              exact e2)
            obtain ⟨qb, qo, rfl, -⟩ := HQC.out W0 0 (HUP.out _ HBW.out) hn0
            have HQM := Lib.hid (show ∀ W k, Below w.heap.size w W → k < kn → W.cell? ⟨qb, qo + k, none⟩ = some (.int .i64 (ti rs k)) from fun W k hb hk => by
              obtain ⟨b', off', e1, e2⟩ := HQC.out W k hb hk
              simp only [Option.some.injEq, Addr.mk.injEq] at e1
              obtain ⟨rfl, rfl, -⟩ := e1
              exact e2)
            clear HLC HQC
            obtain ⟨k0, k1, k2⟩ := KK.out _ HBW.out
            obtain ⟨w2, hM, hS, hg⟩ := run_make_full (P := Tryz.prog) W0 W0.heap.size 27 2 i2 _ 1 Tryz.underlying27 hi2 hz20 hz21 .i64 .i64 kn (by rw [hz22]; omega) (by unfold maxLen; omega) (by simp)
            obtain ⟨-, hRG⟩ := rowC_of_own hS rfl
            rw [Nat.mul_one] at hRG
            have HRG := Lib.hid (show RowC w2 W0.heap.size 2 kn (fun j => .int .i64 ((sF 0).2 j)) by
              rw [HS0.out]
              exact hRG.ext fun j hj => by simp [madeCells, Value.cells, hj, Nat.mod_one])
            have HB2 := Lib.hid (show Below A.heap.size A w2 from HBW.out.grown hg HBW.out.size (fun r e => by cases e))
            have HGS := Lib.hid (show A.heap.size ≤ W0.heap.size ∧ W0.heap.size < w2.heap.size from ⟨HBW.out.size, hRG.lt⟩)
            clear hS hg hRG
            go_upto_region 12 with fail
            generalize hG : W0.heap.size = G at *
            clear hG hM k0 k1 k2 HB1 HBI
            obtain ⟨k0, k1, k2⟩ := KK.out _ HB2.out
            go_wp2_with fail
            refine (dO.out _ (HUP.out _ HB2.out)).mono ?_
            rintro e w3 ⟨ov, rfl, ho, hb⟩
            obtain ⟨og, oc, rfl, hog, -, hogl, hoc⟩ := own_next ho hn0
            have HB3 := Lib.hid (show Below A.heap.size A w3 from HB2.out.trans (hb.mono HB2.out.size))
            have HR3 := Lib.hid (show RowC w3 G 2 kn (fun j => .int .i64 ((sF 0).2 j)) from HRG.out.same (hb.block G HGS.out.2))
            have HOC3 := Lib.hid hoc
            have HOGG := Lib.hid (show og ≠ G by have := HGS.out; omega)
            clear hb ho hoc hog hogl HRG k0 k1 k2
            go_wp2_with fail
            go_loopw [12] (fun iv wr => ∃ i : Nat, i ≤ kn ∧ iv = .int .i64 i ∧ RowC wr G 2 kn (fun j => .int .i64 ((sF i).2 j)) ∧ (∀ t, t < kn → wr.cell? ⟨og, t, none⟩ = some (.int .i64 (tn od t : Int))) ∧ og < wr.heap.size ∧ Below A.heap.size A wr) (fun iv _ => kn - (intOf iv).toNat)
            case atStart => exact ⟨0, Nat.zero_le _, rfl, HR3.out, HOC3.out, by have := HOC3.out 0 hn0; exact World.block_lt_of_cell? _ _ this, HB3.out⟩
            case round =>
              obtain ⟨i, hi, rfl, hR, hOc, hogl, hB⟩ := hrel
              have HR := Lib.hid hR
              have HO := Lib.hid hOc
              have HB := Lib.hid hB
              have HOL := Lib.hid hogl
              clear hR hOc hogl hB
              by_cases hlt : i < kn
              · have hii : (i : Int) < (kn : Int) := by omega
                have o0 := HO.out i hlt
                have hkk := HOD.out i hlt
                have HNX := Lib.hid (HST.out i hlt)
                have HSI := Lib.hid (eSB.out i)
                have HSPI := Lib.hid (HSP.out i)
                generalize tn od i = kk at *
                have u0 := HQM.out wr kk (HUP.out _ HB.out) hkk
                have hki : (kk : Int) < (kn : Int) := by omega
                obtain ⟨k0, k1, k2⟩ := KK.out _ HB.out
                obtain ⟨W4, rfl⟩ : ∃ W4, W4 = wr := ⟨_, rfl⟩
                go_wp2_with fail
                refine (dP.out kk hkk _ (HUP.out _ HB.out)).mono ?_
                rintro e w5 ⟨pv, rfl, hp, hb⟩
                obtain ⟨hpl0, hpl1⟩ := dPL.out kk hkk
                obtain ⟨pg, pc, rfl, -, -, hpgl, hpc⟩ := own_next hp hpl0
                have HPC := Lib.hid (show ∀ Z, Below w5.heap.size w5 Z → ∀ i, i < (PF kk).length → Z.cell? ⟨pg, i, none⟩ = some (.int .i64 (tn (PF kk) i : Int)) from fun Z h i hi => (h.cell (p := ⟨pg, i, none⟩) hpgl).trans (hpc i hi))
                have HB5 := Lib.hid (show Below A.heap.size A w5 from HB.out.trans (hb.mono HB.out.size))
                have HB45 := Lib.hid (show Below W4.heap.size W4 w5 from hb)
                have HPX := Lib.hid (dPN.out kk hkk)
                obtain ⟨sp, hsp⟩ : ∃ sp, sp = (sF i).1 := ⟨_, rfl⟩
                obtain ⟨gr, hgr⟩ : ∃ gr, gr = (sF i).2 := ⟨_, rfl⟩
                have HGN := Lib.hid (show (sF (i + 1)).2 = fun j => if j = kk then mnL sp (PF kk) (ti rs kk) else gr j by
                  rw [HNX.out, hsp, hgr, ← HPP.out]; rfl)
                have HSPB := Lib.hid (show ∀ j, 0 ≤ sp j ∧ sp j ≤ 3932160 from fun j => by
                  have h1 := HSI.out.sp j
                  have h2 := (dLB.out j).2
                  rw [hsp]; omega)
                have HGB := Lib.hid (show ∀ j, 0 ≤ gr j ∧ gr j ≤ 65536 from fun j => by
                  have h1 := HSI.out.gr j
                  have h2 := (HRB.out j).2
                  rw [hgr]; omega)
                have HCX := Lib.hid (show ∀ j, lim j - ca gr j = sp j from fun j => by rw [hsp, hgr]; exact HSPI.out j)
                rw [← hgr] at HR
                generalize PF kk = L at *
                generalize hlm : L.length = m at *
                have HLM2 := Lib.hid hlm
                clear hb hp hpc hpgl k0 k1 k2 HNX HSI HSPI hsp hgr hlm
                generalize ti rs kk = rq at *
                go_wp2_with fail
                go_loopw [14, 16] (fun nv jv wr => ∃ j : Nat, j ≤ m ∧ jv = .int .i64 j ∧ nv = .int .i64 (mnL sp (L.take j) rq) ∧ Below w5.heap.size w5 wr) (fun _ jv _ => m - (intOf jv).toNat)
                case atStart => exact ⟨0, Nat.zero_le _, rfl, rfl, Below.refl _ _⟩
                case round =>
                  obtain ⟨j, hj, rfl, rfl, hBj⟩ := hrel
                  have HBJ := Lib.hid hBj
                  clear hBj
                  have HBX := Lib.hid (show Below A.heap.size A wr from HB5.out.trans (HBJ.out.mono HB5.out.size))
                  have HB4X := Lib.hid (show Below W4.heap.size W4 wr from HB45.out.trans (HBJ.out.mono HB45.out.size))
                  by_cases hltj : j < m
                  · have hji : (j : Int) < (m : Int) := by omega
                    have y0 := HPC.out wr HBJ.out j hltj
                    have hxn := HPX.out j hltj
                    have HMJ := Lib.hid (show mnL sp (L.take (j + 1)) rq = min (mnL sp (L.take j) rq) (sp (tn L j)) by rw [tn_take (by have := HLM2.out; omega), mnL_snoc])
                    have HYC := Lib.hid (show ∀ Z, Below wr.heap.size wr Z → Z.cell? ⟨pg, j, none⟩ = some (.int .i64 (tn L j : Int)) from fun Z h => HPC.out Z (HBJ.out.trans (h.mono HBJ.out.size)) j hltj)
                    generalize tn L j = x at *
                    have hxi : (x : Int) < (kn : Int) := by omega
                    have l0 := HLM.out wr x (HUP.out _ HBX.out) hxn
                    have hsx := HSPB.out x
                    have hcx := HCX.out x
                    have HGI := Lib.hid (il_of_row (HR.out.keep (HB4X.out.trans ((Below.refl wr.heap.size wr).drew.mono HB4X.out.size))))
                    have eC := Lib.hid (dC.out gr (.slice (some ⟨G, 0, none⟩) kn kn) x wr.drew (HUP.out _ HBX.out.drew) HGB.out HGI.out)
                    have HD := Lib.hid (show Below wr.heap.size wr wr.drew from (Below.refl _ _).drew)
                    have KX := Lib.hid (show ∀ Z, Below wr.heap.size wr Z → Z.cell? ⟨w.heap.size, 0, none⟩ = some (.int .i64 sl) ∧ Z.cell? ⟨w.heap.size, 1, none⟩ = some (.int .i64 sh) ∧ Z.cell? ⟨w.heap.size, 2, none⟩ = some (.slice (some ⟨b, off, none⟩) kn cap) ∧ Z.cell? ⟨pg, j, none⟩ = some (.int .i64 (x : Int)) ∧ Z.cell? ⟨b, off + x * 8 + 3, none⟩ = some (.int .i64 (lim x)) from fun Z h => by
                      have hA := HBX.out.trans (h.mono HBX.out.size)
                      obtain ⟨q0, q1, q2⟩ := KK.out Z hA
                      exact ⟨q0, q1, q2, HYC.out Z h, HLM.out Z x (HUP.out _ hA) hxn⟩)
                    obtain ⟨k0, k1, k2⟩ := KK.out _ HBX.out
                    generalize mnL sp (L.take j) rq = nn at *
                    generalize sp x = sx at *
                    generalize lim x = lx at *
                    generalize ca gr x = cx at *
                    have hwr : IntKind.i64.wrap (lx - cx) = sx := by rw [wrap64_id (by omega)]; exact hcx
                    clear hcx
                    go_upto_region 22 with fail
                    refine wp_region_held_drew (S := fun w' => w'.cell? ⟨w.heap.size, 0, none⟩ = some (Value.int .i64 sl) ∧ w'.cell? ⟨w.heap.size, 1, none⟩ = some (Value.int .i64 sh) ∧ w'.cell? ⟨w.heap.size, 2, none⟩ = some (Value.slice (some ⟨b, off, none⟩) kn cap) ∧ w'.cell? ⟨pg, j, none⟩ = some (Value.int .i64 (x : Int)) ∧ w'.cell? ⟨b, off + x * 8 + 3, none⟩ = some (Value.int .i64 lx)) (by kernel_rfl) ⟨by simpa [go_sem] using k0, by simpa [go_sem] using k1, by simpa [go_sem] using k2, by simpa [go_sem] using y0, by simpa [go_sem] using l0⟩ (fun hHeld => ?_)
                    refine wpAnyH_take (i := 0) (oi := _) (v := Value.int .i64 nn) rfl (by kernel_rfl) (by kernel_rfl) (by kernel_rfl) (fun _ _ _ h => h) (Or.inl ⟨by rfl, fun w' hSw => ?_⟩) hHeld ?_
                    · obtain ⟨t0, t1, t2, t3, t4⟩ := hSw
                      go_simp
                      try simp [*]
                      try (intro hh; exfalso; omega)
                      try omega
                    try simp only [Act.put, List.setIfInBounds_toArray, List.set_cons_zero, List.set_cons_succ, List.getElem_toArray, List.getElem_cons_succ, List.getElem_cons_zero]
                    refine wpAnyH_take (i := 1) (oi := _) (v := Value.pointer (some ⟨w.heap.size, 2, none⟩)) rfl (by kernel_rfl) (by kernel_rfl) (by kernel_rfl) (fun _ _ _ h => h) (Or.inl ⟨by rfl, fun w' hSw => ?_⟩) hHeld ?_
                    · obtain ⟨t0, t1, t2, t3, t4⟩ := hSw
                      go_simp
                      try simp [*]
                      try (intro hh; exfalso; omega)
                      try omega
                    try simp only [Act.put, List.setIfInBounds_toArray, List.set_cons_zero, List.set_cons_succ, List.getElem_toArray, List.getElem_cons_succ, List.getElem_cons_zero]
                    refine wpAnyH_take (i := 2) (oi := _) (v := Value.slice (some ⟨b, off, none⟩) kn cap) rfl (by kernel_rfl) (by kernel_rfl) (by kernel_rfl) (fun _ _ _ h => h) (Or.inl ⟨by rfl, fun w' hSw => ?_⟩) hHeld ?_
                    · obtain ⟨t0, t1, t2, t3, t4⟩ := hSw
                      go_simp
                      try simp [*]
                      try (intro hh; exfalso; omega)
                      try omega
                    try simp only [Act.put, List.setIfInBounds_toArray, List.set_cons_zero, List.set_cons_succ, List.getElem_toArray, List.getElem_cons_succ, List.getElem_cons_zero]
                    refine wpAnyH_take (i := 3) (oi := _) (v := Value.slice (some ⟨pg, 0, none⟩) m pc) rfl (by kernel_rfl) (by kernel_rfl) (by kernel_rfl) (fun _ _ _ h => h) (Or.inl ⟨by rfl, fun w' hSw => ?_⟩) hHeld ?_
                    · obtain ⟨t0, t1, t2, t3, t4⟩ := hSw
                      go_simp
                      try simp [*]
                      try (intro hh; exfalso; omega)
                      try omega
                    try simp only [Act.put, List.setIfInBounds_toArray, List.set_cons_zero, List.set_cons_succ, List.getElem_toArray, List.getElem_cons_succ, List.getElem_cons_zero]
                    refine wpAnyH_take (i := 4) (oi := _) (v := Value.int .i64 (j : Int)) rfl (by kernel_rfl) (by kernel_rfl) (by kernel_rfl) (fun _ _ _ h => h) (Or.inl ⟨by rfl, fun w' hSw => ?_⟩) hHeld ?_
                    · obtain ⟨t0, t1, t2, t3, t4⟩ := hSw
                      go_simp
                      try simp [*]
                      try (intro hh; exfalso; omega)
                      try omega
                    try simp only [Act.put, List.setIfInBounds_toArray, List.set_cons_zero, List.set_cons_succ, List.getElem_toArray, List.getElem_cons_succ, List.getElem_cons_zero]
                    refine wpAnyH_take (i := 5) (oi := _) (v := Value.pointer (some ⟨pg, j, none⟩)) rfl (by kernel_rfl) (by kernel_rfl) (by kernel_rfl) (fun _ _ _ h => h) (Or.inl ⟨by rfl, fun w' hSw => ?_⟩) hHeld ?_
                    · obtain ⟨t0, t1, t2, t3, t4⟩ := hSw
                      go_simp
                      try simp [*]
                      try (intro hh; exfalso; omega)
                      try omega
                    try simp only [Act.put, List.setIfInBounds_toArray, List.set_cons_zero, List.set_cons_succ, List.getElem_toArray, List.getElem_cons_succ, List.getElem_cons_zero]
                    refine wpAnyH_take (i := 6) (oi := _) (v := Value.int .i64 (x : Int)) rfl (by kernel_rfl) (by kernel_rfl) (by kernel_rfl) (fun _ _ _ h => h) (Or.inl ⟨by rfl, fun w' hSw => ?_⟩) hHeld ?_
                    · obtain ⟨t0, t1, t2, t3, t4⟩ := hSw
                      go_simp
                      try simp [*]
                      try (intro hh; exfalso; omega)
                      try omega
                    try simp only [Act.put, List.setIfInBounds_toArray, List.set_cons_zero, List.set_cons_succ, List.getElem_toArray, List.getElem_cons_succ, List.getElem_cons_zero]
                    refine wpAnyH_take (i := 7) (oi := _) (v := Value.pointer (some ⟨b, off + x * 8, none⟩)) rfl (by kernel_rfl) (by kernel_rfl) (by kernel_rfl) (fun _ _ _ h => h) (Or.inl ⟨by rfl, fun w' hSw => ?_⟩) hHeld ?_
                    · obtain ⟨t0, t1, t2, t3, t4⟩ := hSw
                      go_simp
                      try simp [*]
                      try (intro hh; exfalso; omega)
                      try omega
                    try simp only [Act.put, List.setIfInBounds_toArray, List.set_cons_zero, List.set_cons_succ, List.getElem_toArray, List.getElem_cons_succ, List.getElem_cons_zero]
                    refine wpAnyH_take (i := 8) (oi := _) (v := Value.pointer (some ⟨b, off + x * 8 + 3, none⟩)) rfl (by kernel_rfl) (by kernel_rfl) (by kernel_rfl) (fun _ _ _ h => h) (Or.inl ⟨by rfl, fun w' hSw => ?_⟩) hHeld ?_
                    · obtain ⟨t0, t1, t2, t3, t4⟩ := hSw
                      go_simp
                      try simp [*]
                      try (intro hh; exfalso; omega)
                      try omega
                    try simp only [Act.put, List.setIfInBounds_toArray, List.set_cons_zero, List.set_cons_succ, List.getElem_toArray, List.getElem_cons_succ, List.getElem_cons_zero]
                    refine wpAnyH_take (i := 9) (oi := _) (v := Value.int .i64 lx) rfl (by kernel_rfl) (by kernel_rfl) (by kernel_rfl) (fun _ _ _ h => h) (Or.inl ⟨by rfl, fun w' hSw => ?_⟩) hHeld ?_
                    · obtain ⟨t0, t1, t2, t3, t4⟩ := hSw
                      go_simp
                      try simp [*]
                      try (intro hh; exfalso; omega)
                      try omega
                    try simp only [Act.put, List.setIfInBounds_toArray, List.set_cons_zero, List.set_cons_succ, List.getElem_toArray, List.getElem_cons_succ, List.getElem_cons_zero]
                    refine wpAnyH_take (i := 10) (oi := _) (v := Value.agg #[Value.int .i64 sl, Value.int .i64 sh, Value.slice (some ⟨b, off, none⟩) kn cap]) rfl (by kernel_rfl) (by kernel_rfl) (by kernel_rfl) (fun _ _ _ h => h) (Or.inl ⟨by rfl, fun w' hSw => ?_⟩) hHeld ?_
                    · obtain ⟨t0, t1, t2, t3, t4⟩ := hSw
                      go_simp
                      try simp [*]
                      try (intro hh; exfalso; omega)
                      try omega
                    try simp only [Act.put, List.setIfInBounds_toArray, List.set_cons_zero, List.set_cons_succ, List.getElem_toArray, List.getElem_cons_succ, List.getElem_cons_zero]
                    refine wpAnyH_take (i := 11) (oi := _) (v := Value.slice (some ⟨G, 0, none⟩) kn kn) rfl (by kernel_rfl) (by kernel_rfl) (by kernel_rfl) (fun _ _ _ h => h) (Or.inl ⟨by rfl, fun w' hSw => ?_⟩) hHeld ?_
                    · obtain ⟨t0, t1, t2, t3, t4⟩ := hSw
                      go_simp
                      try simp [*]
                      try (intro hh; exfalso; omega)
                      try omega
                    try simp only [Act.put, List.setIfInBounds_toArray, List.set_cons_zero, List.set_cons_succ, List.getElem_toArray, List.getElem_cons_succ, List.getElem_cons_zero]
                    refine wpAnyH_take (i := 12) (oi := _) (v := Value.slice (some ⟨pg, 0, none⟩) m pc) rfl (by kernel_rfl) (by kernel_rfl) (by kernel_rfl) (fun _ _ _ h => h) (Or.inl ⟨by rfl, fun w' hSw => ?_⟩) hHeld ?_
                    · obtain ⟨t0, t1, t2, t3, t4⟩ := hSw
                      go_simp
                      try simp [*]
                      try (intro hh; exfalso; omega)
                      try omega
                    try simp only [Act.put, List.setIfInBounds_toArray, List.set_cons_zero, List.set_cons_succ, List.getElem_toArray, List.getElem_cons_succ, List.getElem_cons_zero]
                    refine wpAnyH_take (i := 13) (oi := _) (v := Value.int .i64 (j : Int)) rfl (by kernel_rfl) (by kernel_rfl) (by kernel_rfl) (fun _ _ _ h => h) (Or.inl ⟨by rfl, fun w' hSw => ?_⟩) hHeld ?_
                    · obtain ⟨t0, t1, t2, t3, t4⟩ := hSw
                      go_simp
                      try simp [*]
                      try (intro hh; exfalso; omega)
                      try omega
                    try simp only [Act.put, List.setIfInBounds_toArray, List.set_cons_zero, List.set_cons_succ, List.getElem_toArray, List.getElem_cons_succ, List.getElem_cons_zero]
                    refine wpAnyH_take (i := 14) (oi := _) (v := Value.pointer (some ⟨pg, j, none⟩)) rfl (by kernel_rfl) (by kernel_rfl) (by kernel_rfl) (fun _ _ _ h => h) (Or.inl ⟨by rfl, fun w' hSw => ?_⟩) hHeld ?_
                    · obtain ⟨t0, t1, t2, t3, t4⟩ := hSw
                      go_simp
                      try simp [*]
                      try (intro hh; exfalso; omega)
                      try omega
                    try simp only [Act.put, List.setIfInBounds_toArray, List.set_cons_zero, List.set_cons_succ, List.getElem_toArray, List.getElem_cons_succ, List.getElem_cons_zero]
                    refine wpAnyH_take (i := 15) (oi := _) (v := Value.int .i64 (x : Int)) rfl (by kernel_rfl) (by kernel_rfl) (by kernel_rfl) (fun _ _ _ h => h) (Or.inl ⟨by rfl, fun w' hSw => ?_⟩) hHeld ?_
                    · obtain ⟨t0, t1, t2, t3, t4⟩ := hSw
                      go_simp
                      try simp [*]
                      try (intro hh; exfalso; omega)
                      try omega
                    try simp only [Act.put, List.setIfInBounds_toArray, List.set_cons_zero, List.set_cons_succ, List.getElem_toArray, List.getElem_cons_succ, List.getElem_cons_zero]
                    refine wpAnyH_ready (rs := [16]) (by kernel_rfl) (by simp) ?_
                    refine AllReadyH.cons (o := _) rfl (fun K hK => ?_) AllReadyH.nil
                    go_simp
                    go_at_call 27
                    refine Calls.mono eC.out ?_
                    rintro e v9 ⟨rfl, hb⟩
                    have HB9 := Lib.hid (HD.out.trans (hb.mono HD.out.size))
                    clear hb
                    clear hHeld
                    refine hK.out _ _ (KX.out _ HB9.out) (fun hHeld => ?_)
                    clear hK K
                    try simp only [Act.put, List.setIfInBounds_toArray, List.set_cons_zero, List.set_cons_succ, List.getElem_toArray, List.getElem_cons_succ, List.getElem_cons_zero]
                    refine wpAnyH_take (i := 17) (oi := _) (v := Value.int .i64 sx) rfl (by kernel_rfl) (by kernel_rfl) (by kernel_rfl) (fun _ _ _ h => h) (Or.inl ⟨by rfl, fun w' hSw => ?_⟩) hHeld ?_
                    · obtain ⟨t0, t1, t2, t3, t4⟩ := hSw
                      go_simp
                      try simp [*]
                      try (intro hh; exfalso; omega)
                      try omega
                    try simp only [Act.put, List.setIfInBounds_toArray, List.set_cons_zero, List.set_cons_succ, List.getElem_toArray, List.getElem_cons_succ, List.getElem_cons_zero]
                    refine wpAnyH_take (i := 18) (oi := _) (v := Value.int .i64 (min nn sx)) rfl (by kernel_rfl) (by kernel_rfl) (by kernel_rfl) (fun _ _ _ h => h) (Or.inl ⟨by rfl, fun w' hSw => ?_⟩) hHeld ?_
                    · obtain ⟨t0, t1, t2, t3, t4⟩ := hSw
                      go_simp
                      try simp [*]
                      try (intro hh; exfalso; omega)
                      try omega
                    try simp only [Act.put, List.setIfInBounds_toArray, List.set_cons_zero, List.set_cons_succ, List.getElem_toArray, List.getElem_cons_succ, List.getElem_cons_zero]
                    refine wpAnyH_take (i := 19) (oi := _) (v := Value.int .i64 (min nn sx)) rfl (by kernel_rfl) (by kernel_rfl) (by kernel_rfl) (fun _ _ _ h => h) (Or.inl ⟨by rfl, fun w' hSw => ?_⟩) hHeld ?_
                    · obtain ⟨t0, t1, t2, t3, t4⟩ := hSw
                      go_simp
                      try simp [*]
                      try (intro hh; exfalso; omega)
                      try omega
                    try simp only [Act.put, List.setIfInBounds_toArray, List.set_cons_zero, List.set_cons_succ, List.getElem_toArray, List.getElem_cons_succ, List.getElem_cons_zero]
                    refine wpAnyH_done (by kernel_rfl) ?_ _
                    clear hHeld
                    have HBZ := Lib.hid (show Below w5.heap.size w5 v9 from HBJ.out.trans (HB9.out.mono HBJ.out.size))
                    go_wp2_with fail
                    go_roundw
                    case rel => exact ⟨j + 1, by omega, by go_num, by rw [HMJ.out], HBZ.out⟩
                    case measure => simp [intOf]; omega
                  · obtain rfl : m = j := by omega
                    have HTK := Lib.hid (show mnL sp (L.take m) rq = mnL sp L rq by rw [← HLM2.out, List.take_length])
                    rw [HTK.out]
                    have HRX := Lib.hid (HR.out.keep HB4X.out)
                    have g0 := HRX.out.cell (j := kk) hkk
                    have gf := HRX.out.froz kk
                    have hgl := HRX.out.lt
                    generalize mnL sp L rq = gg at *
                    go_wp2_with fail
                    go_roundw
                    case rel =>
                      refine ⟨i + 1, by omega, by go_num, ?_, fun t ht => ?_, by have := HB4X.out.size; have := HOL.out; simp; omega, HBX.out.setCell (p := ⟨G, kk, none⟩) HGS.out.1 _⟩
                      · rw [HGN.out]
                        refine (HRX.out.set kk (.int .i64 gg)).ext fun j hj => ?_
                        by_cases h : j = kk
                        · simp [h]
                        · simp [h]
                      · refine (World.cell?_setCell_other _ _ _ _ (by intro e; exact HOGG.out (Addr.mk.inj e).1.symm)).trans ?_
                        exact (HB4X.out.cell (p := ⟨og, t, none⟩) HOL.out).trans (HO.out t ht)
                    case measure => simp [intOf]; omega
              · obtain rfl : kn = i := by omega
                go_wp2_with fail
                go_ret2
                refine ⟨_, rfl, ?_, HUP.out _ HB.out⟩
                exact il_of_row HR.out
      · have hp := E3.out hF ha hkn
        subst hF ha hp
        clear E1 E2 E3 E4 E5 HOK cO cP cC HVB HSB HLB HPN HPL
        have hb' : ((kn : Int) != (rn : Int)) = true := by simpa using (show ¬ (kn : Int) = (rn : Int) by omega)
        go_wp2_with fail
        go_ret2
        exact ⟨_, rfl, rfl, HUP.out _ HB1.out⟩
    · have hp := E2.out hF ha
      subst hF hp
      clear E1 E2 E3 E4 E5 HOK cO cP cC HVB HSB HLB HPN HPL
      have hb' : ((rn : Int) != (n : Int)) = true := by simpa using (show ¬ (rn : Int) = (n : Int) by omega)
      go_wp2_with fail
      go_ret2
      exact ⟨_, rfl, rfl, HUP.out _ HB1.out⟩
  · have hp := E1.out hF
    subst hp
    clear E1 E2 E3 E4 E5 HOK cO cP cC HVB HSB HLB HPN HPL
    have hF' : (EE != 0) = true := by simpa using hF
    go_wp2_with fail
    go_ret2
    exact ⟨_, rfl, rfl, HUP.out _ HB1.out⟩
end Go.Proofs.YtdohfpnnmppdkaaGreat

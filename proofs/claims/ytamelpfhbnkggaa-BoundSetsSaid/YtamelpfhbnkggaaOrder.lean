/-
  bound.inOrder over two slices of spans: what its iterator yields.
-/
import Derived.Test.YtamelpfhbnkggaaSetMath
namespace Go.Proofs.Ytamelpfhbnkggaa
open Go.RowKit Go.Shelf
attribute [local go_sem] Oper.semAt_some
set_option linter.unusedSimpArgs false
open Go.Sort in
theorem below_grow (W : World) (q : Nat) (os : Array Obj) : RowKit.Below W.heap.size W (grow (W.drewN q) os) :=
  ⟨rfl, rfl, rfl, by first | (simp [grow]; done) | (simp [grow]; omega), fun i hi => by
    show ((W.drewN q).heap ++ os)[i]? = _
    rw [Array.getElem?_append_left (by show i < W.heap.size; omega)]
    rfl⟩
theorem byLo_any (a b c d : Int) (W : World) : Calls Try.prog 99 #[.agg #[.int .i64 a, .int .i64 b], .agg #[.int .i64 c, .int .i64 d]] W fun e w' => e = .returned (.int .i64 (Lib.compareInt a c)) ∧ Below W.heap.size W w' :=
  (byLo_grow (a, b) (c, d) W).mono fun _ _ ⟨he, q, os, hw⟩ => ⟨he, by subst hw; exact below_grow _ _ _⟩
theorem cmp_le {x y : Int} (h : x ≤ y) : Lib.compareInt x y ≤ 0 := by unfold Lib.compareInt; split <;> first | omega | (split <;> omega)
theorem cmp_gt {x y : Int} (h : ¬ x ≤ y) : ¬ Lib.compareInt x y ≤ 0 := by unfold Lib.compareInt; split <;> first | omega | (split <;> omega)
theorem vals_gt (ss : List Sp) {k : Nat} (h : k < ss.length) : ∃ x : Sp, gt (vals ss) k = x.1 :=
  ⟨ss[k], by rw [gt_get (by simpa [vals] using h)]; simp [vals]⟩
set_option maxRecDepth 100000 in
set_option maxHeartbeats 4000000 in
theorem order_in (n : Nat) (hn : 1 ≤ n) (l Bs Bt Bc n₀ : Nat) (sv tv : Value) (ss ts : List Sp) (has : Asc (vals ss)) (hat : Asc (vals ts)) (hls : ss.length ≤ 256) (hlt : ts.length ≤ 256)
    (J Jx : List Sp → World → Prop) (hJ : ∀ pre W W', J pre W → Below W.heap.size W W' → J pre W')
    (hY : ∀ pre (x : Sp) W, J pre W → pre.length < ss.length + ts.length → YieldAt Fence.wide (n - 1) Try.prog l #[spv x.1] W fun e W' =>
      (e = .returned (.bool true) ∧ J (pre ++ [x]) W' ∧ Below n₀ W W') ∨ (e = .returned (.bool false) ∧ Jx (pre ++ [x]) W'))
    (W : World) (hBs : W.cell? ⟨Bs, 0, none⟩ = some sv) (hBt : W.cell? ⟨Bt, 0, none⟩ = some tv) (hBc : W.cell? ⟨Bc, 0, none⟩ = some (.func (.func 99) #[] #[]))
    (ls : Bs < n₀) (lt : Bt < n₀) (lc : Bc < n₀) (hn0 : n₀ ≤ W.heap.size) (hS : Spans n₀ W sv (vals ss)) (hT : Spans n₀ W tv (vals ts)) (h0 : J [] W) :
    CallsIn Fence.wide n Try.prog 120 #[.func (.yield l) #[] #[], .pointer (some ⟨Bs, 0, none⟩), .pointer (some ⟨Bt, 0, none⟩), .pointer (some ⟨Bc, 0, none⟩)] W fun e W' => (∃ v, e = .returned v) ∧
      ((∃ ys, ((vals ys).Perm (vals ss ++ vals ts) ∧ Asc (vals ys)) ∧ J ys W') ∨ (∃ pre, True ∧ Jx pre W')) := by
  obtain ⟨a1, cap1, rfl, hcS⟩ := hS.slice
  obtain ⟨a2, cap2, rfl, hcT⟩ := hT.slice
  have HS := Lib.hid hcS
  have HT := Lib.hid hcT
  have HAS := Lib.hid has
  have HAT := Lib.hid hat
  have HJ := Lib.hid hJ
  have hvs : (vals ss).length = ss.length := by simp [vals]
  have hvt : (vals ts).length = ts.length := by simp [vals]
  have HVS := Lib.hid hvs
  have HVT := Lib.hid hvt
  rw [hvs] at hBs hcS HS
  rw [hvt] at hBt hcT HT
  clear hS hT hcS hcT has hat hJ hvs hvt
  generalize hL1 : ss.length = n1 at *
  generalize hL2 : ts.length = n2 at *
  have HL1 := Lib.hid hL1
  have HL2 := Lib.hid hL2
  clear hL1 hL2
  refine callsIn_of_wp Try.func120 rfl trivial ?_ rfl
  simp only [Try.ntmps120, List.size_toArray, List.length_cons, List.length_nil, Nat.reduceAdd, Nat.reduceSub, Array.replicate_succ, Array.replicate_zero, List.push_toArray, List.append_toArray, List.nil_append, List.cons_append]
  gi_wp2
  gi_loopw [5, 6] (fun i j wr => ∃ a b : Nat, ∃ ys : List Sp, a ≤ n1 ∧ b ≤ n2 ∧ i = .int .i64 a ∧ j = .int .i64 b ∧ MerP (vals ss) (vals ts) (vals ys) a b ∧ J ys wr ∧ Below n₀ W wr)
    (fun i j _ => n1 + n2 - ((intOf i).toNat + (intOf j).toNat))
  case atStart => exact ⟨0, 0, [], Nat.zero_le _, Nat.zero_le _, rfl, rfl, mer_start _ _, h0, Below.refl _ _⟩
  case round =>
    obtain ⟨a, b, ys, ha, hb, rfl, rfl, hM, hJs, hnx⟩ := hrel
    have HM := Lib.hid hM
    have HM0 := Lib.hid hM
    have bs := (hnx.cell (p := ⟨Bs, 0, none⟩) ls).trans hBs
    have bt := (hnx.cell (p := ⟨Bt, 0, none⟩) lt).trans hBt
    have bc := (hnx.cell (p := ⟨Bc, 0, none⟩) lc).trans hBc
    have HJs := Lib.hid hJs
    clear hM
    by_cases hA : a < n1
    · by_cases hB : b < n2
      · have bN := Boxed2.new wr 23 (.int .i64 0) (.int .i64 0)
        have hB1 : Below wr.heap.size wr (wr.alloc (.cells #[.int .i64 0, .int .i64 0] 23)) := (Below.refl _ _).alloc (Nat.le_refl _) _
        gi_wp2
        generalize hBe : wr.heap.size = B at *
        have HB := Lib.hid hBe
        clear hBe
        generalize wr.alloc (.cells #[.int .i64 0, .int .i64 0] 23) = wr1 at *
        have hnx1 := hnx.trans (hB1.mono (by have := hnx.size; have := HB.out; omega))
        have bs1 := (hnx1.cell (p := ⟨Bs, 0, none⟩) ls).trans hBs
        have bt1 := (hnx1.cell (p := ⟨Bt, 0, none⟩) lt).trans hBt
        have bc1 := (hnx1.cell (p := ⟨Bc, 0, none⟩) lc).trans hBc
        clear bs bt bc
        obtain ⟨b1, o1, rfl, hb1, c1, c2⟩ := HS.out a hA
        obtain ⟨xx, hxx⟩ := vals_gt ss (k := a) (by have := HL1.out; omega)
        have HX := Lib.hid hxx.symm
        unfold gt at hxx
        rw [hxx] at c1 c2
        clear hxx
        generalize hx1 : xx.1.1 = x1 at c1
        generalize hx2 : xx.1.2 = x2 at c2
        have Hx1 := Lib.hid hx1
        have Hx2 := Lib.hid hx2
        clear hx1 hx2
        have ex1 := (hnx1.cell (p := ⟨b1, o1 + a * 2, none⟩) hb1).trans c1
        have ex2 := (hnx1.cell (p := ⟨b1, o1 + a * 2 + 1, none⟩) hb1).trans c2
        clear c1 c2
        obtain ⟨b2, o2, rfl, hb2, c1, c2⟩ := HT.out b hB
        obtain ⟨yx, hyx⟩ := vals_gt ts (k := b) (by have := HL2.out; omega)
        have HY := Lib.hid hyx.symm
        unfold gt at hyx
        rw [hyx] at c1 c2
        clear hyx
        generalize hy1 : yx.1.1 = y1 at c1
        generalize hy2 : yx.1.2 = y2 at c2
        have Hy1 := Lib.hid hy1
        have Hy2 := Lib.hid hy2
        clear hy1 hy2
        have ey1 := (hnx1.cell (p := ⟨b2, o2 + b * 2, none⟩) hb2).trans c1
        have ey2 := (hnx1.cell (p := ⟨b2, o2 + b * 2 + 1, none⟩) hb2).trans c2
        clear c1 c2
        have keep : ∀ W', Below wr1.heap.size wr1 W' → W'.cell? ⟨Bs, 0, none⟩ = some (.slice (some ⟨b1, o1, none⟩) n1 cap1) ∧ W'.cell? ⟨Bt, 0, none⟩ = some (.slice (some ⟨b2, o2, none⟩) n2 cap2) ∧ W'.cell? ⟨Bc, 0, none⟩ = some (.func (.func 99) #[] #[]) ∧ W'.cell? ⟨b1, o1 + a * 2, none⟩ = some (.int .i64 x1) ∧ W'.cell? ⟨b1, o1 + a * 2 + 1, none⟩ = some (.int .i64 x2) ∧ W'.cell? ⟨b2, o2 + b * 2, none⟩ = some (.int .i64 y1) ∧ W'.cell? ⟨b2, o2 + b * 2 + 1, none⟩ = some (.int .i64 y2) := fun W' h => ⟨(h.cell (p := ⟨Bs, 0, none⟩) (by have := hnx1.size; show Bs < _; omega)).trans bs1, (h.cell (p := ⟨Bt, 0, none⟩) (by have := hnx1.size; show Bt < _; omega)).trans bt1, (h.cell (p := ⟨Bc, 0, none⟩) (by have := hnx1.size; show Bc < _; omega)).trans bc1, (h.cell (p := ⟨b1, o1 + a * 2, none⟩) (by have := hnx1.size; show b1 < _; omega)).trans ex1, (h.cell (p := ⟨b1, o1 + a * 2 + 1, none⟩) (by have := hnx1.size; show b1 < _; omega)).trans ex2, (h.cell (p := ⟨b2, o2 + b * 2, none⟩) (by have := hnx1.size; show b2 < _; omega)).trans ey1, (h.cell (p := ⟨b2, o2 + b * 2 + 1, none⟩) (by have := hnx1.size; show b2 < _; omega)).trans ey2⟩
        have hcon := fun w => byLo_any x1 x2 y1 y2 w
        by_cases hle : x1 ≤ y1
        · have hr := cmp_le hle
          generalize Lib.compareInt x1 y1 = r at hcon hr
          have HLE : Hid (b < (vals ts).length → (gt (vals ss) a).1 ≤ (gt (vals ts) b).1) := Lib.hid (fun _ => by rw [← HX.out, ← HY.out, Hx1.out, Hy1.out]; exact hle)
          refine wpIn_wide.2 ?_
          refine wp_region_held_drew (S := fun w' => w'.cell? ⟨Bs, 0, none⟩ = some (.slice (some ⟨b1, o1, none⟩) n1 cap1) ∧ w'.cell? ⟨Bt, 0, none⟩ = some (.slice (some ⟨b2, o2, none⟩) n2 cap2) ∧ w'.cell? ⟨Bc, 0, none⟩ = some (.func (.func 99) #[] #[]) ∧ w'.cell? ⟨b1, o1 + a * 2, none⟩ = some (.int .i64 x1) ∧ w'.cell? ⟨b1, o1 + a * 2 + 1, none⟩ = some (.int .i64 x2) ∧ w'.cell? ⟨b2, o2 + b * 2, none⟩ = some (.int .i64 y1) ∧ w'.cell? ⟨b2, o2 + b * 2 + 1, none⟩ = some (.int .i64 y2)) (by kernel_rfl) ⟨bs1, bt1, bc1, ex1, ex2, ey1, ey2⟩ (fun hHeld => ?_)
          refine wpAnyH_take (i := 0) (oi := _) (v := .int .i64 b) rfl (by kernel_rfl) (by kernel_rfl) (by kernel_rfl) (fun _ _ _ h => h) (Or.inl ⟨by rfl, fun w' hSw => ?_⟩) hHeld ?_
          · obtain ⟨s1, s2, s3, s4, s5, s6, s7⟩ := hSw
            go_simp
            try (intro hh; exfalso; omega)
            try omega
          try simp only [Act.put, List.setIfInBounds_toArray, List.set_cons_zero, List.set_cons_succ, List.getElem_toArray, List.getElem_cons_succ, List.getElem_cons_zero]
          refine wpAnyH_take (i := 1) (oi := _) (v := .slice (some ⟨b2, o2, none⟩) n2 cap2) rfl (by kernel_rfl) (by kernel_rfl) (by kernel_rfl) (fun _ _ _ h => h) (Or.inl ⟨by rfl, fun w' hSw => ?_⟩) hHeld ?_
          · obtain ⟨s1, s2, s3, s4, s5, s6, s7⟩ := hSw
            go_simp
            try (intro hh; exfalso; omega)
            try omega
          try simp only [Act.put, List.setIfInBounds_toArray, List.set_cons_zero, List.set_cons_succ, List.getElem_toArray, List.getElem_cons_succ, List.getElem_cons_zero]
          refine wpAnyH_take (i := 2) (oi := _) (v := .int .i64 n2) rfl (by kernel_rfl) (by kernel_rfl) (by kernel_rfl) (fun _ _ _ h => h) (Or.inl ⟨by rfl, fun w' hSw => ?_⟩) hHeld ?_
          · obtain ⟨s1, s2, s3, s4, s5, s6, s7⟩ := hSw
            go_simp
            try (intro hh; exfalso; omega)
            try omega
          try simp only [Act.put, List.setIfInBounds_toArray, List.set_cons_zero, List.set_cons_succ, List.getElem_toArray, List.getElem_cons_succ, List.getElem_cons_zero]
          refine wpAnyH_take (i := 3) (oi := _) (v := .bool false) rfl (by kernel_rfl) (by kernel_rfl) (by kernel_rfl) (fun _ _ _ h => h) (Or.inl ⟨by rfl, fun w' hSw => ?_⟩) hHeld ?_
          · obtain ⟨s1, s2, s3, s4, s5, s6, s7⟩ := hSw
            go_simp
            try (intro hh; exfalso; omega)
            try omega
          try simp only [Act.put, List.setIfInBounds_toArray, List.set_cons_zero, List.set_cons_succ, List.getElem_toArray, List.getElem_cons_succ, List.getElem_cons_zero]
          refine wpAnyH_take (i := 4) (oi := _) (v := .bool false) rfl (by kernel_rfl) (by kernel_rfl) (by kernel_rfl) (fun _ _ _ h => h) (Or.inl ⟨by rfl, fun w' hSw => ?_⟩) hHeld ?_
          · obtain ⟨s1, s2, s3, s4, s5, s6, s7⟩ := hSw
            go_simp
            try (intro hh; exfalso; omega)
            try omega
          try simp only [Act.put, List.setIfInBounds_toArray, List.set_cons_zero, List.set_cons_succ, List.getElem_toArray, List.getElem_cons_succ, List.getElem_cons_zero]
          refine wpAnyH_take (i := 5) (oi := _) (v := .int .i64 a) rfl (by kernel_rfl) (by kernel_rfl) (by kernel_rfl) (fun _ _ _ h => h) (Or.inl ⟨by rfl, fun w' hSw => ?_⟩) hHeld ?_
          · obtain ⟨s1, s2, s3, s4, s5, s6, s7⟩ := hSw
            go_simp
            try (intro hh; exfalso; omega)
            try omega
          try simp only [Act.put, List.setIfInBounds_toArray, List.set_cons_zero, List.set_cons_succ, List.getElem_toArray, List.getElem_cons_succ, List.getElem_cons_zero]
          refine wpAnyH_take (i := 6) (oi := _) (v := .slice (some ⟨b1, o1, none⟩) n1 cap1) rfl (by kernel_rfl) (by kernel_rfl) (by kernel_rfl) (fun _ _ _ h => h) (Or.inl ⟨by rfl, fun w' hSw => ?_⟩) hHeld ?_
          · obtain ⟨s1, s2, s3, s4, s5, s6, s7⟩ := hSw
            go_simp
            try (intro hh; exfalso; omega)
            try omega
          try simp only [Act.put, List.setIfInBounds_toArray, List.set_cons_zero, List.set_cons_succ, List.getElem_toArray, List.getElem_cons_succ, List.getElem_cons_zero]
          refine wpAnyH_take (i := 7) (oi := _) (v := .int .i64 n1) rfl (by kernel_rfl) (by kernel_rfl) (by kernel_rfl) (fun _ _ _ h => h) (Or.inl ⟨by rfl, fun w' hSw => ?_⟩) hHeld ?_
          · obtain ⟨s1, s2, s3, s4, s5, s6, s7⟩ := hSw
            go_simp
            try (intro hh; exfalso; omega)
            try omega
          try simp only [Act.put, List.setIfInBounds_toArray, List.set_cons_zero, List.set_cons_succ, List.getElem_toArray, List.getElem_cons_succ, List.getElem_cons_zero]
          refine wpAnyH_take (i := 8) (oi := _) (v := .bool true) rfl (by kernel_rfl) (by kernel_rfl) (by kernel_rfl) (fun _ _ _ h => h) (Or.inl ⟨by rfl, fun w' hSw => ?_⟩) hHeld ?_
          · obtain ⟨s1, s2, s3, s4, s5, s6, s7⟩ := hSw
            go_simp
            try (intro hh; exfalso; omega)
            try omega
          try simp only [Act.put, List.setIfInBounds_toArray, List.set_cons_zero, List.set_cons_succ, List.getElem_toArray, List.getElem_cons_succ, List.getElem_cons_zero]
          refine wpAnyH_take (i := 9) (oi := _) (v := .bool true) rfl (by kernel_rfl) (by kernel_rfl) (by kernel_rfl) (fun _ _ _ h => h) (Or.inl ⟨by rfl, fun w' hSw => ?_⟩) hHeld ?_
          · obtain ⟨s1, s2, s3, s4, s5, s6, s7⟩ := hSw
            go_simp
            try (intro hh; exfalso; omega)
            try omega
          try simp only [Act.put, List.setIfInBounds_toArray, List.set_cons_zero, List.set_cons_succ, List.getElem_toArray, List.getElem_cons_succ, List.getElem_cons_zero]
          refine wpAnyH_take (i := 10) (oi := _) (v := .func (.func 99) #[] #[]) rfl (by kernel_rfl) (by kernel_rfl) (by kernel_rfl) (fun _ _ _ h => h) (Or.inl ⟨by rfl, fun w' hSw => ?_⟩) hHeld ?_
          · obtain ⟨s1, s2, s3, s4, s5, s6, s7⟩ := hSw
            go_simp
            try (intro hh; exfalso; omega)
            try omega
          try simp only [Act.put, List.setIfInBounds_toArray, List.set_cons_zero, List.set_cons_succ, List.getElem_toArray, List.getElem_cons_succ, List.getElem_cons_zero]
          refine wpAnyH_take (i := 11) (oi := _) (v := .slice (some ⟨b1, o1, none⟩) n1 cap1) rfl (by kernel_rfl) (by kernel_rfl) (by kernel_rfl) (fun _ _ _ h => h) (Or.inl ⟨by rfl, fun w' hSw => ?_⟩) hHeld ?_
          · obtain ⟨s1, s2, s3, s4, s5, s6, s7⟩ := hSw
            go_simp
            try (intro hh; exfalso; omega)
            try omega
          try simp only [Act.put, List.setIfInBounds_toArray, List.set_cons_zero, List.set_cons_succ, List.getElem_toArray, List.getElem_cons_succ, List.getElem_cons_zero]
          refine wpAnyH_take (i := 12) (oi := _) (v := .int .i64 a) rfl (by kernel_rfl) (by kernel_rfl) (by kernel_rfl) (fun _ _ _ h => h) (Or.inl ⟨by rfl, fun w' hSw => ?_⟩) hHeld ?_
          · obtain ⟨s1, s2, s3, s4, s5, s6, s7⟩ := hSw
            go_simp
            try (intro hh; exfalso; omega)
            try omega
          try simp only [Act.put, List.setIfInBounds_toArray, List.set_cons_zero, List.set_cons_succ, List.getElem_toArray, List.getElem_cons_succ, List.getElem_cons_zero]
          refine wpAnyH_take (i := 13) (oi := _) (v := .pointer (some ⟨b1, o1 + a * 2, none⟩)) rfl (by kernel_rfl) (by kernel_rfl) (by kernel_rfl) (fun _ _ _ h => h) (Or.inl ⟨by rfl, fun w' hSw => ?_⟩) hHeld ?_
          · obtain ⟨s1, s2, s3, s4, s5, s6, s7⟩ := hSw
            go_simp
            try (intro hh; exfalso; omega)
            try omega
          try simp only [Act.put, List.setIfInBounds_toArray, List.set_cons_zero, List.set_cons_succ, List.getElem_toArray, List.getElem_cons_succ, List.getElem_cons_zero]
          refine wpAnyH_take (i := 14) (oi := _) (v := .agg #[.int .i64 x1, .int .i64 x2]) rfl (by kernel_rfl) (by kernel_rfl) (by kernel_rfl) (fun _ _ _ h => h) (Or.inl ⟨by rfl, fun w' hSw => ?_⟩) hHeld ?_
          · obtain ⟨s1, s2, s3, s4, s5, s6, s7⟩ := hSw
            go_simp
            try (intro hh; exfalso; omega)
            try omega
          try simp only [Act.put, List.setIfInBounds_toArray, List.set_cons_zero, List.set_cons_succ, List.getElem_toArray, List.getElem_cons_succ, List.getElem_cons_zero]
          refine wpAnyH_take (i := 15) (oi := _) (v := .slice (some ⟨b2, o2, none⟩) n2 cap2) rfl (by kernel_rfl) (by kernel_rfl) (by kernel_rfl) (fun _ _ _ h => h) (Or.inl ⟨by rfl, fun w' hSw => ?_⟩) hHeld ?_
          · obtain ⟨s1, s2, s3, s4, s5, s6, s7⟩ := hSw
            go_simp
            try (intro hh; exfalso; omega)
            try omega
          try simp only [Act.put, List.setIfInBounds_toArray, List.set_cons_zero, List.set_cons_succ, List.getElem_toArray, List.getElem_cons_succ, List.getElem_cons_zero]
          refine wpAnyH_take (i := 16) (oi := _) (v := .int .i64 b) rfl (by kernel_rfl) (by kernel_rfl) (by kernel_rfl) (fun _ _ _ h => h) (Or.inl ⟨by rfl, fun w' hSw => ?_⟩) hHeld ?_
          · obtain ⟨s1, s2, s3, s4, s5, s6, s7⟩ := hSw
            go_simp
            try (intro hh; exfalso; omega)
            try omega
          try simp only [Act.put, List.setIfInBounds_toArray, List.set_cons_zero, List.set_cons_succ, List.getElem_toArray, List.getElem_cons_succ, List.getElem_cons_zero]
          refine wpAnyH_take (i := 17) (oi := _) (v := .pointer (some ⟨b2, o2 + b * 2, none⟩)) rfl (by kernel_rfl) (by kernel_rfl) (by kernel_rfl) (fun _ _ _ h => h) (Or.inl ⟨by rfl, fun w' hSw => ?_⟩) hHeld ?_
          · obtain ⟨s1, s2, s3, s4, s5, s6, s7⟩ := hSw
            go_simp
            try (intro hh; exfalso; omega)
            try omega
          try simp only [Act.put, List.setIfInBounds_toArray, List.set_cons_zero, List.set_cons_succ, List.getElem_toArray, List.getElem_cons_succ, List.getElem_cons_zero]
          refine wpAnyH_take (i := 18) (oi := _) (v := .agg #[.int .i64 y1, .int .i64 y2]) rfl (by kernel_rfl) (by kernel_rfl) (by kernel_rfl) (fun _ _ _ h => h) (Or.inl ⟨by rfl, fun w' hSw => ?_⟩) hHeld ?_
          · obtain ⟨s1, s2, s3, s4, s5, s6, s7⟩ := hSw
            go_simp
            try (intro hh; exfalso; omega)
            try omega
          try simp only [Act.put, List.setIfInBounds_toArray, List.set_cons_zero, List.set_cons_succ, List.getElem_toArray, List.getElem_cons_succ, List.getElem_cons_zero]
          refine wpAnyH_ready (rs := [19]) (by kernel_rfl) (by simp) ?_
          refine AllReadyH.cons (o := _) rfl (fun K hK => ?_) AllReadyH.nil
          go_simp
          refine (hcon _).mono ?_
          rintro e w1 ⟨rfl, hb⟩
          have hBn := ((Below.refl wr1.heap.size wr1).drew).trans hb
          clear hHeld
          refine hK.out _ _ (keep _ hBn) (fun hHeld => ?_)
          clear hK K
          try simp only [Act.put, List.setIfInBounds_toArray, List.set_cons_zero, List.set_cons_succ, List.getElem_toArray, List.getElem_cons_succ, List.getElem_cons_zero]
          refine wpAnyH_take (i := 20) (oi := _) (v := .bool true) rfl (by kernel_rfl) (by kernel_rfl) (by kernel_rfl) (fun _ _ _ h => h) (Or.inl ⟨by rfl, fun w' hSw => ?_⟩) hHeld ?_
          · obtain ⟨s1, s2, s3, s4, s5, s6, s7⟩ := hSw
            go_simp
            try (intro hh; exfalso; omega)
            try omega
          try simp only [Act.put, List.setIfInBounds_toArray, List.set_cons_zero, List.set_cons_succ, List.getElem_toArray, List.getElem_cons_succ, List.getElem_cons_zero]
          refine wpAnyH_take (i := 21) (oi := _) (v := .bool true) rfl (by kernel_rfl) (by kernel_rfl) (by kernel_rfl) (fun _ _ _ h => h) (Or.inl ⟨by rfl, fun w' hSw => ?_⟩) hHeld ?_
          · obtain ⟨s1, s2, s3, s4, s5, s6, s7⟩ := hSw
            go_simp
            try (intro hh; exfalso; omega)
            try omega
          try simp only [Act.put, List.setIfInBounds_toArray, List.set_cons_zero, List.set_cons_succ, List.getElem_toArray, List.getElem_cons_succ, List.getElem_cons_zero]
          refine wpAnyH_take (i := 22) (oi := _) (v := .bool true) rfl (by kernel_rfl) (by kernel_rfl) (by kernel_rfl) (fun _ _ _ h => h) (Or.inl ⟨by rfl, fun w' hSw => ?_⟩) hHeld ?_
          · obtain ⟨s1, s2, s3, s4, s5, s6, s7⟩ := hSw
            go_simp
            try (intro hh; exfalso; omega)
            try omega
          try simp only [Act.put, List.setIfInBounds_toArray, List.set_cons_zero, List.set_cons_succ, List.getElem_toArray, List.getElem_cons_succ, List.getElem_cons_zero]
          refine wpAnyH_done (by kernel_rfl) ?_ _
          clear hHeld
          have bN3 : Boxed2 w1 B 23 (.int .i64 0) (.int .i64 0) := (hBn.block B bN.lt).trans bN
          have hB3 := hB1.trans (hBn.mono (by have := hB1.size; have := HB.out; omega))
          have hnx3 := hnx1.trans (hBn.mono (by have := hnx1.size; omega))
          have bs3 := (hBn.cell (p := ⟨Bs, 0, none⟩) (by have := hnx1.size; show Bs < _; omega)).trans bs1
          have bt3 := (hBn.cell (p := ⟨Bt, 0, none⟩) (by have := hnx1.size; show Bt < _; omega)).trans bt1
          have e3 := (hBn.cell (p := ⟨b1, o1 + a * 2, none⟩) (by have := hnx1.size; show b1 < _; omega)).trans ex1
          have f3 := (hBn.cell (p := ⟨b1, o1 + a * 2 + 1, none⟩) (by have := hnx1.size; show b1 < _; omega)).trans ex2
          clear bN hBn hB1 hnx1 bs1 bt1 bc1 hJs
          clear keep hcon ex1 ex2 ey1 ey2
          have m0 := bN3.c0
          have m1 := bN3.c1
          have g0 := bN3.f0
          have g1 := bN3.f1
          have b4 := bN3.set2 (.int .i64 x1) (.int .i64 x2)
          have hB4 := (hB3.setCell (p := ⟨B, 0, none⟩) (Nat.le_refl _) (.int .i64 x1)).setCell (p := ⟨B, 1, none⟩) (Nat.le_refl _) (.int .i64 x2)
          have hnx4 := (hnx3.setCell (p := ⟨B, 0, none⟩) (by have := HB.out; have := hnx.size; show n₀ ≤ B; omega) (.int .i64 x1)).setCell (p := ⟨B, 1, none⟩) (by have := HB.out; have := hnx.size; show n₀ ≤ B; omega) (.int .i64 x2)
          have q0 := b4.c0
          have q1 := b4.c1
          have hJ4 : J ys ((w1.setCell ⟨B, 0, none⟩ (.int .i64 x1)).setCell ⟨B, 1, none⟩ (.int .i64 x2)) := HJ.out ys wr _ HJs.out (by rw [HB.out]; exact hB4)
          obtain ⟨fn, tmps, assign, body, hy, hR⟩ := hY ys xx _ hJ4 (by have h1 := mer_len (by have := HVS.out; omega) (by have := HVT.out; omega) HM.out; have h2 : (vals ys).length = ys.length := (by simp [vals]); omega)
          unfold spv at hy
          rw [Hx1.out, Hx2.out] at hy
          clear hB3 hJ4 bN3
          gi_wp2
          refine hR.mono ?_
          rintro e W5 (⟨rfl, hJ5, hk5⟩ | ⟨rfl, hJx5⟩)
          · gi_wp2
            go_roundw
            case rel => exact ⟨a + 1, b, ys ++ [xx], by omega, by omega, by go_num, rfl, by rw [vals_snoc, HX.out]; exact mer_left HAS.out (by have := HVS.out; omega) HM.out HLE.out, hJ5, hnx4.trans hk5⟩
            case measure => simp [intOf]; omega
          · gi_wp2
            refine bodyPost_ret (results_none rfl _ _ _) rfl ?_
            exact ⟨⟨_, rfl⟩, .inr ⟨_, trivial, hJx5⟩⟩
        · have hr := cmp_gt hle
          generalize Lib.compareInt x1 y1 = r at hcon hr
          have HLE : Hid (a < (vals ss).length → (gt (vals ts) b).1 ≤ (gt (vals ss) a).1) := Lib.hid (fun _ => by rw [← HX.out, ← HY.out, Hx1.out, Hy1.out]; omega)
          refine wpIn_wide.2 ?_
          refine wp_region_held_drew (S := fun w' => w'.cell? ⟨Bs, 0, none⟩ = some (.slice (some ⟨b1, o1, none⟩) n1 cap1) ∧ w'.cell? ⟨Bt, 0, none⟩ = some (.slice (some ⟨b2, o2, none⟩) n2 cap2) ∧ w'.cell? ⟨Bc, 0, none⟩ = some (.func (.func 99) #[] #[]) ∧ w'.cell? ⟨b1, o1 + a * 2, none⟩ = some (.int .i64 x1) ∧ w'.cell? ⟨b1, o1 + a * 2 + 1, none⟩ = some (.int .i64 x2) ∧ w'.cell? ⟨b2, o2 + b * 2, none⟩ = some (.int .i64 y1) ∧ w'.cell? ⟨b2, o2 + b * 2 + 1, none⟩ = some (.int .i64 y2)) (by kernel_rfl) ⟨bs1, bt1, bc1, ex1, ex2, ey1, ey2⟩ (fun hHeld => ?_)
          refine wpAnyH_take (i := 0) (oi := _) (v := .int .i64 b) rfl (by kernel_rfl) (by kernel_rfl) (by kernel_rfl) (fun _ _ _ h => h) (Or.inl ⟨by rfl, fun w' hSw => ?_⟩) hHeld ?_
          · obtain ⟨s1, s2, s3, s4, s5, s6, s7⟩ := hSw
            go_simp
            try (intro hh; exfalso; omega)
            try omega
          try simp only [Act.put, List.setIfInBounds_toArray, List.set_cons_zero, List.set_cons_succ, List.getElem_toArray, List.getElem_cons_succ, List.getElem_cons_zero]
          refine wpAnyH_take (i := 1) (oi := _) (v := .slice (some ⟨b2, o2, none⟩) n2 cap2) rfl (by kernel_rfl) (by kernel_rfl) (by kernel_rfl) (fun _ _ _ h => h) (Or.inl ⟨by rfl, fun w' hSw => ?_⟩) hHeld ?_
          · obtain ⟨s1, s2, s3, s4, s5, s6, s7⟩ := hSw
            go_simp
            try (intro hh; exfalso; omega)
            try omega
          try simp only [Act.put, List.setIfInBounds_toArray, List.set_cons_zero, List.set_cons_succ, List.getElem_toArray, List.getElem_cons_succ, List.getElem_cons_zero]
          refine wpAnyH_take (i := 2) (oi := _) (v := .int .i64 n2) rfl (by kernel_rfl) (by kernel_rfl) (by kernel_rfl) (fun _ _ _ h => h) (Or.inl ⟨by rfl, fun w' hSw => ?_⟩) hHeld ?_
          · obtain ⟨s1, s2, s3, s4, s5, s6, s7⟩ := hSw
            go_simp
            try (intro hh; exfalso; omega)
            try omega
          try simp only [Act.put, List.setIfInBounds_toArray, List.set_cons_zero, List.set_cons_succ, List.getElem_toArray, List.getElem_cons_succ, List.getElem_cons_zero]
          refine wpAnyH_take (i := 3) (oi := _) (v := .bool false) rfl (by kernel_rfl) (by kernel_rfl) (by kernel_rfl) (fun _ _ _ h => h) (Or.inl ⟨by rfl, fun w' hSw => ?_⟩) hHeld ?_
          · obtain ⟨s1, s2, s3, s4, s5, s6, s7⟩ := hSw
            go_simp
            try (intro hh; exfalso; omega)
            try omega
          try simp only [Act.put, List.setIfInBounds_toArray, List.set_cons_zero, List.set_cons_succ, List.getElem_toArray, List.getElem_cons_succ, List.getElem_cons_zero]
          refine wpAnyH_take (i := 4) (oi := _) (v := .bool false) rfl (by kernel_rfl) (by kernel_rfl) (by kernel_rfl) (fun _ _ _ h => h) (Or.inl ⟨by rfl, fun w' hSw => ?_⟩) hHeld ?_
          · obtain ⟨s1, s2, s3, s4, s5, s6, s7⟩ := hSw
            go_simp
            try (intro hh; exfalso; omega)
            try omega
          try simp only [Act.put, List.setIfInBounds_toArray, List.set_cons_zero, List.set_cons_succ, List.getElem_toArray, List.getElem_cons_succ, List.getElem_cons_zero]
          refine wpAnyH_take (i := 5) (oi := _) (v := .int .i64 a) rfl (by kernel_rfl) (by kernel_rfl) (by kernel_rfl) (fun _ _ _ h => h) (Or.inl ⟨by rfl, fun w' hSw => ?_⟩) hHeld ?_
          · obtain ⟨s1, s2, s3, s4, s5, s6, s7⟩ := hSw
            go_simp
            try (intro hh; exfalso; omega)
            try omega
          try simp only [Act.put, List.setIfInBounds_toArray, List.set_cons_zero, List.set_cons_succ, List.getElem_toArray, List.getElem_cons_succ, List.getElem_cons_zero]
          refine wpAnyH_take (i := 6) (oi := _) (v := .slice (some ⟨b1, o1, none⟩) n1 cap1) rfl (by kernel_rfl) (by kernel_rfl) (by kernel_rfl) (fun _ _ _ h => h) (Or.inl ⟨by rfl, fun w' hSw => ?_⟩) hHeld ?_
          · obtain ⟨s1, s2, s3, s4, s5, s6, s7⟩ := hSw
            go_simp
            try (intro hh; exfalso; omega)
            try omega
          try simp only [Act.put, List.setIfInBounds_toArray, List.set_cons_zero, List.set_cons_succ, List.getElem_toArray, List.getElem_cons_succ, List.getElem_cons_zero]
          refine wpAnyH_take (i := 7) (oi := _) (v := .int .i64 n1) rfl (by kernel_rfl) (by kernel_rfl) (by kernel_rfl) (fun _ _ _ h => h) (Or.inl ⟨by rfl, fun w' hSw => ?_⟩) hHeld ?_
          · obtain ⟨s1, s2, s3, s4, s5, s6, s7⟩ := hSw
            go_simp
            try (intro hh; exfalso; omega)
            try omega
          try simp only [Act.put, List.setIfInBounds_toArray, List.set_cons_zero, List.set_cons_succ, List.getElem_toArray, List.getElem_cons_succ, List.getElem_cons_zero]
          refine wpAnyH_take (i := 8) (oi := _) (v := .bool true) rfl (by kernel_rfl) (by kernel_rfl) (by kernel_rfl) (fun _ _ _ h => h) (Or.inl ⟨by rfl, fun w' hSw => ?_⟩) hHeld ?_
          · obtain ⟨s1, s2, s3, s4, s5, s6, s7⟩ := hSw
            go_simp
            try (intro hh; exfalso; omega)
            try omega
          try simp only [Act.put, List.setIfInBounds_toArray, List.set_cons_zero, List.set_cons_succ, List.getElem_toArray, List.getElem_cons_succ, List.getElem_cons_zero]
          refine wpAnyH_take (i := 9) (oi := _) (v := .bool true) rfl (by kernel_rfl) (by kernel_rfl) (by kernel_rfl) (fun _ _ _ h => h) (Or.inl ⟨by rfl, fun w' hSw => ?_⟩) hHeld ?_
          · obtain ⟨s1, s2, s3, s4, s5, s6, s7⟩ := hSw
            go_simp
            try (intro hh; exfalso; omega)
            try omega
          try simp only [Act.put, List.setIfInBounds_toArray, List.set_cons_zero, List.set_cons_succ, List.getElem_toArray, List.getElem_cons_succ, List.getElem_cons_zero]
          refine wpAnyH_take (i := 10) (oi := _) (v := .func (.func 99) #[] #[]) rfl (by kernel_rfl) (by kernel_rfl) (by kernel_rfl) (fun _ _ _ h => h) (Or.inl ⟨by rfl, fun w' hSw => ?_⟩) hHeld ?_
          · obtain ⟨s1, s2, s3, s4, s5, s6, s7⟩ := hSw
            go_simp
            try (intro hh; exfalso; omega)
            try omega
          try simp only [Act.put, List.setIfInBounds_toArray, List.set_cons_zero, List.set_cons_succ, List.getElem_toArray, List.getElem_cons_succ, List.getElem_cons_zero]
          refine wpAnyH_take (i := 11) (oi := _) (v := .slice (some ⟨b1, o1, none⟩) n1 cap1) rfl (by kernel_rfl) (by kernel_rfl) (by kernel_rfl) (fun _ _ _ h => h) (Or.inl ⟨by rfl, fun w' hSw => ?_⟩) hHeld ?_
          · obtain ⟨s1, s2, s3, s4, s5, s6, s7⟩ := hSw
            go_simp
            try (intro hh; exfalso; omega)
            try omega
          try simp only [Act.put, List.setIfInBounds_toArray, List.set_cons_zero, List.set_cons_succ, List.getElem_toArray, List.getElem_cons_succ, List.getElem_cons_zero]
          refine wpAnyH_take (i := 12) (oi := _) (v := .int .i64 a) rfl (by kernel_rfl) (by kernel_rfl) (by kernel_rfl) (fun _ _ _ h => h) (Or.inl ⟨by rfl, fun w' hSw => ?_⟩) hHeld ?_
          · obtain ⟨s1, s2, s3, s4, s5, s6, s7⟩ := hSw
            go_simp
            try (intro hh; exfalso; omega)
            try omega
          try simp only [Act.put, List.setIfInBounds_toArray, List.set_cons_zero, List.set_cons_succ, List.getElem_toArray, List.getElem_cons_succ, List.getElem_cons_zero]
          refine wpAnyH_take (i := 13) (oi := _) (v := .pointer (some ⟨b1, o1 + a * 2, none⟩)) rfl (by kernel_rfl) (by kernel_rfl) (by kernel_rfl) (fun _ _ _ h => h) (Or.inl ⟨by rfl, fun w' hSw => ?_⟩) hHeld ?_
          · obtain ⟨s1, s2, s3, s4, s5, s6, s7⟩ := hSw
            go_simp
            try (intro hh; exfalso; omega)
            try omega
          try simp only [Act.put, List.setIfInBounds_toArray, List.set_cons_zero, List.set_cons_succ, List.getElem_toArray, List.getElem_cons_succ, List.getElem_cons_zero]
          refine wpAnyH_take (i := 14) (oi := _) (v := .agg #[.int .i64 x1, .int .i64 x2]) rfl (by kernel_rfl) (by kernel_rfl) (by kernel_rfl) (fun _ _ _ h => h) (Or.inl ⟨by rfl, fun w' hSw => ?_⟩) hHeld ?_
          · obtain ⟨s1, s2, s3, s4, s5, s6, s7⟩ := hSw
            go_simp
            try (intro hh; exfalso; omega)
            try omega
          try simp only [Act.put, List.setIfInBounds_toArray, List.set_cons_zero, List.set_cons_succ, List.getElem_toArray, List.getElem_cons_succ, List.getElem_cons_zero]
          refine wpAnyH_take (i := 15) (oi := _) (v := .slice (some ⟨b2, o2, none⟩) n2 cap2) rfl (by kernel_rfl) (by kernel_rfl) (by kernel_rfl) (fun _ _ _ h => h) (Or.inl ⟨by rfl, fun w' hSw => ?_⟩) hHeld ?_
          · obtain ⟨s1, s2, s3, s4, s5, s6, s7⟩ := hSw
            go_simp
            try (intro hh; exfalso; omega)
            try omega
          try simp only [Act.put, List.setIfInBounds_toArray, List.set_cons_zero, List.set_cons_succ, List.getElem_toArray, List.getElem_cons_succ, List.getElem_cons_zero]
          refine wpAnyH_take (i := 16) (oi := _) (v := .int .i64 b) rfl (by kernel_rfl) (by kernel_rfl) (by kernel_rfl) (fun _ _ _ h => h) (Or.inl ⟨by rfl, fun w' hSw => ?_⟩) hHeld ?_
          · obtain ⟨s1, s2, s3, s4, s5, s6, s7⟩ := hSw
            go_simp
            try (intro hh; exfalso; omega)
            try omega
          try simp only [Act.put, List.setIfInBounds_toArray, List.set_cons_zero, List.set_cons_succ, List.getElem_toArray, List.getElem_cons_succ, List.getElem_cons_zero]
          refine wpAnyH_take (i := 17) (oi := _) (v := .pointer (some ⟨b2, o2 + b * 2, none⟩)) rfl (by kernel_rfl) (by kernel_rfl) (by kernel_rfl) (fun _ _ _ h => h) (Or.inl ⟨by rfl, fun w' hSw => ?_⟩) hHeld ?_
          · obtain ⟨s1, s2, s3, s4, s5, s6, s7⟩ := hSw
            go_simp
            try (intro hh; exfalso; omega)
            try omega
          try simp only [Act.put, List.setIfInBounds_toArray, List.set_cons_zero, List.set_cons_succ, List.getElem_toArray, List.getElem_cons_succ, List.getElem_cons_zero]
          refine wpAnyH_take (i := 18) (oi := _) (v := .agg #[.int .i64 y1, .int .i64 y2]) rfl (by kernel_rfl) (by kernel_rfl) (by kernel_rfl) (fun _ _ _ h => h) (Or.inl ⟨by rfl, fun w' hSw => ?_⟩) hHeld ?_
          · obtain ⟨s1, s2, s3, s4, s5, s6, s7⟩ := hSw
            go_simp
            try (intro hh; exfalso; omega)
            try omega
          try simp only [Act.put, List.setIfInBounds_toArray, List.set_cons_zero, List.set_cons_succ, List.getElem_toArray, List.getElem_cons_succ, List.getElem_cons_zero]
          refine wpAnyH_ready (rs := [19]) (by kernel_rfl) (by simp) ?_
          refine AllReadyH.cons (o := _) rfl (fun K hK => ?_) AllReadyH.nil
          go_simp
          refine (hcon _).mono ?_
          rintro e w1 ⟨rfl, hb⟩
          have hBn := ((Below.refl wr1.heap.size wr1).drew).trans hb
          clear hHeld
          refine hK.out _ _ (keep _ hBn) (fun hHeld => ?_)
          clear hK K
          try simp only [Act.put, List.setIfInBounds_toArray, List.set_cons_zero, List.set_cons_succ, List.getElem_toArray, List.getElem_cons_succ, List.getElem_cons_zero]
          refine wpAnyH_take (i := 20) (oi := _) (v := .bool false) rfl (by kernel_rfl) (by kernel_rfl) (by kernel_rfl) (fun _ _ _ h => h) (Or.inl ⟨by rfl, fun w' hSw => ?_⟩) hHeld ?_
          · obtain ⟨s1, s2, s3, s4, s5, s6, s7⟩ := hSw
            go_simp
            try (intro hh; exfalso; omega)
            try omega
          try simp only [Act.put, List.setIfInBounds_toArray, List.set_cons_zero, List.set_cons_succ, List.getElem_toArray, List.getElem_cons_succ, List.getElem_cons_zero]
          refine wpAnyH_take (i := 21) (oi := _) (v := .bool false) rfl (by kernel_rfl) (by kernel_rfl) (by kernel_rfl) (fun _ _ _ h => h) (Or.inl ⟨by rfl, fun w' hSw => ?_⟩) hHeld ?_
          · obtain ⟨s1, s2, s3, s4, s5, s6, s7⟩ := hSw
            go_simp
            try (intro hh; exfalso; omega)
            try omega
          try simp only [Act.put, List.setIfInBounds_toArray, List.set_cons_zero, List.set_cons_succ, List.getElem_toArray, List.getElem_cons_succ, List.getElem_cons_zero]
          refine wpAnyH_take (i := 22) (oi := _) (v := .bool false) rfl (by kernel_rfl) (by kernel_rfl) (by kernel_rfl) (fun _ _ _ h => h) (Or.inl ⟨by rfl, fun w' hSw => ?_⟩) hHeld ?_
          · obtain ⟨s1, s2, s3, s4, s5, s6, s7⟩ := hSw
            go_simp
            try (intro hh; exfalso; omega)
            try omega
          try simp only [Act.put, List.setIfInBounds_toArray, List.set_cons_zero, List.set_cons_succ, List.getElem_toArray, List.getElem_cons_succ, List.getElem_cons_zero]
          refine wpAnyH_done (by kernel_rfl) ?_ _
          clear hHeld
          have bN3 : Boxed2 w1 B 23 (.int .i64 0) (.int .i64 0) := (hBn.block B bN.lt).trans bN
          have hB3 := hB1.trans (hBn.mono (by have := hB1.size; have := HB.out; omega))
          have hnx3 := hnx1.trans (hBn.mono (by have := hnx1.size; omega))
          have bs3 := (hBn.cell (p := ⟨Bs, 0, none⟩) (by have := hnx1.size; show Bs < _; omega)).trans bs1
          have bt3 := (hBn.cell (p := ⟨Bt, 0, none⟩) (by have := hnx1.size; show Bt < _; omega)).trans bt1
          have e3 := (hBn.cell (p := ⟨b2, o2 + b * 2, none⟩) (by have := hnx1.size; show b2 < _; omega)).trans ey1
          have f3 := (hBn.cell (p := ⟨b2, o2 + b * 2 + 1, none⟩) (by have := hnx1.size; show b2 < _; omega)).trans ey2
          clear bN hBn hB1 hnx1 bs1 bt1 bc1 hJs
          clear keep hcon ex1 ex2 ey1 ey2
          have m0 := bN3.c0
          have m1 := bN3.c1
          have g0 := bN3.f0
          have g1 := bN3.f1
          have b4 := bN3.set2 (.int .i64 y1) (.int .i64 y2)
          have hB4 := (hB3.setCell (p := ⟨B, 0, none⟩) (Nat.le_refl _) (.int .i64 y1)).setCell (p := ⟨B, 1, none⟩) (Nat.le_refl _) (.int .i64 y2)
          have hnx4 := (hnx3.setCell (p := ⟨B, 0, none⟩) (by have := HB.out; have := hnx.size; show n₀ ≤ B; omega) (.int .i64 y1)).setCell (p := ⟨B, 1, none⟩) (by have := HB.out; have := hnx.size; show n₀ ≤ B; omega) (.int .i64 y2)
          have q0 := b4.c0
          have q1 := b4.c1
          have hJ4 : J ys ((w1.setCell ⟨B, 0, none⟩ (.int .i64 y1)).setCell ⟨B, 1, none⟩ (.int .i64 y2)) := HJ.out ys wr _ HJs.out (by rw [HB.out]; exact hB4)
          obtain ⟨fn, tmps, assign, body, hy, hR⟩ := hY ys yx _ hJ4 (by have h1 := mer_len (by have := HVS.out; omega) (by have := HVT.out; omega) HM.out; have h2 : (vals ys).length = ys.length := (by simp [vals]); omega)
          unfold spv at hy
          rw [Hy1.out, Hy2.out] at hy
          clear hB3 hJ4 bN3
          gi_wp2
          refine hR.mono ?_
          rintro e W5 (⟨rfl, hJ5, hk5⟩ | ⟨rfl, hJx5⟩)
          · gi_wp2
            go_roundw
            case rel => exact ⟨a, b + 1, ys ++ [yx], by omega, by omega, rfl, by go_num, by rw [vals_snoc, HY.out]; exact mer_right HAT.out (by have := HVT.out; omega) HM.out HLE.out, hJ5, hnx4.trans hk5⟩
            case measure => simp [intOf]; omega
          · gi_wp2
            refine bodyPost_ret (results_none rfl _ _ _) rfl ?_
            exact ⟨⟨_, rfl⟩, .inr ⟨_, trivial, hJx5⟩⟩
      · obtain rfl : b = n2 := by omega
        have bN := Boxed2.new wr 23 (.int .i64 0) (.int .i64 0)
        have hB1 : Below wr.heap.size wr (wr.alloc (.cells #[.int .i64 0, .int .i64 0] 23)) := (Below.refl _ _).alloc (Nat.le_refl _) _
        gi_wp2
        generalize hBe : wr.heap.size = B at *
        have HB := Lib.hid hBe
        clear hBe
        generalize wr.alloc (.cells #[.int .i64 0, .int .i64 0] 23) = wr1 at *
        have hnx1 := hnx.trans (hB1.mono (by have := hnx.size; have := HB.out; omega))
        have bs1 := (hnx1.cell (p := ⟨Bs, 0, none⟩) ls).trans hBs
        have bt1 := (hnx1.cell (p := ⟨Bt, 0, none⟩) lt).trans hBt
        have bc1 := (hnx1.cell (p := ⟨Bc, 0, none⟩) lc).trans hBc
        clear bs bt bc
        obtain ⟨b1, o1, rfl, hb1, c1, c2⟩ := HS.out a hA
        obtain ⟨xx, hxx⟩ := vals_gt ss (k := a) (by have := HL1.out; omega)
        have HX := Lib.hid hxx.symm
        unfold gt at hxx
        rw [hxx] at c1 c2
        clear hxx
        generalize hx1 : xx.1.1 = x1 at c1
        generalize hx2 : xx.1.2 = x2 at c2
        have Hx1 := Lib.hid hx1
        have Hx2 := Lib.hid hx2
        clear hx1 hx2
        have ex1 := (hnx1.cell (p := ⟨b1, o1 + a * 2, none⟩) hb1).trans c1
        have ex2 := (hnx1.cell (p := ⟨b1, o1 + a * 2 + 1, none⟩) hb1).trans c2
        clear c1 c2
        have HLE : Hid (b < (vals ts).length → (gt (vals ss) a).1 ≤ (gt (vals ts) b).1) := Lib.hid (fun h => absurd h (by have := HVT.out; omega))
        refine wpIn_wide.2 ?_
        refine wp_region_held_drew (S := fun w' => w'.cell? ⟨Bs, 0, none⟩ = some (.slice (some ⟨b1, o1, none⟩) n1 cap1) ∧ w'.cell? ⟨Bt, 0, none⟩ = some (.slice a2 b cap2) ∧ w'.cell? ⟨Bc, 0, none⟩ = some (.func (.func 99) #[] #[])) (by kernel_rfl) ⟨bs1, bt1, bc1⟩ (fun hHeld => ?_)
        refine wpAnyH_take (i := 0) (oi := _) (v := .int .i64 b) rfl (by kernel_rfl) (by kernel_rfl) (by kernel_rfl) (fun _ _ _ h => h) (Or.inl ⟨by rfl, fun w' hSw => ?_⟩) hHeld ?_
        · obtain ⟨s1, s2, s3⟩ := hSw
          go_simp
          try (intro hh; exfalso; omega)
          try omega
        try simp only [Act.put, List.setIfInBounds_toArray, List.set_cons_zero, List.set_cons_succ, List.getElem_toArray, List.getElem_cons_succ, List.getElem_cons_zero]
        refine wpAnyH_take (i := 1) (oi := _) (v := .slice a2 b cap2) rfl (by kernel_rfl) (by kernel_rfl) (by kernel_rfl) (fun _ _ _ h => h) (Or.inl ⟨by rfl, fun w' hSw => ?_⟩) hHeld ?_
        · obtain ⟨s1, s2, s3⟩ := hSw
          go_simp
          try (intro hh; exfalso; omega)
          try omega
        try simp only [Act.put, List.setIfInBounds_toArray, List.set_cons_zero, List.set_cons_succ, List.getElem_toArray, List.getElem_cons_succ, List.getElem_cons_zero]
        refine wpAnyH_take (i := 2) (oi := _) (v := .int .i64 b) rfl (by kernel_rfl) (by kernel_rfl) (by kernel_rfl) (fun _ _ _ h => h) (Or.inl ⟨by rfl, fun w' hSw => ?_⟩) hHeld ?_
        · obtain ⟨s1, s2, s3⟩ := hSw
          go_simp
          try (intro hh; exfalso; omega)
          try omega
        try simp only [Act.put, List.setIfInBounds_toArray, List.set_cons_zero, List.set_cons_succ, List.getElem_toArray, List.getElem_cons_succ, List.getElem_cons_zero]
        refine wpAnyH_take (i := 3) (oi := _) (v := .bool true) rfl (by kernel_rfl) (by kernel_rfl) (by kernel_rfl) (fun _ _ _ h => h) (Or.inl ⟨by rfl, fun w' hSw => ?_⟩) hHeld ?_
        · obtain ⟨s1, s2, s3⟩ := hSw
          go_simp
          try (intro hh; exfalso; omega)
          try omega
        try simp only [Act.put, List.setIfInBounds_toArray, List.set_cons_zero, List.set_cons_succ, List.getElem_toArray, List.getElem_cons_succ, List.getElem_cons_zero]
        refine wpAnyH_take (i := 4) (oi := _) (v := .bool true) rfl (by kernel_rfl) (by kernel_rfl) (by kernel_rfl) (fun _ _ _ h => h) (Or.inl ⟨by rfl, fun w' hSw => ?_⟩) hHeld ?_
        · obtain ⟨s1, s2, s3⟩ := hSw
          go_simp
          try (intro hh; exfalso; omega)
          try omega
        try simp only [Act.put, List.setIfInBounds_toArray, List.set_cons_zero, List.set_cons_succ, List.getElem_toArray, List.getElem_cons_succ, List.getElem_cons_zero]
        refine wpAnyH_take (i := 5) (oi := _) (v := undef) rfl (by kernel_rfl) (by kernel_rfl) (by kernel_rfl) (fun _ _ _ h => h) (Or.inr ⟨by rfl, rfl⟩) hHeld ?_
        try simp only [Act.put, List.setIfInBounds_toArray, List.set_cons_zero, List.set_cons_succ, List.getElem_toArray, List.getElem_cons_succ, List.getElem_cons_zero]
        refine wpAnyH_take (i := 6) (oi := _) (v := undef) rfl (by kernel_rfl) (by kernel_rfl) (by kernel_rfl) (fun _ _ _ h => h) (Or.inr ⟨by rfl, rfl⟩) hHeld ?_
        try simp only [Act.put, List.setIfInBounds_toArray, List.set_cons_zero, List.set_cons_succ, List.getElem_toArray, List.getElem_cons_succ, List.getElem_cons_zero]
        refine wpAnyH_take (i := 7) (oi := _) (v := undef) rfl (by kernel_rfl) (by kernel_rfl) (by kernel_rfl) (fun _ _ _ h => h) (Or.inr ⟨by rfl, rfl⟩) hHeld ?_
        try simp only [Act.put, List.setIfInBounds_toArray, List.set_cons_zero, List.set_cons_succ, List.getElem_toArray, List.getElem_cons_succ, List.getElem_cons_zero]
        refine wpAnyH_take (i := 8) (oi := _) (v := undef) rfl (by kernel_rfl) (by kernel_rfl) (by kernel_rfl) (fun _ _ _ h => h) (Or.inr ⟨by rfl, rfl⟩) hHeld ?_
        try simp only [Act.put, List.setIfInBounds_toArray, List.set_cons_zero, List.set_cons_succ, List.getElem_toArray, List.getElem_cons_succ, List.getElem_cons_zero]
        refine wpAnyH_take (i := 9) (oi := _) (v := undef) rfl (by kernel_rfl) (by kernel_rfl) (by kernel_rfl) (fun _ _ _ h => h) (Or.inr ⟨by rfl, rfl⟩) hHeld ?_
        try simp only [Act.put, List.setIfInBounds_toArray, List.set_cons_zero, List.set_cons_succ, List.getElem_toArray, List.getElem_cons_succ, List.getElem_cons_zero]
        refine wpAnyH_take (i := 10) (oi := _) (v := undef) rfl (by kernel_rfl) (by kernel_rfl) (by kernel_rfl) (fun _ _ _ h => h) (Or.inr ⟨by rfl, rfl⟩) hHeld ?_
        try simp only [Act.put, List.setIfInBounds_toArray, List.set_cons_zero, List.set_cons_succ, List.getElem_toArray, List.getElem_cons_succ, List.getElem_cons_zero]
        refine wpAnyH_take (i := 11) (oi := _) (v := undef) rfl (by kernel_rfl) (by kernel_rfl) (by kernel_rfl) (fun _ _ _ h => h) (Or.inr ⟨by rfl, rfl⟩) hHeld ?_
        try simp only [Act.put, List.setIfInBounds_toArray, List.set_cons_zero, List.set_cons_succ, List.getElem_toArray, List.getElem_cons_succ, List.getElem_cons_zero]
        refine wpAnyH_take (i := 12) (oi := _) (v := undef) rfl (by kernel_rfl) (by kernel_rfl) (by kernel_rfl) (fun _ _ _ h => h) (Or.inr ⟨by rfl, rfl⟩) hHeld ?_
        try simp only [Act.put, List.setIfInBounds_toArray, List.set_cons_zero, List.set_cons_succ, List.getElem_toArray, List.getElem_cons_succ, List.getElem_cons_zero]
        refine wpAnyH_take (i := 13) (oi := _) (v := undef) rfl (by kernel_rfl) (by kernel_rfl) (by kernel_rfl) (fun _ _ _ h => h) (Or.inr ⟨by rfl, rfl⟩) hHeld ?_
        try simp only [Act.put, List.setIfInBounds_toArray, List.set_cons_zero, List.set_cons_succ, List.getElem_toArray, List.getElem_cons_succ, List.getElem_cons_zero]
        refine wpAnyH_take (i := 14) (oi := _) (v := undef) rfl (by kernel_rfl) (by kernel_rfl) (by kernel_rfl) (fun _ _ _ h => h) (Or.inr ⟨by rfl, rfl⟩) hHeld ?_
        try simp only [Act.put, List.setIfInBounds_toArray, List.set_cons_zero, List.set_cons_succ, List.getElem_toArray, List.getElem_cons_succ, List.getElem_cons_zero]
        refine wpAnyH_take (i := 15) (oi := _) (v := undef) rfl (by kernel_rfl) (by kernel_rfl) (by kernel_rfl) (fun _ _ _ h => h) (Or.inr ⟨by rfl, rfl⟩) hHeld ?_
        try simp only [Act.put, List.setIfInBounds_toArray, List.set_cons_zero, List.set_cons_succ, List.getElem_toArray, List.getElem_cons_succ, List.getElem_cons_zero]
        refine wpAnyH_take (i := 16) (oi := _) (v := undef) rfl (by kernel_rfl) (by kernel_rfl) (by kernel_rfl) (fun _ _ _ h => h) (Or.inr ⟨by rfl, rfl⟩) hHeld ?_
        try simp only [Act.put, List.setIfInBounds_toArray, List.set_cons_zero, List.set_cons_succ, List.getElem_toArray, List.getElem_cons_succ, List.getElem_cons_zero]
        refine wpAnyH_take (i := 17) (oi := _) (v := undef) rfl (by kernel_rfl) (by kernel_rfl) (by kernel_rfl) (fun _ _ _ h => h) (Or.inr ⟨by rfl, rfl⟩) hHeld ?_
        try simp only [Act.put, List.setIfInBounds_toArray, List.set_cons_zero, List.set_cons_succ, List.getElem_toArray, List.getElem_cons_succ, List.getElem_cons_zero]
        refine wpAnyH_take (i := 18) (oi := _) (v := undef) rfl (by kernel_rfl) (by kernel_rfl) (by kernel_rfl) (fun _ _ _ h => h) (Or.inr ⟨by rfl, rfl⟩) hHeld ?_
        try simp only [Act.put, List.setIfInBounds_toArray, List.set_cons_zero, List.set_cons_succ, List.getElem_toArray, List.getElem_cons_succ, List.getElem_cons_zero]
        refine wpAnyH_take (i := 19) (oi := _) (v := undef) rfl (by kernel_rfl) (by kernel_rfl) (by kernel_rfl) (fun _ _ _ h => h) (Or.inr ⟨by rfl, rfl⟩) hHeld ?_
        try simp only [Act.put, List.setIfInBounds_toArray, List.set_cons_zero, List.set_cons_succ, List.getElem_toArray, List.getElem_cons_succ, List.getElem_cons_zero]
        refine wpAnyH_take (i := 20) (oi := _) (v := undef) rfl (by kernel_rfl) (by kernel_rfl) (by kernel_rfl) (fun _ _ _ h => h) (Or.inr ⟨by rfl, rfl⟩) hHeld ?_
        try simp only [Act.put, List.setIfInBounds_toArray, List.set_cons_zero, List.set_cons_succ, List.getElem_toArray, List.getElem_cons_succ, List.getElem_cons_zero]
        refine wpAnyH_take (i := 21) (oi := _) (v := undef) rfl (by kernel_rfl) (by kernel_rfl) (by kernel_rfl) (fun _ _ _ h => h) (Or.inr ⟨by rfl, rfl⟩) hHeld ?_
        try simp only [Act.put, List.setIfInBounds_toArray, List.set_cons_zero, List.set_cons_succ, List.getElem_toArray, List.getElem_cons_succ, List.getElem_cons_zero]
        refine wpAnyH_take (i := 22) (oi := _) (v := .bool true) rfl (by kernel_rfl) (by kernel_rfl) (by kernel_rfl) (fun _ _ _ h => h) (Or.inl ⟨by rfl, fun w' hSw => ?_⟩) hHeld ?_
        · obtain ⟨s1, s2, s3⟩ := hSw
          go_simp
          try (intro hh; exfalso; omega)
          try omega
        try simp only [Act.put, List.setIfInBounds_toArray, List.set_cons_zero, List.set_cons_succ, List.getElem_toArray, List.getElem_cons_succ, List.getElem_cons_zero]
        refine wpAnyH_done (by kernel_rfl) ?_ _
        have hBn := (Below.refl wr1.heap.size wr1).drew
        clear hHeld
        generalize wr1.drew = w1 at hBn ⊢
        have bN3 : Boxed2 w1 B 23 (.int .i64 0) (.int .i64 0) := (hBn.block B bN.lt).trans bN
        have hB3 := hB1.trans (hBn.mono (by have := hB1.size; have := HB.out; omega))
        have hnx3 := hnx1.trans (hBn.mono (by have := hnx1.size; omega))
        have bs3 := (hBn.cell (p := ⟨Bs, 0, none⟩) (by have := hnx1.size; show Bs < _; omega)).trans bs1
        have bt3 := (hBn.cell (p := ⟨Bt, 0, none⟩) (by have := hnx1.size; show Bt < _; omega)).trans bt1
        have e3 := (hBn.cell (p := ⟨b1, o1 + a * 2, none⟩) (by have := hnx1.size; show b1 < _; omega)).trans ex1
        have f3 := (hBn.cell (p := ⟨b1, o1 + a * 2 + 1, none⟩) (by have := hnx1.size; show b1 < _; omega)).trans ex2
        clear bN hBn hB1 hnx1 bs1 bt1 bc1 hJs
        clear ex1 ex2
        have m0 := bN3.c0
        have m1 := bN3.c1
        have g0 := bN3.f0
        have g1 := bN3.f1
        have b4 := bN3.set2 (.int .i64 x1) (.int .i64 x2)
        have hB4 := (hB3.setCell (p := ⟨B, 0, none⟩) (Nat.le_refl _) (.int .i64 x1)).setCell (p := ⟨B, 1, none⟩) (Nat.le_refl _) (.int .i64 x2)
        have hnx4 := (hnx3.setCell (p := ⟨B, 0, none⟩) (by have := HB.out; have := hnx.size; show n₀ ≤ B; omega) (.int .i64 x1)).setCell (p := ⟨B, 1, none⟩) (by have := HB.out; have := hnx.size; show n₀ ≤ B; omega) (.int .i64 x2)
        have q0 := b4.c0
        have q1 := b4.c1
        have hJ4 : J ys ((w1.setCell ⟨B, 0, none⟩ (.int .i64 x1)).setCell ⟨B, 1, none⟩ (.int .i64 x2)) := HJ.out ys wr _ HJs.out (by rw [HB.out]; exact hB4)
        obtain ⟨fn, tmps, assign, body, hy, hR⟩ := hY ys xx _ hJ4 (by have h1 := mer_len (by have := HVS.out; omega) (by have := HVT.out; omega) HM.out; have h2 : (vals ys).length = ys.length := (by simp [vals]); omega)
        unfold spv at hy
        rw [Hx1.out, Hx2.out] at hy
        clear hB3 hJ4 bN3
        gi_wp2
        refine hR.mono ?_
        rintro e W5 (⟨rfl, hJ5, hk5⟩ | ⟨rfl, hJx5⟩)
        · gi_wp2
          go_roundw
          case rel => exact ⟨a + 1, b, ys ++ [xx], by omega, by omega, by go_num, rfl, by rw [vals_snoc, HX.out]; exact mer_left HAS.out (by have := HVS.out; omega) HM.out HLE.out, hJ5, hnx4.trans hk5⟩
          case measure => simp [intOf]; omega
        · gi_wp2
          refine bodyPost_ret (results_none rfl _ _ _) rfl ?_
          exact ⟨⟨_, rfl⟩, .inr ⟨_, trivial, hJx5⟩⟩
    · obtain rfl : a = n1 := by omega
      by_cases hB : b < n2
      · have bN := Boxed2.new wr 23 (.int .i64 0) (.int .i64 0)
        have hB1 : Below wr.heap.size wr (wr.alloc (.cells #[.int .i64 0, .int .i64 0] 23)) := (Below.refl _ _).alloc (Nat.le_refl _) _
        gi_wp2
        generalize hBe : wr.heap.size = B at *
        have HB := Lib.hid hBe
        clear hBe
        generalize wr.alloc (.cells #[.int .i64 0, .int .i64 0] 23) = wr1 at *
        have hnx1 := hnx.trans (hB1.mono (by have := hnx.size; have := HB.out; omega))
        have bs1 := (hnx1.cell (p := ⟨Bs, 0, none⟩) ls).trans hBs
        have bt1 := (hnx1.cell (p := ⟨Bt, 0, none⟩) lt).trans hBt
        have bc1 := (hnx1.cell (p := ⟨Bc, 0, none⟩) lc).trans hBc
        clear bs bt bc
        obtain ⟨b2, o2, rfl, hb2, c1, c2⟩ := HT.out b hB
        obtain ⟨yx, hyx⟩ := vals_gt ts (k := b) (by have := HL2.out; omega)
        have HY := Lib.hid hyx.symm
        unfold gt at hyx
        rw [hyx] at c1 c2
        clear hyx
        generalize hy1 : yx.1.1 = y1 at c1
        generalize hy2 : yx.1.2 = y2 at c2
        have Hy1 := Lib.hid hy1
        have Hy2 := Lib.hid hy2
        clear hy1 hy2
        have ey1 := (hnx1.cell (p := ⟨b2, o2 + b * 2, none⟩) hb2).trans c1
        have ey2 := (hnx1.cell (p := ⟨b2, o2 + b * 2 + 1, none⟩) hb2).trans c2
        clear c1 c2
        have HLE : Hid (a < (vals ss).length → (gt (vals ts) b).1 ≤ (gt (vals ss) a).1) := Lib.hid (fun h => absurd h (by have := HVS.out; omega))
        refine wpIn_wide.2 ?_
        refine wp_region_held_drew (S := fun w' => w'.cell? ⟨Bs, 0, none⟩ = some (.slice a1 a cap1) ∧ w'.cell? ⟨Bt, 0, none⟩ = some (.slice (some ⟨b2, o2, none⟩) n2 cap2) ∧ w'.cell? ⟨Bc, 0, none⟩ = some (.func (.func 99) #[] #[])) (by kernel_rfl) ⟨bs1, bt1, bc1⟩ (fun hHeld => ?_)
        refine wpAnyH_take (i := 0) (oi := _) (v := .int .i64 b) rfl (by kernel_rfl) (by kernel_rfl) (by kernel_rfl) (fun _ _ _ h => h) (Or.inl ⟨by rfl, fun w' hSw => ?_⟩) hHeld ?_
        · obtain ⟨s1, s2, s3⟩ := hSw
          go_simp
          try (intro hh; exfalso; omega)
          try omega
        try simp only [Act.put, List.setIfInBounds_toArray, List.set_cons_zero, List.set_cons_succ, List.getElem_toArray, List.getElem_cons_succ, List.getElem_cons_zero]
        refine wpAnyH_take (i := 1) (oi := _) (v := .slice (some ⟨b2, o2, none⟩) n2 cap2) rfl (by kernel_rfl) (by kernel_rfl) (by kernel_rfl) (fun _ _ _ h => h) (Or.inl ⟨by rfl, fun w' hSw => ?_⟩) hHeld ?_
        · obtain ⟨s1, s2, s3⟩ := hSw
          go_simp
          try (intro hh; exfalso; omega)
          try omega
        try simp only [Act.put, List.setIfInBounds_toArray, List.set_cons_zero, List.set_cons_succ, List.getElem_toArray, List.getElem_cons_succ, List.getElem_cons_zero]
        refine wpAnyH_take (i := 2) (oi := _) (v := .int .i64 n2) rfl (by kernel_rfl) (by kernel_rfl) (by kernel_rfl) (fun _ _ _ h => h) (Or.inl ⟨by rfl, fun w' hSw => ?_⟩) hHeld ?_
        · obtain ⟨s1, s2, s3⟩ := hSw
          go_simp
          try (intro hh; exfalso; omega)
          try omega
        try simp only [Act.put, List.setIfInBounds_toArray, List.set_cons_zero, List.set_cons_succ, List.getElem_toArray, List.getElem_cons_succ, List.getElem_cons_zero]
        refine wpAnyH_take (i := 3) (oi := _) (v := .bool false) rfl (by kernel_rfl) (by kernel_rfl) (by kernel_rfl) (fun _ _ _ h => h) (Or.inl ⟨by rfl, fun w' hSw => ?_⟩) hHeld ?_
        · obtain ⟨s1, s2, s3⟩ := hSw
          go_simp
          try (intro hh; exfalso; omega)
          try omega
        try simp only [Act.put, List.setIfInBounds_toArray, List.set_cons_zero, List.set_cons_succ, List.getElem_toArray, List.getElem_cons_succ, List.getElem_cons_zero]
        refine wpAnyH_take (i := 4) (oi := _) (v := .bool false) rfl (by kernel_rfl) (by kernel_rfl) (by kernel_rfl) (fun _ _ _ h => h) (Or.inl ⟨by rfl, fun w' hSw => ?_⟩) hHeld ?_
        · obtain ⟨s1, s2, s3⟩ := hSw
          go_simp
          try (intro hh; exfalso; omega)
          try omega
        try simp only [Act.put, List.setIfInBounds_toArray, List.set_cons_zero, List.set_cons_succ, List.getElem_toArray, List.getElem_cons_succ, List.getElem_cons_zero]
        refine wpAnyH_take (i := 5) (oi := _) (v := .int .i64 a) rfl (by kernel_rfl) (by kernel_rfl) (by kernel_rfl) (fun _ _ _ h => h) (Or.inl ⟨by rfl, fun w' hSw => ?_⟩) hHeld ?_
        · obtain ⟨s1, s2, s3⟩ := hSw
          go_simp
          try (intro hh; exfalso; omega)
          try omega
        try simp only [Act.put, List.setIfInBounds_toArray, List.set_cons_zero, List.set_cons_succ, List.getElem_toArray, List.getElem_cons_succ, List.getElem_cons_zero]
        refine wpAnyH_take (i := 6) (oi := _) (v := .slice a1 a cap1) rfl (by kernel_rfl) (by kernel_rfl) (by kernel_rfl) (fun _ _ _ h => h) (Or.inl ⟨by rfl, fun w' hSw => ?_⟩) hHeld ?_
        · obtain ⟨s1, s2, s3⟩ := hSw
          go_simp
          try (intro hh; exfalso; omega)
          try omega
        try simp only [Act.put, List.setIfInBounds_toArray, List.set_cons_zero, List.set_cons_succ, List.getElem_toArray, List.getElem_cons_succ, List.getElem_cons_zero]
        refine wpAnyH_take (i := 7) (oi := _) (v := .int .i64 a) rfl (by kernel_rfl) (by kernel_rfl) (by kernel_rfl) (fun _ _ _ h => h) (Or.inl ⟨by rfl, fun w' hSw => ?_⟩) hHeld ?_
        · obtain ⟨s1, s2, s3⟩ := hSw
          go_simp
          try (intro hh; exfalso; omega)
          try omega
        try simp only [Act.put, List.setIfInBounds_toArray, List.set_cons_zero, List.set_cons_succ, List.getElem_toArray, List.getElem_cons_succ, List.getElem_cons_zero]
        refine wpAnyH_take (i := 8) (oi := _) (v := .bool false) rfl (by kernel_rfl) (by kernel_rfl) (by kernel_rfl) (fun _ _ _ h => h) (Or.inl ⟨by rfl, fun w' hSw => ?_⟩) hHeld ?_
        · obtain ⟨s1, s2, s3⟩ := hSw
          go_simp
          try (intro hh; exfalso; omega)
          try omega
        try simp only [Act.put, List.setIfInBounds_toArray, List.set_cons_zero, List.set_cons_succ, List.getElem_toArray, List.getElem_cons_succ, List.getElem_cons_zero]
        refine wpAnyH_take (i := 9) (oi := _) (v := .bool false) rfl (by kernel_rfl) (by kernel_rfl) (by kernel_rfl) (fun _ _ _ h => h) (Or.inl ⟨by rfl, fun w' hSw => ?_⟩) hHeld ?_
        · obtain ⟨s1, s2, s3⟩ := hSw
          go_simp
          try (intro hh; exfalso; omega)
          try omega
        try simp only [Act.put, List.setIfInBounds_toArray, List.set_cons_zero, List.set_cons_succ, List.getElem_toArray, List.getElem_cons_succ, List.getElem_cons_zero]
        refine wpAnyH_take (i := 10) (oi := _) (v := undef) rfl (by kernel_rfl) (by kernel_rfl) (by kernel_rfl) (fun _ _ _ h => h) (Or.inr ⟨by rfl, rfl⟩) hHeld ?_
        try simp only [Act.put, List.setIfInBounds_toArray, List.set_cons_zero, List.set_cons_succ, List.getElem_toArray, List.getElem_cons_succ, List.getElem_cons_zero]
        refine wpAnyH_take (i := 11) (oi := _) (v := undef) rfl (by kernel_rfl) (by kernel_rfl) (by kernel_rfl) (fun _ _ _ h => h) (Or.inr ⟨by rfl, rfl⟩) hHeld ?_
        try simp only [Act.put, List.setIfInBounds_toArray, List.set_cons_zero, List.set_cons_succ, List.getElem_toArray, List.getElem_cons_succ, List.getElem_cons_zero]
        refine wpAnyH_take (i := 12) (oi := _) (v := undef) rfl (by kernel_rfl) (by kernel_rfl) (by kernel_rfl) (fun _ _ _ h => h) (Or.inr ⟨by rfl, rfl⟩) hHeld ?_
        try simp only [Act.put, List.setIfInBounds_toArray, List.set_cons_zero, List.set_cons_succ, List.getElem_toArray, List.getElem_cons_succ, List.getElem_cons_zero]
        refine wpAnyH_take (i := 13) (oi := _) (v := undef) rfl (by kernel_rfl) (by kernel_rfl) (by kernel_rfl) (fun _ _ _ h => h) (Or.inr ⟨by rfl, rfl⟩) hHeld ?_
        try simp only [Act.put, List.setIfInBounds_toArray, List.set_cons_zero, List.set_cons_succ, List.getElem_toArray, List.getElem_cons_succ, List.getElem_cons_zero]
        refine wpAnyH_take (i := 14) (oi := _) (v := undef) rfl (by kernel_rfl) (by kernel_rfl) (by kernel_rfl) (fun _ _ _ h => h) (Or.inr ⟨by rfl, rfl⟩) hHeld ?_
        try simp only [Act.put, List.setIfInBounds_toArray, List.set_cons_zero, List.set_cons_succ, List.getElem_toArray, List.getElem_cons_succ, List.getElem_cons_zero]
        refine wpAnyH_take (i := 15) (oi := _) (v := undef) rfl (by kernel_rfl) (by kernel_rfl) (by kernel_rfl) (fun _ _ _ h => h) (Or.inr ⟨by rfl, rfl⟩) hHeld ?_
        try simp only [Act.put, List.setIfInBounds_toArray, List.set_cons_zero, List.set_cons_succ, List.getElem_toArray, List.getElem_cons_succ, List.getElem_cons_zero]
        refine wpAnyH_take (i := 16) (oi := _) (v := undef) rfl (by kernel_rfl) (by kernel_rfl) (by kernel_rfl) (fun _ _ _ h => h) (Or.inr ⟨by rfl, rfl⟩) hHeld ?_
        try simp only [Act.put, List.setIfInBounds_toArray, List.set_cons_zero, List.set_cons_succ, List.getElem_toArray, List.getElem_cons_succ, List.getElem_cons_zero]
        refine wpAnyH_take (i := 17) (oi := _) (v := undef) rfl (by kernel_rfl) (by kernel_rfl) (by kernel_rfl) (fun _ _ _ h => h) (Or.inr ⟨by rfl, rfl⟩) hHeld ?_
        try simp only [Act.put, List.setIfInBounds_toArray, List.set_cons_zero, List.set_cons_succ, List.getElem_toArray, List.getElem_cons_succ, List.getElem_cons_zero]
        refine wpAnyH_take (i := 18) (oi := _) (v := undef) rfl (by kernel_rfl) (by kernel_rfl) (by kernel_rfl) (fun _ _ _ h => h) (Or.inr ⟨by rfl, rfl⟩) hHeld ?_
        try simp only [Act.put, List.setIfInBounds_toArray, List.set_cons_zero, List.set_cons_succ, List.getElem_toArray, List.getElem_cons_succ, List.getElem_cons_zero]
        refine wpAnyH_take (i := 19) (oi := _) (v := undef) rfl (by kernel_rfl) (by kernel_rfl) (by kernel_rfl) (fun _ _ _ h => h) (Or.inr ⟨by rfl, rfl⟩) hHeld ?_
        try simp only [Act.put, List.setIfInBounds_toArray, List.set_cons_zero, List.set_cons_succ, List.getElem_toArray, List.getElem_cons_succ, List.getElem_cons_zero]
        refine wpAnyH_take (i := 20) (oi := _) (v := undef) rfl (by kernel_rfl) (by kernel_rfl) (by kernel_rfl) (fun _ _ _ h => h) (Or.inr ⟨by rfl, rfl⟩) hHeld ?_
        try simp only [Act.put, List.setIfInBounds_toArray, List.set_cons_zero, List.set_cons_succ, List.getElem_toArray, List.getElem_cons_succ, List.getElem_cons_zero]
        refine wpAnyH_take (i := 21) (oi := _) (v := .bool false) rfl (by kernel_rfl) (by kernel_rfl) (by kernel_rfl) (fun _ _ _ h => h) (Or.inl ⟨by rfl, fun w' hSw => ?_⟩) hHeld ?_
        · obtain ⟨s1, s2, s3⟩ := hSw
          go_simp
          try (intro hh; exfalso; omega)
          try omega
        try simp only [Act.put, List.setIfInBounds_toArray, List.set_cons_zero, List.set_cons_succ, List.getElem_toArray, List.getElem_cons_succ, List.getElem_cons_zero]
        refine wpAnyH_take (i := 22) (oi := _) (v := .bool false) rfl (by kernel_rfl) (by kernel_rfl) (by kernel_rfl) (fun _ _ _ h => h) (Or.inl ⟨by rfl, fun w' hSw => ?_⟩) hHeld ?_
        · obtain ⟨s1, s2, s3⟩ := hSw
          go_simp
          try (intro hh; exfalso; omega)
          try omega
        try simp only [Act.put, List.setIfInBounds_toArray, List.set_cons_zero, List.set_cons_succ, List.getElem_toArray, List.getElem_cons_succ, List.getElem_cons_zero]
        refine wpAnyH_done (by kernel_rfl) ?_ _
        have hBn := (Below.refl wr1.heap.size wr1).drew
        clear hHeld
        generalize wr1.drew = w1 at hBn ⊢
        have bN3 : Boxed2 w1 B 23 (.int .i64 0) (.int .i64 0) := (hBn.block B bN.lt).trans bN
        have hB3 := hB1.trans (hBn.mono (by have := hB1.size; have := HB.out; omega))
        have hnx3 := hnx1.trans (hBn.mono (by have := hnx1.size; omega))
        have bs3 := (hBn.cell (p := ⟨Bs, 0, none⟩) (by have := hnx1.size; show Bs < _; omega)).trans bs1
        have bt3 := (hBn.cell (p := ⟨Bt, 0, none⟩) (by have := hnx1.size; show Bt < _; omega)).trans bt1
        have e3 := (hBn.cell (p := ⟨b2, o2 + b * 2, none⟩) (by have := hnx1.size; show b2 < _; omega)).trans ey1
        have f3 := (hBn.cell (p := ⟨b2, o2 + b * 2 + 1, none⟩) (by have := hnx1.size; show b2 < _; omega)).trans ey2
        clear bN hBn hB1 hnx1 bs1 bt1 bc1 hJs
        clear ey1 ey2
        have m0 := bN3.c0
        have m1 := bN3.c1
        have g0 := bN3.f0
        have g1 := bN3.f1
        have b4 := bN3.set2 (.int .i64 y1) (.int .i64 y2)
        have hB4 := (hB3.setCell (p := ⟨B, 0, none⟩) (Nat.le_refl _) (.int .i64 y1)).setCell (p := ⟨B, 1, none⟩) (Nat.le_refl _) (.int .i64 y2)
        have hnx4 := (hnx3.setCell (p := ⟨B, 0, none⟩) (by have := HB.out; have := hnx.size; show n₀ ≤ B; omega) (.int .i64 y1)).setCell (p := ⟨B, 1, none⟩) (by have := HB.out; have := hnx.size; show n₀ ≤ B; omega) (.int .i64 y2)
        have q0 := b4.c0
        have q1 := b4.c1
        have hJ4 : J ys ((w1.setCell ⟨B, 0, none⟩ (.int .i64 y1)).setCell ⟨B, 1, none⟩ (.int .i64 y2)) := HJ.out ys wr _ HJs.out (by rw [HB.out]; exact hB4)
        obtain ⟨fn, tmps, assign, body, hy, hR⟩ := hY ys yx _ hJ4 (by have h1 := mer_len (by have := HVS.out; omega) (by have := HVT.out; omega) HM.out; have h2 : (vals ys).length = ys.length := (by simp [vals]); omega)
        unfold spv at hy
        rw [Hy1.out, Hy2.out] at hy
        clear hB3 hJ4 bN3
        gi_wp2
        refine hR.mono ?_
        rintro e W5 (⟨rfl, hJ5, hk5⟩ | ⟨rfl, hJx5⟩)
        · gi_wp2
          go_roundw
          case rel => exact ⟨a, b + 1, ys ++ [yx], by omega, by omega, rfl, by go_num, by rw [vals_snoc, HY.out]; exact mer_right HAT.out (by have := HVT.out; omega) HM.out HLE.out, hJ5, hnx4.trans hk5⟩
          case measure => simp [intOf]; omega
        · gi_wp2
          refine bodyPost_ret (results_none rfl _ _ _) rfl ?_
          exact ⟨⟨_, rfl⟩, .inr ⟨_, trivial, hJx5⟩⟩
      · obtain rfl : b = n2 := by omega
        clear HM
        have hfin := mer_end (s := vals ss) (t := vals ts) (ys := vals ys) (by rw [HVS.out, HVT.out]; exact HM0.out)
        gi_wp2
        go_end0
        exact ⟨⟨_, rfl⟩, .inl ⟨ys, hfin, hJs⟩⟩
theorem order_stops (n : Nat) (hn : 1 ≤ n) (Bs Bt Bc n₀ : Nat) (sv tv : Value) (ss ts : List Sp) (has : Asc (vals ss)) (hat : Asc (vals ts)) (hls : ss.length ≤ 256) (hlt : ts.length ≤ 256) (w : World)
    (hBs : w.cell? ⟨Bs, 0, none⟩ = some sv) (hBt : w.cell? ⟨Bt, 0, none⟩ = some tv) (hBc : w.cell? ⟨Bc, 0, none⟩ = some (.func (.func 99) #[] #[]))
    (ls : Bs < n₀) (lt : Bt < n₀) (lc : Bc < n₀) (hn0 : n₀ ≤ w.heap.size) (hS : Spans n₀ w sv (vals ss)) (hT : Spans n₀ w tv (vals ts)) :
    SeqStopsK Fence.wide n Try.prog 120 #[.pointer (some ⟨Bs, 0, none⟩), .pointer (some ⟨Bt, 0, none⟩), .pointer (some ⟨Bc, 0, none⟩)] (fun x : Sp => #[spv x.1]) (Below n₀)
      (fun ys => (vals ys).Perm (vals ss ++ vals ts) ∧ Asc (vals ys)) (fun _ => True) (ss.length + ts.length) w := fun l J Jx W hW hJ _ hY h0 => by
  have hW' := hW.mono hn0
  refine order_in n hn l Bs Bt Bc n₀ sv tv ss ts has hat hls hlt J Jx (fun pre A B h hb => hJ pre A B none h ⟨hb.os, hb.tape, hb.output, hb.size, fun k hk _ => hb.block k hk⟩ (fun r e => by cases e)) hY W
    ((hW'.cell (p := ⟨Bs, 0, none⟩) ls).trans hBs) ((hW'.cell (p := ⟨Bt, 0, none⟩) lt).trans hBt) ((hW'.cell (p := ⟨Bc, 0, none⟩) lc).trans hBc) ls lt lc (Nat.le_trans hn0 hW.size) (hS.below hW') (hT.below hW') h0
set_option maxHeartbeats 1000000 in
theorem inOrder_any (p1 p2 : Option Addr) (l1 k1 l2 k2 : Nat) (w : World) :
    Calls Try.prog 105 #[.slice p1 l1 k1, .slice p2 l2 k2, .func (.func 99) #[] #[]] w fun e w' => e = .returned (.func (.func 120) #[] #[.pointer (some ⟨w.heap.size, 0, none⟩), .pointer (some ⟨w.heap.size + 1, 0, none⟩), .pointer (some ⟨w.heap.size + 2, 0, none⟩)]) ∧
      w' = ((w.alloc (.cells #[.slice p1 l1 k1] 43)).alloc (.cells #[.slice p2 l2 k2] 43)).alloc (.cells #[.func (.func 99) #[] #[]] 97) := by
  go_enter Try.func105, Try.ntmps105
  go_wp2_with fail
  go_ret
  exact ⟨by simp, rfl⟩
end Go.Proofs.Ytamelpfhbnkggaa

/-
  Cables: drops; Currents.
-/
import Derived.Test.YtdohfpnnmppdkaaCbG
namespace Go.Proofs.Ytdohfpnnmppdkaa
open Go.RowKit Go.Shelf
set_option linter.unusedSimpArgs false
section
set_option maxRecDepth 100000
set_option maxHeartbeats 4000000
theorem fdown_any (n d : Int) (h1 : 0 ≤ n) (h2 : n ≤ 4611686018427387904) (hd : 1 ≤ d) (hd2 : d ≤ 1099511627776) (w : World) :
    Calls Try.prog 212 #[.agg #[.int .i64 n, .int .i64 d]] w fun e w' => e = .returned (.int .i64 (n / d)) ∧ Below w.heap.size w w' := by
  have HA := Lib.hid (show Below w.heap.size w (w.alloc (.cells #[.int .i64 n, .int .i64 d] 228)) from (Below.refl _ _).alloc (Nat.le_refl _) _)
  have hq : n.tdiv d = n / d := Int.tdiv_eq_ediv_of_nonneg h1
  have hq0 : 0 ≤ n / d := Int.ediv_nonneg h1 (by omega)
  have hq2 : n / d ≤ n := Int.ediv_le_self d h1
  obtain ⟨q, hqq⟩ : ∃ q, q = n / d := ⟨_, rfl⟩
  rw [← hqq] at hq hq0 hq2 ⊢
  clear hqq
  have w1 : IntKind.wrap .i64 q = q := by rw [IntKind.wrap_i64]; omega
  have hdz : (d == 0) = false := by simp; omega
  go_enter Try.func212, Try.ntmps212
  go_wp2_with fail
  go_ret
  exact ⟨by first | rfl | (simp [hq, w1]; done), HA.out⟩
theorem fup_any (n d : Int) (h1 : 0 ≤ n) (h2 : n ≤ 4611686018427387904) (hd : 1 ≤ d) (hd2 : d ≤ 1099511627776) (w : World) :
    Calls Try.prog 213 #[.agg #[.int .i64 n, .int .i64 d]] w fun e w' => e = .returned (.int .i64 ((n + d - 1) / d)) ∧ Below w.heap.size w w' := by
  have HA := Lib.hid (show Below w.heap.size w (w.alloc (.cells #[.int .i64 n, .int .i64 d] 228)) from (Below.refl _ _).alloc (Nat.le_refl _) _)
  have hq : (n + d - 1).tdiv d = (n + d - 1) / d := Int.tdiv_eq_ediv_of_nonneg (by omega)
  have hq0 : 0 ≤ (n + d - 1) / d := Int.ediv_nonneg (by omega) (by omega)
  have hq2 : (n + d - 1) / d ≤ n + d - 1 := Int.ediv_le_self d (by omega)
  obtain ⟨q, hqq⟩ : ∃ q, q = (n + d - 1) / d := ⟨_, rfl⟩
  rw [← hqq] at hq hq0 hq2 ⊢
  clear hqq
  have w1 : IntKind.wrap .i64 q = q := by rw [IntKind.wrap_i64]; omega
  have hdz : (d == 0) = false := by simp; omega
  go_enter Try.func213, Try.ntmps213
  go_wp2_with fail
  go_ret
  exact ⟨by first | rfl | (simp [hq, w1]; done), HA.out⟩
/-- outward, over any numbers from 1 -/
theorem foutward_any (n d m c : Int) (h1 : 0 ≤ n) (h2 : n ≤ 4611686018427387904) (hd : 1 ≤ d) (hd2 : d ≤ 1099511627776) (h3 : 0 ≤ m) (h4 : m ≤ 4611686018427387904) (hc : 1 ≤ c) (hc2 : c ≤ 1099511627776) (w : World) :
    Calls Try.prog 189 #[.agg #[.int .i64 n, .int .i64 d], .agg #[.int .i64 m, .int .i64 c]] w fun e w' => e = .returned (.agg #[.int .i64 (n / d), .int .i64 ((m + c - 1) / c)]) ∧ Below w.heap.size w w' := by
  have c1 := fun W => fdown_any n d h1 h2 hd hd2 W
  have c2 := fun W => fup_any m c h3 h4 hc hc2 W
  generalize n / d = q1 at *
  generalize (m + c - 1) / c = q2 at *
  obtain ⟨A, hA⟩ : ∃ A, A = ((w.alloc (.cells #[.int .i64 n, .int .i64 d] 228)).alloc (.cells #[.int .i64 m, .int .i64 c] 228)).alloc (.cells #[.int .i64 0, .int .i64 0] 23) := ⟨_, rfl⟩
  have hzA : A.heap.size = w.heap.size + 3 := by rw [hA]; simp
  have HBA := Lib.hid (show Below w.heap.size w A by rw [hA]; exact (((Below.refl _ _).alloc (Nat.le_refl _) _).alloc (by simp) _).alloc (by simp; omega) _)
  have k0 : A.cell? ⟨w.heap.size, 0, none⟩ = some (.int .i64 n) := by rw [hA]; simp [go_sem]
  have k1 : A.cell? ⟨w.heap.size, 1, none⟩ = some (.int .i64 d) := by rw [hA]; simp [go_sem]
  have k2 : A.cell? ⟨w.heap.size + 1, 0, none⟩ = some (.int .i64 m) := by rw [hA]; simp [go_sem]
  have k3 : A.cell? ⟨w.heap.size + 1, 1, none⟩ = some (.int .i64 c) := by rw [hA]; simp [go_sem]
  have KK := Lib.hid (show ∀ W, Below A.heap.size A W → W.cell? ⟨w.heap.size, 0, none⟩ = some (.int .i64 n) ∧ W.cell? ⟨w.heap.size, 1, none⟩ = some (.int .i64 d) ∧ W.cell? ⟨w.heap.size + 1, 0, none⟩ = some (.int .i64 m) ∧ W.cell? ⟨w.heap.size + 1, 1, none⟩ = some (.int .i64 c) from fun W h => ⟨(h.cell (p := ⟨w.heap.size, 0, none⟩) (by show w.heap.size < A.heap.size; omega)).trans k0, (h.cell (p := ⟨w.heap.size, 1, none⟩) (by show w.heap.size < A.heap.size; omega)).trans k1, (h.cell (p := ⟨w.heap.size + 1, 0, none⟩) (by show w.heap.size + 1 < A.heap.size; omega)).trans k2, (h.cell (p := ⟨w.heap.size + 1, 1, none⟩) (by show w.heap.size + 1 < A.heap.size; omega)).trans k3⟩)
  have hRA : Bx2 A (w.heap.size + 2) (.int .i64 0) (.int .i64 0) := by
    rw [hA]
    have q := Bx2.new ((w.alloc (.cells #[.int .i64 n, .int .i64 d] 228)).alloc (.cells #[.int .i64 m, .int .i64 c] 228)) (.int .i64 0) (.int .i64 0)
    rwa [show ((w.alloc (.cells #[.int .i64 n, .int .i64 d] 228)).alloc (.cells #[.int .i64 m, .int .i64 c] 228)).heap.size = w.heap.size + 2 by simp] at q
  have HRA := Lib.hid hRA
  have HEND := Lib.hid (show ∀ W v0 v1, Below A.heap.size A W → Below w.heap.size w ((W.setCell ⟨w.heap.size + 2, 0, none⟩ v0).setCell ⟨w.heap.size + 2, 1, none⟩ v1) from fun W v0 v1 h =>
    ((HBA.out.trans (h.mono HBA.out.size)).setCell (p := ⟨w.heap.size + 2, 0, none⟩) (by show w.heap.size ≤ w.heap.size + 2; omega) _).setCell (p := ⟨w.heap.size + 2, 1, none⟩) (by show w.heap.size ≤ w.heap.size + 2; omega) _)
  clear hzA hRA
  have ne0 : ¬ w.heap.size = w.heap.size + 2 := by omega
  have ne1 : ¬ w.heap.size + 1 = w.heap.size + 2 := by omega
  go_enter Try.func189, Try.ntmps189
  go_upto_region 1 with fail
  try rw [← hA]
  clear hA
  generalize w.heap.size + 2 = B2 at *
  generalize w.heap.size + 1 = B1 at *
  refine wp_region_held_drew (S := fun w' => w'.cell? ⟨w.heap.size, 0, none⟩ = some (Value.int .i64 n) ∧ w'.cell? ⟨w.heap.size, 1, none⟩ = some (Value.int .i64 d) ∧ w'.cell? ⟨B1, 0, none⟩ = some (Value.int .i64 m) ∧ w'.cell? ⟨B1, 1, none⟩ = some (Value.int .i64 c)) (by kernel_rfl) ⟨by simpa [go_sem] using k0, by simpa [go_sem] using k1, by simpa [go_sem] using k2, by simpa [go_sem] using k3⟩ (fun hHeld => ?_)
  have HD := Lib.hid (show Below A.heap.size A _ from (Below.refl A.heap.size A).drew)
  refine wpAnyH_take (i := 0) (oi := _) (v := Value.agg #[Value.int .i64 n, Value.int .i64 d]) rfl (by kernel_rfl) (by kernel_rfl) (by kernel_rfl) (fun _ _ _ h => h) (Or.inl ⟨by rfl, fun w' hSw => ?_⟩) hHeld ?_
  · obtain ⟨t0, t1, t2, t3⟩ := hSw
    go_simp
    try simp [*]
    try (intro hh; exfalso; omega)
    try omega
  try simp only [Act.put, List.setIfInBounds_toArray, List.set_cons_zero, List.set_cons_succ, List.getElem_toArray, List.getElem_cons_succ, List.getElem_cons_zero]
  refine wpAnyH_take (i := 2) (oi := _) (v := Value.agg #[Value.int .i64 m, Value.int .i64 c]) rfl (by kernel_rfl) (by kernel_rfl) (by kernel_rfl) (fun _ _ _ h => h) (Or.inl ⟨by rfl, fun w' hSw => ?_⟩) hHeld ?_
  · obtain ⟨t0, t1, t2, t3⟩ := hSw
    go_simp
    try simp [*]
    try (intro hh; exfalso; omega)
    try omega
  try simp only [Act.put, List.setIfInBounds_toArray, List.set_cons_zero, List.set_cons_succ, List.getElem_toArray, List.getElem_cons_succ, List.getElem_cons_zero]
  refine wpAnyH_ready (rs := [1]) (by kernel_rfl) (by simp) ?_
  refine AllReadyH.cons (o := _) rfl (fun K hK => ?_) AllReadyH.nil
  go_simp
  go_at_call 212
  refine Calls.mono (c1 _) ?_
  rintro e v1 ⟨rfl, hb⟩
  have HD1 := Lib.hid (HD.out.trans (hb.mono HD.out.size))
  clear hb
  clear hHeld
  refine hK.out _ _ (KK.out _ HD1.out) (fun hHeld => ?_)
  clear hK K
  try simp only [Act.put, List.setIfInBounds_toArray, List.set_cons_zero, List.set_cons_succ, List.getElem_toArray, List.getElem_cons_succ, List.getElem_cons_zero]
  refine wpAnyH_ready (rs := [3]) (by kernel_rfl) (by simp) ?_
  refine AllReadyH.cons (o := _) rfl (fun K hK => ?_) AllReadyH.nil
  go_simp
  go_at_call 213
  refine Calls.mono (c2 _) ?_
  rintro e v2 ⟨rfl, hb⟩
  have HD2 := Lib.hid (HD1.out.trans (hb.mono HD1.out.size))
  clear hb
  clear hHeld
  refine hK.out _ _ (KK.out _ HD2.out) (fun hHeld => ?_)
  clear hK K
  try simp only [Act.put, List.setIfInBounds_toArray, List.set_cons_zero, List.set_cons_succ, List.getElem_toArray, List.getElem_cons_succ, List.getElem_cons_zero]
  refine wpAnyH_take (i := 4) (oi := _) (v := Value.agg #[Value.int .i64 q1, Value.int .i64 q2]) rfl (by kernel_rfl) (by kernel_rfl) (by kernel_rfl) (fun _ _ _ h => h) (Or.inl ⟨by rfl, fun w' hSw => ?_⟩) hHeld ?_
  · obtain ⟨t0, t1, t2, t3⟩ := hSw
    go_simp
    try simp [*]
    try (intro hh; exfalso; omega)
    try omega
  try simp only [Act.put, List.setIfInBounds_toArray, List.set_cons_zero, List.set_cons_succ, List.getElem_toArray, List.getElem_cons_succ, List.getElem_cons_zero]
  obtain ⟨x0, x1⟩ := And.intro (HRA.out.keep HD2.out).c0 (HRA.out.keep HD2.out).c1
  obtain ⟨f0, f1⟩ := And.intro ((HRA.out.keep HD2.out).f0 0) ((HRA.out.keep HD2.out).f0 1)
  obtain ⟨u0, u1, u2, u3⟩ := KK.out _ HD2.out
  refine wpAnyH_ready (rs := [5]) (by kernel_rfl) (by simp) ?_
  refine AllReadyH.cons (o := _) rfl (fun K hK => ?_) AllReadyH.nil
  go_simp
  clear hHeld
  refine hK.out _ _ ⟨by simpa [go_sem, ne0, ne1] using u0, by simpa [go_sem, ne0, ne1] using u1, by simpa [go_sem, ne0, ne1] using u2, by simpa [go_sem, ne0, ne1] using u3⟩ (fun hHeld => ?_)
  clear hK K
  try simp only [Act.put, List.setIfInBounds_toArray, List.set_cons_zero, List.set_cons_succ, List.getElem_toArray, List.getElem_cons_succ, List.getElem_cons_zero]
  refine wpAnyH_done (by kernel_rfl) ?_ _
  clear hHeld
  go_wp2_with fail
  refine bodyPost_ret (v := .agg #[.int .i64 q1, .int .i64 q2]) (by simp [results, Try.results189, go_sem, ((HRA.out.keep HD2.out).set (.int .i64 q1) (.int .i64 q2)).c0, ((HRA.out.keep HD2.out).set (.int .i64 q1) (.int .i64 q2)).c1]) rfl ⟨rfl, HEND.out _ _ _ HD2.out⟩
theorem drop_any (c0 c1 o0 o1 : Int) (h1 : 0 ≤ c0 * o0 ∧ c0 * o0 ≤ 1000000000000000) (h2 : 0 ≤ c1 * o1 ∧ c1 * o1 ≤ 1000000000000000) (w : World) :
    Calls Try.prog 155 #[.agg #[.int .i64 c0, .int .i64 c1], .agg #[.int .i64 o0, .int .i64 o1]] w fun e w' => e = .returned (.agg #[.int .i64 (c0 * o0 / 1000), .int .i64 ((c1 * o1 + 999) / 1000)]) ∧ Below w.heap.size w w' := by
  have c := fun W => foutward_any (c0 * o0) 1000 (c1 * o1) 1000 h1.1 (by omega) (by decide) (by decide) h2.1 (by omega) (by decide) (by decide) W
  have HE := Lib.hid (show (c1 * o1 + 1000 - 1) / 1000 = (c1 * o1 + 999) / 1000 by congr 1; omega)
  rw [HE.out] at c
  have w1 : IntKind.wrap .i64 (c0 * o0) = c0 * o0 := by rw [IntKind.wrap_i64]; omega
  have w2 : IntKind.wrap .i64 (c1 * o1) = c1 * o1 := by rw [IntKind.wrap_i64]; omega
  clear HE
  generalize c0 * o0 / 1000 = q1 at *
  generalize (c1 * o1 + 999) / 1000 = q2 at *
  obtain ⟨A, hA⟩ : ∃ A, A = ((w.alloc (.cells #[.int .i64 c0, .int .i64 c1] 23)).alloc (.cells #[.int .i64 o0, .int .i64 o1] 23)).alloc (.cells #[.int .i64 0, .int .i64 0] 23) := ⟨_, rfl⟩
  have hzA : A.heap.size = w.heap.size + 3 := by rw [hA]; simp
  have HBA := Lib.hid (show Below w.heap.size w A by rw [hA]; exact (((Below.refl _ _).alloc (Nat.le_refl _) _).alloc (by simp) _).alloc (by simp; omega) _)
  have k0 : A.cell? ⟨w.heap.size, 0, none⟩ = some (.int .i64 c0) := by rw [hA]; simp [go_sem]
  have k1 : A.cell? ⟨w.heap.size, 1, none⟩ = some (.int .i64 c1) := by rw [hA]; simp [go_sem]
  have k2 : A.cell? ⟨w.heap.size + 1, 0, none⟩ = some (.int .i64 o0) := by rw [hA]; simp [go_sem]
  have k3 : A.cell? ⟨w.heap.size + 1, 1, none⟩ = some (.int .i64 o1) := by rw [hA]; simp [go_sem]
  have hRA : Bx2 A (w.heap.size + 2) (.int .i64 0) (.int .i64 0) := by
    rw [hA]
    have q := Bx2.new ((w.alloc (.cells #[.int .i64 c0, .int .i64 c1] 23)).alloc (.cells #[.int .i64 o0, .int .i64 o1] 23)) (.int .i64 0) (.int .i64 0)
    rwa [show ((w.alloc (.cells #[.int .i64 c0, .int .i64 c1] 23)).alloc (.cells #[.int .i64 o0, .int .i64 o1] 23)).heap.size = w.heap.size + 2 by simp] at q
  have HRA := Lib.hid hRA
  have HEND := Lib.hid (show ∀ W v0 v1, Below A.heap.size A W → Below w.heap.size w ((W.setCell ⟨w.heap.size + 2, 0, none⟩ v0).setCell ⟨w.heap.size + 2, 1, none⟩ v1) from fun W v0 v1 h =>
    ((HBA.out.trans (h.mono HBA.out.size)).setCell (p := ⟨w.heap.size + 2, 0, none⟩) (by show w.heap.size ≤ w.heap.size + 2; omega) _).setCell (p := ⟨w.heap.size + 2, 1, none⟩) (by show w.heap.size ≤ w.heap.size + 2; omega) _)
  clear hzA hRA
  go_enter Try.func155, Try.ntmps155
  go_upto_region 1 with fail
  try rw [← hA]
  clear hA
  generalize hB2 : w.heap.size + 2 = B2 at *
  generalize hB1 : w.heap.size + 1 = B1 at *
  clear hB1 hB2
  go_wp2_with fail
  refine (c _).mono ?_
  rintro e w1 ⟨rfl, hb⟩
  have HB1 := Lib.hid hb
  obtain ⟨x0, x1⟩ := And.intro (HRA.out.keep hb).c0 (HRA.out.keep hb).c1
  obtain ⟨f0, f1⟩ := And.intro ((HRA.out.keep hb).f0 0) ((HRA.out.keep hb).f0 1)
  clear hb
  go_wp2_with fail
  refine bodyPost_ret (v := .agg #[.int .i64 q1, .int .i64 q2]) (by simp [results, Try.results155, go_sem, ((HRA.out.keep HB1.out).set (.int .i64 q1) (.int .i64 q2)).c0, ((HRA.out.keep HB1.out).set (.int .i64 q1) (.int .i64 q2)).c1]) rfl ⟨rfl, HEND.out _ _ _ HB1.out⟩
theorem after_any (v0 v1 d0 d1 : Int) (h1 : -10000000000000 ≤ v0 ∧ v0 ≤ 10000000000000) (h2 : -10000000000000 ≤ v1 ∧ v1 ≤ 10000000000000) (h3 : 0 ≤ d0 ∧ d0 ≤ 10000000000000) (h4 : 0 ≤ d1 ∧ d1 ≤ 10000000000000) (w : World) :
    Calls Try.prog 154 #[.agg #[.int .i64 v0, .int .i64 v1], .agg #[.int .i64 d0, .int .i64 d1]] w fun e w' => e = .returned (.agg #[.int .i64 (v0 - d1), .int .i64 (v1 - d0)]) ∧ Below w.heap.size w w' := by
  have v1' : wrap64 (v0 - d1) = v0 - d1 := by unfold wrap64; omega
  have v2' : wrap64 (v1 - d0) = v1 - d0 := by unfold wrap64; omega
  go_enter Try.func154, Try.ntmps154
  go_wp2_with fail
  refine bodyPost_ret (v := .agg #[.int .i64 (v0 - d1), .int .i64 (v1 - d0)]) (by simp [results, Try.results154, go_sem]) rfl ⟨rfl, by repeat (first | exact Below.refl _ _ | refine Below.alloc ?_ (by simp; try omega) _)⟩
end
set_option maxHeartbeats 2000000 in
theorem currents_bad (sl sh : Int) (sv : Value) (ns : List Nd) (hE : cabE sl sh ns ≠ 0) (w : World) (hN : Nds w.heap.size w sv ns) :
    Calls Try.prog 28 #[.agg #[.int .i64 sl, .int .i64 sh, sv]] w fun e w' => e = .returned (.tuple #[.slice none 0 0, .int .i64 (cabE sl sh ns)]) ∧ Below w.heap.size w w' := by
  have c1 := Lib.hid (fun W (h : Below w.heap.size w W) => check25 sl sh sv ns W (hN.at h))
  obtain ⟨a, cap, hsv⟩ := hN.form
  subst hsv
  clear hN
  generalize cabE sl sh ns = E at *
  generalize ns.length = n at *
  have hE' : (E == 0) = false := by simpa using hE
  clear hE
  obtain ⟨A, hA⟩ : ∃ A, A = w.alloc (.cells #[.int .i64 sl, .int .i64 sh, .slice a n cap] 26) := ⟨_, rfl⟩
  have HBA := Lib.hid (show Below w.heap.size w A by rw [hA]; exact ((Below.refl _ _).alloc (Nat.le_refl _) _))
  have hltA : w.heap.size + 1 ≤ A.heap.size := by rw [hA]; simp
  have q0 : A.cell? ⟨w.heap.size, 0, none⟩ = some (.int .i64 sl) := by rw [hA]; exact (cellHB (World.alloc_heap_new w _) 0).trans (by simp)
  have q1 : A.cell? ⟨w.heap.size, 1, none⟩ = some (.int .i64 sh) := by rw [hA]; exact (cellHB (World.alloc_heap_new w _) 1).trans (by simp)
  have q2 : A.cell? ⟨w.heap.size, 2, none⟩ = some (.slice a n cap) := by rw [hA]; exact (cellHB (World.alloc_heap_new w _) 2).trans (by simp)
  have KK := Lib.hid (show ∀ W, Below A.heap.size A W → W.cell? ⟨w.heap.size, 0, none⟩ = some (.int .i64 sl) ∧ W.cell? ⟨w.heap.size, 1, none⟩ = some (.int .i64 sh) ∧ W.cell? ⟨w.heap.size, 2, none⟩ = some (.slice a n cap) from fun W h => ⟨(h.cell (p := ⟨w.heap.size, 0, none⟩) (by show w.heap.size < A.heap.size; omega)).trans q0, (h.cell (p := ⟨w.heap.size, 1, none⟩) (by show w.heap.size < A.heap.size; omega)).trans q1, (h.cell (p := ⟨w.heap.size, 2, none⟩) (by show w.heap.size < A.heap.size; omega)).trans q2⟩)
  have HLT := Lib.hid hltA
  clear hltA q0 q1 q2
  obtain ⟨k0, k1, k2⟩ := KK.out _ (Below.refl _ _)
  go_enter Try.func28, Try.ntmps28
  go_upto_region 1 with fail
  rw [← hA]
  clear hA
  go_wp2_with fail
  refine (c1.out _ HBA.out).mono ?_
  rintro e w1 ⟨rfl, hb⟩
  have HB1 := Lib.hid hb
  clear hb k0 k1 k2
  obtain ⟨k0, k1, k2⟩ := KK.out _ HB1.out
  go_wp2_with fail
  go_ret2
  exact ⟨rfl, HBA.out.trans (HB1.out.mono HBA.out.size)⟩
set_option maxHeartbeats 2000000 in
theorem currents_ok (sl sh : Int) (sv : Value) (ns : List Nd) (hv : ValidC sl sh ns) (w : World) (hN : Nds w.heap.size w sv ns) :
    Calls Try.prog 28 #[.agg #[.int .i64 sl, .int .i64 sh, sv]] w fun e w' => ∃ g, e = .returned (.tuple #[.slice (some ⟨g, 0, none⟩) ns.length ns.length, .int .i64 0]) ∧ RowC w' g 23 (ns.length * 2) (spc (fun j => (curL ns j, curH ns j))) ∧ w.heap.size ≤ g ∧ Below w.heap.size w w' := by
  have c1 := Lib.hid (fun W (h : Below w.heap.size w W) => check25 sl sh sv ns W (hN.at h))
  rw [hv.err] at c1
  have c2 := Lib.hid (fun W (h : Below w.heap.size w W) => currents_any sl sh sv ns hv W (hN.at h))
  obtain ⟨a, cap, hsv⟩ := hN.form
  subst hsv
  clear hN hv
  generalize (fun j => (curL ns j, curH ns j)) = RES at *
  generalize ns.length = n at *
  obtain ⟨A, hA⟩ : ∃ A, A = w.alloc (.cells #[.int .i64 sl, .int .i64 sh, .slice a n cap] 26) := ⟨_, rfl⟩
  have HBA := Lib.hid (show Below w.heap.size w A by rw [hA]; exact ((Below.refl _ _).alloc (Nat.le_refl _) _))
  have hltA : w.heap.size + 1 ≤ A.heap.size := by rw [hA]; simp
  have q0 : A.cell? ⟨w.heap.size, 0, none⟩ = some (.int .i64 sl) := by rw [hA]; exact (cellHB (World.alloc_heap_new w _) 0).trans (by simp)
  have q1 : A.cell? ⟨w.heap.size, 1, none⟩ = some (.int .i64 sh) := by rw [hA]; exact (cellHB (World.alloc_heap_new w _) 1).trans (by simp)
  have q2 : A.cell? ⟨w.heap.size, 2, none⟩ = some (.slice a n cap) := by rw [hA]; exact (cellHB (World.alloc_heap_new w _) 2).trans (by simp)
  have KK := Lib.hid (show ∀ W, Below A.heap.size A W → W.cell? ⟨w.heap.size, 0, none⟩ = some (.int .i64 sl) ∧ W.cell? ⟨w.heap.size, 1, none⟩ = some (.int .i64 sh) ∧ W.cell? ⟨w.heap.size, 2, none⟩ = some (.slice a n cap) from fun W h => ⟨(h.cell (p := ⟨w.heap.size, 0, none⟩) (by show w.heap.size < A.heap.size; omega)).trans q0, (h.cell (p := ⟨w.heap.size, 1, none⟩) (by show w.heap.size < A.heap.size; omega)).trans q1, (h.cell (p := ⟨w.heap.size, 2, none⟩) (by show w.heap.size < A.heap.size; omega)).trans q2⟩)
  have HLT := Lib.hid hltA
  clear hltA q0 q1 q2
  obtain ⟨k0, k1, k2⟩ := KK.out _ (Below.refl _ _)
  go_enter Try.func28, Try.ntmps28
  go_upto_region 1 with fail
  rw [← hA]
  clear hA
  go_wp2_with fail
  refine (c1.out _ HBA.out).mono ?_
  rintro e w1 ⟨rfl, hb⟩
  have HB1 := Lib.hid hb
  clear hb k0 k1 k2
  obtain ⟨k0, k1, k2⟩ := KK.out _ HB1.out
  have HS1 := Lib.hid (show w.heap.size ≤ w1.heap.size from Nat.le_trans HBA.out.size HB1.out.size)
  go_wp2_with fail
  refine (c2.out _ (HBA.out.trans (HB1.out.mono HBA.out.size))).mono ?_
  rintro e w2 ⟨g, rfl, hr, hg, hb⟩
  have HR := Lib.hid hr
  have HG := Lib.hid (Nat.le_trans HS1.out hg)
  have HB2 := Lib.hid (HB1.out.trans (hb.mono HB1.out.size))
  clear hr hg hb
  go_wp2_with fail
  go_ret2
  exact ⟨_, rfl, HR.out, HG.out, HBA.out.trans (HB2.out.mono HBA.out.size)⟩
end Go.Proofs.Ytdohfpnnmppdkaa

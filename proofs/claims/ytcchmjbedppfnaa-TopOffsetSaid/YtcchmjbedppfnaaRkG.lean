/-
  Clock: the reference's contradict.
-/
import Derived.Test.YtcchmjbedppfnaaRkF
import Derived.Test.YtcchmjbedppfnaaCkM
namespace Go.Proofs.Ytcchmjbedppfnaa
open Go.RowKit Go.Shelf
set_option linter.unusedSimpArgs false
set_option maxRecDepth 100000 in
set_option maxHeartbeats 16000000 in
theorem rcontradict_any (p r : Int) (sv : Value) (xs : List Xc) (hr : rtB r = true) (hok : ∀ k, k < xs.length → okX r (xc xs k) = true) (i k : Nat) (hi : i < xs.length) (hk : k < xs.length) (_hlen : xs.length ≤ 64) (w : World) (hX : Xcs w.heap.size w sv xs) :
    Calls Try.prog 97 #[.agg #[.int .i64 p, .int .i64 r, sv], .int .i64 i, .int .i64 k] w fun e w' => e = .returned (.bool (cdB r (ofTo r xs xs.length) i k)) ∧ Below w.heap.size w w' := by
  obtain ⟨_, o2, o3, _, _⟩ := okX_get (hok i hi)
  obtain ⟨_, u2, u3, _, _⟩ := okX_get (hok k hk)
  have o4 := (vB_iff _ _).1 o2
  have o5 := (xcB_iff _).1 o3
  have u4 := (vB_iff _ _).1 u2
  have u5 := (xcB_iff _).1 u3
  have o6 := (rtB_iff _).1 hr
  have hgp : gap (xc xs k).ba (xc xs i).ba ≤ 9007199254740992 := by unfold gap; omega
  have hgb := (grw_bd (r := r) o6 ⟨gap_nn (xc xs k).ba (xc xs i).ba, hgp⟩).2.2
  have c78 := fun W => roffset_any (xc xs i) r o3 hr W
  have d78 := fun W => roffset_any (xc xs k) r u3 hr W
  have c55 := fun W => rgrowth_any r ((xc xs i).ba - (xc xs k).ba) o6 (by omega) W
  rw [show max ((xc xs i).ba - (xc xs k).ba) (-((xc xs i).ba - (xc xs k).ba)) = gap (xc xs k).ba (xc xs i).ba from by unfold gap; omega] at c55
  have c133 := fun W => rgrown_any (offL r (xc xs i)) (offH r (xc xs i)) (grw r (gap (xc xs k).ba (xc xs i).ba)) (by omega) (by omega) (by omega) W
  have c108 := fun W => rmeet_any (offL r (xc xs i) - grw r (gap (xc xs k).ba (xc xs i).ba)) (offH r (xc xs i) + grw r (gap (xc xs k).ba (xc xs i).ba)) (offL r (xc xs k)) (offH r (xc xs k)) W
  have hB : cdB r (ofTo r xs xs.length) i k = decide (min (offH r (xc xs i) + grw r (gap (xc xs k).ba (xc xs i).ba)) (offH r (xc xs k)) < max (offL r (xc xs i) - grw r (gap (xc xs k).ba (xc xs i).ba)) (offL r (xc xs k))) := by
    unfold cdB
    rw [ofTo_get r xs _ i hi, ofTo_get r xs _ k hk]
    unfold ofX
    dsimp only
    rw [← decide_not]
    exact decide_eq_decide.2 (by omega)
  rw [hB]
  have wv : IntKind.i64.wrap ((xc xs i).ba - (xc xs k).ba) = (xc xs i).ba - (xc xs k).ba := by rw [IntKind.wrap_i64]; omega
  have wv2 : wrap64 ((xc xs i).ba - (xc xs k).ba) = (xc xs i).ba - (xc xs k).ba := by unfold wrap64; omega
  clear hB hok hr hgb hgp o2 o3 o4 o5 o6 u2 u3 u4 u5
  unfold spv Xc.val at c78 d78
  dsimp only at c78 d78
  obtain ⟨a, cap, rfl, -, hcc⟩ := hX
  obtain ⟨b, off, rfl, hb, e0, e1, e2, e3, e4, e5, e6, e7⟩ := hcc i hi
  obtain ⟨b2, off2, he, hb2, d0, d1, d2, d3, d4, d5, d6, d7⟩ := hcc k hk
  simp only [Option.some.injEq, Addr.mk.injEq] at he
  obtain ⟨rfl, rfl, -⟩ := he
  clear hcc
  generalize max (offL r (xc xs i) - grw r (gap (xc xs k).ba (xc xs i).ba)) (offL r (xc xs k)) = m0 at *
  generalize min (offH r (xc xs i) + grw r (gap (xc xs k).ba (xc xs i).ba)) (offH r (xc xs k)) = m1 at *
  generalize offL r (xc xs i) - grw r (gap (xc xs k).ba (xc xs i).ba) = n0 at *
  generalize offH r (xc xs i) + grw r (gap (xc xs k).ba (xc xs i).ba) = n1 at *
  generalize grw r (gap (xc xs k).ba (xc xs i).ba) = G at *
  generalize offL r (xc xs i) = p0 at *
  generalize offH r (xc xs i) = p1 at *
  generalize offL r (xc xs k) = s0 at *
  generalize offH r (xc xs k) = s1 at *
  generalize (xc xs i).se = x0 at *
  generalize (xc xs i).he = x1 at *
  generalize (xc xs i).an = x2 at *
  generalize (xc xs i).ba = x3 at *
  generalize (xc xs i).fLo = x4 at *
  generalize (xc xs i).fHi = x5 at *
  generalize (xc xs i).hLo = x6 at *
  generalize (xc xs i).hHi = x7 at *
  generalize (xc xs k).se = y0 at *
  generalize (xc xs k).he = y1 at *
  generalize (xc xs k).an = y2 at *
  generalize (xc xs k).ba = y3 at *
  generalize (xc xs k).fLo = y4 at *
  generalize (xc xs k).fHi = y5 at *
  generalize (xc xs k).hLo = y6 at *
  generalize (xc xs k).hHi = y7 at *
  generalize xs.length = len at *
  have hii : (i : Int) < (len : Int) := by omega
  have hki : (k : Int) < (len : Int) := by omega
  obtain ⟨A, hA⟩ : ∃ A, A = w.alloc (.cells #[.int .i64 p, .int .i64 r, .slice (some ⟨b, off, none⟩) len cap] 28) := ⟨_, rfl⟩
  have hzA : A.heap.size = w.heap.size + 1 := by rw [hA]; simp
  have hBA : Below w.heap.size w A := by rw [hA]; exact (Below.refl _ _).alloc (Nat.le_refl _) _
  have k1 : A.cell? ⟨w.heap.size, 1, none⟩ = some (.int .i64 r) := by rw [hA]; simp [go_sem]
  have k2 : A.cell? ⟨w.heap.size, 2, none⟩ = some (.slice (some ⟨b, off, none⟩) len cap) := by rw [hA]; simp [go_sem]
  have g0 := (hBA.cell (p := ⟨b, off + i * 8, none⟩) hb).trans e0
  have g1 := (hBA.cell (p := ⟨b, off + i * 8 + 1, none⟩) hb).trans e1
  have g2 := (hBA.cell (p := ⟨b, off + i * 8 + 2, none⟩) hb).trans e2
  have g3 := (hBA.cell (p := ⟨b, off + i * 8 + 3, none⟩) hb).trans e3
  have g4 := (hBA.cell (p := ⟨b, off + i * 8 + 4, none⟩) hb).trans e4
  have g5 := (hBA.cell (p := ⟨b, off + i * 8 + 5, none⟩) hb).trans e5
  have g6 := (hBA.cell (p := ⟨b, off + i * 8 + 6, none⟩) hb).trans e6
  have g7 := (hBA.cell (p := ⟨b, off + i * 8 + 7, none⟩) hb).trans e7
  have h0 := (hBA.cell (p := ⟨b, off + k * 8, none⟩) hb).trans d0
  have h1 := (hBA.cell (p := ⟨b, off + k * 8 + 1, none⟩) hb).trans d1
  have h2 := (hBA.cell (p := ⟨b, off + k * 8 + 2, none⟩) hb).trans d2
  have h3 := (hBA.cell (p := ⟨b, off + k * 8 + 3, none⟩) hb).trans d3
  have h4 := (hBA.cell (p := ⟨b, off + k * 8 + 4, none⟩) hb).trans d4
  have h5 := (hBA.cell (p := ⟨b, off + k * 8 + 5, none⟩) hb).trans d5
  have h6 := (hBA.cell (p := ⟨b, off + k * 8 + 6, none⟩) hb).trans d6
  have h7 := (hBA.cell (p := ⟨b, off + k * 8 + 7, none⟩) hb).trans d7
  have HBA := Lib.hid hBA
  have hbA : b < A.heap.size := by omega
  have KK := Lib.hid (show ∀ W, Below A.heap.size A W → W.cell? ⟨w.heap.size, 2, none⟩ = some (.slice (some ⟨b, off, none⟩) len cap) ∧ W.cell? ⟨b, off + i * 8, none⟩ = some (.int .i64 x0) ∧ W.cell? ⟨b, off + i * 8 + 1, none⟩ = some (.int .i64 x1) ∧ W.cell? ⟨b, off + i * 8 + 2, none⟩ = some (.int .i64 x2) ∧ W.cell? ⟨b, off + i * 8 + 3, none⟩ = some (.int .i64 x3) ∧ W.cell? ⟨b, off + i * 8 + 4, none⟩ = some (.int .i64 x4) ∧ W.cell? ⟨b, off + i * 8 + 5, none⟩ = some (.int .i64 x5) ∧ W.cell? ⟨b, off + i * 8 + 6, none⟩ = some (.int .i64 x6) ∧ W.cell? ⟨b, off + i * 8 + 7, none⟩ = some (.int .i64 x7) ∧ W.cell? ⟨b, off + k * 8, none⟩ = some (.int .i64 y0) ∧ W.cell? ⟨b, off + k * 8 + 1, none⟩ = some (.int .i64 y1) ∧ W.cell? ⟨b, off + k * 8 + 2, none⟩ = some (.int .i64 y2) ∧ W.cell? ⟨b, off + k * 8 + 3, none⟩ = some (.int .i64 y3) ∧ W.cell? ⟨b, off + k * 8 + 4, none⟩ = some (.int .i64 y4) ∧ W.cell? ⟨b, off + k * 8 + 5, none⟩ = some (.int .i64 y5) ∧ W.cell? ⟨b, off + k * 8 + 6, none⟩ = some (.int .i64 y6) ∧ W.cell? ⟨b, off + k * 8 + 7, none⟩ = some (.int .i64 y7) from fun W h => ⟨(h.cell (p := ⟨w.heap.size, 2, none⟩) (by show w.heap.size < A.heap.size; omega)).trans k2, (h.cell (p := ⟨b, off + i * 8, none⟩) (by show b < A.heap.size; omega)).trans g0, (h.cell (p := ⟨b, off + i * 8 + 1, none⟩) (by show b < A.heap.size; omega)).trans g1, (h.cell (p := ⟨b, off + i * 8 + 2, none⟩) (by show b < A.heap.size; omega)).trans g2, (h.cell (p := ⟨b, off + i * 8 + 3, none⟩) (by show b < A.heap.size; omega)).trans g3, (h.cell (p := ⟨b, off + i * 8 + 4, none⟩) (by show b < A.heap.size; omega)).trans g4, (h.cell (p := ⟨b, off + i * 8 + 5, none⟩) (by show b < A.heap.size; omega)).trans g5, (h.cell (p := ⟨b, off + i * 8 + 6, none⟩) (by show b < A.heap.size; omega)).trans g6, (h.cell (p := ⟨b, off + i * 8 + 7, none⟩) (by show b < A.heap.size; omega)).trans g7, (h.cell (p := ⟨b, off + k * 8, none⟩) (by show b < A.heap.size; omega)).trans h0, (h.cell (p := ⟨b, off + k * 8 + 1, none⟩) (by show b < A.heap.size; omega)).trans h1, (h.cell (p := ⟨b, off + k * 8 + 2, none⟩) (by show b < A.heap.size; omega)).trans h2, (h.cell (p := ⟨b, off + k * 8 + 3, none⟩) (by show b < A.heap.size; omega)).trans h3, (h.cell (p := ⟨b, off + k * 8 + 4, none⟩) (by show b < A.heap.size; omega)).trans h4, (h.cell (p := ⟨b, off + k * 8 + 5, none⟩) (by show b < A.heap.size; omega)).trans h5, (h.cell (p := ⟨b, off + k * 8 + 6, none⟩) (by show b < A.heap.size; omega)).trans h6, (h.cell (p := ⟨b, off + k * 8 + 7, none⟩) (by show b < A.heap.size; omega)).trans h7⟩)
  have KR := Lib.hid (show ∀ W, Below A.heap.size A W → W.cell? ⟨w.heap.size, 1, none⟩ = some (.int .i64 r) from fun W h => (h.cell (p := ⟨w.heap.size, 1, none⟩) (by show w.heap.size < A.heap.size; omega)).trans k1)
  have HZA := Lib.hid hzA
  clear hBA e0 e1 e2 e3 e4 e5 e6 e7 d0 d1 d2 d3 d4 d5 d6 d7 hzA
  go_enter Try.func97, Try.ntmps97
  go_wp2_with fail
  try rw [← hA]
  clear hA
  refine wp_region_held_drew (S := fun w' => w'.cell? ⟨w.heap.size, 2, none⟩ = some (.slice (some ⟨b, off, none⟩) len cap) ∧ w'.cell? ⟨b, off + i * 8, none⟩ = some (.int .i64 x0) ∧ w'.cell? ⟨b, off + i * 8 + 1, none⟩ = some (.int .i64 x1) ∧ w'.cell? ⟨b, off + i * 8 + 2, none⟩ = some (.int .i64 x2) ∧ w'.cell? ⟨b, off + i * 8 + 3, none⟩ = some (.int .i64 x3) ∧ w'.cell? ⟨b, off + i * 8 + 4, none⟩ = some (.int .i64 x4) ∧ w'.cell? ⟨b, off + i * 8 + 5, none⟩ = some (.int .i64 x5) ∧ w'.cell? ⟨b, off + i * 8 + 6, none⟩ = some (.int .i64 x6) ∧ w'.cell? ⟨b, off + i * 8 + 7, none⟩ = some (.int .i64 x7) ∧ w'.cell? ⟨b, off + k * 8, none⟩ = some (.int .i64 y0) ∧ w'.cell? ⟨b, off + k * 8 + 1, none⟩ = some (.int .i64 y1) ∧ w'.cell? ⟨b, off + k * 8 + 2, none⟩ = some (.int .i64 y2) ∧ w'.cell? ⟨b, off + k * 8 + 3, none⟩ = some (.int .i64 y3) ∧ w'.cell? ⟨b, off + k * 8 + 4, none⟩ = some (.int .i64 y4) ∧ w'.cell? ⟨b, off + k * 8 + 5, none⟩ = some (.int .i64 y5) ∧ w'.cell? ⟨b, off + k * 8 + 6, none⟩ = some (.int .i64 y6) ∧ w'.cell? ⟨b, off + k * 8 + 7, none⟩ = some (.int .i64 y7)) (by kernel_rfl) ⟨by simpa [go_sem] using k2, by simpa [go_sem] using g0, by simpa [go_sem] using g1, by simpa [go_sem] using g2, by simpa [go_sem] using g3, by simpa [go_sem] using g4, by simpa [go_sem] using g5, by simpa [go_sem] using g6, by simpa [go_sem] using g7, by simpa [go_sem] using h0, by simpa [go_sem] using h1, by simpa [go_sem] using h2, by simpa [go_sem] using h3, by simpa [go_sem] using h4, by simpa [go_sem] using h5, by simpa [go_sem] using h6, by simpa [go_sem] using h7⟩ (fun hHeld => ?_)
  refine wpAnyH_take (i := 0) (oi := _) (v := Value.pointer (some ⟨w.heap.size, 2, none⟩)) rfl (by kernel_rfl) (by kernel_rfl) (by kernel_rfl) (fun _ _ _ h => h) (Or.inl ⟨by rfl, fun w' hSw => ?_⟩) hHeld ?_
  · obtain ⟨t0, t1, t2, t3, t4, t5, t6, t7, t8, t9, t10, t11, t12, t13, t14, t15, t16⟩ := hSw
    go_simp
    try simp [*]
    try (intro hh; exfalso; omega)
    try omega
  try simp only [Act.put, List.setIfInBounds_toArray, List.set_cons_zero, List.set_cons_succ, List.getElem_toArray, List.getElem_cons_succ, List.getElem_cons_zero]
  refine wpAnyH_take (i := 1) (oi := _) (v := Value.slice (some ⟨b, off, none⟩) len cap) rfl (by kernel_rfl) (by kernel_rfl) (by kernel_rfl) (fun _ _ _ h => h) (Or.inl ⟨by rfl, fun w' hSw => ?_⟩) hHeld ?_
  · obtain ⟨t0, t1, t2, t3, t4, t5, t6, t7, t8, t9, t10, t11, t12, t13, t14, t15, t16⟩ := hSw
    go_simp
    try simp [*]
    try (intro hh; exfalso; omega)
    try omega
  try simp only [Act.put, List.setIfInBounds_toArray, List.set_cons_zero, List.set_cons_succ, List.getElem_toArray, List.getElem_cons_succ, List.getElem_cons_zero]
  refine wpAnyH_take (i := 2) (oi := _) (v := Value.int .i64 i) rfl (by kernel_rfl) (by kernel_rfl) (by kernel_rfl) (fun _ _ _ h => h) (Or.inl ⟨by rfl, fun w' hSw => ?_⟩) hHeld ?_
  · obtain ⟨t0, t1, t2, t3, t4, t5, t6, t7, t8, t9, t10, t11, t12, t13, t14, t15, t16⟩ := hSw
    go_simp
    try simp [*]
    try (intro hh; exfalso; omega)
    try omega
  try simp only [Act.put, List.setIfInBounds_toArray, List.set_cons_zero, List.set_cons_succ, List.getElem_toArray, List.getElem_cons_succ, List.getElem_cons_zero]
  refine wpAnyH_take (i := 3) (oi := _) (v := Value.pointer (some ⟨b, off + i * 8, none⟩)) rfl (by kernel_rfl) (by kernel_rfl) (by kernel_rfl) (fun _ _ _ h => h) (Or.inl ⟨by rfl, fun w' hSw => ?_⟩) hHeld ?_
  · obtain ⟨t0, t1, t2, t3, t4, t5, t6, t7, t8, t9, t10, t11, t12, t13, t14, t15, t16⟩ := hSw
    go_simp
    try simp [*]
    try (intro hh; exfalso; omega)
    try omega
  try simp only [Act.put, List.setIfInBounds_toArray, List.set_cons_zero, List.set_cons_succ, List.getElem_toArray, List.getElem_cons_succ, List.getElem_cons_zero]
  refine wpAnyH_take (i := 4) (oi := _) (v := Value.agg #[Value.int .i64 x0, Value.int .i64 x1, Value.int .i64 x2, Value.int .i64 x3, Value.int .i64 x4, Value.int .i64 x5, Value.int .i64 x6, Value.int .i64 x7]) rfl (by kernel_rfl) (by kernel_rfl) (by kernel_rfl) (fun _ _ _ h => h) (Or.inl ⟨by rfl, fun w' hSw => ?_⟩) hHeld ?_
  · obtain ⟨t0, t1, t2, t3, t4, t5, t6, t7, t8, t9, t10, t11, t12, t13, t14, t15, t16⟩ := hSw
    go_simp
    try simp [*]
    try (intro hh; exfalso; omega)
    try omega
  try simp only [Act.put, List.setIfInBounds_toArray, List.set_cons_zero, List.set_cons_succ, List.getElem_toArray, List.getElem_cons_succ, List.getElem_cons_zero]
  refine wpAnyH_take (i := 5) (oi := _) (v := Value.pointer (some ⟨w.heap.size, 2, none⟩)) rfl (by kernel_rfl) (by kernel_rfl) (by kernel_rfl) (fun _ _ _ h => h) (Or.inl ⟨by rfl, fun w' hSw => ?_⟩) hHeld ?_
  · obtain ⟨t0, t1, t2, t3, t4, t5, t6, t7, t8, t9, t10, t11, t12, t13, t14, t15, t16⟩ := hSw
    go_simp
    try simp [*]
    try (intro hh; exfalso; omega)
    try omega
  try simp only [Act.put, List.setIfInBounds_toArray, List.set_cons_zero, List.set_cons_succ, List.getElem_toArray, List.getElem_cons_succ, List.getElem_cons_zero]
  refine wpAnyH_take (i := 6) (oi := _) (v := Value.slice (some ⟨b, off, none⟩) len cap) rfl (by kernel_rfl) (by kernel_rfl) (by kernel_rfl) (fun _ _ _ h => h) (Or.inl ⟨by rfl, fun w' hSw => ?_⟩) hHeld ?_
  · obtain ⟨t0, t1, t2, t3, t4, t5, t6, t7, t8, t9, t10, t11, t12, t13, t14, t15, t16⟩ := hSw
    go_simp
    try simp [*]
    try (intro hh; exfalso; omega)
    try omega
  try simp only [Act.put, List.setIfInBounds_toArray, List.set_cons_zero, List.set_cons_succ, List.getElem_toArray, List.getElem_cons_succ, List.getElem_cons_zero]
  refine wpAnyH_take (i := 7) (oi := _) (v := Value.int .i64 k) rfl (by kernel_rfl) (by kernel_rfl) (by kernel_rfl) (fun _ _ _ h => h) (Or.inl ⟨by rfl, fun w' hSw => ?_⟩) hHeld ?_
  · obtain ⟨t0, t1, t2, t3, t4, t5, t6, t7, t8, t9, t10, t11, t12, t13, t14, t15, t16⟩ := hSw
    go_simp
    try simp [*]
    try (intro hh; exfalso; omega)
    try omega
  try simp only [Act.put, List.setIfInBounds_toArray, List.set_cons_zero, List.set_cons_succ, List.getElem_toArray, List.getElem_cons_succ, List.getElem_cons_zero]
  refine wpAnyH_take (i := 8) (oi := _) (v := Value.pointer (some ⟨b, off + k * 8, none⟩)) rfl (by kernel_rfl) (by kernel_rfl) (by kernel_rfl) (fun _ _ _ h => h) (Or.inl ⟨by rfl, fun w' hSw => ?_⟩) hHeld ?_
  · obtain ⟨t0, t1, t2, t3, t4, t5, t6, t7, t8, t9, t10, t11, t12, t13, t14, t15, t16⟩ := hSw
    go_simp
    try simp [*]
    try (intro hh; exfalso; omega)
    try omega
  try simp only [Act.put, List.setIfInBounds_toArray, List.set_cons_zero, List.set_cons_succ, List.getElem_toArray, List.getElem_cons_succ, List.getElem_cons_zero]
  refine wpAnyH_take (i := 9) (oi := _) (v := Value.agg #[Value.int .i64 y0, Value.int .i64 y1, Value.int .i64 y2, Value.int .i64 y3, Value.int .i64 y4, Value.int .i64 y5, Value.int .i64 y6, Value.int .i64 y7]) rfl (by kernel_rfl) (by kernel_rfl) (by kernel_rfl) (fun _ _ _ h => h) (Or.inl ⟨by rfl, fun w' hSw => ?_⟩) hHeld ?_
  · obtain ⟨t0, t1, t2, t3, t4, t5, t6, t7, t8, t9, t10, t11, t12, t13, t14, t15, t16⟩ := hSw
    go_simp
    try simp [*]
    try (intro hh; exfalso; omega)
    try omega
  try simp only [Act.put, List.setIfInBounds_toArray, List.set_cons_zero, List.set_cons_succ, List.getElem_toArray, List.getElem_cons_succ, List.getElem_cons_zero]
  refine wpAnyH_ready (rs := [10, 11]) (by kernel_rfl) (by simp) ?_
  refine AllReadyH.cons (o := _) rfl (fun K hK => ?_) (AllReadyH.cons (o := _) rfl (fun K hK => ?_) (AllReadyH.nil))
  · go_simp
    clear hHeld
    refine hK.out _ _ (by have q := KK.out _ (((Below.refl A.heap.size A).alloc (by simp; try omega) (.cells #[.int .i64 0, .int .i64 0, .int .i64 0, .int .i64 0, .int .i64 0, .int .i64 0, .int .i64 0, .int .i64 0] 25))); simpa [go_sem] using q) (fun hHeld => ?_)
    clear hK K
    try simp only [Act.put, List.setIfInBounds_toArray, List.set_cons_zero, List.set_cons_succ, List.getElem_toArray, List.getElem_cons_succ, List.getElem_cons_zero]
    refine wpAnyH_ready (rs := [11]) (by kernel_rfl) (by simp) ?_
    refine AllReadyH.cons (o := _) rfl (fun K hK => ?_) AllReadyH.nil
    go_simp
    clear hHeld
    refine hK.out _ _ (by have q := KK.out _ ((((Below.refl A.heap.size A).alloc (by simp; try omega) (.cells #[.int .i64 0, .int .i64 0, .int .i64 0, .int .i64 0, .int .i64 0, .int .i64 0, .int .i64 0, .int .i64 0] 25)).alloc (by simp; try omega) (.cells #[.int .i64 0, .int .i64 0, .int .i64 0, .int .i64 0, .int .i64 0, .int .i64 0, .int .i64 0, .int .i64 0] 25))); simpa [go_sem] using q) (fun hHeld => ?_)
    clear hK K
    try simp only [Act.put, List.setIfInBounds_toArray, List.set_cons_zero, List.set_cons_succ, List.getElem_toArray, List.getElem_cons_succ, List.getElem_cons_zero]
    refine wpAnyH_ready (rs := [12]) (by kernel_rfl) (by simp) ?_
    refine AllReadyH.cons (o := _) rfl (fun K hK => ?_) AllReadyH.nil
    go_simp
    clear hHeld
    refine hK.out _ _ (by have q := KK.out _ ((((Below.refl A.heap.size A).alloc (by simp; try omega) (.cells #[.int .i64 x0, .int .i64 x1, .int .i64 x2, .int .i64 x3, .int .i64 x4, .int .i64 x5, .int .i64 x6, .int .i64 x7] 25)).alloc (by simp; try omega) (.cells #[.int .i64 0, .int .i64 0, .int .i64 0, .int .i64 0, .int .i64 0, .int .i64 0, .int .i64 0, .int .i64 0] 25))); simpa [go_sem] using q) (fun hHeld => ?_)
    clear hK K
    try simp only [Act.put, List.setIfInBounds_toArray, List.set_cons_zero, List.set_cons_succ, List.getElem_toArray, List.getElem_cons_succ, List.getElem_cons_zero]
    refine wpAnyH_ready (rs := [13]) (by kernel_rfl) (by simp) ?_
    refine AllReadyH.cons (o := _) rfl (fun K hK => ?_) AllReadyH.nil
    go_simp
    clear hHeld
    refine hK.out _ _ (by have q := KK.out _ ((((Below.refl A.heap.size A).alloc (by simp; try omega) (.cells #[.int .i64 x0, .int .i64 x1, .int .i64 x2, .int .i64 x3, .int .i64 x4, .int .i64 x5, .int .i64 x6, .int .i64 x7] 25)).alloc (by simp; try omega) (.cells #[.int .i64 y0, .int .i64 y1, .int .i64 y2, .int .i64 y3, .int .i64 y4, .int .i64 y5, .int .i64 y6, .int .i64 y7] 25))); simpa [go_sem] using q) (fun hHeld => ?_)
    clear hK K
    try simp only [Act.put, List.setIfInBounds_toArray, List.set_cons_zero, List.set_cons_succ, List.getElem_toArray, List.getElem_cons_succ, List.getElem_cons_zero]
    refine wpAnyH_done (by kernel_rfl) ?_ _
    clear hHeld
    have hV0 : Below A.heap.size A (((A.alloc (.cells #[.int .i64 x0, .int .i64 x1, .int .i64 x2, .int .i64 x3, .int .i64 x4, .int .i64 x5, .int .i64 x6, .int .i64 x7] 25)).alloc (.cells #[.int .i64 y0, .int .i64 y1, .int .i64 y2, .int .i64 y3, .int .i64 y4, .int .i64 y5, .int .i64 y6, .int .i64 y7] 25)).drew) := (((Below.refl A.heap.size A).alloc (by simp; try omega) (.cells #[.int .i64 x0, .int .i64 x1, .int .i64 x2, .int .i64 x3, .int .i64 x4, .int .i64 x5, .int .i64 x6, .int .i64 x7] 25)).alloc (by simp; try omega) (.cells #[.int .i64 y0, .int .i64 y1, .int .i64 y2, .int .i64 y3, .int .i64 y4, .int .i64 y5, .int .i64 y6, .int .i64 y7] 25)).drew
    have a0 : (((A.alloc (.cells #[.int .i64 x0, .int .i64 x1, .int .i64 x2, .int .i64 x3, .int .i64 x4, .int .i64 x5, .int .i64 x6, .int .i64 x7] 25)).alloc (.cells #[.int .i64 y0, .int .i64 y1, .int .i64 y2, .int .i64 y3, .int .i64 y4, .int .i64 y5, .int .i64 y6, .int .i64 y7] 25)).drew).cell? ⟨A.heap.size, 0, none⟩ = some (.int .i64 x0) := by simp [go_sem]
    have a1 : (((A.alloc (.cells #[.int .i64 x0, .int .i64 x1, .int .i64 x2, .int .i64 x3, .int .i64 x4, .int .i64 x5, .int .i64 x6, .int .i64 x7] 25)).alloc (.cells #[.int .i64 y0, .int .i64 y1, .int .i64 y2, .int .i64 y3, .int .i64 y4, .int .i64 y5, .int .i64 y6, .int .i64 y7] 25)).drew).cell? ⟨A.heap.size, 1, none⟩ = some (.int .i64 x1) := by simp [go_sem]
    have a2 : (((A.alloc (.cells #[.int .i64 x0, .int .i64 x1, .int .i64 x2, .int .i64 x3, .int .i64 x4, .int .i64 x5, .int .i64 x6, .int .i64 x7] 25)).alloc (.cells #[.int .i64 y0, .int .i64 y1, .int .i64 y2, .int .i64 y3, .int .i64 y4, .int .i64 y5, .int .i64 y6, .int .i64 y7] 25)).drew).cell? ⟨A.heap.size, 2, none⟩ = some (.int .i64 x2) := by simp [go_sem]
    have a3 : (((A.alloc (.cells #[.int .i64 x0, .int .i64 x1, .int .i64 x2, .int .i64 x3, .int .i64 x4, .int .i64 x5, .int .i64 x6, .int .i64 x7] 25)).alloc (.cells #[.int .i64 y0, .int .i64 y1, .int .i64 y2, .int .i64 y3, .int .i64 y4, .int .i64 y5, .int .i64 y6, .int .i64 y7] 25)).drew).cell? ⟨A.heap.size, 3, none⟩ = some (.int .i64 x3) := by simp [go_sem]
    have a4 : (((A.alloc (.cells #[.int .i64 x0, .int .i64 x1, .int .i64 x2, .int .i64 x3, .int .i64 x4, .int .i64 x5, .int .i64 x6, .int .i64 x7] 25)).alloc (.cells #[.int .i64 y0, .int .i64 y1, .int .i64 y2, .int .i64 y3, .int .i64 y4, .int .i64 y5, .int .i64 y6, .int .i64 y7] 25)).drew).cell? ⟨A.heap.size, 4, none⟩ = some (.int .i64 x4) := by simp [go_sem]
    have a5 : (((A.alloc (.cells #[.int .i64 x0, .int .i64 x1, .int .i64 x2, .int .i64 x3, .int .i64 x4, .int .i64 x5, .int .i64 x6, .int .i64 x7] 25)).alloc (.cells #[.int .i64 y0, .int .i64 y1, .int .i64 y2, .int .i64 y3, .int .i64 y4, .int .i64 y5, .int .i64 y6, .int .i64 y7] 25)).drew).cell? ⟨A.heap.size, 5, none⟩ = some (.int .i64 x5) := by simp [go_sem]
    have a6 : (((A.alloc (.cells #[.int .i64 x0, .int .i64 x1, .int .i64 x2, .int .i64 x3, .int .i64 x4, .int .i64 x5, .int .i64 x6, .int .i64 x7] 25)).alloc (.cells #[.int .i64 y0, .int .i64 y1, .int .i64 y2, .int .i64 y3, .int .i64 y4, .int .i64 y5, .int .i64 y6, .int .i64 y7] 25)).drew).cell? ⟨A.heap.size, 6, none⟩ = some (.int .i64 x6) := by simp [go_sem]
    have a7 : (((A.alloc (.cells #[.int .i64 x0, .int .i64 x1, .int .i64 x2, .int .i64 x3, .int .i64 x4, .int .i64 x5, .int .i64 x6, .int .i64 x7] 25)).alloc (.cells #[.int .i64 y0, .int .i64 y1, .int .i64 y2, .int .i64 y3, .int .i64 y4, .int .i64 y5, .int .i64 y6, .int .i64 y7] 25)).drew).cell? ⟨A.heap.size, 7, none⟩ = some (.int .i64 x7) := by simp [go_sem]
    have b0 : (((A.alloc (.cells #[.int .i64 x0, .int .i64 x1, .int .i64 x2, .int .i64 x3, .int .i64 x4, .int .i64 x5, .int .i64 x6, .int .i64 x7] 25)).alloc (.cells #[.int .i64 y0, .int .i64 y1, .int .i64 y2, .int .i64 y3, .int .i64 y4, .int .i64 y5, .int .i64 y6, .int .i64 y7] 25)).drew).cell? ⟨A.heap.size + 1, 0, none⟩ = some (.int .i64 y0) := by simp [go_sem]
    have b1 : (((A.alloc (.cells #[.int .i64 x0, .int .i64 x1, .int .i64 x2, .int .i64 x3, .int .i64 x4, .int .i64 x5, .int .i64 x6, .int .i64 x7] 25)).alloc (.cells #[.int .i64 y0, .int .i64 y1, .int .i64 y2, .int .i64 y3, .int .i64 y4, .int .i64 y5, .int .i64 y6, .int .i64 y7] 25)).drew).cell? ⟨A.heap.size + 1, 1, none⟩ = some (.int .i64 y1) := by simp [go_sem]
    have b2 : (((A.alloc (.cells #[.int .i64 x0, .int .i64 x1, .int .i64 x2, .int .i64 x3, .int .i64 x4, .int .i64 x5, .int .i64 x6, .int .i64 x7] 25)).alloc (.cells #[.int .i64 y0, .int .i64 y1, .int .i64 y2, .int .i64 y3, .int .i64 y4, .int .i64 y5, .int .i64 y6, .int .i64 y7] 25)).drew).cell? ⟨A.heap.size + 1, 2, none⟩ = some (.int .i64 y2) := by simp [go_sem]
    have b3 : (((A.alloc (.cells #[.int .i64 x0, .int .i64 x1, .int .i64 x2, .int .i64 x3, .int .i64 x4, .int .i64 x5, .int .i64 x6, .int .i64 x7] 25)).alloc (.cells #[.int .i64 y0, .int .i64 y1, .int .i64 y2, .int .i64 y3, .int .i64 y4, .int .i64 y5, .int .i64 y6, .int .i64 y7] 25)).drew).cell? ⟨A.heap.size + 1, 3, none⟩ = some (.int .i64 y3) := by simp [go_sem]
    have b4 : (((A.alloc (.cells #[.int .i64 x0, .int .i64 x1, .int .i64 x2, .int .i64 x3, .int .i64 x4, .int .i64 x5, .int .i64 x6, .int .i64 x7] 25)).alloc (.cells #[.int .i64 y0, .int .i64 y1, .int .i64 y2, .int .i64 y3, .int .i64 y4, .int .i64 y5, .int .i64 y6, .int .i64 y7] 25)).drew).cell? ⟨A.heap.size + 1, 4, none⟩ = some (.int .i64 y4) := by simp [go_sem]
    have b5 : (((A.alloc (.cells #[.int .i64 x0, .int .i64 x1, .int .i64 x2, .int .i64 x3, .int .i64 x4, .int .i64 x5, .int .i64 x6, .int .i64 x7] 25)).alloc (.cells #[.int .i64 y0, .int .i64 y1, .int .i64 y2, .int .i64 y3, .int .i64 y4, .int .i64 y5, .int .i64 y6, .int .i64 y7] 25)).drew).cell? ⟨A.heap.size + 1, 5, none⟩ = some (.int .i64 y5) := by simp [go_sem]
    have b6 : (((A.alloc (.cells #[.int .i64 x0, .int .i64 x1, .int .i64 x2, .int .i64 x3, .int .i64 x4, .int .i64 x5, .int .i64 x6, .int .i64 x7] 25)).alloc (.cells #[.int .i64 y0, .int .i64 y1, .int .i64 y2, .int .i64 y3, .int .i64 y4, .int .i64 y5, .int .i64 y6, .int .i64 y7] 25)).drew).cell? ⟨A.heap.size + 1, 6, none⟩ = some (.int .i64 y6) := by simp [go_sem]
    have b7 : (((A.alloc (.cells #[.int .i64 x0, .int .i64 x1, .int .i64 x2, .int .i64 x3, .int .i64 x4, .int .i64 x5, .int .i64 x6, .int .i64 x7] 25)).alloc (.cells #[.int .i64 y0, .int .i64 y1, .int .i64 y2, .int .i64 y3, .int .i64 y4, .int .i64 y5, .int .i64 y6, .int .i64 y7] 25)).drew).cell? ⟨A.heap.size + 1, 7, none⟩ = some (.int .i64 y7) := by simp [go_sem]
    generalize hV : (((A.alloc (.cells #[.int .i64 x0, .int .i64 x1, .int .i64 x2, .int .i64 x3, .int .i64 x4, .int .i64 x5, .int .i64 x6, .int .i64 x7] 25)).alloc (.cells #[.int .i64 y0, .int .i64 y1, .int .i64 y2, .int .i64 y3, .int .i64 y4, .int .i64 y5, .int .i64 y6, .int .i64 y7] 25)).drew) = V at *
    have l7 : A.heap.size < V.heap.size := World.block_lt_of_cell? V ⟨A.heap.size, 0, none⟩ a0
    have l8 : A.heap.size + 1 < V.heap.size := World.block_lt_of_cell? V ⟨A.heap.size + 1, 0, none⟩ b0
    have lA : A.heap.size ≤ V.heap.size := hV0.size
    have HV := Lib.hid hV0
    have HVE := Lib.hid hV
    clear hV hV0 k2 g0 h0 g1 h1 g2 h2 g3 h3 g4 h4 g5 h5 g6 h6 g7 h7
    have kr := KR.out _ HV.out
    go_wp2_with fail
    try rw [HVE.out]
    have K2 := Lib.hid (show ∀ W, Below V.heap.size V W → W.cell? ⟨A.heap.size, 0, none⟩ = some (.int .i64 x0) ∧ W.cell? ⟨A.heap.size, 1, none⟩ = some (.int .i64 x1) ∧ W.cell? ⟨A.heap.size, 2, none⟩ = some (.int .i64 x2) ∧ W.cell? ⟨A.heap.size, 3, none⟩ = some (.int .i64 x3) ∧ W.cell? ⟨A.heap.size, 4, none⟩ = some (.int .i64 x4) ∧ W.cell? ⟨A.heap.size, 5, none⟩ = some (.int .i64 x5) ∧ W.cell? ⟨A.heap.size, 6, none⟩ = some (.int .i64 x6) ∧ W.cell? ⟨A.heap.size, 7, none⟩ = some (.int .i64 x7) ∧ W.cell? ⟨A.heap.size + 1, 0, none⟩ = some (.int .i64 y0) ∧ W.cell? ⟨A.heap.size + 1, 1, none⟩ = some (.int .i64 y1) ∧ W.cell? ⟨A.heap.size + 1, 2, none⟩ = some (.int .i64 y2) ∧ W.cell? ⟨A.heap.size + 1, 3, none⟩ = some (.int .i64 y3) ∧ W.cell? ⟨A.heap.size + 1, 4, none⟩ = some (.int .i64 y4) ∧ W.cell? ⟨A.heap.size + 1, 5, none⟩ = some (.int .i64 y5) ∧ W.cell? ⟨A.heap.size + 1, 6, none⟩ = some (.int .i64 y6) ∧ W.cell? ⟨A.heap.size + 1, 7, none⟩ = some (.int .i64 y7) ∧ W.cell? ⟨w.heap.size, 1, none⟩ = some (.int .i64 r) from fun W h => ⟨(h.cell (p := ⟨A.heap.size, 0, none⟩) (by show A.heap.size < V.heap.size; first | exact l7 | exact l8 | (have := HV.out.size; have := HZA.out; omega))).trans a0, (h.cell (p := ⟨A.heap.size, 1, none⟩) (by show A.heap.size < V.heap.size; first | exact l7 | exact l8 | (have := HV.out.size; have := HZA.out; omega))).trans a1, (h.cell (p := ⟨A.heap.size, 2, none⟩) (by show A.heap.size < V.heap.size; first | exact l7 | exact l8 | (have := HV.out.size; have := HZA.out; omega))).trans a2, (h.cell (p := ⟨A.heap.size, 3, none⟩) (by show A.heap.size < V.heap.size; first | exact l7 | exact l8 | (have := HV.out.size; have := HZA.out; omega))).trans a3, (h.cell (p := ⟨A.heap.size, 4, none⟩) (by show A.heap.size < V.heap.size; first | exact l7 | exact l8 | (have := HV.out.size; have := HZA.out; omega))).trans a4, (h.cell (p := ⟨A.heap.size, 5, none⟩) (by show A.heap.size < V.heap.size; first | exact l7 | exact l8 | (have := HV.out.size; have := HZA.out; omega))).trans a5, (h.cell (p := ⟨A.heap.size, 6, none⟩) (by show A.heap.size < V.heap.size; first | exact l7 | exact l8 | (have := HV.out.size; have := HZA.out; omega))).trans a6, (h.cell (p := ⟨A.heap.size, 7, none⟩) (by show A.heap.size < V.heap.size; first | exact l7 | exact l8 | (have := HV.out.size; have := HZA.out; omega))).trans a7, (h.cell (p := ⟨A.heap.size + 1, 0, none⟩) (by show A.heap.size + 1 < V.heap.size; first | exact l7 | exact l8 | (have := HV.out.size; have := HZA.out; omega))).trans b0, (h.cell (p := ⟨A.heap.size + 1, 1, none⟩) (by show A.heap.size + 1 < V.heap.size; first | exact l7 | exact l8 | (have := HV.out.size; have := HZA.out; omega))).trans b1, (h.cell (p := ⟨A.heap.size + 1, 2, none⟩) (by show A.heap.size + 1 < V.heap.size; first | exact l7 | exact l8 | (have := HV.out.size; have := HZA.out; omega))).trans b2, (h.cell (p := ⟨A.heap.size + 1, 3, none⟩) (by show A.heap.size + 1 < V.heap.size; first | exact l7 | exact l8 | (have := HV.out.size; have := HZA.out; omega))).trans b3, (h.cell (p := ⟨A.heap.size + 1, 4, none⟩) (by show A.heap.size + 1 < V.heap.size; first | exact l7 | exact l8 | (have := HV.out.size; have := HZA.out; omega))).trans b4, (h.cell (p := ⟨A.heap.size + 1, 5, none⟩) (by show A.heap.size + 1 < V.heap.size; first | exact l7 | exact l8 | (have := HV.out.size; have := HZA.out; omega))).trans b5, (h.cell (p := ⟨A.heap.size + 1, 6, none⟩) (by show A.heap.size + 1 < V.heap.size; first | exact l7 | exact l8 | (have := HV.out.size; have := HZA.out; omega))).trans b6, (h.cell (p := ⟨A.heap.size + 1, 7, none⟩) (by show A.heap.size + 1 < V.heap.size; first | exact l7 | exact l8 | (have := HV.out.size; have := HZA.out; omega))).trans b7, (h.cell (p := ⟨w.heap.size, 1, none⟩) (by show w.heap.size < V.heap.size; first | exact l7 | exact l8 | (have := HV.out.size; have := HZA.out; omega))).trans kr⟩)
    refine wp_region_held_drew (S := fun w' => w'.cell? ⟨A.heap.size, 0, none⟩ = some (.int .i64 x0) ∧ w'.cell? ⟨A.heap.size, 1, none⟩ = some (.int .i64 x1) ∧ w'.cell? ⟨A.heap.size, 2, none⟩ = some (.int .i64 x2) ∧ w'.cell? ⟨A.heap.size, 3, none⟩ = some (.int .i64 x3) ∧ w'.cell? ⟨A.heap.size, 4, none⟩ = some (.int .i64 x4) ∧ w'.cell? ⟨A.heap.size, 5, none⟩ = some (.int .i64 x5) ∧ w'.cell? ⟨A.heap.size, 6, none⟩ = some (.int .i64 x6) ∧ w'.cell? ⟨A.heap.size, 7, none⟩ = some (.int .i64 x7) ∧ w'.cell? ⟨A.heap.size + 1, 0, none⟩ = some (.int .i64 y0) ∧ w'.cell? ⟨A.heap.size + 1, 1, none⟩ = some (.int .i64 y1) ∧ w'.cell? ⟨A.heap.size + 1, 2, none⟩ = some (.int .i64 y2) ∧ w'.cell? ⟨A.heap.size + 1, 3, none⟩ = some (.int .i64 y3) ∧ w'.cell? ⟨A.heap.size + 1, 4, none⟩ = some (.int .i64 y4) ∧ w'.cell? ⟨A.heap.size + 1, 5, none⟩ = some (.int .i64 y5) ∧ w'.cell? ⟨A.heap.size + 1, 6, none⟩ = some (.int .i64 y6) ∧ w'.cell? ⟨A.heap.size + 1, 7, none⟩ = some (.int .i64 y7) ∧ w'.cell? ⟨w.heap.size, 1, none⟩ = some (.int .i64 r)) (by kernel_rfl) ⟨by simpa [go_sem] using a0, by simpa [go_sem] using a1, by simpa [go_sem] using a2, by simpa [go_sem] using a3, by simpa [go_sem] using a4, by simpa [go_sem] using a5, by simpa [go_sem] using a6, by simpa [go_sem] using a7, by simpa [go_sem] using b0, by simpa [go_sem] using b1, by simpa [go_sem] using b2, by simpa [go_sem] using b3, by simpa [go_sem] using b4, by simpa [go_sem] using b5, by simpa [go_sem] using b6, by simpa [go_sem] using b7, by simpa [go_sem] using kr⟩ (fun hHeld => ?_)
    refine wpAnyH_take (i := 0) (oi := _) (v := Value.agg #[Value.int .i64 x0, Value.int .i64 x1, Value.int .i64 x2, Value.int .i64 x3, Value.int .i64 x4, Value.int .i64 x5, Value.int .i64 x6, Value.int .i64 x7]) rfl (by kernel_rfl) (by kernel_rfl) (by kernel_rfl) (fun _ _ _ h => h) (Or.inl ⟨by rfl, fun w' hSw => ?_⟩) hHeld ?_
    · obtain ⟨t0, t1, t2, t3, t4, t5, t6, t7, t8, t9, t10, t11, t12, t13, t14, t15, t16⟩ := hSw
      go_simp
      try simp [*]
      try (intro hh; exfalso; omega)
      try omega
    try simp only [Act.put, List.setIfInBounds_toArray, List.set_cons_zero, List.set_cons_succ, List.getElem_toArray, List.getElem_cons_succ, List.getElem_cons_zero]
    refine wpAnyH_take (i := 1) (oi := _) (v := Value.pointer (some ⟨w.heap.size, 1, none⟩)) rfl (by kernel_rfl) (by kernel_rfl) (by kernel_rfl) (fun _ _ _ h => h) (Or.inl ⟨by rfl, fun w' hSw => ?_⟩) hHeld ?_
    · obtain ⟨t0, t1, t2, t3, t4, t5, t6, t7, t8, t9, t10, t11, t12, t13, t14, t15, t16⟩ := hSw
      go_simp
      try simp [*]
      try (intro hh; exfalso; omega)
      try omega
    try simp only [Act.put, List.setIfInBounds_toArray, List.set_cons_zero, List.set_cons_succ, List.getElem_toArray, List.getElem_cons_succ, List.getElem_cons_zero]
    refine wpAnyH_take (i := 2) (oi := _) (v := Value.int .i64 r) rfl (by kernel_rfl) (by kernel_rfl) (by kernel_rfl) (fun _ _ _ h => h) (Or.inl ⟨by rfl, fun w' hSw => ?_⟩) hHeld ?_
    · obtain ⟨t0, t1, t2, t3, t4, t5, t6, t7, t8, t9, t10, t11, t12, t13, t14, t15, t16⟩ := hSw
      go_simp
      try simp [*]
      try (intro hh; exfalso; omega)
      try omega
    try simp only [Act.put, List.setIfInBounds_toArray, List.set_cons_zero, List.set_cons_succ, List.getElem_toArray, List.getElem_cons_succ, List.getElem_cons_zero]
    refine wpAnyH_take (i := 4) (oi := _) (v := Value.pointer (some ⟨w.heap.size, 1, none⟩)) rfl (by kernel_rfl) (by kernel_rfl) (by kernel_rfl) (fun _ _ _ h => h) (Or.inl ⟨by rfl, fun w' hSw => ?_⟩) hHeld ?_
    · obtain ⟨t0, t1, t2, t3, t4, t5, t6, t7, t8, t9, t10, t11, t12, t13, t14, t15, t16⟩ := hSw
      go_simp
      try simp [*]
      try (intro hh; exfalso; omega)
      try omega
    try simp only [Act.put, List.setIfInBounds_toArray, List.set_cons_zero, List.set_cons_succ, List.getElem_toArray, List.getElem_cons_succ, List.getElem_cons_zero]
    refine wpAnyH_take (i := 5) (oi := _) (v := Value.int .i64 r) rfl (by kernel_rfl) (by kernel_rfl) (by kernel_rfl) (fun _ _ _ h => h) (Or.inl ⟨by rfl, fun w' hSw => ?_⟩) hHeld ?_
    · obtain ⟨t0, t1, t2, t3, t4, t5, t6, t7, t8, t9, t10, t11, t12, t13, t14, t15, t16⟩ := hSw
      go_simp
      try simp [*]
      try (intro hh; exfalso; omega)
      try omega
    try simp only [Act.put, List.setIfInBounds_toArray, List.set_cons_zero, List.set_cons_succ, List.getElem_toArray, List.getElem_cons_succ, List.getElem_cons_zero]
    refine wpAnyH_take (i := 6) (oi := _) (v := Value.pointer (some ⟨A.heap.size, 3, none⟩)) rfl (by kernel_rfl) (by kernel_rfl) (by kernel_rfl) (fun _ _ _ h => h) (Or.inl ⟨by rfl, fun w' hSw => ?_⟩) hHeld ?_
    · obtain ⟨t0, t1, t2, t3, t4, t5, t6, t7, t8, t9, t10, t11, t12, t13, t14, t15, t16⟩ := hSw
      go_simp
      try simp [*]
      try (intro hh; exfalso; omega)
      try omega
    try simp only [Act.put, List.setIfInBounds_toArray, List.set_cons_zero, List.set_cons_succ, List.getElem_toArray, List.getElem_cons_succ, List.getElem_cons_zero]
    refine wpAnyH_take (i := 7) (oi := _) (v := Value.int .i64 x3) rfl (by kernel_rfl) (by kernel_rfl) (by kernel_rfl) (fun _ _ _ h => h) (Or.inl ⟨by rfl, fun w' hSw => ?_⟩) hHeld ?_
    · obtain ⟨t0, t1, t2, t3, t4, t5, t6, t7, t8, t9, t10, t11, t12, t13, t14, t15, t16⟩ := hSw
      go_simp
      try simp [*]
      try (intro hh; exfalso; omega)
      try omega
    try simp only [Act.put, List.setIfInBounds_toArray, List.set_cons_zero, List.set_cons_succ, List.getElem_toArray, List.getElem_cons_succ, List.getElem_cons_zero]
    refine wpAnyH_take (i := 8) (oi := _) (v := Value.pointer (some ⟨A.heap.size + 1, 3, none⟩)) rfl (by kernel_rfl) (by kernel_rfl) (by kernel_rfl) (fun _ _ _ h => h) (Or.inl ⟨by rfl, fun w' hSw => ?_⟩) hHeld ?_
    · obtain ⟨t0, t1, t2, t3, t4, t5, t6, t7, t8, t9, t10, t11, t12, t13, t14, t15, t16⟩ := hSw
      go_simp
      try simp [*]
      try (intro hh; exfalso; omega)
      try omega
    try simp only [Act.put, List.setIfInBounds_toArray, List.set_cons_zero, List.set_cons_succ, List.getElem_toArray, List.getElem_cons_succ, List.getElem_cons_zero]
    refine wpAnyH_take (i := 9) (oi := _) (v := Value.int .i64 y3) rfl (by kernel_rfl) (by kernel_rfl) (by kernel_rfl) (fun _ _ _ h => h) (Or.inl ⟨by rfl, fun w' hSw => ?_⟩) hHeld ?_
    · obtain ⟨t0, t1, t2, t3, t4, t5, t6, t7, t8, t9, t10, t11, t12, t13, t14, t15, t16⟩ := hSw
      go_simp
      try simp [*]
      try (intro hh; exfalso; omega)
      try omega
    try simp only [Act.put, List.setIfInBounds_toArray, List.set_cons_zero, List.set_cons_succ, List.getElem_toArray, List.getElem_cons_succ, List.getElem_cons_zero]
    refine wpAnyH_take (i := 10) (oi := _) (v := Value.int .i64 (x3 - y3)) rfl (by kernel_rfl) (by kernel_rfl) (by kernel_rfl) (fun _ _ _ h => h) (Or.inl ⟨by rfl, fun w' hSw => ?_⟩) hHeld ?_
    · obtain ⟨t0, t1, t2, t3, t4, t5, t6, t7, t8, t9, t10, t11, t12, t13, t14, t15, t16⟩ := hSw
      go_simp
      try simp [*]
      try (intro hh; exfalso; omega)
      try omega
    try simp only [Act.put, List.setIfInBounds_toArray, List.set_cons_zero, List.set_cons_succ, List.getElem_toArray, List.getElem_cons_succ, List.getElem_cons_zero]
    refine wpAnyH_take (i := 13) (oi := _) (v := Value.agg #[Value.int .i64 y0, Value.int .i64 y1, Value.int .i64 y2, Value.int .i64 y3, Value.int .i64 y4, Value.int .i64 y5, Value.int .i64 y6, Value.int .i64 y7]) rfl (by kernel_rfl) (by kernel_rfl) (by kernel_rfl) (fun _ _ _ h => h) (Or.inl ⟨by rfl, fun w' hSw => ?_⟩) hHeld ?_
    · obtain ⟨t0, t1, t2, t3, t4, t5, t6, t7, t8, t9, t10, t11, t12, t13, t14, t15, t16⟩ := hSw
      go_simp
      try simp [*]
      try (intro hh; exfalso; omega)
      try omega
    try simp only [Act.put, List.setIfInBounds_toArray, List.set_cons_zero, List.set_cons_succ, List.getElem_toArray, List.getElem_cons_succ, List.getElem_cons_zero]
    refine wpAnyH_take (i := 14) (oi := _) (v := Value.pointer (some ⟨w.heap.size, 1, none⟩)) rfl (by kernel_rfl) (by kernel_rfl) (by kernel_rfl) (fun _ _ _ h => h) (Or.inl ⟨by rfl, fun w' hSw => ?_⟩) hHeld ?_
    · obtain ⟨t0, t1, t2, t3, t4, t5, t6, t7, t8, t9, t10, t11, t12, t13, t14, t15, t16⟩ := hSw
      go_simp
      try simp [*]
      try (intro hh; exfalso; omega)
      try omega
    try simp only [Act.put, List.setIfInBounds_toArray, List.set_cons_zero, List.set_cons_succ, List.getElem_toArray, List.getElem_cons_succ, List.getElem_cons_zero]
    refine wpAnyH_take (i := 15) (oi := _) (v := Value.int .i64 r) rfl (by kernel_rfl) (by kernel_rfl) (by kernel_rfl) (fun _ _ _ h => h) (Or.inl ⟨by rfl, fun w' hSw => ?_⟩) hHeld ?_
    · obtain ⟨t0, t1, t2, t3, t4, t5, t6, t7, t8, t9, t10, t11, t12, t13, t14, t15, t16⟩ := hSw
      go_simp
      try simp [*]
      try (intro hh; exfalso; omega)
      try omega
    try simp only [Act.put, List.setIfInBounds_toArray, List.set_cons_zero, List.set_cons_succ, List.getElem_toArray, List.getElem_cons_succ, List.getElem_cons_zero]
    refine wpAnyH_ready (rs := [3, 18]) (by kernel_rfl) (by simp) ?_
    refine AllReadyH.cons (o := _) rfl (fun K hK => ?_) (AllReadyH.cons (o := _) rfl (fun K hK => ?_) (AllReadyH.nil))
    · go_simp
      go_at_call 78
      refine Calls.mono (c78 _) ?_
      rintro e v1 ⟨rfl, hb⟩
      have HV1 := Lib.hid (show Below V.heap.size V v1 from Below.trans (Below.drew (Below.refl V.heap.size V)) (hb.mono (Below.size (Below.drew (Below.refl V.heap.size V)))))
      clear hb
      clear hHeld
      refine hK.out _ _ (K2.out _ HV1.out) (fun hHeld => ?_)
      clear hK K
      try simp only [Act.put, List.setIfInBounds_toArray, List.set_cons_zero, List.set_cons_succ, List.getElem_toArray, List.getElem_cons_succ, List.getElem_cons_zero]
      refine wpAnyH_ready (rs := [11, 18]) (by kernel_rfl) (by simp) ?_
      refine AllReadyH.cons (o := _) rfl (fun K hK => ?_) (AllReadyH.cons (o := _) rfl (fun K hK => ?_) (AllReadyH.nil))
      · go_simp
        go_at_call 55
        refine Calls.mono (c55 _) ?_
        rintro e v2 ⟨rfl, hw⟩
        have hb : Below (v1).heap.size (v1) v2 := by rw [hw]; exact Below.refl _ _
        clear hw
        have HV2 := Lib.hid (show Below V.heap.size V v2 from Below.trans HV1.out (hb.mono (Below.size HV1.out)))
        clear hb
        clear hHeld
        refine hK.out _ _ (K2.out _ HV2.out) (fun hHeld => ?_)
        clear hK K
        try simp only [Act.put, List.setIfInBounds_toArray, List.set_cons_zero, List.set_cons_succ, List.getElem_toArray, List.getElem_cons_succ, List.getElem_cons_zero]
        refine wpAnyH_ready (rs := [12, 18]) (by kernel_rfl) (by simp) ?_
        refine AllReadyH.cons (o := _) rfl (fun K hK => ?_) (AllReadyH.cons (o := _) rfl (fun K hK => ?_) (AllReadyH.nil))
        · go_simp
          go_at_call 133
          refine Calls.mono (c133 _) ?_
          rintro e v3 ⟨rfl, hb⟩
          have HV3 := Lib.hid (show Below V.heap.size V v3 from Below.trans HV2.out (hb.mono (Below.size HV2.out)))
          clear hb
          clear hHeld
          refine hK.out _ _ (K2.out _ HV3.out) (fun hHeld => ?_)
          clear hK K
          try simp only [Act.put, List.setIfInBounds_toArray, List.set_cons_zero, List.set_cons_succ, List.getElem_toArray, List.getElem_cons_succ, List.getElem_cons_zero]
          refine wpAnyH_ready (rs := [16, 18]) (by kernel_rfl) (by simp) ?_
          refine AllReadyH.cons (o := _) rfl (fun K hK => ?_) (AllReadyH.cons (o := _) rfl (fun K hK => ?_) (AllReadyH.nil))
          · go_simp
            go_at_call 78
            refine Calls.mono (d78 _) ?_
            rintro e v4 ⟨rfl, hb⟩
            have HV4 := Lib.hid (show Below V.heap.size V v4 from Below.trans HV3.out (hb.mono (Below.size HV3.out)))
            clear hb
            clear hHeld
            refine hK.out _ _ (K2.out _ HV4.out) (fun hHeld => ?_)
            clear hK K
            try simp only [Act.put, List.setIfInBounds_toArray, List.set_cons_zero, List.set_cons_succ, List.getElem_toArray, List.getElem_cons_succ, List.getElem_cons_zero]
            refine wpAnyH_ready (rs := [17, 18]) (by kernel_rfl) (by simp) ?_
            refine AllReadyH.cons (o := _) rfl (fun K hK => ?_) (AllReadyH.cons (o := _) rfl (fun K hK => ?_) (AllReadyH.nil))
            · go_simp
              go_at_call 108
              refine Calls.mono (c108 _) ?_
              rintro e v5 ⟨rfl, hb⟩
              have HV5 := Lib.hid (show Below V.heap.size V v5 from Below.trans HV4.out (hb.mono (Below.size HV4.out)))
              clear hb
              clear hHeld
              refine hK.out _ _ (K2.out _ HV5.out) (fun hHeld => ?_)
              clear hK K
              try simp only [Act.put, List.setIfInBounds_toArray, List.set_cons_zero, List.set_cons_succ, List.getElem_toArray, List.getElem_cons_succ, List.getElem_cons_zero]
              refine wpAnyH_ready (rs := [18]) (by kernel_rfl) (by simp) ?_
              refine AllReadyH.cons (o := _) rfl (fun K hK => ?_) AllReadyH.nil
              go_simp
              have HVa := Lib.hid (show Below V.heap.size V (v5.alloc (.cells #[.int .i64 0, .int .i64 0] 23)) from Below.alloc HV5.out (Below.size HV5.out) _)
              have HXa := Lib.hid (show Bx2 (v5.alloc (.cells #[.int .i64 0, .int .i64 0] 23)) (v5.heap.size) (.int .i64 0) (.int .i64 0) from Bx2.new (v5) _ _)
              clear hHeld
              refine hK.out _ _ (K2.out _ HVa.out) (fun hHeld => ?_)
              clear hK K
              try simp only [Act.put, List.setIfInBounds_toArray, List.set_cons_zero, List.set_cons_succ, List.getElem_toArray, List.getElem_cons_succ, List.getElem_cons_zero]
              have hX6 := HXa.out
              have r0 := hX6.c0
              have r1 := hX6.c1
              have rf0 := hX6.f0 0
              have rf1 := hX6.f0 1
              have HX6 := Lib.hid hX6
              clear hX6
              have lB : V.heap.size ≤ v5.heap.size := HV5.out.size
              obtain ⟨W9, hW9⟩ : ∃ W9, W9 = v5.alloc (.cells #[.int .i64 m0, .int .i64 m1] 23) := ⟨_, rfl⟩
              have HB9 := Lib.hid (show Below V.heap.size V W9 by rw [hW9]; exact HV5.out.alloc HV5.out.size _)
              have hZ : Bx2 W9 (v5.heap.size) (.int .i64 m0) (.int .i64 m1) := by rw [hW9]; exact Bx2.new v5 _ _
              refine wpAnyH_ready (rs := [19]) (by kernel_rfl) (by simp) ?_
              refine AllReadyH.cons (o := _) rfl (fun K hK => ?_) AllReadyH.nil
              go_simp
              try rw [← hW9]
              clear hHeld
              refine hK.out _ _ (K2.out _ HB9.out) (fun hHeld => ?_)
              clear hK K
              try simp only [Act.put, List.setIfInBounds_toArray, List.set_cons_zero, List.set_cons_succ, List.getElem_toArray, List.getElem_cons_succ, List.getElem_cons_zero]
              refine wpAnyH_done (by kernel_rfl) ?_ _
              clear hHeld
              have z0 := hZ.c0
              have z1 := hZ.c1
              clear hW9 hZ r0 r1 rf0 rf1
              go_wp2_with fail
              go_ret
              exact ⟨rfl, HBA.out.trans ((HV.out.trans (HB9.out.mono HV.out.size)).mono HBA.out.size)⟩
            · go_simp
              have HVa := Lib.hid (show Below V.heap.size V (v4.alloc (.cells #[.int .i64 0, .int .i64 0] 23)) from Below.alloc HV4.out (Below.size HV4.out) _)
              have HXa := Lib.hid (show Bx2 (v4.alloc (.cells #[.int .i64 0, .int .i64 0] 23)) (v4.heap.size) (.int .i64 0) (.int .i64 0) from Bx2.new (v4) _ _)
              clear hHeld
              refine hK.out _ _ (K2.out _ HVa.out) (fun hHeld => ?_)
              clear hK K
              try simp only [Act.put, List.setIfInBounds_toArray, List.set_cons_zero, List.set_cons_succ, List.getElem_toArray, List.getElem_cons_succ, List.getElem_cons_zero]
              refine wpAnyH_ready (rs := [17]) (by kernel_rfl) (by simp) ?_
              refine AllReadyH.cons (o := _) rfl (fun K hK => ?_) AllReadyH.nil
              go_simp
              go_at_call 108
              refine Calls.mono (c108 _) ?_
              rintro e v5 ⟨rfl, hb⟩
              have HV5 := Lib.hid (show Below V.heap.size V v5 from Below.trans HVa.out (hb.mono (Below.size HVa.out)))
              have HX5 := Lib.hid (HXa.out.keep hb)
              clear hb
              clear hHeld
              refine hK.out _ _ (K2.out _ HV5.out) (fun hHeld => ?_)
              clear hK K
              try simp only [Act.put, List.setIfInBounds_toArray, List.set_cons_zero, List.set_cons_succ, List.getElem_toArray, List.getElem_cons_succ, List.getElem_cons_zero]
              have hX6 := HX5.out
              have r0 := hX6.c0
              have r1 := hX6.c1
              have rf0 := hX6.f0 0
              have rf1 := hX6.f0 1
              have HX6 := Lib.hid hX6
              clear hX6
              have lB : V.heap.size ≤ v4.heap.size := HV4.out.size
              obtain ⟨W9, hW9⟩ : ∃ W9, W9 = (v5.setCell ⟨v4.heap.size, 0, none⟩ (.int .i64 m0)).setCell ⟨v4.heap.size, 1, none⟩ (.int .i64 m1) := ⟨_, rfl⟩
              have HB9 := Lib.hid (show Below V.heap.size V W9 by rw [hW9]; exact (HV5.out.setCell (p := ⟨v4.heap.size, 0, none⟩) lB _).setCell (p := ⟨v4.heap.size, 1, none⟩) lB _)
              have hZ : Bx2 W9 (v4.heap.size) (.int .i64 m0) (.int .i64 m1) := by rw [hW9]; exact HX6.out.set _ _
              refine wpAnyH_ready (rs := [19]) (by kernel_rfl) (by simp) ?_
              refine AllReadyH.cons (o := _) rfl (fun K hK => ?_) AllReadyH.nil
              go_simp
              try rw [← hW9]
              clear hHeld
              refine hK.out _ _ (K2.out _ HB9.out) (fun hHeld => ?_)
              clear hK K
              try simp only [Act.put, List.setIfInBounds_toArray, List.set_cons_zero, List.set_cons_succ, List.getElem_toArray, List.getElem_cons_succ, List.getElem_cons_zero]
              refine wpAnyH_done (by kernel_rfl) ?_ _
              clear hHeld
              have z0 := hZ.c0
              have z1 := hZ.c1
              clear hW9 hZ r0 r1 rf0 rf1
              go_wp2_with fail
              go_ret
              exact ⟨rfl, HBA.out.trans ((HV.out.trans (HB9.out.mono HV.out.size)).mono HBA.out.size)⟩
          · go_simp
            have HVa := Lib.hid (show Below V.heap.size V (v3.alloc (.cells #[.int .i64 0, .int .i64 0] 23)) from Below.alloc HV3.out (Below.size HV3.out) _)
            have HXa := Lib.hid (show Bx2 (v3.alloc (.cells #[.int .i64 0, .int .i64 0] 23)) (v3.heap.size) (.int .i64 0) (.int .i64 0) from Bx2.new (v3) _ _)
            clear hHeld
            refine hK.out _ _ (K2.out _ HVa.out) (fun hHeld => ?_)
            clear hK K
            try simp only [Act.put, List.setIfInBounds_toArray, List.set_cons_zero, List.set_cons_succ, List.getElem_toArray, List.getElem_cons_succ, List.getElem_cons_zero]
            refine wpAnyH_ready (rs := [16]) (by kernel_rfl) (by simp) ?_
            refine AllReadyH.cons (o := _) rfl (fun K hK => ?_) AllReadyH.nil
            go_simp
            go_at_call 78
            refine Calls.mono (d78 _) ?_
            rintro e v4 ⟨rfl, hb⟩
            have HV4 := Lib.hid (show Below V.heap.size V v4 from Below.trans HVa.out (hb.mono (Below.size HVa.out)))
            have HX4 := Lib.hid (HXa.out.keep hb)
            clear hb
            clear hHeld
            refine hK.out _ _ (K2.out _ HV4.out) (fun hHeld => ?_)
            clear hK K
            try simp only [Act.put, List.setIfInBounds_toArray, List.set_cons_zero, List.set_cons_succ, List.getElem_toArray, List.getElem_cons_succ, List.getElem_cons_zero]
            refine wpAnyH_ready (rs := [17]) (by kernel_rfl) (by simp) ?_
            refine AllReadyH.cons (o := _) rfl (fun K hK => ?_) AllReadyH.nil
            go_simp
            go_at_call 108
            refine Calls.mono (c108 _) ?_
            rintro e v5 ⟨rfl, hb⟩
            have HV5 := Lib.hid (show Below V.heap.size V v5 from Below.trans HV4.out (hb.mono (Below.size HV4.out)))
            have HX5 := Lib.hid (HX4.out.keep hb)
            clear hb
            clear hHeld
            refine hK.out _ _ (K2.out _ HV5.out) (fun hHeld => ?_)
            clear hK K
            try simp only [Act.put, List.setIfInBounds_toArray, List.set_cons_zero, List.set_cons_succ, List.getElem_toArray, List.getElem_cons_succ, List.getElem_cons_zero]
            have hX6 := HX5.out
            have r0 := hX6.c0
            have r1 := hX6.c1
            have rf0 := hX6.f0 0
            have rf1 := hX6.f0 1
            have HX6 := Lib.hid hX6
            clear hX6
            have lB : V.heap.size ≤ v3.heap.size := HV3.out.size
            obtain ⟨W9, hW9⟩ : ∃ W9, W9 = (v5.setCell ⟨v3.heap.size, 0, none⟩ (.int .i64 m0)).setCell ⟨v3.heap.size, 1, none⟩ (.int .i64 m1) := ⟨_, rfl⟩
            have HB9 := Lib.hid (show Below V.heap.size V W9 by rw [hW9]; exact (HV5.out.setCell (p := ⟨v3.heap.size, 0, none⟩) lB _).setCell (p := ⟨v3.heap.size, 1, none⟩) lB _)
            have hZ : Bx2 W9 (v3.heap.size) (.int .i64 m0) (.int .i64 m1) := by rw [hW9]; exact HX6.out.set _ _
            refine wpAnyH_ready (rs := [19]) (by kernel_rfl) (by simp) ?_
            refine AllReadyH.cons (o := _) rfl (fun K hK => ?_) AllReadyH.nil
            go_simp
            try rw [← hW9]
            clear hHeld
            refine hK.out _ _ (K2.out _ HB9.out) (fun hHeld => ?_)
            clear hK K
            try simp only [Act.put, List.setIfInBounds_toArray, List.set_cons_zero, List.set_cons_succ, List.getElem_toArray, List.getElem_cons_succ, List.getElem_cons_zero]
            refine wpAnyH_done (by kernel_rfl) ?_ _
            clear hHeld
            have z0 := hZ.c0
            have z1 := hZ.c1
            clear hW9 hZ r0 r1 rf0 rf1
            go_wp2_with fail
            go_ret
            exact ⟨rfl, HBA.out.trans ((HV.out.trans (HB9.out.mono HV.out.size)).mono HBA.out.size)⟩
        · go_simp
          have HVa := Lib.hid (show Below V.heap.size V (v2.alloc (.cells #[.int .i64 0, .int .i64 0] 23)) from Below.alloc HV2.out (Below.size HV2.out) _)
          have HXa := Lib.hid (show Bx2 (v2.alloc (.cells #[.int .i64 0, .int .i64 0] 23)) (v2.heap.size) (.int .i64 0) (.int .i64 0) from Bx2.new (v2) _ _)
          clear hHeld
          refine hK.out _ _ (K2.out _ HVa.out) (fun hHeld => ?_)
          clear hK K
          try simp only [Act.put, List.setIfInBounds_toArray, List.set_cons_zero, List.set_cons_succ, List.getElem_toArray, List.getElem_cons_succ, List.getElem_cons_zero]
          refine wpAnyH_ready (rs := [12]) (by kernel_rfl) (by simp) ?_
          refine AllReadyH.cons (o := _) rfl (fun K hK => ?_) AllReadyH.nil
          go_simp
          go_at_call 133
          refine Calls.mono (c133 _) ?_
          rintro e v3 ⟨rfl, hb⟩
          have HV3 := Lib.hid (show Below V.heap.size V v3 from Below.trans HVa.out (hb.mono (Below.size HVa.out)))
          have HX3 := Lib.hid (HXa.out.keep hb)
          clear hb
          clear hHeld
          refine hK.out _ _ (K2.out _ HV3.out) (fun hHeld => ?_)
          clear hK K
          try simp only [Act.put, List.setIfInBounds_toArray, List.set_cons_zero, List.set_cons_succ, List.getElem_toArray, List.getElem_cons_succ, List.getElem_cons_zero]
          refine wpAnyH_ready (rs := [16]) (by kernel_rfl) (by simp) ?_
          refine AllReadyH.cons (o := _) rfl (fun K hK => ?_) AllReadyH.nil
          go_simp
          go_at_call 78
          refine Calls.mono (d78 _) ?_
          rintro e v4 ⟨rfl, hb⟩
          have HV4 := Lib.hid (show Below V.heap.size V v4 from Below.trans HV3.out (hb.mono (Below.size HV3.out)))
          have HX4 := Lib.hid (HX3.out.keep hb)
          clear hb
          clear hHeld
          refine hK.out _ _ (K2.out _ HV4.out) (fun hHeld => ?_)
          clear hK K
          try simp only [Act.put, List.setIfInBounds_toArray, List.set_cons_zero, List.set_cons_succ, List.getElem_toArray, List.getElem_cons_succ, List.getElem_cons_zero]
          refine wpAnyH_ready (rs := [17]) (by kernel_rfl) (by simp) ?_
          refine AllReadyH.cons (o := _) rfl (fun K hK => ?_) AllReadyH.nil
          go_simp
          go_at_call 108
          refine Calls.mono (c108 _) ?_
          rintro e v5 ⟨rfl, hb⟩
          have HV5 := Lib.hid (show Below V.heap.size V v5 from Below.trans HV4.out (hb.mono (Below.size HV4.out)))
          have HX5 := Lib.hid (HX4.out.keep hb)
          clear hb
          clear hHeld
          refine hK.out _ _ (K2.out _ HV5.out) (fun hHeld => ?_)
          clear hK K
          try simp only [Act.put, List.setIfInBounds_toArray, List.set_cons_zero, List.set_cons_succ, List.getElem_toArray, List.getElem_cons_succ, List.getElem_cons_zero]
          have hX6 := HX5.out
          have r0 := hX6.c0
          have r1 := hX6.c1
          have rf0 := hX6.f0 0
          have rf1 := hX6.f0 1
          have HX6 := Lib.hid hX6
          clear hX6
          have lB : V.heap.size ≤ v2.heap.size := HV2.out.size
          obtain ⟨W9, hW9⟩ : ∃ W9, W9 = (v5.setCell ⟨v2.heap.size, 0, none⟩ (.int .i64 m0)).setCell ⟨v2.heap.size, 1, none⟩ (.int .i64 m1) := ⟨_, rfl⟩
          have HB9 := Lib.hid (show Below V.heap.size V W9 by rw [hW9]; exact (HV5.out.setCell (p := ⟨v2.heap.size, 0, none⟩) lB _).setCell (p := ⟨v2.heap.size, 1, none⟩) lB _)
          have hZ : Bx2 W9 (v2.heap.size) (.int .i64 m0) (.int .i64 m1) := by rw [hW9]; exact HX6.out.set _ _
          refine wpAnyH_ready (rs := [19]) (by kernel_rfl) (by simp) ?_
          refine AllReadyH.cons (o := _) rfl (fun K hK => ?_) AllReadyH.nil
          go_simp
          try rw [← hW9]
          clear hHeld
          refine hK.out _ _ (K2.out _ HB9.out) (fun hHeld => ?_)
          clear hK K
          try simp only [Act.put, List.setIfInBounds_toArray, List.set_cons_zero, List.set_cons_succ, List.getElem_toArray, List.getElem_cons_succ, List.getElem_cons_zero]
          refine wpAnyH_done (by kernel_rfl) ?_ _
          clear hHeld
          have z0 := hZ.c0
          have z1 := hZ.c1
          clear hW9 hZ r0 r1 rf0 rf1
          go_wp2_with fail
          go_ret
          exact ⟨rfl, HBA.out.trans ((HV.out.trans (HB9.out.mono HV.out.size)).mono HBA.out.size)⟩
      · go_simp
        have HVa := Lib.hid (show Below V.heap.size V (v1.alloc (.cells #[.int .i64 0, .int .i64 0] 23)) from Below.alloc HV1.out (Below.size HV1.out) _)
        have HXa := Lib.hid (show Bx2 (v1.alloc (.cells #[.int .i64 0, .int .i64 0] 23)) (v1.heap.size) (.int .i64 0) (.int .i64 0) from Bx2.new (v1) _ _)
        clear hHeld
        refine hK.out _ _ (K2.out _ HVa.out) (fun hHeld => ?_)
        clear hK K
        try simp only [Act.put, List.setIfInBounds_toArray, List.set_cons_zero, List.set_cons_succ, List.getElem_toArray, List.getElem_cons_succ, List.getElem_cons_zero]
        refine wpAnyH_ready (rs := [11]) (by kernel_rfl) (by simp) ?_
        refine AllReadyH.cons (o := _) rfl (fun K hK => ?_) AllReadyH.nil
        go_simp
        go_at_call 55
        refine Calls.mono (c55 _) ?_
        rintro e v2 ⟨rfl, hw⟩
        have hb : Below (v1.alloc (.cells #[.int .i64 0, .int .i64 0] 23)).heap.size (v1.alloc (.cells #[.int .i64 0, .int .i64 0] 23)) v2 := by rw [hw]; exact Below.refl _ _
        clear hw
        have HV2 := Lib.hid (show Below V.heap.size V v2 from Below.trans HVa.out (hb.mono (Below.size HVa.out)))
        have HX2 := Lib.hid (HXa.out.keep hb)
        clear hb
        clear hHeld
        refine hK.out _ _ (K2.out _ HV2.out) (fun hHeld => ?_)
        clear hK K
        try simp only [Act.put, List.setIfInBounds_toArray, List.set_cons_zero, List.set_cons_succ, List.getElem_toArray, List.getElem_cons_succ, List.getElem_cons_zero]
        refine wpAnyH_ready (rs := [12]) (by kernel_rfl) (by simp) ?_
        refine AllReadyH.cons (o := _) rfl (fun K hK => ?_) AllReadyH.nil
        go_simp
        go_at_call 133
        refine Calls.mono (c133 _) ?_
        rintro e v3 ⟨rfl, hb⟩
        have HV3 := Lib.hid (show Below V.heap.size V v3 from Below.trans HV2.out (hb.mono (Below.size HV2.out)))
        have HX3 := Lib.hid (HX2.out.keep hb)
        clear hb
        clear hHeld
        refine hK.out _ _ (K2.out _ HV3.out) (fun hHeld => ?_)
        clear hK K
        try simp only [Act.put, List.setIfInBounds_toArray, List.set_cons_zero, List.set_cons_succ, List.getElem_toArray, List.getElem_cons_succ, List.getElem_cons_zero]
        refine wpAnyH_ready (rs := [16]) (by kernel_rfl) (by simp) ?_
        refine AllReadyH.cons (o := _) rfl (fun K hK => ?_) AllReadyH.nil
        go_simp
        go_at_call 78
        refine Calls.mono (d78 _) ?_
        rintro e v4 ⟨rfl, hb⟩
        have HV4 := Lib.hid (show Below V.heap.size V v4 from Below.trans HV3.out (hb.mono (Below.size HV3.out)))
        have HX4 := Lib.hid (HX3.out.keep hb)
        clear hb
        clear hHeld
        refine hK.out _ _ (K2.out _ HV4.out) (fun hHeld => ?_)
        clear hK K
        try simp only [Act.put, List.setIfInBounds_toArray, List.set_cons_zero, List.set_cons_succ, List.getElem_toArray, List.getElem_cons_succ, List.getElem_cons_zero]
        refine wpAnyH_ready (rs := [17]) (by kernel_rfl) (by simp) ?_
        refine AllReadyH.cons (o := _) rfl (fun K hK => ?_) AllReadyH.nil
        go_simp
        go_at_call 108
        refine Calls.mono (c108 _) ?_
        rintro e v5 ⟨rfl, hb⟩
        have HV5 := Lib.hid (show Below V.heap.size V v5 from Below.trans HV4.out (hb.mono (Below.size HV4.out)))
        have HX5 := Lib.hid (HX4.out.keep hb)
        clear hb
        clear hHeld
        refine hK.out _ _ (K2.out _ HV5.out) (fun hHeld => ?_)
        clear hK K
        try simp only [Act.put, List.setIfInBounds_toArray, List.set_cons_zero, List.set_cons_succ, List.getElem_toArray, List.getElem_cons_succ, List.getElem_cons_zero]
        have hX6 := HX5.out
        have r0 := hX6.c0
        have r1 := hX6.c1
        have rf0 := hX6.f0 0
        have rf1 := hX6.f0 1
        have HX6 := Lib.hid hX6
        clear hX6
        have lB : V.heap.size ≤ v1.heap.size := HV1.out.size
        obtain ⟨W9, hW9⟩ : ∃ W9, W9 = (v5.setCell ⟨v1.heap.size, 0, none⟩ (.int .i64 m0)).setCell ⟨v1.heap.size, 1, none⟩ (.int .i64 m1) := ⟨_, rfl⟩
        have HB9 := Lib.hid (show Below V.heap.size V W9 by rw [hW9]; exact (HV5.out.setCell (p := ⟨v1.heap.size, 0, none⟩) lB _).setCell (p := ⟨v1.heap.size, 1, none⟩) lB _)
        have hZ : Bx2 W9 (v1.heap.size) (.int .i64 m0) (.int .i64 m1) := by rw [hW9]; exact HX6.out.set _ _
        refine wpAnyH_ready (rs := [19]) (by kernel_rfl) (by simp) ?_
        refine AllReadyH.cons (o := _) rfl (fun K hK => ?_) AllReadyH.nil
        go_simp
        try rw [← hW9]
        clear hHeld
        refine hK.out _ _ (K2.out _ HB9.out) (fun hHeld => ?_)
        clear hK K
        try simp only [Act.put, List.setIfInBounds_toArray, List.set_cons_zero, List.set_cons_succ, List.getElem_toArray, List.getElem_cons_succ, List.getElem_cons_zero]
        refine wpAnyH_done (by kernel_rfl) ?_ _
        clear hHeld
        have z0 := hZ.c0
        have z1 := hZ.c1
        clear hW9 hZ r0 r1 rf0 rf1
        go_wp2_with fail
        go_ret
        exact ⟨rfl, HBA.out.trans ((HV.out.trans (HB9.out.mono HV.out.size)).mono HBA.out.size)⟩
    · go_simp
      have HVa := Lib.hid (show Below V.heap.size V (V.drew.alloc (.cells #[.int .i64 0, .int .i64 0] 23)) from Below.alloc (Below.drew (Below.refl V.heap.size V)) (Below.size (Below.drew (Below.refl V.heap.size V))) _)
      have HXa := Lib.hid (show Bx2 (V.drew.alloc (.cells #[.int .i64 0, .int .i64 0] 23)) (V.heap.size) (.int .i64 0) (.int .i64 0) from Bx2.new (V.drew) _ _)
      clear hHeld
      refine hK.out _ _ (K2.out _ HVa.out) (fun hHeld => ?_)
      clear hK K
      try simp only [Act.put, List.setIfInBounds_toArray, List.set_cons_zero, List.set_cons_succ, List.getElem_toArray, List.getElem_cons_succ, List.getElem_cons_zero]
      refine wpAnyH_ready (rs := [3]) (by kernel_rfl) (by simp) ?_
      refine AllReadyH.cons (o := _) rfl (fun K hK => ?_) AllReadyH.nil
      go_simp
      go_at_call 78
      refine Calls.mono (c78 _) ?_
      rintro e v1 ⟨rfl, hb⟩
      have HV1 := Lib.hid (show Below V.heap.size V v1 from Below.trans HVa.out (hb.mono (Below.size HVa.out)))
      have HX1 := Lib.hid (HXa.out.keep hb)
      clear hb
      clear hHeld
      refine hK.out _ _ (K2.out _ HV1.out) (fun hHeld => ?_)
      clear hK K
      try simp only [Act.put, List.setIfInBounds_toArray, List.set_cons_zero, List.set_cons_succ, List.getElem_toArray, List.getElem_cons_succ, List.getElem_cons_zero]
      refine wpAnyH_ready (rs := [11]) (by kernel_rfl) (by simp) ?_
      refine AllReadyH.cons (o := _) rfl (fun K hK => ?_) AllReadyH.nil
      go_simp
      go_at_call 55
      refine Calls.mono (c55 _) ?_
      rintro e v2 ⟨rfl, hw⟩
      have hb : Below (v1).heap.size (v1) v2 := by rw [hw]; exact Below.refl _ _
      clear hw
      have HV2 := Lib.hid (show Below V.heap.size V v2 from Below.trans HV1.out (hb.mono (Below.size HV1.out)))
      have HX2 := Lib.hid (HX1.out.keep hb)
      clear hb
      clear hHeld
      refine hK.out _ _ (K2.out _ HV2.out) (fun hHeld => ?_)
      clear hK K
      try simp only [Act.put, List.setIfInBounds_toArray, List.set_cons_zero, List.set_cons_succ, List.getElem_toArray, List.getElem_cons_succ, List.getElem_cons_zero]
      refine wpAnyH_ready (rs := [12]) (by kernel_rfl) (by simp) ?_
      refine AllReadyH.cons (o := _) rfl (fun K hK => ?_) AllReadyH.nil
      go_simp
      go_at_call 133
      refine Calls.mono (c133 _) ?_
      rintro e v3 ⟨rfl, hb⟩
      have HV3 := Lib.hid (show Below V.heap.size V v3 from Below.trans HV2.out (hb.mono (Below.size HV2.out)))
      have HX3 := Lib.hid (HX2.out.keep hb)
      clear hb
      clear hHeld
      refine hK.out _ _ (K2.out _ HV3.out) (fun hHeld => ?_)
      clear hK K
      try simp only [Act.put, List.setIfInBounds_toArray, List.set_cons_zero, List.set_cons_succ, List.getElem_toArray, List.getElem_cons_succ, List.getElem_cons_zero]
      refine wpAnyH_ready (rs := [16]) (by kernel_rfl) (by simp) ?_
      refine AllReadyH.cons (o := _) rfl (fun K hK => ?_) AllReadyH.nil
      go_simp
      go_at_call 78
      refine Calls.mono (d78 _) ?_
      rintro e v4 ⟨rfl, hb⟩
      have HV4 := Lib.hid (show Below V.heap.size V v4 from Below.trans HV3.out (hb.mono (Below.size HV3.out)))
      have HX4 := Lib.hid (HX3.out.keep hb)
      clear hb
      clear hHeld
      refine hK.out _ _ (K2.out _ HV4.out) (fun hHeld => ?_)
      clear hK K
      try simp only [Act.put, List.setIfInBounds_toArray, List.set_cons_zero, List.set_cons_succ, List.getElem_toArray, List.getElem_cons_succ, List.getElem_cons_zero]
      refine wpAnyH_ready (rs := [17]) (by kernel_rfl) (by simp) ?_
      refine AllReadyH.cons (o := _) rfl (fun K hK => ?_) AllReadyH.nil
      go_simp
      go_at_call 108
      refine Calls.mono (c108 _) ?_
      rintro e v5 ⟨rfl, hb⟩
      have HV5 := Lib.hid (show Below V.heap.size V v5 from Below.trans HV4.out (hb.mono (Below.size HV4.out)))
      have HX5 := Lib.hid (HX4.out.keep hb)
      clear hb
      clear hHeld
      refine hK.out _ _ (K2.out _ HV5.out) (fun hHeld => ?_)
      clear hK K
      try simp only [Act.put, List.setIfInBounds_toArray, List.set_cons_zero, List.set_cons_succ, List.getElem_toArray, List.getElem_cons_succ, List.getElem_cons_zero]
      have hX6 := HX5.out
      have r0 := hX6.c0
      have r1 := hX6.c1
      have rf0 := hX6.f0 0
      have rf1 := hX6.f0 1
      have HX6 := Lib.hid hX6
      clear hX6
      have lB : V.heap.size ≤ V.heap.size := Nat.le_refl _
      obtain ⟨W9, hW9⟩ : ∃ W9, W9 = (v5.setCell ⟨V.heap.size, 0, none⟩ (.int .i64 m0)).setCell ⟨V.heap.size, 1, none⟩ (.int .i64 m1) := ⟨_, rfl⟩
      have HB9 := Lib.hid (show Below V.heap.size V W9 by rw [hW9]; exact (HV5.out.setCell (p := ⟨V.heap.size, 0, none⟩) lB _).setCell (p := ⟨V.heap.size, 1, none⟩) lB _)
      have hZ : Bx2 W9 (V.heap.size) (.int .i64 m0) (.int .i64 m1) := by rw [hW9]; exact HX6.out.set _ _
      refine wpAnyH_ready (rs := [19]) (by kernel_rfl) (by simp) ?_
      refine AllReadyH.cons (o := _) rfl (fun K hK => ?_) AllReadyH.nil
      go_simp
      try rw [← hW9]
      clear hHeld
      refine hK.out _ _ (K2.out _ HB9.out) (fun hHeld => ?_)
      clear hK K
      try simp only [Act.put, List.setIfInBounds_toArray, List.set_cons_zero, List.set_cons_succ, List.getElem_toArray, List.getElem_cons_succ, List.getElem_cons_zero]
      refine wpAnyH_done (by kernel_rfl) ?_ _
      clear hHeld
      have z0 := hZ.c0
      have z1 := hZ.c1
      clear hW9 hZ r0 r1 rf0 rf1
      go_wp2_with fail
      go_ret
      exact ⟨rfl, HBA.out.trans ((HV.out.trans (HB9.out.mono HV.out.size)).mono HBA.out.size)⟩
  · go_simp
    clear hHeld
    refine hK.out _ _ (by have q := KK.out _ (((Below.refl A.heap.size A).alloc (by simp; try omega) (.cells #[.int .i64 0, .int .i64 0, .int .i64 0, .int .i64 0, .int .i64 0, .int .i64 0, .int .i64 0, .int .i64 0] 25))); simpa [go_sem] using q) (fun hHeld => ?_)
    clear hK K
    try simp only [Act.put, List.setIfInBounds_toArray, List.set_cons_zero, List.set_cons_succ, List.getElem_toArray, List.getElem_cons_succ, List.getElem_cons_zero]
    refine wpAnyH_ready (rs := [10]) (by kernel_rfl) (by simp) ?_
    refine AllReadyH.cons (o := _) rfl (fun K hK => ?_) AllReadyH.nil
    go_simp
    clear hHeld
    refine hK.out _ _ (by have q := KK.out _ ((((Below.refl A.heap.size A).alloc (by simp; try omega) (.cells #[.int .i64 0, .int .i64 0, .int .i64 0, .int .i64 0, .int .i64 0, .int .i64 0, .int .i64 0, .int .i64 0] 25)).alloc (by simp; try omega) (.cells #[.int .i64 0, .int .i64 0, .int .i64 0, .int .i64 0, .int .i64 0, .int .i64 0, .int .i64 0, .int .i64 0] 25))); simpa [go_sem] using q) (fun hHeld => ?_)
    clear hK K
    try simp only [Act.put, List.setIfInBounds_toArray, List.set_cons_zero, List.set_cons_succ, List.getElem_toArray, List.getElem_cons_succ, List.getElem_cons_zero]
    refine wpAnyH_ready (rs := [12]) (by kernel_rfl) (by simp) ?_
    refine AllReadyH.cons (o := _) rfl (fun K hK => ?_) AllReadyH.nil
    go_simp
    clear hHeld
    refine hK.out _ _ (by have q := KK.out _ ((((Below.refl A.heap.size A).alloc (by simp; try omega) (.cells #[.int .i64 0, .int .i64 0, .int .i64 0, .int .i64 0, .int .i64 0, .int .i64 0, .int .i64 0, .int .i64 0] 25)).alloc (by simp; try omega) (.cells #[.int .i64 x0, .int .i64 x1, .int .i64 x2, .int .i64 x3, .int .i64 x4, .int .i64 x5, .int .i64 x6, .int .i64 x7] 25))); simpa [go_sem] using q) (fun hHeld => ?_)
    clear hK K
    try simp only [Act.put, List.setIfInBounds_toArray, List.set_cons_zero, List.set_cons_succ, List.getElem_toArray, List.getElem_cons_succ, List.getElem_cons_zero]
    refine wpAnyH_ready (rs := [13]) (by kernel_rfl) (by simp) ?_
    refine AllReadyH.cons (o := _) rfl (fun K hK => ?_) AllReadyH.nil
    go_simp
    clear hHeld
    refine hK.out _ _ (by have q := KK.out _ ((((Below.refl A.heap.size A).alloc (by simp; try omega) (.cells #[.int .i64 y0, .int .i64 y1, .int .i64 y2, .int .i64 y3, .int .i64 y4, .int .i64 y5, .int .i64 y6, .int .i64 y7] 25)).alloc (by simp; try omega) (.cells #[.int .i64 x0, .int .i64 x1, .int .i64 x2, .int .i64 x3, .int .i64 x4, .int .i64 x5, .int .i64 x6, .int .i64 x7] 25))); simpa [go_sem] using q) (fun hHeld => ?_)
    clear hK K
    try simp only [Act.put, List.setIfInBounds_toArray, List.set_cons_zero, List.set_cons_succ, List.getElem_toArray, List.getElem_cons_succ, List.getElem_cons_zero]
    refine wpAnyH_done (by kernel_rfl) ?_ _
    clear hHeld
    have hV0 : Below A.heap.size A (((A.alloc (.cells #[.int .i64 y0, .int .i64 y1, .int .i64 y2, .int .i64 y3, .int .i64 y4, .int .i64 y5, .int .i64 y6, .int .i64 y7] 25)).alloc (.cells #[.int .i64 x0, .int .i64 x1, .int .i64 x2, .int .i64 x3, .int .i64 x4, .int .i64 x5, .int .i64 x6, .int .i64 x7] 25)).drew) := (((Below.refl A.heap.size A).alloc (by simp; try omega) (.cells #[.int .i64 y0, .int .i64 y1, .int .i64 y2, .int .i64 y3, .int .i64 y4, .int .i64 y5, .int .i64 y6, .int .i64 y7] 25)).alloc (by simp; try omega) (.cells #[.int .i64 x0, .int .i64 x1, .int .i64 x2, .int .i64 x3, .int .i64 x4, .int .i64 x5, .int .i64 x6, .int .i64 x7] 25)).drew
    have a0 : (((A.alloc (.cells #[.int .i64 y0, .int .i64 y1, .int .i64 y2, .int .i64 y3, .int .i64 y4, .int .i64 y5, .int .i64 y6, .int .i64 y7] 25)).alloc (.cells #[.int .i64 x0, .int .i64 x1, .int .i64 x2, .int .i64 x3, .int .i64 x4, .int .i64 x5, .int .i64 x6, .int .i64 x7] 25)).drew).cell? ⟨A.heap.size + 1, 0, none⟩ = some (.int .i64 x0) := by simp [go_sem]
    have a1 : (((A.alloc (.cells #[.int .i64 y0, .int .i64 y1, .int .i64 y2, .int .i64 y3, .int .i64 y4, .int .i64 y5, .int .i64 y6, .int .i64 y7] 25)).alloc (.cells #[.int .i64 x0, .int .i64 x1, .int .i64 x2, .int .i64 x3, .int .i64 x4, .int .i64 x5, .int .i64 x6, .int .i64 x7] 25)).drew).cell? ⟨A.heap.size + 1, 1, none⟩ = some (.int .i64 x1) := by simp [go_sem]
    have a2 : (((A.alloc (.cells #[.int .i64 y0, .int .i64 y1, .int .i64 y2, .int .i64 y3, .int .i64 y4, .int .i64 y5, .int .i64 y6, .int .i64 y7] 25)).alloc (.cells #[.int .i64 x0, .int .i64 x1, .int .i64 x2, .int .i64 x3, .int .i64 x4, .int .i64 x5, .int .i64 x6, .int .i64 x7] 25)).drew).cell? ⟨A.heap.size + 1, 2, none⟩ = some (.int .i64 x2) := by simp [go_sem]
    have a3 : (((A.alloc (.cells #[.int .i64 y0, .int .i64 y1, .int .i64 y2, .int .i64 y3, .int .i64 y4, .int .i64 y5, .int .i64 y6, .int .i64 y7] 25)).alloc (.cells #[.int .i64 x0, .int .i64 x1, .int .i64 x2, .int .i64 x3, .int .i64 x4, .int .i64 x5, .int .i64 x6, .int .i64 x7] 25)).drew).cell? ⟨A.heap.size + 1, 3, none⟩ = some (.int .i64 x3) := by simp [go_sem]
    have a4 : (((A.alloc (.cells #[.int .i64 y0, .int .i64 y1, .int .i64 y2, .int .i64 y3, .int .i64 y4, .int .i64 y5, .int .i64 y6, .int .i64 y7] 25)).alloc (.cells #[.int .i64 x0, .int .i64 x1, .int .i64 x2, .int .i64 x3, .int .i64 x4, .int .i64 x5, .int .i64 x6, .int .i64 x7] 25)).drew).cell? ⟨A.heap.size + 1, 4, none⟩ = some (.int .i64 x4) := by simp [go_sem]
    have a5 : (((A.alloc (.cells #[.int .i64 y0, .int .i64 y1, .int .i64 y2, .int .i64 y3, .int .i64 y4, .int .i64 y5, .int .i64 y6, .int .i64 y7] 25)).alloc (.cells #[.int .i64 x0, .int .i64 x1, .int .i64 x2, .int .i64 x3, .int .i64 x4, .int .i64 x5, .int .i64 x6, .int .i64 x7] 25)).drew).cell? ⟨A.heap.size + 1, 5, none⟩ = some (.int .i64 x5) := by simp [go_sem]
    have a6 : (((A.alloc (.cells #[.int .i64 y0, .int .i64 y1, .int .i64 y2, .int .i64 y3, .int .i64 y4, .int .i64 y5, .int .i64 y6, .int .i64 y7] 25)).alloc (.cells #[.int .i64 x0, .int .i64 x1, .int .i64 x2, .int .i64 x3, .int .i64 x4, .int .i64 x5, .int .i64 x6, .int .i64 x7] 25)).drew).cell? ⟨A.heap.size + 1, 6, none⟩ = some (.int .i64 x6) := by simp [go_sem]
    have a7 : (((A.alloc (.cells #[.int .i64 y0, .int .i64 y1, .int .i64 y2, .int .i64 y3, .int .i64 y4, .int .i64 y5, .int .i64 y6, .int .i64 y7] 25)).alloc (.cells #[.int .i64 x0, .int .i64 x1, .int .i64 x2, .int .i64 x3, .int .i64 x4, .int .i64 x5, .int .i64 x6, .int .i64 x7] 25)).drew).cell? ⟨A.heap.size + 1, 7, none⟩ = some (.int .i64 x7) := by simp [go_sem]
    have b0 : (((A.alloc (.cells #[.int .i64 y0, .int .i64 y1, .int .i64 y2, .int .i64 y3, .int .i64 y4, .int .i64 y5, .int .i64 y6, .int .i64 y7] 25)).alloc (.cells #[.int .i64 x0, .int .i64 x1, .int .i64 x2, .int .i64 x3, .int .i64 x4, .int .i64 x5, .int .i64 x6, .int .i64 x7] 25)).drew).cell? ⟨A.heap.size, 0, none⟩ = some (.int .i64 y0) := by simp [go_sem]
    have b1 : (((A.alloc (.cells #[.int .i64 y0, .int .i64 y1, .int .i64 y2, .int .i64 y3, .int .i64 y4, .int .i64 y5, .int .i64 y6, .int .i64 y7] 25)).alloc (.cells #[.int .i64 x0, .int .i64 x1, .int .i64 x2, .int .i64 x3, .int .i64 x4, .int .i64 x5, .int .i64 x6, .int .i64 x7] 25)).drew).cell? ⟨A.heap.size, 1, none⟩ = some (.int .i64 y1) := by simp [go_sem]
    have b2 : (((A.alloc (.cells #[.int .i64 y0, .int .i64 y1, .int .i64 y2, .int .i64 y3, .int .i64 y4, .int .i64 y5, .int .i64 y6, .int .i64 y7] 25)).alloc (.cells #[.int .i64 x0, .int .i64 x1, .int .i64 x2, .int .i64 x3, .int .i64 x4, .int .i64 x5, .int .i64 x6, .int .i64 x7] 25)).drew).cell? ⟨A.heap.size, 2, none⟩ = some (.int .i64 y2) := by simp [go_sem]
    have b3 : (((A.alloc (.cells #[.int .i64 y0, .int .i64 y1, .int .i64 y2, .int .i64 y3, .int .i64 y4, .int .i64 y5, .int .i64 y6, .int .i64 y7] 25)).alloc (.cells #[.int .i64 x0, .int .i64 x1, .int .i64 x2, .int .i64 x3, .int .i64 x4, .int .i64 x5, .int .i64 x6, .int .i64 x7] 25)).drew).cell? ⟨A.heap.size, 3, none⟩ = some (.int .i64 y3) := by simp [go_sem]
    have b4 : (((A.alloc (.cells #[.int .i64 y0, .int .i64 y1, .int .i64 y2, .int .i64 y3, .int .i64 y4, .int .i64 y5, .int .i64 y6, .int .i64 y7] 25)).alloc (.cells #[.int .i64 x0, .int .i64 x1, .int .i64 x2, .int .i64 x3, .int .i64 x4, .int .i64 x5, .int .i64 x6, .int .i64 x7] 25)).drew).cell? ⟨A.heap.size, 4, none⟩ = some (.int .i64 y4) := by simp [go_sem]
    have b5 : (((A.alloc (.cells #[.int .i64 y0, .int .i64 y1, .int .i64 y2, .int .i64 y3, .int .i64 y4, .int .i64 y5, .int .i64 y6, .int .i64 y7] 25)).alloc (.cells #[.int .i64 x0, .int .i64 x1, .int .i64 x2, .int .i64 x3, .int .i64 x4, .int .i64 x5, .int .i64 x6, .int .i64 x7] 25)).drew).cell? ⟨A.heap.size, 5, none⟩ = some (.int .i64 y5) := by simp [go_sem]
    have b6 : (((A.alloc (.cells #[.int .i64 y0, .int .i64 y1, .int .i64 y2, .int .i64 y3, .int .i64 y4, .int .i64 y5, .int .i64 y6, .int .i64 y7] 25)).alloc (.cells #[.int .i64 x0, .int .i64 x1, .int .i64 x2, .int .i64 x3, .int .i64 x4, .int .i64 x5, .int .i64 x6, .int .i64 x7] 25)).drew).cell? ⟨A.heap.size, 6, none⟩ = some (.int .i64 y6) := by simp [go_sem]
    have b7 : (((A.alloc (.cells #[.int .i64 y0, .int .i64 y1, .int .i64 y2, .int .i64 y3, .int .i64 y4, .int .i64 y5, .int .i64 y6, .int .i64 y7] 25)).alloc (.cells #[.int .i64 x0, .int .i64 x1, .int .i64 x2, .int .i64 x3, .int .i64 x4, .int .i64 x5, .int .i64 x6, .int .i64 x7] 25)).drew).cell? ⟨A.heap.size, 7, none⟩ = some (.int .i64 y7) := by simp [go_sem]
    generalize hV : (((A.alloc (.cells #[.int .i64 y0, .int .i64 y1, .int .i64 y2, .int .i64 y3, .int .i64 y4, .int .i64 y5, .int .i64 y6, .int .i64 y7] 25)).alloc (.cells #[.int .i64 x0, .int .i64 x1, .int .i64 x2, .int .i64 x3, .int .i64 x4, .int .i64 x5, .int .i64 x6, .int .i64 x7] 25)).drew) = V at *
    have l7 : A.heap.size + 1 < V.heap.size := World.block_lt_of_cell? V ⟨A.heap.size + 1, 0, none⟩ a0
    have l8 : A.heap.size < V.heap.size := World.block_lt_of_cell? V ⟨A.heap.size, 0, none⟩ b0
    have lA : A.heap.size ≤ V.heap.size := hV0.size
    have HV := Lib.hid hV0
    have HVE := Lib.hid hV
    clear hV hV0 k2 g0 h0 g1 h1 g2 h2 g3 h3 g4 h4 g5 h5 g6 h6 g7 h7
    have kr := KR.out _ HV.out
    go_wp2_with fail
    try rw [HVE.out]
    have K2 := Lib.hid (show ∀ W, Below V.heap.size V W → W.cell? ⟨A.heap.size + 1, 0, none⟩ = some (.int .i64 x0) ∧ W.cell? ⟨A.heap.size + 1, 1, none⟩ = some (.int .i64 x1) ∧ W.cell? ⟨A.heap.size + 1, 2, none⟩ = some (.int .i64 x2) ∧ W.cell? ⟨A.heap.size + 1, 3, none⟩ = some (.int .i64 x3) ∧ W.cell? ⟨A.heap.size + 1, 4, none⟩ = some (.int .i64 x4) ∧ W.cell? ⟨A.heap.size + 1, 5, none⟩ = some (.int .i64 x5) ∧ W.cell? ⟨A.heap.size + 1, 6, none⟩ = some (.int .i64 x6) ∧ W.cell? ⟨A.heap.size + 1, 7, none⟩ = some (.int .i64 x7) ∧ W.cell? ⟨A.heap.size, 0, none⟩ = some (.int .i64 y0) ∧ W.cell? ⟨A.heap.size, 1, none⟩ = some (.int .i64 y1) ∧ W.cell? ⟨A.heap.size, 2, none⟩ = some (.int .i64 y2) ∧ W.cell? ⟨A.heap.size, 3, none⟩ = some (.int .i64 y3) ∧ W.cell? ⟨A.heap.size, 4, none⟩ = some (.int .i64 y4) ∧ W.cell? ⟨A.heap.size, 5, none⟩ = some (.int .i64 y5) ∧ W.cell? ⟨A.heap.size, 6, none⟩ = some (.int .i64 y6) ∧ W.cell? ⟨A.heap.size, 7, none⟩ = some (.int .i64 y7) ∧ W.cell? ⟨w.heap.size, 1, none⟩ = some (.int .i64 r) from fun W h => ⟨(h.cell (p := ⟨A.heap.size + 1, 0, none⟩) (by show A.heap.size + 1 < V.heap.size; first | exact l7 | exact l8 | (have := HV.out.size; have := HZA.out; omega))).trans a0, (h.cell (p := ⟨A.heap.size + 1, 1, none⟩) (by show A.heap.size + 1 < V.heap.size; first | exact l7 | exact l8 | (have := HV.out.size; have := HZA.out; omega))).trans a1, (h.cell (p := ⟨A.heap.size + 1, 2, none⟩) (by show A.heap.size + 1 < V.heap.size; first | exact l7 | exact l8 | (have := HV.out.size; have := HZA.out; omega))).trans a2, (h.cell (p := ⟨A.heap.size + 1, 3, none⟩) (by show A.heap.size + 1 < V.heap.size; first | exact l7 | exact l8 | (have := HV.out.size; have := HZA.out; omega))).trans a3, (h.cell (p := ⟨A.heap.size + 1, 4, none⟩) (by show A.heap.size + 1 < V.heap.size; first | exact l7 | exact l8 | (have := HV.out.size; have := HZA.out; omega))).trans a4, (h.cell (p := ⟨A.heap.size + 1, 5, none⟩) (by show A.heap.size + 1 < V.heap.size; first | exact l7 | exact l8 | (have := HV.out.size; have := HZA.out; omega))).trans a5, (h.cell (p := ⟨A.heap.size + 1, 6, none⟩) (by show A.heap.size + 1 < V.heap.size; first | exact l7 | exact l8 | (have := HV.out.size; have := HZA.out; omega))).trans a6, (h.cell (p := ⟨A.heap.size + 1, 7, none⟩) (by show A.heap.size + 1 < V.heap.size; first | exact l7 | exact l8 | (have := HV.out.size; have := HZA.out; omega))).trans a7, (h.cell (p := ⟨A.heap.size, 0, none⟩) (by show A.heap.size < V.heap.size; first | exact l7 | exact l8 | (have := HV.out.size; have := HZA.out; omega))).trans b0, (h.cell (p := ⟨A.heap.size, 1, none⟩) (by show A.heap.size < V.heap.size; first | exact l7 | exact l8 | (have := HV.out.size; have := HZA.out; omega))).trans b1, (h.cell (p := ⟨A.heap.size, 2, none⟩) (by show A.heap.size < V.heap.size; first | exact l7 | exact l8 | (have := HV.out.size; have := HZA.out; omega))).trans b2, (h.cell (p := ⟨A.heap.size, 3, none⟩) (by show A.heap.size < V.heap.size; first | exact l7 | exact l8 | (have := HV.out.size; have := HZA.out; omega))).trans b3, (h.cell (p := ⟨A.heap.size, 4, none⟩) (by show A.heap.size < V.heap.size; first | exact l7 | exact l8 | (have := HV.out.size; have := HZA.out; omega))).trans b4, (h.cell (p := ⟨A.heap.size, 5, none⟩) (by show A.heap.size < V.heap.size; first | exact l7 | exact l8 | (have := HV.out.size; have := HZA.out; omega))).trans b5, (h.cell (p := ⟨A.heap.size, 6, none⟩) (by show A.heap.size < V.heap.size; first | exact l7 | exact l8 | (have := HV.out.size; have := HZA.out; omega))).trans b6, (h.cell (p := ⟨A.heap.size, 7, none⟩) (by show A.heap.size < V.heap.size; first | exact l7 | exact l8 | (have := HV.out.size; have := HZA.out; omega))).trans b7, (h.cell (p := ⟨w.heap.size, 1, none⟩) (by show w.heap.size < V.heap.size; first | exact l7 | exact l8 | (have := HV.out.size; have := HZA.out; omega))).trans kr⟩)
    refine wp_region_held_drew (S := fun w' => w'.cell? ⟨A.heap.size + 1, 0, none⟩ = some (.int .i64 x0) ∧ w'.cell? ⟨A.heap.size + 1, 1, none⟩ = some (.int .i64 x1) ∧ w'.cell? ⟨A.heap.size + 1, 2, none⟩ = some (.int .i64 x2) ∧ w'.cell? ⟨A.heap.size + 1, 3, none⟩ = some (.int .i64 x3) ∧ w'.cell? ⟨A.heap.size + 1, 4, none⟩ = some (.int .i64 x4) ∧ w'.cell? ⟨A.heap.size + 1, 5, none⟩ = some (.int .i64 x5) ∧ w'.cell? ⟨A.heap.size + 1, 6, none⟩ = some (.int .i64 x6) ∧ w'.cell? ⟨A.heap.size + 1, 7, none⟩ = some (.int .i64 x7) ∧ w'.cell? ⟨A.heap.size, 0, none⟩ = some (.int .i64 y0) ∧ w'.cell? ⟨A.heap.size, 1, none⟩ = some (.int .i64 y1) ∧ w'.cell? ⟨A.heap.size, 2, none⟩ = some (.int .i64 y2) ∧ w'.cell? ⟨A.heap.size, 3, none⟩ = some (.int .i64 y3) ∧ w'.cell? ⟨A.heap.size, 4, none⟩ = some (.int .i64 y4) ∧ w'.cell? ⟨A.heap.size, 5, none⟩ = some (.int .i64 y5) ∧ w'.cell? ⟨A.heap.size, 6, none⟩ = some (.int .i64 y6) ∧ w'.cell? ⟨A.heap.size, 7, none⟩ = some (.int .i64 y7) ∧ w'.cell? ⟨w.heap.size, 1, none⟩ = some (.int .i64 r)) (by kernel_rfl) ⟨by simpa [go_sem] using a0, by simpa [go_sem] using a1, by simpa [go_sem] using a2, by simpa [go_sem] using a3, by simpa [go_sem] using a4, by simpa [go_sem] using a5, by simpa [go_sem] using a6, by simpa [go_sem] using a7, by simpa [go_sem] using b0, by simpa [go_sem] using b1, by simpa [go_sem] using b2, by simpa [go_sem] using b3, by simpa [go_sem] using b4, by simpa [go_sem] using b5, by simpa [go_sem] using b6, by simpa [go_sem] using b7, by simpa [go_sem] using kr⟩ (fun hHeld => ?_)
    refine wpAnyH_take (i := 0) (oi := _) (v := Value.agg #[Value.int .i64 x0, Value.int .i64 x1, Value.int .i64 x2, Value.int .i64 x3, Value.int .i64 x4, Value.int .i64 x5, Value.int .i64 x6, Value.int .i64 x7]) rfl (by kernel_rfl) (by kernel_rfl) (by kernel_rfl) (fun _ _ _ h => h) (Or.inl ⟨by rfl, fun w' hSw => ?_⟩) hHeld ?_
    · obtain ⟨t0, t1, t2, t3, t4, t5, t6, t7, t8, t9, t10, t11, t12, t13, t14, t15, t16⟩ := hSw
      go_simp
      try simp [*]
      try (intro hh; exfalso; omega)
      try omega
    try simp only [Act.put, List.setIfInBounds_toArray, List.set_cons_zero, List.set_cons_succ, List.getElem_toArray, List.getElem_cons_succ, List.getElem_cons_zero]
    refine wpAnyH_take (i := 1) (oi := _) (v := Value.pointer (some ⟨w.heap.size, 1, none⟩)) rfl (by kernel_rfl) (by kernel_rfl) (by kernel_rfl) (fun _ _ _ h => h) (Or.inl ⟨by rfl, fun w' hSw => ?_⟩) hHeld ?_
    · obtain ⟨t0, t1, t2, t3, t4, t5, t6, t7, t8, t9, t10, t11, t12, t13, t14, t15, t16⟩ := hSw
      go_simp
      try simp [*]
      try (intro hh; exfalso; omega)
      try omega
    try simp only [Act.put, List.setIfInBounds_toArray, List.set_cons_zero, List.set_cons_succ, List.getElem_toArray, List.getElem_cons_succ, List.getElem_cons_zero]
    refine wpAnyH_take (i := 2) (oi := _) (v := Value.int .i64 r) rfl (by kernel_rfl) (by kernel_rfl) (by kernel_rfl) (fun _ _ _ h => h) (Or.inl ⟨by rfl, fun w' hSw => ?_⟩) hHeld ?_
    · obtain ⟨t0, t1, t2, t3, t4, t5, t6, t7, t8, t9, t10, t11, t12, t13, t14, t15, t16⟩ := hSw
      go_simp
      try simp [*]
      try (intro hh; exfalso; omega)
      try omega
    try simp only [Act.put, List.setIfInBounds_toArray, List.set_cons_zero, List.set_cons_succ, List.getElem_toArray, List.getElem_cons_succ, List.getElem_cons_zero]
    refine wpAnyH_take (i := 4) (oi := _) (v := Value.pointer (some ⟨w.heap.size, 1, none⟩)) rfl (by kernel_rfl) (by kernel_rfl) (by kernel_rfl) (fun _ _ _ h => h) (Or.inl ⟨by rfl, fun w' hSw => ?_⟩) hHeld ?_
    · obtain ⟨t0, t1, t2, t3, t4, t5, t6, t7, t8, t9, t10, t11, t12, t13, t14, t15, t16⟩ := hSw
      go_simp
      try simp [*]
      try (intro hh; exfalso; omega)
      try omega
    try simp only [Act.put, List.setIfInBounds_toArray, List.set_cons_zero, List.set_cons_succ, List.getElem_toArray, List.getElem_cons_succ, List.getElem_cons_zero]
    refine wpAnyH_take (i := 5) (oi := _) (v := Value.int .i64 r) rfl (by kernel_rfl) (by kernel_rfl) (by kernel_rfl) (fun _ _ _ h => h) (Or.inl ⟨by rfl, fun w' hSw => ?_⟩) hHeld ?_
    · obtain ⟨t0, t1, t2, t3, t4, t5, t6, t7, t8, t9, t10, t11, t12, t13, t14, t15, t16⟩ := hSw
      go_simp
      try simp [*]
      try (intro hh; exfalso; omega)
      try omega
    try simp only [Act.put, List.setIfInBounds_toArray, List.set_cons_zero, List.set_cons_succ, List.getElem_toArray, List.getElem_cons_succ, List.getElem_cons_zero]
    refine wpAnyH_take (i := 6) (oi := _) (v := Value.pointer (some ⟨A.heap.size + 1, 3, none⟩)) rfl (by kernel_rfl) (by kernel_rfl) (by kernel_rfl) (fun _ _ _ h => h) (Or.inl ⟨by rfl, fun w' hSw => ?_⟩) hHeld ?_
    · obtain ⟨t0, t1, t2, t3, t4, t5, t6, t7, t8, t9, t10, t11, t12, t13, t14, t15, t16⟩ := hSw
      go_simp
      try simp [*]
      try (intro hh; exfalso; omega)
      try omega
    try simp only [Act.put, List.setIfInBounds_toArray, List.set_cons_zero, List.set_cons_succ, List.getElem_toArray, List.getElem_cons_succ, List.getElem_cons_zero]
    refine wpAnyH_take (i := 7) (oi := _) (v := Value.int .i64 x3) rfl (by kernel_rfl) (by kernel_rfl) (by kernel_rfl) (fun _ _ _ h => h) (Or.inl ⟨by rfl, fun w' hSw => ?_⟩) hHeld ?_
    · obtain ⟨t0, t1, t2, t3, t4, t5, t6, t7, t8, t9, t10, t11, t12, t13, t14, t15, t16⟩ := hSw
      go_simp
      try simp [*]
      try (intro hh; exfalso; omega)
      try omega
    try simp only [Act.put, List.setIfInBounds_toArray, List.set_cons_zero, List.set_cons_succ, List.getElem_toArray, List.getElem_cons_succ, List.getElem_cons_zero]
    refine wpAnyH_take (i := 8) (oi := _) (v := Value.pointer (some ⟨A.heap.size, 3, none⟩)) rfl (by kernel_rfl) (by kernel_rfl) (by kernel_rfl) (fun _ _ _ h => h) (Or.inl ⟨by rfl, fun w' hSw => ?_⟩) hHeld ?_
    · obtain ⟨t0, t1, t2, t3, t4, t5, t6, t7, t8, t9, t10, t11, t12, t13, t14, t15, t16⟩ := hSw
      go_simp
      try simp [*]
      try (intro hh; exfalso; omega)
      try omega
    try simp only [Act.put, List.setIfInBounds_toArray, List.set_cons_zero, List.set_cons_succ, List.getElem_toArray, List.getElem_cons_succ, List.getElem_cons_zero]
    refine wpAnyH_take (i := 9) (oi := _) (v := Value.int .i64 y3) rfl (by kernel_rfl) (by kernel_rfl) (by kernel_rfl) (fun _ _ _ h => h) (Or.inl ⟨by rfl, fun w' hSw => ?_⟩) hHeld ?_
    · obtain ⟨t0, t1, t2, t3, t4, t5, t6, t7, t8, t9, t10, t11, t12, t13, t14, t15, t16⟩ := hSw
      go_simp
      try simp [*]
      try (intro hh; exfalso; omega)
      try omega
    try simp only [Act.put, List.setIfInBounds_toArray, List.set_cons_zero, List.set_cons_succ, List.getElem_toArray, List.getElem_cons_succ, List.getElem_cons_zero]
    refine wpAnyH_take (i := 10) (oi := _) (v := Value.int .i64 (x3 - y3)) rfl (by kernel_rfl) (by kernel_rfl) (by kernel_rfl) (fun _ _ _ h => h) (Or.inl ⟨by rfl, fun w' hSw => ?_⟩) hHeld ?_
    · obtain ⟨t0, t1, t2, t3, t4, t5, t6, t7, t8, t9, t10, t11, t12, t13, t14, t15, t16⟩ := hSw
      go_simp
      try simp [*]
      try (intro hh; exfalso; omega)
      try omega
    try simp only [Act.put, List.setIfInBounds_toArray, List.set_cons_zero, List.set_cons_succ, List.getElem_toArray, List.getElem_cons_succ, List.getElem_cons_zero]
    refine wpAnyH_take (i := 13) (oi := _) (v := Value.agg #[Value.int .i64 y0, Value.int .i64 y1, Value.int .i64 y2, Value.int .i64 y3, Value.int .i64 y4, Value.int .i64 y5, Value.int .i64 y6, Value.int .i64 y7]) rfl (by kernel_rfl) (by kernel_rfl) (by kernel_rfl) (fun _ _ _ h => h) (Or.inl ⟨by rfl, fun w' hSw => ?_⟩) hHeld ?_
    · obtain ⟨t0, t1, t2, t3, t4, t5, t6, t7, t8, t9, t10, t11, t12, t13, t14, t15, t16⟩ := hSw
      go_simp
      try simp [*]
      try (intro hh; exfalso; omega)
      try omega
    try simp only [Act.put, List.setIfInBounds_toArray, List.set_cons_zero, List.set_cons_succ, List.getElem_toArray, List.getElem_cons_succ, List.getElem_cons_zero]
    refine wpAnyH_take (i := 14) (oi := _) (v := Value.pointer (some ⟨w.heap.size, 1, none⟩)) rfl (by kernel_rfl) (by kernel_rfl) (by kernel_rfl) (fun _ _ _ h => h) (Or.inl ⟨by rfl, fun w' hSw => ?_⟩) hHeld ?_
    · obtain ⟨t0, t1, t2, t3, t4, t5, t6, t7, t8, t9, t10, t11, t12, t13, t14, t15, t16⟩ := hSw
      go_simp
      try simp [*]
      try (intro hh; exfalso; omega)
      try omega
    try simp only [Act.put, List.setIfInBounds_toArray, List.set_cons_zero, List.set_cons_succ, List.getElem_toArray, List.getElem_cons_succ, List.getElem_cons_zero]
    refine wpAnyH_take (i := 15) (oi := _) (v := Value.int .i64 r) rfl (by kernel_rfl) (by kernel_rfl) (by kernel_rfl) (fun _ _ _ h => h) (Or.inl ⟨by rfl, fun w' hSw => ?_⟩) hHeld ?_
    · obtain ⟨t0, t1, t2, t3, t4, t5, t6, t7, t8, t9, t10, t11, t12, t13, t14, t15, t16⟩ := hSw
      go_simp
      try simp [*]
      try (intro hh; exfalso; omega)
      try omega
    try simp only [Act.put, List.setIfInBounds_toArray, List.set_cons_zero, List.set_cons_succ, List.getElem_toArray, List.getElem_cons_succ, List.getElem_cons_zero]
    refine wpAnyH_ready (rs := [3, 18]) (by kernel_rfl) (by simp) ?_
    refine AllReadyH.cons (o := _) rfl (fun K hK => ?_) (AllReadyH.cons (o := _) rfl (fun K hK => ?_) (AllReadyH.nil))
    · go_simp
      go_at_call 78
      refine Calls.mono (c78 _) ?_
      rintro e v1 ⟨rfl, hb⟩
      have HV1 := Lib.hid (show Below V.heap.size V v1 from Below.trans (Below.drew (Below.refl V.heap.size V)) (hb.mono (Below.size (Below.drew (Below.refl V.heap.size V)))))
      clear hb
      clear hHeld
      refine hK.out _ _ (K2.out _ HV1.out) (fun hHeld => ?_)
      clear hK K
      try simp only [Act.put, List.setIfInBounds_toArray, List.set_cons_zero, List.set_cons_succ, List.getElem_toArray, List.getElem_cons_succ, List.getElem_cons_zero]
      refine wpAnyH_ready (rs := [11, 18]) (by kernel_rfl) (by simp) ?_
      refine AllReadyH.cons (o := _) rfl (fun K hK => ?_) (AllReadyH.cons (o := _) rfl (fun K hK => ?_) (AllReadyH.nil))
      · go_simp
        go_at_call 55
        refine Calls.mono (c55 _) ?_
        rintro e v2 ⟨rfl, hw⟩
        have hb : Below (v1).heap.size (v1) v2 := by rw [hw]; exact Below.refl _ _
        clear hw
        have HV2 := Lib.hid (show Below V.heap.size V v2 from Below.trans HV1.out (hb.mono (Below.size HV1.out)))
        clear hb
        clear hHeld
        refine hK.out _ _ (K2.out _ HV2.out) (fun hHeld => ?_)
        clear hK K
        try simp only [Act.put, List.setIfInBounds_toArray, List.set_cons_zero, List.set_cons_succ, List.getElem_toArray, List.getElem_cons_succ, List.getElem_cons_zero]
        refine wpAnyH_ready (rs := [12, 18]) (by kernel_rfl) (by simp) ?_
        refine AllReadyH.cons (o := _) rfl (fun K hK => ?_) (AllReadyH.cons (o := _) rfl (fun K hK => ?_) (AllReadyH.nil))
        · go_simp
          go_at_call 133
          refine Calls.mono (c133 _) ?_
          rintro e v3 ⟨rfl, hb⟩
          have HV3 := Lib.hid (show Below V.heap.size V v3 from Below.trans HV2.out (hb.mono (Below.size HV2.out)))
          clear hb
          clear hHeld
          refine hK.out _ _ (K2.out _ HV3.out) (fun hHeld => ?_)
          clear hK K
          try simp only [Act.put, List.setIfInBounds_toArray, List.set_cons_zero, List.set_cons_succ, List.getElem_toArray, List.getElem_cons_succ, List.getElem_cons_zero]
          refine wpAnyH_ready (rs := [16, 18]) (by kernel_rfl) (by simp) ?_
          refine AllReadyH.cons (o := _) rfl (fun K hK => ?_) (AllReadyH.cons (o := _) rfl (fun K hK => ?_) (AllReadyH.nil))
          · go_simp
            go_at_call 78
            refine Calls.mono (d78 _) ?_
            rintro e v4 ⟨rfl, hb⟩
            have HV4 := Lib.hid (show Below V.heap.size V v4 from Below.trans HV3.out (hb.mono (Below.size HV3.out)))
            clear hb
            clear hHeld
            refine hK.out _ _ (K2.out _ HV4.out) (fun hHeld => ?_)
            clear hK K
            try simp only [Act.put, List.setIfInBounds_toArray, List.set_cons_zero, List.set_cons_succ, List.getElem_toArray, List.getElem_cons_succ, List.getElem_cons_zero]
            refine wpAnyH_ready (rs := [17, 18]) (by kernel_rfl) (by simp) ?_
            refine AllReadyH.cons (o := _) rfl (fun K hK => ?_) (AllReadyH.cons (o := _) rfl (fun K hK => ?_) (AllReadyH.nil))
            · go_simp
              go_at_call 108
              refine Calls.mono (c108 _) ?_
              rintro e v5 ⟨rfl, hb⟩
              have HV5 := Lib.hid (show Below V.heap.size V v5 from Below.trans HV4.out (hb.mono (Below.size HV4.out)))
              clear hb
              clear hHeld
              refine hK.out _ _ (K2.out _ HV5.out) (fun hHeld => ?_)
              clear hK K
              try simp only [Act.put, List.setIfInBounds_toArray, List.set_cons_zero, List.set_cons_succ, List.getElem_toArray, List.getElem_cons_succ, List.getElem_cons_zero]
              refine wpAnyH_ready (rs := [18]) (by kernel_rfl) (by simp) ?_
              refine AllReadyH.cons (o := _) rfl (fun K hK => ?_) AllReadyH.nil
              go_simp
              have HVa := Lib.hid (show Below V.heap.size V (v5.alloc (.cells #[.int .i64 0, .int .i64 0] 23)) from Below.alloc HV5.out (Below.size HV5.out) _)
              have HXa := Lib.hid (show Bx2 (v5.alloc (.cells #[.int .i64 0, .int .i64 0] 23)) (v5.heap.size) (.int .i64 0) (.int .i64 0) from Bx2.new (v5) _ _)
              clear hHeld
              refine hK.out _ _ (K2.out _ HVa.out) (fun hHeld => ?_)
              clear hK K
              try simp only [Act.put, List.setIfInBounds_toArray, List.set_cons_zero, List.set_cons_succ, List.getElem_toArray, List.getElem_cons_succ, List.getElem_cons_zero]
              have hX6 := HXa.out
              have r0 := hX6.c0
              have r1 := hX6.c1
              have rf0 := hX6.f0 0
              have rf1 := hX6.f0 1
              have HX6 := Lib.hid hX6
              clear hX6
              have lB : V.heap.size ≤ v5.heap.size := HV5.out.size
              obtain ⟨W9, hW9⟩ : ∃ W9, W9 = v5.alloc (.cells #[.int .i64 m0, .int .i64 m1] 23) := ⟨_, rfl⟩
              have HB9 := Lib.hid (show Below V.heap.size V W9 by rw [hW9]; exact HV5.out.alloc HV5.out.size _)
              have hZ : Bx2 W9 (v5.heap.size) (.int .i64 m0) (.int .i64 m1) := by rw [hW9]; exact Bx2.new v5 _ _
              refine wpAnyH_ready (rs := [19]) (by kernel_rfl) (by simp) ?_
              refine AllReadyH.cons (o := _) rfl (fun K hK => ?_) AllReadyH.nil
              go_simp
              try rw [← hW9]
              clear hHeld
              refine hK.out _ _ (K2.out _ HB9.out) (fun hHeld => ?_)
              clear hK K
              try simp only [Act.put, List.setIfInBounds_toArray, List.set_cons_zero, List.set_cons_succ, List.getElem_toArray, List.getElem_cons_succ, List.getElem_cons_zero]
              refine wpAnyH_done (by kernel_rfl) ?_ _
              clear hHeld
              have z0 := hZ.c0
              have z1 := hZ.c1
              clear hW9 hZ r0 r1 rf0 rf1
              go_wp2_with fail
              go_ret
              exact ⟨rfl, HBA.out.trans ((HV.out.trans (HB9.out.mono HV.out.size)).mono HBA.out.size)⟩
            · go_simp
              have HVa := Lib.hid (show Below V.heap.size V (v4.alloc (.cells #[.int .i64 0, .int .i64 0] 23)) from Below.alloc HV4.out (Below.size HV4.out) _)
              have HXa := Lib.hid (show Bx2 (v4.alloc (.cells #[.int .i64 0, .int .i64 0] 23)) (v4.heap.size) (.int .i64 0) (.int .i64 0) from Bx2.new (v4) _ _)
              clear hHeld
              refine hK.out _ _ (K2.out _ HVa.out) (fun hHeld => ?_)
              clear hK K
              try simp only [Act.put, List.setIfInBounds_toArray, List.set_cons_zero, List.set_cons_succ, List.getElem_toArray, List.getElem_cons_succ, List.getElem_cons_zero]
              refine wpAnyH_ready (rs := [17]) (by kernel_rfl) (by simp) ?_
              refine AllReadyH.cons (o := _) rfl (fun K hK => ?_) AllReadyH.nil
              go_simp
              go_at_call 108
              refine Calls.mono (c108 _) ?_
              rintro e v5 ⟨rfl, hb⟩
              have HV5 := Lib.hid (show Below V.heap.size V v5 from Below.trans HVa.out (hb.mono (Below.size HVa.out)))
              have HX5 := Lib.hid (HXa.out.keep hb)
              clear hb
              clear hHeld
              refine hK.out _ _ (K2.out _ HV5.out) (fun hHeld => ?_)
              clear hK K
              try simp only [Act.put, List.setIfInBounds_toArray, List.set_cons_zero, List.set_cons_succ, List.getElem_toArray, List.getElem_cons_succ, List.getElem_cons_zero]
              have hX6 := HX5.out
              have r0 := hX6.c0
              have r1 := hX6.c1
              have rf0 := hX6.f0 0
              have rf1 := hX6.f0 1
              have HX6 := Lib.hid hX6
              clear hX6
              have lB : V.heap.size ≤ v4.heap.size := HV4.out.size
              obtain ⟨W9, hW9⟩ : ∃ W9, W9 = (v5.setCell ⟨v4.heap.size, 0, none⟩ (.int .i64 m0)).setCell ⟨v4.heap.size, 1, none⟩ (.int .i64 m1) := ⟨_, rfl⟩
              have HB9 := Lib.hid (show Below V.heap.size V W9 by rw [hW9]; exact (HV5.out.setCell (p := ⟨v4.heap.size, 0, none⟩) lB _).setCell (p := ⟨v4.heap.size, 1, none⟩) lB _)
              have hZ : Bx2 W9 (v4.heap.size) (.int .i64 m0) (.int .i64 m1) := by rw [hW9]; exact HX6.out.set _ _
              refine wpAnyH_ready (rs := [19]) (by kernel_rfl) (by simp) ?_
              refine AllReadyH.cons (o := _) rfl (fun K hK => ?_) AllReadyH.nil
              go_simp
              try rw [← hW9]
              clear hHeld
              refine hK.out _ _ (K2.out _ HB9.out) (fun hHeld => ?_)
              clear hK K
              try simp only [Act.put, List.setIfInBounds_toArray, List.set_cons_zero, List.set_cons_succ, List.getElem_toArray, List.getElem_cons_succ, List.getElem_cons_zero]
              refine wpAnyH_done (by kernel_rfl) ?_ _
              clear hHeld
              have z0 := hZ.c0
              have z1 := hZ.c1
              clear hW9 hZ r0 r1 rf0 rf1
              go_wp2_with fail
              go_ret
              exact ⟨rfl, HBA.out.trans ((HV.out.trans (HB9.out.mono HV.out.size)).mono HBA.out.size)⟩
          · go_simp
            have HVa := Lib.hid (show Below V.heap.size V (v3.alloc (.cells #[.int .i64 0, .int .i64 0] 23)) from Below.alloc HV3.out (Below.size HV3.out) _)
            have HXa := Lib.hid (show Bx2 (v3.alloc (.cells #[.int .i64 0, .int .i64 0] 23)) (v3.heap.size) (.int .i64 0) (.int .i64 0) from Bx2.new (v3) _ _)
            clear hHeld
            refine hK.out _ _ (K2.out _ HVa.out) (fun hHeld => ?_)
            clear hK K
            try simp only [Act.put, List.setIfInBounds_toArray, List.set_cons_zero, List.set_cons_succ, List.getElem_toArray, List.getElem_cons_succ, List.getElem_cons_zero]
            refine wpAnyH_ready (rs := [16]) (by kernel_rfl) (by simp) ?_
            refine AllReadyH.cons (o := _) rfl (fun K hK => ?_) AllReadyH.nil
            go_simp
            go_at_call 78
            refine Calls.mono (d78 _) ?_
            rintro e v4 ⟨rfl, hb⟩
            have HV4 := Lib.hid (show Below V.heap.size V v4 from Below.trans HVa.out (hb.mono (Below.size HVa.out)))
            have HX4 := Lib.hid (HXa.out.keep hb)
            clear hb
            clear hHeld
            refine hK.out _ _ (K2.out _ HV4.out) (fun hHeld => ?_)
            clear hK K
            try simp only [Act.put, List.setIfInBounds_toArray, List.set_cons_zero, List.set_cons_succ, List.getElem_toArray, List.getElem_cons_succ, List.getElem_cons_zero]
            refine wpAnyH_ready (rs := [17]) (by kernel_rfl) (by simp) ?_
            refine AllReadyH.cons (o := _) rfl (fun K hK => ?_) AllReadyH.nil
            go_simp
            go_at_call 108
            refine Calls.mono (c108 _) ?_
            rintro e v5 ⟨rfl, hb⟩
            have HV5 := Lib.hid (show Below V.heap.size V v5 from Below.trans HV4.out (hb.mono (Below.size HV4.out)))
            have HX5 := Lib.hid (HX4.out.keep hb)
            clear hb
            clear hHeld
            refine hK.out _ _ (K2.out _ HV5.out) (fun hHeld => ?_)
            clear hK K
            try simp only [Act.put, List.setIfInBounds_toArray, List.set_cons_zero, List.set_cons_succ, List.getElem_toArray, List.getElem_cons_succ, List.getElem_cons_zero]
            have hX6 := HX5.out
            have r0 := hX6.c0
            have r1 := hX6.c1
            have rf0 := hX6.f0 0
            have rf1 := hX6.f0 1
            have HX6 := Lib.hid hX6
            clear hX6
            have lB : V.heap.size ≤ v3.heap.size := HV3.out.size
            obtain ⟨W9, hW9⟩ : ∃ W9, W9 = (v5.setCell ⟨v3.heap.size, 0, none⟩ (.int .i64 m0)).setCell ⟨v3.heap.size, 1, none⟩ (.int .i64 m1) := ⟨_, rfl⟩
            have HB9 := Lib.hid (show Below V.heap.size V W9 by rw [hW9]; exact (HV5.out.setCell (p := ⟨v3.heap.size, 0, none⟩) lB _).setCell (p := ⟨v3.heap.size, 1, none⟩) lB _)
            have hZ : Bx2 W9 (v3.heap.size) (.int .i64 m0) (.int .i64 m1) := by rw [hW9]; exact HX6.out.set _ _
            refine wpAnyH_ready (rs := [19]) (by kernel_rfl) (by simp) ?_
            refine AllReadyH.cons (o := _) rfl (fun K hK => ?_) AllReadyH.nil
            go_simp
            try rw [← hW9]
            clear hHeld
            refine hK.out _ _ (K2.out _ HB9.out) (fun hHeld => ?_)
            clear hK K
            try simp only [Act.put, List.setIfInBounds_toArray, List.set_cons_zero, List.set_cons_succ, List.getElem_toArray, List.getElem_cons_succ, List.getElem_cons_zero]
            refine wpAnyH_done (by kernel_rfl) ?_ _
            clear hHeld
            have z0 := hZ.c0
            have z1 := hZ.c1
            clear hW9 hZ r0 r1 rf0 rf1
            go_wp2_with fail
            go_ret
            exact ⟨rfl, HBA.out.trans ((HV.out.trans (HB9.out.mono HV.out.size)).mono HBA.out.size)⟩
        · go_simp
          have HVa := Lib.hid (show Below V.heap.size V (v2.alloc (.cells #[.int .i64 0, .int .i64 0] 23)) from Below.alloc HV2.out (Below.size HV2.out) _)
          have HXa := Lib.hid (show Bx2 (v2.alloc (.cells #[.int .i64 0, .int .i64 0] 23)) (v2.heap.size) (.int .i64 0) (.int .i64 0) from Bx2.new (v2) _ _)
          clear hHeld
          refine hK.out _ _ (K2.out _ HVa.out) (fun hHeld => ?_)
          clear hK K
          try simp only [Act.put, List.setIfInBounds_toArray, List.set_cons_zero, List.set_cons_succ, List.getElem_toArray, List.getElem_cons_succ, List.getElem_cons_zero]
          refine wpAnyH_ready (rs := [12]) (by kernel_rfl) (by simp) ?_
          refine AllReadyH.cons (o := _) rfl (fun K hK => ?_) AllReadyH.nil
          go_simp
          go_at_call 133
          refine Calls.mono (c133 _) ?_
          rintro e v3 ⟨rfl, hb⟩
          have HV3 := Lib.hid (show Below V.heap.size V v3 from Below.trans HVa.out (hb.mono (Below.size HVa.out)))
          have HX3 := Lib.hid (HXa.out.keep hb)
          clear hb
          clear hHeld
          refine hK.out _ _ (K2.out _ HV3.out) (fun hHeld => ?_)
          clear hK K
          try simp only [Act.put, List.setIfInBounds_toArray, List.set_cons_zero, List.set_cons_succ, List.getElem_toArray, List.getElem_cons_succ, List.getElem_cons_zero]
          refine wpAnyH_ready (rs := [16]) (by kernel_rfl) (by simp) ?_
          refine AllReadyH.cons (o := _) rfl (fun K hK => ?_) AllReadyH.nil
          go_simp
          go_at_call 78
          refine Calls.mono (d78 _) ?_
          rintro e v4 ⟨rfl, hb⟩
          have HV4 := Lib.hid (show Below V.heap.size V v4 from Below.trans HV3.out (hb.mono (Below.size HV3.out)))
          have HX4 := Lib.hid (HX3.out.keep hb)
          clear hb
          clear hHeld
          refine hK.out _ _ (K2.out _ HV4.out) (fun hHeld => ?_)
          clear hK K
          try simp only [Act.put, List.setIfInBounds_toArray, List.set_cons_zero, List.set_cons_succ, List.getElem_toArray, List.getElem_cons_succ, List.getElem_cons_zero]
          refine wpAnyH_ready (rs := [17]) (by kernel_rfl) (by simp) ?_
          refine AllReadyH.cons (o := _) rfl (fun K hK => ?_) AllReadyH.nil
          go_simp
          go_at_call 108
          refine Calls.mono (c108 _) ?_
          rintro e v5 ⟨rfl, hb⟩
          have HV5 := Lib.hid (show Below V.heap.size V v5 from Below.trans HV4.out (hb.mono (Below.size HV4.out)))
          have HX5 := Lib.hid (HX4.out.keep hb)
          clear hb
          clear hHeld
          refine hK.out _ _ (K2.out _ HV5.out) (fun hHeld => ?_)
          clear hK K
          try simp only [Act.put, List.setIfInBounds_toArray, List.set_cons_zero, List.set_cons_succ, List.getElem_toArray, List.getElem_cons_succ, List.getElem_cons_zero]
          have hX6 := HX5.out
          have r0 := hX6.c0
          have r1 := hX6.c1
          have rf0 := hX6.f0 0
          have rf1 := hX6.f0 1
          have HX6 := Lib.hid hX6
          clear hX6
          have lB : V.heap.size ≤ v2.heap.size := HV2.out.size
          obtain ⟨W9, hW9⟩ : ∃ W9, W9 = (v5.setCell ⟨v2.heap.size, 0, none⟩ (.int .i64 m0)).setCell ⟨v2.heap.size, 1, none⟩ (.int .i64 m1) := ⟨_, rfl⟩
          have HB9 := Lib.hid (show Below V.heap.size V W9 by rw [hW9]; exact (HV5.out.setCell (p := ⟨v2.heap.size, 0, none⟩) lB _).setCell (p := ⟨v2.heap.size, 1, none⟩) lB _)
          have hZ : Bx2 W9 (v2.heap.size) (.int .i64 m0) (.int .i64 m1) := by rw [hW9]; exact HX6.out.set _ _
          refine wpAnyH_ready (rs := [19]) (by kernel_rfl) (by simp) ?_
          refine AllReadyH.cons (o := _) rfl (fun K hK => ?_) AllReadyH.nil
          go_simp
          try rw [← hW9]
          clear hHeld
          refine hK.out _ _ (K2.out _ HB9.out) (fun hHeld => ?_)
          clear hK K
          try simp only [Act.put, List.setIfInBounds_toArray, List.set_cons_zero, List.set_cons_succ, List.getElem_toArray, List.getElem_cons_succ, List.getElem_cons_zero]
          refine wpAnyH_done (by kernel_rfl) ?_ _
          clear hHeld
          have z0 := hZ.c0
          have z1 := hZ.c1
          clear hW9 hZ r0 r1 rf0 rf1
          go_wp2_with fail
          go_ret
          exact ⟨rfl, HBA.out.trans ((HV.out.trans (HB9.out.mono HV.out.size)).mono HBA.out.size)⟩
      · go_simp
        have HVa := Lib.hid (show Below V.heap.size V (v1.alloc (.cells #[.int .i64 0, .int .i64 0] 23)) from Below.alloc HV1.out (Below.size HV1.out) _)
        have HXa := Lib.hid (show Bx2 (v1.alloc (.cells #[.int .i64 0, .int .i64 0] 23)) (v1.heap.size) (.int .i64 0) (.int .i64 0) from Bx2.new (v1) _ _)
        clear hHeld
        refine hK.out _ _ (K2.out _ HVa.out) (fun hHeld => ?_)
        clear hK K
        try simp only [Act.put, List.setIfInBounds_toArray, List.set_cons_zero, List.set_cons_succ, List.getElem_toArray, List.getElem_cons_succ, List.getElem_cons_zero]
        refine wpAnyH_ready (rs := [11]) (by kernel_rfl) (by simp) ?_
        refine AllReadyH.cons (o := _) rfl (fun K hK => ?_) AllReadyH.nil
        go_simp
        go_at_call 55
        refine Calls.mono (c55 _) ?_
        rintro e v2 ⟨rfl, hw⟩
        have hb : Below (v1.alloc (.cells #[.int .i64 0, .int .i64 0] 23)).heap.size (v1.alloc (.cells #[.int .i64 0, .int .i64 0] 23)) v2 := by rw [hw]; exact Below.refl _ _
        clear hw
        have HV2 := Lib.hid (show Below V.heap.size V v2 from Below.trans HVa.out (hb.mono (Below.size HVa.out)))
        have HX2 := Lib.hid (HXa.out.keep hb)
        clear hb
        clear hHeld
        refine hK.out _ _ (K2.out _ HV2.out) (fun hHeld => ?_)
        clear hK K
        try simp only [Act.put, List.setIfInBounds_toArray, List.set_cons_zero, List.set_cons_succ, List.getElem_toArray, List.getElem_cons_succ, List.getElem_cons_zero]
        refine wpAnyH_ready (rs := [12]) (by kernel_rfl) (by simp) ?_
        refine AllReadyH.cons (o := _) rfl (fun K hK => ?_) AllReadyH.nil
        go_simp
        go_at_call 133
        refine Calls.mono (c133 _) ?_
        rintro e v3 ⟨rfl, hb⟩
        have HV3 := Lib.hid (show Below V.heap.size V v3 from Below.trans HV2.out (hb.mono (Below.size HV2.out)))
        have HX3 := Lib.hid (HX2.out.keep hb)
        clear hb
        clear hHeld
        refine hK.out _ _ (K2.out _ HV3.out) (fun hHeld => ?_)
        clear hK K
        try simp only [Act.put, List.setIfInBounds_toArray, List.set_cons_zero, List.set_cons_succ, List.getElem_toArray, List.getElem_cons_succ, List.getElem_cons_zero]
        refine wpAnyH_ready (rs := [16]) (by kernel_rfl) (by simp) ?_
        refine AllReadyH.cons (o := _) rfl (fun K hK => ?_) AllReadyH.nil
        go_simp
        go_at_call 78
        refine Calls.mono (d78 _) ?_
        rintro e v4 ⟨rfl, hb⟩
        have HV4 := Lib.hid (show Below V.heap.size V v4 from Below.trans HV3.out (hb.mono (Below.size HV3.out)))
        have HX4 := Lib.hid (HX3.out.keep hb)
        clear hb
        clear hHeld
        refine hK.out _ _ (K2.out _ HV4.out) (fun hHeld => ?_)
        clear hK K
        try simp only [Act.put, List.setIfInBounds_toArray, List.set_cons_zero, List.set_cons_succ, List.getElem_toArray, List.getElem_cons_succ, List.getElem_cons_zero]
        refine wpAnyH_ready (rs := [17]) (by kernel_rfl) (by simp) ?_
        refine AllReadyH.cons (o := _) rfl (fun K hK => ?_) AllReadyH.nil
        go_simp
        go_at_call 108
        refine Calls.mono (c108 _) ?_
        rintro e v5 ⟨rfl, hb⟩
        have HV5 := Lib.hid (show Below V.heap.size V v5 from Below.trans HV4.out (hb.mono (Below.size HV4.out)))
        have HX5 := Lib.hid (HX4.out.keep hb)
        clear hb
        clear hHeld
        refine hK.out _ _ (K2.out _ HV5.out) (fun hHeld => ?_)
        clear hK K
        try simp only [Act.put, List.setIfInBounds_toArray, List.set_cons_zero, List.set_cons_succ, List.getElem_toArray, List.getElem_cons_succ, List.getElem_cons_zero]
        have hX6 := HX5.out
        have r0 := hX6.c0
        have r1 := hX6.c1
        have rf0 := hX6.f0 0
        have rf1 := hX6.f0 1
        have HX6 := Lib.hid hX6
        clear hX6
        have lB : V.heap.size ≤ v1.heap.size := HV1.out.size
        obtain ⟨W9, hW9⟩ : ∃ W9, W9 = (v5.setCell ⟨v1.heap.size, 0, none⟩ (.int .i64 m0)).setCell ⟨v1.heap.size, 1, none⟩ (.int .i64 m1) := ⟨_, rfl⟩
        have HB9 := Lib.hid (show Below V.heap.size V W9 by rw [hW9]; exact (HV5.out.setCell (p := ⟨v1.heap.size, 0, none⟩) lB _).setCell (p := ⟨v1.heap.size, 1, none⟩) lB _)
        have hZ : Bx2 W9 (v1.heap.size) (.int .i64 m0) (.int .i64 m1) := by rw [hW9]; exact HX6.out.set _ _
        refine wpAnyH_ready (rs := [19]) (by kernel_rfl) (by simp) ?_
        refine AllReadyH.cons (o := _) rfl (fun K hK => ?_) AllReadyH.nil
        go_simp
        try rw [← hW9]
        clear hHeld
        refine hK.out _ _ (K2.out _ HB9.out) (fun hHeld => ?_)
        clear hK K
        try simp only [Act.put, List.setIfInBounds_toArray, List.set_cons_zero, List.set_cons_succ, List.getElem_toArray, List.getElem_cons_succ, List.getElem_cons_zero]
        refine wpAnyH_done (by kernel_rfl) ?_ _
        clear hHeld
        have z0 := hZ.c0
        have z1 := hZ.c1
        clear hW9 hZ r0 r1 rf0 rf1
        go_wp2_with fail
        go_ret
        exact ⟨rfl, HBA.out.trans ((HV.out.trans (HB9.out.mono HV.out.size)).mono HBA.out.size)⟩
    · go_simp
      have HVa := Lib.hid (show Below V.heap.size V (V.drew.alloc (.cells #[.int .i64 0, .int .i64 0] 23)) from Below.alloc (Below.drew (Below.refl V.heap.size V)) (Below.size (Below.drew (Below.refl V.heap.size V))) _)
      have HXa := Lib.hid (show Bx2 (V.drew.alloc (.cells #[.int .i64 0, .int .i64 0] 23)) (V.heap.size) (.int .i64 0) (.int .i64 0) from Bx2.new (V.drew) _ _)
      clear hHeld
      refine hK.out _ _ (K2.out _ HVa.out) (fun hHeld => ?_)
      clear hK K
      try simp only [Act.put, List.setIfInBounds_toArray, List.set_cons_zero, List.set_cons_succ, List.getElem_toArray, List.getElem_cons_succ, List.getElem_cons_zero]
      refine wpAnyH_ready (rs := [3]) (by kernel_rfl) (by simp) ?_
      refine AllReadyH.cons (o := _) rfl (fun K hK => ?_) AllReadyH.nil
      go_simp
      go_at_call 78
      refine Calls.mono (c78 _) ?_
      rintro e v1 ⟨rfl, hb⟩
      have HV1 := Lib.hid (show Below V.heap.size V v1 from Below.trans HVa.out (hb.mono (Below.size HVa.out)))
      have HX1 := Lib.hid (HXa.out.keep hb)
      clear hb
      clear hHeld
      refine hK.out _ _ (K2.out _ HV1.out) (fun hHeld => ?_)
      clear hK K
      try simp only [Act.put, List.setIfInBounds_toArray, List.set_cons_zero, List.set_cons_succ, List.getElem_toArray, List.getElem_cons_succ, List.getElem_cons_zero]
      refine wpAnyH_ready (rs := [11]) (by kernel_rfl) (by simp) ?_
      refine AllReadyH.cons (o := _) rfl (fun K hK => ?_) AllReadyH.nil
      go_simp
      go_at_call 55
      refine Calls.mono (c55 _) ?_
      rintro e v2 ⟨rfl, hw⟩
      have hb : Below (v1).heap.size (v1) v2 := by rw [hw]; exact Below.refl _ _
      clear hw
      have HV2 := Lib.hid (show Below V.heap.size V v2 from Below.trans HV1.out (hb.mono (Below.size HV1.out)))
      have HX2 := Lib.hid (HX1.out.keep hb)
      clear hb
      clear hHeld
      refine hK.out _ _ (K2.out _ HV2.out) (fun hHeld => ?_)
      clear hK K
      try simp only [Act.put, List.setIfInBounds_toArray, List.set_cons_zero, List.set_cons_succ, List.getElem_toArray, List.getElem_cons_succ, List.getElem_cons_zero]
      refine wpAnyH_ready (rs := [12]) (by kernel_rfl) (by simp) ?_
      refine AllReadyH.cons (o := _) rfl (fun K hK => ?_) AllReadyH.nil
      go_simp
      go_at_call 133
      refine Calls.mono (c133 _) ?_
      rintro e v3 ⟨rfl, hb⟩
      have HV3 := Lib.hid (show Below V.heap.size V v3 from Below.trans HV2.out (hb.mono (Below.size HV2.out)))
      have HX3 := Lib.hid (HX2.out.keep hb)
      clear hb
      clear hHeld
      refine hK.out _ _ (K2.out _ HV3.out) (fun hHeld => ?_)
      clear hK K
      try simp only [Act.put, List.setIfInBounds_toArray, List.set_cons_zero, List.set_cons_succ, List.getElem_toArray, List.getElem_cons_succ, List.getElem_cons_zero]
      refine wpAnyH_ready (rs := [16]) (by kernel_rfl) (by simp) ?_
      refine AllReadyH.cons (o := _) rfl (fun K hK => ?_) AllReadyH.nil
      go_simp
      go_at_call 78
      refine Calls.mono (d78 _) ?_
      rintro e v4 ⟨rfl, hb⟩
      have HV4 := Lib.hid (show Below V.heap.size V v4 from Below.trans HV3.out (hb.mono (Below.size HV3.out)))
      have HX4 := Lib.hid (HX3.out.keep hb)
      clear hb
      clear hHeld
      refine hK.out _ _ (K2.out _ HV4.out) (fun hHeld => ?_)
      clear hK K
      try simp only [Act.put, List.setIfInBounds_toArray, List.set_cons_zero, List.set_cons_succ, List.getElem_toArray, List.getElem_cons_succ, List.getElem_cons_zero]
      refine wpAnyH_ready (rs := [17]) (by kernel_rfl) (by simp) ?_
      refine AllReadyH.cons (o := _) rfl (fun K hK => ?_) AllReadyH.nil
      go_simp
      go_at_call 108
      refine Calls.mono (c108 _) ?_
      rintro e v5 ⟨rfl, hb⟩
      have HV5 := Lib.hid (show Below V.heap.size V v5 from Below.trans HV4.out (hb.mono (Below.size HV4.out)))
      have HX5 := Lib.hid (HX4.out.keep hb)
      clear hb
      clear hHeld
      refine hK.out _ _ (K2.out _ HV5.out) (fun hHeld => ?_)
      clear hK K
      try simp only [Act.put, List.setIfInBounds_toArray, List.set_cons_zero, List.set_cons_succ, List.getElem_toArray, List.getElem_cons_succ, List.getElem_cons_zero]
      have hX6 := HX5.out
      have r0 := hX6.c0
      have r1 := hX6.c1
      have rf0 := hX6.f0 0
      have rf1 := hX6.f0 1
      have HX6 := Lib.hid hX6
      clear hX6
      have lB : V.heap.size ≤ V.heap.size := Nat.le_refl _
      obtain ⟨W9, hW9⟩ : ∃ W9, W9 = (v5.setCell ⟨V.heap.size, 0, none⟩ (.int .i64 m0)).setCell ⟨V.heap.size, 1, none⟩ (.int .i64 m1) := ⟨_, rfl⟩
      have HB9 := Lib.hid (show Below V.heap.size V W9 by rw [hW9]; exact (HV5.out.setCell (p := ⟨V.heap.size, 0, none⟩) lB _).setCell (p := ⟨V.heap.size, 1, none⟩) lB _)
      have hZ : Bx2 W9 (V.heap.size) (.int .i64 m0) (.int .i64 m1) := by rw [hW9]; exact HX6.out.set _ _
      refine wpAnyH_ready (rs := [19]) (by kernel_rfl) (by simp) ?_
      refine AllReadyH.cons (o := _) rfl (fun K hK => ?_) AllReadyH.nil
      go_simp
      try rw [← hW9]
      clear hHeld
      refine hK.out _ _ (K2.out _ HB9.out) (fun hHeld => ?_)
      clear hK K
      try simp only [Act.put, List.setIfInBounds_toArray, List.set_cons_zero, List.set_cons_succ, List.getElem_toArray, List.getElem_cons_succ, List.getElem_cons_zero]
      refine wpAnyH_done (by kernel_rfl) ?_ _
      clear hHeld
      have z0 := hZ.c0
      have z1 := hZ.c1
      clear hW9 hZ r0 r1 rf0 rf1
      go_wp2_with fail
      go_ret
      exact ⟨rfl, HBA.out.trans ((HV.out.trans (HB9.out.mono HV.out.size)).mono HBA.out.size)⟩
end Go.Proofs.Ytcchmjbedppfnaa

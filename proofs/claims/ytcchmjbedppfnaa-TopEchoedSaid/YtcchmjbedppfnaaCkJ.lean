/-
  Clock: whether two exchanges contradict each other.
-/
import Derived.Test.YtcchmjbedppfnaaCkI
namespace Go.Proofs.Ytcchmjbedppfnaa
open Go.RowKit Go.Shelf
set_option linter.unusedSimpArgs false
/-- two exchanges contradict each other -/
def cdB (r : Int) (os : List Of) (i k : Nat) : Bool := !decide (max ((of os i).lo - grw r (gap (of os k).rd (of os i).rd)) (of os k).lo ≤ min ((of os i).hi + grw r (gap (of os k).rd (of os i).rd)) (of os k).hi)
/-- offsets of a valid clock -/
def Valid (r : Int) (os : List Of) : Prop := (0 ≤ r ∧ r ≤ 1000000) ∧ os.length ≤ 64 ∧ ∀ k, k < os.length → (-1073741824 ≤ (of os k).lo ∧ (of os k).lo ≤ (of os k).hi ∧ (of os k).hi ≤ 1073741824) ∧ 0 ≤ (of os k).rd ∧ (of os k).rd ≤ 1125899906842624
theorem none_any (w : World) : Calls Try.prog 89 #[] w fun e w' => e = .returned (.agg #[.int .i64 0, .int .i64 0]) ∧ Below w.heap.size w w' := by
  go_enter Try.func89, Try.ntmps89
  go_wp2_with fail
  refine bodyPost_ret (v := .agg #[.int .i64 0, .int .i64 0]) (by simp [results, Try.results89, go_sem]) rfl ⟨rfl, (Below.refl _ _).alloc (Nat.le_refl _) _⟩
set_option maxRecDepth 100000 in
set_option maxHeartbeats 8000000 in
theorem contradict_any (p r : Int) (sv : Value) (os : List Of) (hv : Valid r os) (i k : Nat) (hi : i < os.length) (hk : k < os.length) (w : World) (hO : Ofs w.heap.size w sv os) :
    Calls Try.prog 96 #[.agg #[.int .i64 p, .int .i64 r, sv], .int .i64 i, .int .i64 k] w fun e w' => e = .returned (.bool (cdB r os i k)) ∧ Below w.heap.size w w' := by
  obtain ⟨hr, hl, hok⟩ := hv
  obtain ⟨ai, aj⟩ := hok i hi
  obtain ⟨ck, cl⟩ := hok k hk
  have hg : gap (of os k).rd (of os i).rd ≤ 9007199254740992 := by unfold gap; omega
  have hgb := (grw_bd hr ⟨gap_nn (of os k).rd (of os i).rd, hg⟩).2.2
  have c75 := fun W => at_any (of os i).lo (of os i).hi (of os i).rd (of os k).rd r (by omega) (by omega) hr hg W
  have c73 := fun W => meet_any ((of os i).lo - grw r (gap (of os k).rd (of os i).rd)) ((of os i).hi + grw r (gap (of os k).rd (of os i).rd)) (of os k).lo (of os k).hi W
  have c77 := fun W => exists_any (max ((of os i).lo - grw r (gap (of os k).rd (of os i).rd)) (of os k).lo) (min ((of os i).hi + grw r (gap (of os k).rd (of os i).rd)) (of os k).hi) W
  have hB : cdB r os i k = !decide (max ((of os i).lo - grw r (gap (of os k).rd (of os i).rd)) (of os k).lo ≤ min ((of os i).hi + grw r (gap (of os k).rd (of os i).rd)) (of os k).hi) := rfl
  rw [hB]
  clear hB hok hr hg hgb
  obtain ⟨a, cap, rfl, -, hcc⟩ := hO
  obtain ⟨b, off, rfl, hb, e0, e1, e2⟩ := hcc i hi
  obtain ⟨b2, off2, he, hb2, d0, d1, d2⟩ := hcc k hk
  simp only [Option.some.injEq, Addr.mk.injEq] at he
  obtain ⟨rfl, rfl, -⟩ := he
  generalize decide (max ((of os i).lo - grw r (gap (of os k).rd (of os i).rd)) (of os k).lo ≤ min ((of os i).hi + grw r (gap (of os k).rd (of os i).rd)) (of os k).hi) = q at *
  generalize max ((of os i).lo - grw r (gap (of os k).rd (of os i).rd)) (of os k).lo = m0 at *
  generalize min ((of os i).hi + grw r (gap (of os k).rd (of os i).rd)) (of os k).hi = m1 at *
  generalize (of os i).lo - grw r (gap (of os k).rd (of os i).rd) = n0 at *
  generalize (of os i).hi + grw r (gap (of os k).rd (of os i).rd) = n1 at *
  generalize (of os i).lo = x0 at *
  generalize (of os i).hi = x1 at *
  generalize (of os i).rd = x2 at *
  generalize (of os k).lo = y0 at *
  generalize (of os k).hi = y1 at *
  generalize (of os k).rd = y2 at *
  clear hcc ai aj ck cl
  generalize os.length = len at *
  have hii : (i : Int) < (len : Int) := by omega
  have hki : (k : Int) < (len : Int) := by omega
  obtain ⟨A, hA⟩ : ∃ A, A = w.alloc (.cells #[.int .i64 p, .int .i64 r, .slice (some ⟨b, off, none⟩) len cap] 129) := ⟨_, rfl⟩
  have hzA : A.heap.size = w.heap.size + 1 := by rw [hA]; simp
  have hBA : Below w.heap.size w A := by rw [hA]; exact (Below.refl _ _).alloc (Nat.le_refl _) _
  have k1 : A.cell? ⟨w.heap.size, 1, none⟩ = some (.int .i64 r) := by rw [hA]; simp [go_sem]
  have k2 : A.cell? ⟨w.heap.size, 2, none⟩ = some (.slice (some ⟨b, off, none⟩) len cap) := by rw [hA]; simp [go_sem]
  have g0 := (hBA.cell (p := ⟨b, off + i * 3, none⟩) hb).trans e0
  have g1 := (hBA.cell (p := ⟨b, off + i * 3 + 1, none⟩) hb).trans e1
  have g2 := (hBA.cell (p := ⟨b, off + i * 3 + 2, none⟩) hb).trans e2
  have h0 := (hBA.cell (p := ⟨b, off + k * 3, none⟩) hb).trans d0
  have h1 := (hBA.cell (p := ⟨b, off + k * 3 + 1, none⟩) hb).trans d1
  have h2 := (hBA.cell (p := ⟨b, off + k * 3 + 2, none⟩) hb).trans d2
  have HBA := Lib.hid hBA
  have hbA : b < A.heap.size := by omega
  have KK := Lib.hid (show ∀ W, Below A.heap.size A W → W.cell? ⟨w.heap.size, 2, none⟩ = some (.slice (some ⟨b, off, none⟩) len cap) ∧ W.cell? ⟨b, off + i * 3, none⟩ = some (.int .i64 x0) ∧ W.cell? ⟨b, off + i * 3 + 1, none⟩ = some (.int .i64 x1) ∧ W.cell? ⟨b, off + i * 3 + 2, none⟩ = some (.int .i64 x2) ∧ W.cell? ⟨b, off + k * 3, none⟩ = some (.int .i64 y0) ∧ W.cell? ⟨b, off + k * 3 + 1, none⟩ = some (.int .i64 y1) ∧ W.cell? ⟨b, off + k * 3 + 2, none⟩ = some (.int .i64 y2) from fun W h => ⟨(h.cell (p := ⟨w.heap.size, 2, none⟩) (by show w.heap.size < A.heap.size; omega)).trans k2, (h.cell (p := ⟨b, off + i * 3, none⟩) hbA).trans g0, (h.cell (p := ⟨b, off + i * 3 + 1, none⟩) hbA).trans g1, (h.cell (p := ⟨b, off + i * 3 + 2, none⟩) hbA).trans g2, (h.cell (p := ⟨b, off + k * 3, none⟩) hbA).trans h0, (h.cell (p := ⟨b, off + k * 3 + 1, none⟩) hbA).trans h1, (h.cell (p := ⟨b, off + k * 3 + 2, none⟩) hbA).trans h2⟩)
  have KR := Lib.hid (show ∀ W, Below A.heap.size A W → W.cell? ⟨w.heap.size, 1, none⟩ = some (.int .i64 r) from fun W h => (h.cell (p := ⟨w.heap.size, 1, none⟩) (by show w.heap.size < A.heap.size; omega)).trans k1)
  have HZA := Lib.hid hzA
  clear hBA e0 e1 e2 d0 d1 d2 hzA
  go_enter Try.func96, Try.ntmps96
  go_wp2_with fail
  try rw [← hA]
  clear hA
  refine wp_region_held_drew (S := fun w' => w'.cell? ⟨w.heap.size, 2, none⟩ = some (.slice (some ⟨b, off, none⟩) len cap) ∧ w'.cell? ⟨b, off + i * 3, none⟩ = some (.int .i64 x0) ∧ w'.cell? ⟨b, off + i * 3 + 1, none⟩ = some (.int .i64 x1) ∧ w'.cell? ⟨b, off + i * 3 + 2, none⟩ = some (.int .i64 x2) ∧ w'.cell? ⟨b, off + k * 3, none⟩ = some (.int .i64 y0) ∧ w'.cell? ⟨b, off + k * 3 + 1, none⟩ = some (.int .i64 y1) ∧ w'.cell? ⟨b, off + k * 3 + 2, none⟩ = some (.int .i64 y2)) (by kernel_rfl) ⟨by simpa [go_sem] using k2, by simpa [go_sem] using g0, by simpa [go_sem] using g1, by simpa [go_sem] using g2, by simpa [go_sem] using h0, by simpa [go_sem] using h1, by simpa [go_sem] using h2⟩ (fun hHeld => ?_)
  refine wpAnyH_take (i := 0) (oi := _) (v := Value.pointer (some ⟨w.heap.size, 2, none⟩)) rfl (by kernel_rfl) (by kernel_rfl) (by kernel_rfl) (fun _ _ _ h => h) (Or.inl ⟨by rfl, fun w' hSw => ?_⟩) hHeld ?_
  · obtain ⟨t0, t1, t2, t3, t4, t5, t6⟩ := hSw
    go_simp
    try simp [*]
    try (intro hh; exfalso; omega)
    try omega
  try simp only [Act.put, List.setIfInBounds_toArray, List.set_cons_zero, List.set_cons_succ, List.getElem_toArray, List.getElem_cons_succ, List.getElem_cons_zero]
  refine wpAnyH_take (i := 1) (oi := _) (v := Value.slice (some ⟨b, off, none⟩) len cap) rfl (by kernel_rfl) (by kernel_rfl) (by kernel_rfl) (fun _ _ _ h => h) (Or.inl ⟨by rfl, fun w' hSw => ?_⟩) hHeld ?_
  · obtain ⟨t0, t1, t2, t3, t4, t5, t6⟩ := hSw
    go_simp
    try simp [*]
    try (intro hh; exfalso; omega)
    try omega
  try simp only [Act.put, List.setIfInBounds_toArray, List.set_cons_zero, List.set_cons_succ, List.getElem_toArray, List.getElem_cons_succ, List.getElem_cons_zero]
  refine wpAnyH_take (i := 2) (oi := _) (v := Value.int .i64 i) rfl (by kernel_rfl) (by kernel_rfl) (by kernel_rfl) (fun _ _ _ h => h) (Or.inl ⟨by rfl, fun w' hSw => ?_⟩) hHeld ?_
  · obtain ⟨t0, t1, t2, t3, t4, t5, t6⟩ := hSw
    go_simp
    try simp [*]
    try (intro hh; exfalso; omega)
    try omega
  try simp only [Act.put, List.setIfInBounds_toArray, List.set_cons_zero, List.set_cons_succ, List.getElem_toArray, List.getElem_cons_succ, List.getElem_cons_zero]
  refine wpAnyH_take (i := 3) (oi := _) (v := Value.pointer (some ⟨b, off + i * 3, none⟩)) rfl (by kernel_rfl) (by kernel_rfl) (by kernel_rfl) (fun _ _ _ h => h) (Or.inl ⟨by rfl, fun w' hSw => ?_⟩) hHeld ?_
  · obtain ⟨t0, t1, t2, t3, t4, t5, t6⟩ := hSw
    go_simp
    try simp [*]
    try (intro hh; exfalso; omega)
    try omega
  try simp only [Act.put, List.setIfInBounds_toArray, List.set_cons_zero, List.set_cons_succ, List.getElem_toArray, List.getElem_cons_succ, List.getElem_cons_zero]
  refine wpAnyH_take (i := 4) (oi := _) (v := Value.agg #[Value.int .i64 x0, Value.int .i64 x1, Value.int .i64 x2]) rfl (by kernel_rfl) (by kernel_rfl) (by kernel_rfl) (fun _ _ _ h => h) (Or.inl ⟨by rfl, fun w' hSw => ?_⟩) hHeld ?_
  · obtain ⟨t0, t1, t2, t3, t4, t5, t6⟩ := hSw
    go_simp
    try simp [*]
    try (intro hh; exfalso; omega)
    try omega
  try simp only [Act.put, List.setIfInBounds_toArray, List.set_cons_zero, List.set_cons_succ, List.getElem_toArray, List.getElem_cons_succ, List.getElem_cons_zero]
  refine wpAnyH_take (i := 5) (oi := _) (v := Value.pointer (some ⟨w.heap.size, 2, none⟩)) rfl (by kernel_rfl) (by kernel_rfl) (by kernel_rfl) (fun _ _ _ h => h) (Or.inl ⟨by rfl, fun w' hSw => ?_⟩) hHeld ?_
  · obtain ⟨t0, t1, t2, t3, t4, t5, t6⟩ := hSw
    go_simp
    try simp [*]
    try (intro hh; exfalso; omega)
    try omega
  try simp only [Act.put, List.setIfInBounds_toArray, List.set_cons_zero, List.set_cons_succ, List.getElem_toArray, List.getElem_cons_succ, List.getElem_cons_zero]
  refine wpAnyH_take (i := 6) (oi := _) (v := Value.slice (some ⟨b, off, none⟩) len cap) rfl (by kernel_rfl) (by kernel_rfl) (by kernel_rfl) (fun _ _ _ h => h) (Or.inl ⟨by rfl, fun w' hSw => ?_⟩) hHeld ?_
  · obtain ⟨t0, t1, t2, t3, t4, t5, t6⟩ := hSw
    go_simp
    try simp [*]
    try (intro hh; exfalso; omega)
    try omega
  try simp only [Act.put, List.setIfInBounds_toArray, List.set_cons_zero, List.set_cons_succ, List.getElem_toArray, List.getElem_cons_succ, List.getElem_cons_zero]
  refine wpAnyH_take (i := 7) (oi := _) (v := Value.int .i64 k) rfl (by kernel_rfl) (by kernel_rfl) (by kernel_rfl) (fun _ _ _ h => h) (Or.inl ⟨by rfl, fun w' hSw => ?_⟩) hHeld ?_
  · obtain ⟨t0, t1, t2, t3, t4, t5, t6⟩ := hSw
    go_simp
    try simp [*]
    try (intro hh; exfalso; omega)
    try omega
  try simp only [Act.put, List.setIfInBounds_toArray, List.set_cons_zero, List.set_cons_succ, List.getElem_toArray, List.getElem_cons_succ, List.getElem_cons_zero]
  refine wpAnyH_take (i := 8) (oi := _) (v := Value.pointer (some ⟨b, off + k * 3, none⟩)) rfl (by kernel_rfl) (by kernel_rfl) (by kernel_rfl) (fun _ _ _ h => h) (Or.inl ⟨by rfl, fun w' hSw => ?_⟩) hHeld ?_
  · obtain ⟨t0, t1, t2, t3, t4, t5, t6⟩ := hSw
    go_simp
    try simp [*]
    try (intro hh; exfalso; omega)
    try omega
  try simp only [Act.put, List.setIfInBounds_toArray, List.set_cons_zero, List.set_cons_succ, List.getElem_toArray, List.getElem_cons_succ, List.getElem_cons_zero]
  refine wpAnyH_take (i := 9) (oi := _) (v := Value.agg #[Value.int .i64 y0, Value.int .i64 y1, Value.int .i64 y2]) rfl (by kernel_rfl) (by kernel_rfl) (by kernel_rfl) (fun _ _ _ h => h) (Or.inl ⟨by rfl, fun w' hSw => ?_⟩) hHeld ?_
  · obtain ⟨t0, t1, t2, t3, t4, t5, t6⟩ := hSw
    go_simp
    try simp [*]
    try (intro hh; exfalso; omega)
    try omega
  try simp only [Act.put, List.setIfInBounds_toArray, List.set_cons_zero, List.set_cons_succ, List.getElem_toArray, List.getElem_cons_succ, List.getElem_cons_zero]
  refine wpAnyH_ready (rs := [10, 11]) (by kernel_rfl) (by simp) ?_
  refine AllReadyH.cons (o := _) rfl (fun K hK => ?_) (AllReadyH.cons (o := _) rfl (fun K hK => ?_) (AllReadyH.nil))
  · go_simp
    clear hHeld
    refine hK.out _ _ (by have q := KK.out _ (((Below.refl A.heap.size A).alloc (by simp; try omega) (.cells #[.int .i64 0, .int .i64 0, .int .i64 0] 122))); simpa [go_sem] using q) (fun hHeld => ?_)
    clear hK K
    try simp only [Act.put, List.setIfInBounds_toArray, List.set_cons_zero, List.set_cons_succ, List.getElem_toArray, List.getElem_cons_succ, List.getElem_cons_zero]
    refine wpAnyH_ready (rs := [11]) (by kernel_rfl) (by simp) ?_
    refine AllReadyH.cons (o := _) rfl (fun K hK => ?_) AllReadyH.nil
    go_simp
    clear hHeld
    refine hK.out _ _ (by have q := KK.out _ ((((Below.refl A.heap.size A).alloc (by simp; try omega) (.cells #[.int .i64 0, .int .i64 0, .int .i64 0] 122)).alloc (by simp; try omega) (.cells #[.int .i64 0, .int .i64 0, .int .i64 0] 122))); simpa [go_sem] using q) (fun hHeld => ?_)
    clear hK K
    try simp only [Act.put, List.setIfInBounds_toArray, List.set_cons_zero, List.set_cons_succ, List.getElem_toArray, List.getElem_cons_succ, List.getElem_cons_zero]
    refine wpAnyH_ready (rs := [12]) (by kernel_rfl) (by simp) ?_
    refine AllReadyH.cons (o := _) rfl (fun K hK => ?_) AllReadyH.nil
    go_simp
    clear hHeld
    refine hK.out _ _ (by have q := KK.out _ ((((Below.refl A.heap.size A).alloc (by simp; try omega) (.cells #[.int .i64 x0, .int .i64 x1, .int .i64 x2] 122)).alloc (by simp; try omega) (.cells #[.int .i64 0, .int .i64 0, .int .i64 0] 122))); simpa [go_sem] using q) (fun hHeld => ?_)
    clear hK K
    try simp only [Act.put, List.setIfInBounds_toArray, List.set_cons_zero, List.set_cons_succ, List.getElem_toArray, List.getElem_cons_succ, List.getElem_cons_zero]
    refine wpAnyH_ready (rs := [13]) (by kernel_rfl) (by simp) ?_
    refine AllReadyH.cons (o := _) rfl (fun K hK => ?_) AllReadyH.nil
    go_simp
    clear hHeld
    refine hK.out _ _ (by have q := KK.out _ ((((Below.refl A.heap.size A).alloc (by simp; try omega) (.cells #[.int .i64 x0, .int .i64 x1, .int .i64 x2] 122)).alloc (by simp; try omega) (.cells #[.int .i64 y0, .int .i64 y1, .int .i64 y2] 122))); simpa [go_sem] using q) (fun hHeld => ?_)
    clear hK K
    try simp only [Act.put, List.setIfInBounds_toArray, List.set_cons_zero, List.set_cons_succ, List.getElem_toArray, List.getElem_cons_succ, List.getElem_cons_zero]
    refine wpAnyH_done (by kernel_rfl) ?_ _
    clear hHeld
    have hV0 : Below A.heap.size A (((A.alloc (.cells #[.int .i64 x0, .int .i64 x1, .int .i64 x2] 122)).alloc (.cells #[.int .i64 y0, .int .i64 y1, .int .i64 y2] 122)).drew) := (((Below.refl A.heap.size A).alloc (by simp; try omega) (.cells #[.int .i64 x0, .int .i64 x1, .int .i64 x2] 122)).alloc (by simp; try omega) (.cells #[.int .i64 y0, .int .i64 y1, .int .i64 y2] 122)).drew
    have a0 : (((A.alloc (.cells #[.int .i64 x0, .int .i64 x1, .int .i64 x2] 122)).alloc (.cells #[.int .i64 y0, .int .i64 y1, .int .i64 y2] 122)).drew).cell? ⟨A.heap.size, 0, none⟩ = some (.int .i64 x0) := by simp [go_sem]
    have a1 : (((A.alloc (.cells #[.int .i64 x0, .int .i64 x1, .int .i64 x2] 122)).alloc (.cells #[.int .i64 y0, .int .i64 y1, .int .i64 y2] 122)).drew).cell? ⟨A.heap.size, 1, none⟩ = some (.int .i64 x1) := by simp [go_sem]
    have a2 : (((A.alloc (.cells #[.int .i64 x0, .int .i64 x1, .int .i64 x2] 122)).alloc (.cells #[.int .i64 y0, .int .i64 y1, .int .i64 y2] 122)).drew).cell? ⟨A.heap.size, 2, none⟩ = some (.int .i64 x2) := by simp [go_sem]
    have b0 : (((A.alloc (.cells #[.int .i64 x0, .int .i64 x1, .int .i64 x2] 122)).alloc (.cells #[.int .i64 y0, .int .i64 y1, .int .i64 y2] 122)).drew).cell? ⟨A.heap.size + 1, 0, none⟩ = some (.int .i64 y0) := by simp [go_sem]
    have b1 : (((A.alloc (.cells #[.int .i64 x0, .int .i64 x1, .int .i64 x2] 122)).alloc (.cells #[.int .i64 y0, .int .i64 y1, .int .i64 y2] 122)).drew).cell? ⟨A.heap.size + 1, 1, none⟩ = some (.int .i64 y1) := by simp [go_sem]
    have b2 : (((A.alloc (.cells #[.int .i64 x0, .int .i64 x1, .int .i64 x2] 122)).alloc (.cells #[.int .i64 y0, .int .i64 y1, .int .i64 y2] 122)).drew).cell? ⟨A.heap.size + 1, 2, none⟩ = some (.int .i64 y2) := by simp [go_sem]
    generalize hV : (((A.alloc (.cells #[.int .i64 x0, .int .i64 x1, .int .i64 x2] 122)).alloc (.cells #[.int .i64 y0, .int .i64 y1, .int .i64 y2] 122)).drew) = V at *
    have l7 : A.heap.size < V.heap.size := World.block_lt_of_cell? V ⟨A.heap.size, 0, none⟩ a0
    have l8 : A.heap.size + 1 < V.heap.size := World.block_lt_of_cell? V ⟨A.heap.size + 1, 0, none⟩ b0
    have HV := Lib.hid hV0
    have HVE := Lib.hid hV
    clear hV hV0 k2 g0 g1 g2 h0 h1 h2
    have kr := KR.out _ HV.out
    go_wp2_with fail
    try rw [HVE.out]
    have K2 := Lib.hid (show ∀ W, Below V.heap.size V W → W.cell? ⟨A.heap.size, 0, none⟩ = some (.int .i64 x0) ∧ W.cell? ⟨A.heap.size, 1, none⟩ = some (.int .i64 x1) ∧ W.cell? ⟨A.heap.size, 2, none⟩ = some (.int .i64 x2) ∧ W.cell? ⟨A.heap.size + 1, 0, none⟩ = some (.int .i64 y0) ∧ W.cell? ⟨A.heap.size + 1, 1, none⟩ = some (.int .i64 y1) ∧ W.cell? ⟨A.heap.size + 1, 2, none⟩ = some (.int .i64 y2) ∧ W.cell? ⟨w.heap.size, 1, none⟩ = some (.int .i64 r) from fun W h => ⟨(h.cell (p := ⟨A.heap.size, 0, none⟩) (by show A.heap.size < V.heap.size; first | exact l7 | exact l8 | (have := HV.out.size; have := HZA.out; omega))).trans a0, (h.cell (p := ⟨A.heap.size, 1, none⟩) (by show A.heap.size < V.heap.size; first | exact l7 | exact l8 | (have := HV.out.size; have := HZA.out; omega))).trans a1, (h.cell (p := ⟨A.heap.size, 2, none⟩) (by show A.heap.size < V.heap.size; first | exact l7 | exact l8 | (have := HV.out.size; have := HZA.out; omega))).trans a2, (h.cell (p := ⟨A.heap.size + 1, 0, none⟩) (by show A.heap.size + 1 < V.heap.size; first | exact l7 | exact l8 | (have := HV.out.size; have := HZA.out; omega))).trans b0, (h.cell (p := ⟨A.heap.size + 1, 1, none⟩) (by show A.heap.size + 1 < V.heap.size; first | exact l7 | exact l8 | (have := HV.out.size; have := HZA.out; omega))).trans b1, (h.cell (p := ⟨A.heap.size + 1, 2, none⟩) (by show A.heap.size + 1 < V.heap.size; first | exact l7 | exact l8 | (have := HV.out.size; have := HZA.out; omega))).trans b2, (h.cell (p := ⟨w.heap.size, 1, none⟩) (by show w.heap.size < V.heap.size; first | exact l7 | exact l8 | (have := HV.out.size; have := HZA.out; omega))).trans kr⟩)
    refine wp_region_held_drew (S := fun w' => w'.cell? ⟨A.heap.size, 0, none⟩ = some (.int .i64 x0) ∧ w'.cell? ⟨A.heap.size, 1, none⟩ = some (.int .i64 x1) ∧ w'.cell? ⟨A.heap.size, 2, none⟩ = some (.int .i64 x2) ∧ w'.cell? ⟨A.heap.size + 1, 0, none⟩ = some (.int .i64 y0) ∧ w'.cell? ⟨A.heap.size + 1, 1, none⟩ = some (.int .i64 y1) ∧ w'.cell? ⟨A.heap.size + 1, 2, none⟩ = some (.int .i64 y2) ∧ w'.cell? ⟨w.heap.size, 1, none⟩ = some (.int .i64 r)) (by kernel_rfl) ⟨by simpa [go_sem] using a0, by simpa [go_sem] using a1, by simpa [go_sem] using a2, by simpa [go_sem] using b0, by simpa [go_sem] using b1, by simpa [go_sem] using b2, by simpa [go_sem] using kr⟩ (fun hHeld => ?_)
    refine wpAnyH_take (i := 0) (oi := _) (v := Value.agg #[Value.int .i64 x0, Value.int .i64 x1, Value.int .i64 x2]) rfl (by kernel_rfl) (by kernel_rfl) (by kernel_rfl) (fun _ _ _ h => h) (Or.inl ⟨by rfl, fun w' hSw => ?_⟩) hHeld ?_
    · obtain ⟨t0, t1, t2, t3, t4, t5, t6⟩ := hSw
      go_simp
      try simp [*]
      try (intro hh; exfalso; omega)
      try omega
    try simp only [Act.put, List.setIfInBounds_toArray, List.set_cons_zero, List.set_cons_succ, List.getElem_toArray, List.getElem_cons_succ, List.getElem_cons_zero]
    refine wpAnyH_take (i := 1) (oi := _) (v := Value.pointer (some ⟨A.heap.size + 1, 2, none⟩)) rfl (by kernel_rfl) (by kernel_rfl) (by kernel_rfl) (fun _ _ _ h => h) (Or.inl ⟨by rfl, fun w' hSw => ?_⟩) hHeld ?_
    · obtain ⟨t0, t1, t2, t3, t4, t5, t6⟩ := hSw
      go_simp
      try simp [*]
      try (intro hh; exfalso; omega)
      try omega
    try simp only [Act.put, List.setIfInBounds_toArray, List.set_cons_zero, List.set_cons_succ, List.getElem_toArray, List.getElem_cons_succ, List.getElem_cons_zero]
    refine wpAnyH_take (i := 2) (oi := _) (v := Value.int .i64 y2) rfl (by kernel_rfl) (by kernel_rfl) (by kernel_rfl) (fun _ _ _ h => h) (Or.inl ⟨by rfl, fun w' hSw => ?_⟩) hHeld ?_
    · obtain ⟨t0, t1, t2, t3, t4, t5, t6⟩ := hSw
      go_simp
      try simp [*]
      try (intro hh; exfalso; omega)
      try omega
    try simp only [Act.put, List.setIfInBounds_toArray, List.set_cons_zero, List.set_cons_succ, List.getElem_toArray, List.getElem_cons_succ, List.getElem_cons_zero]
    refine wpAnyH_take (i := 3) (oi := _) (v := Value.pointer (some ⟨w.heap.size, 1, none⟩)) rfl (by kernel_rfl) (by kernel_rfl) (by kernel_rfl) (fun _ _ _ h => h) (Or.inl ⟨by rfl, fun w' hSw => ?_⟩) hHeld ?_
    · obtain ⟨t0, t1, t2, t3, t4, t5, t6⟩ := hSw
      go_simp
      try simp [*]
      try (intro hh; exfalso; omega)
      try omega
    try simp only [Act.put, List.setIfInBounds_toArray, List.set_cons_zero, List.set_cons_succ, List.getElem_toArray, List.getElem_cons_succ, List.getElem_cons_zero]
    refine wpAnyH_take (i := 4) (oi := _) (v := Value.int .i64 r) rfl (by kernel_rfl) (by kernel_rfl) (by kernel_rfl) (fun _ _ _ h => h) (Or.inl ⟨by rfl, fun w' hSw => ?_⟩) hHeld ?_
    · obtain ⟨t0, t1, t2, t3, t4, t5, t6⟩ := hSw
      go_simp
      try simp [*]
      try (intro hh; exfalso; omega)
      try omega
    try simp only [Act.put, List.setIfInBounds_toArray, List.set_cons_zero, List.set_cons_succ, List.getElem_toArray, List.getElem_cons_succ, List.getElem_cons_zero]
    refine wpAnyH_take (i := 6) (oi := _) (v := Value.pointer (some ⟨A.heap.size + 1, 0, none⟩)) rfl (by kernel_rfl) (by kernel_rfl) (by kernel_rfl) (fun _ _ _ h => h) (Or.inl ⟨by rfl, fun w' hSw => ?_⟩) hHeld ?_
    · obtain ⟨t0, t1, t2, t3, t4, t5, t6⟩ := hSw
      go_simp
      try simp [*]
      try (intro hh; exfalso; omega)
      try omega
    try simp only [Act.put, List.setIfInBounds_toArray, List.set_cons_zero, List.set_cons_succ, List.getElem_toArray, List.getElem_cons_succ, List.getElem_cons_zero]
    refine wpAnyH_take (i := 7) (oi := _) (v := Value.agg #[Value.int .i64 y0, Value.int .i64 y1]) rfl (by kernel_rfl) (by kernel_rfl) (by kernel_rfl) (fun _ _ _ h => h) (Or.inl ⟨by rfl, fun w' hSw => ?_⟩) hHeld ?_
    · obtain ⟨t0, t1, t2, t3, t4, t5, t6⟩ := hSw
      go_simp
      try simp [*]
      try (intro hh; exfalso; omega)
      try omega
    try simp only [Act.put, List.setIfInBounds_toArray, List.set_cons_zero, List.set_cons_succ, List.getElem_toArray, List.getElem_cons_succ, List.getElem_cons_zero]
    refine wpAnyH_ready (rs := [5]) (by kernel_rfl) (by simp) ?_
    refine AllReadyH.cons (o := _) rfl (fun K hK => ?_) AllReadyH.nil
    go_simp
    go_at_call 75
    refine Calls.mono (c75 _) ?_
    rintro e v1 ⟨rfl, hb⟩
    have HV1 := Lib.hid (show Below V.heap.size V v1 from Below.trans ((Below.refl V.heap.size V).drew) hb)
    clear hb
    clear hHeld
    refine hK.out _ _ (K2.out _ HV1.out) (fun hHeld => ?_)
    clear hK K
    try simp only [Act.put, List.setIfInBounds_toArray, List.set_cons_zero, List.set_cons_succ, List.getElem_toArray, List.getElem_cons_succ, List.getElem_cons_zero]
    refine wpAnyH_ready (rs := [8]) (by kernel_rfl) (by simp) ?_
    refine AllReadyH.cons (o := _) rfl (fun K hK => ?_) AllReadyH.nil
    go_simp
    go_at_call 73
    refine Calls.mono (c73 _) ?_
    rintro e v2 ⟨rfl, hb⟩
    have HV2 := Lib.hid (show Below V.heap.size V v2 from Below.trans HV1.out (hb.mono HV1.out.size))
    clear hb
    clear hHeld
    refine hK.out _ _ (K2.out _ HV2.out) (fun hHeld => ?_)
    clear hK K
    try simp only [Act.put, List.setIfInBounds_toArray, List.set_cons_zero, List.set_cons_succ, List.getElem_toArray, List.getElem_cons_succ, List.getElem_cons_zero]
    refine wpAnyH_ready (rs := [9]) (by kernel_rfl) (by simp) ?_
    refine AllReadyH.cons (o := _) rfl (fun K hK => ?_) AllReadyH.nil
    go_simp
    go_at_call 77
    refine Calls.mono (c77 _) ?_
    rintro e v3 ⟨rfl, hb⟩
    have HV3 := Lib.hid (show Below V.heap.size V v3 from Below.trans HV2.out (hb.mono HV2.out.size))
    clear hb
    clear hHeld
    refine hK.out _ _ (K2.out _ HV3.out) (fun hHeld => ?_)
    clear hK K
    try simp only [Act.put, List.setIfInBounds_toArray, List.set_cons_zero, List.set_cons_succ, List.getElem_toArray, List.getElem_cons_succ, List.getElem_cons_zero]
    refine wpAnyH_take (i := 10) (oi := _) (v := Value.bool (!q)) rfl (by kernel_rfl) (by kernel_rfl) (by kernel_rfl) (fun _ _ _ h => h) (Or.inl ⟨by rfl, fun w' hSw => ?_⟩) hHeld ?_
    · obtain ⟨t0, t1, t2, t3, t4, t5, t6⟩ := hSw
      go_simp
      try simp [*]
      try (intro hh; exfalso; omega)
      try omega
    try simp only [Act.put, List.setIfInBounds_toArray, List.set_cons_zero, List.set_cons_succ, List.getElem_toArray, List.getElem_cons_succ, List.getElem_cons_zero]
    refine wpAnyH_take (i := 11) (oi := _) (v := Value.bool (!q)) rfl (by kernel_rfl) (by kernel_rfl) (by kernel_rfl) (fun _ _ _ h => h) (Or.inl ⟨by rfl, fun w' hSw => ?_⟩) hHeld ?_
    · obtain ⟨t0, t1, t2, t3, t4, t5, t6⟩ := hSw
      go_simp
      try simp [*]
      try (intro hh; exfalso; omega)
      try omega
    try simp only [Act.put, List.setIfInBounds_toArray, List.set_cons_zero, List.set_cons_succ, List.getElem_toArray, List.getElem_cons_succ, List.getElem_cons_zero]
    refine wpAnyH_done (by kernel_rfl) ?_ _
    clear hHeld
    go_wp2_with fail
    go_ret
    exact ⟨rfl, HBA.out.trans ((HV.out.trans (HV3.out.mono HV.out.size)).mono HBA.out.size)⟩
  · go_simp
    clear hHeld
    refine hK.out _ _ (by have q := KK.out _ (((Below.refl A.heap.size A).alloc (by simp; try omega) (.cells #[.int .i64 0, .int .i64 0, .int .i64 0] 122))); simpa [go_sem] using q) (fun hHeld => ?_)
    clear hK K
    try simp only [Act.put, List.setIfInBounds_toArray, List.set_cons_zero, List.set_cons_succ, List.getElem_toArray, List.getElem_cons_succ, List.getElem_cons_zero]
    refine wpAnyH_ready (rs := [10]) (by kernel_rfl) (by simp) ?_
    refine AllReadyH.cons (o := _) rfl (fun K hK => ?_) AllReadyH.nil
    go_simp
    clear hHeld
    refine hK.out _ _ (by have q := KK.out _ ((((Below.refl A.heap.size A).alloc (by simp; try omega) (.cells #[.int .i64 0, .int .i64 0, .int .i64 0] 122)).alloc (by simp; try omega) (.cells #[.int .i64 0, .int .i64 0, .int .i64 0] 122))); simpa [go_sem] using q) (fun hHeld => ?_)
    clear hK K
    try simp only [Act.put, List.setIfInBounds_toArray, List.set_cons_zero, List.set_cons_succ, List.getElem_toArray, List.getElem_cons_succ, List.getElem_cons_zero]
    refine wpAnyH_ready (rs := [12]) (by kernel_rfl) (by simp) ?_
    refine AllReadyH.cons (o := _) rfl (fun K hK => ?_) AllReadyH.nil
    go_simp
    clear hHeld
    refine hK.out _ _ (by have q := KK.out _ ((((Below.refl A.heap.size A).alloc (by simp; try omega) (.cells #[.int .i64 0, .int .i64 0, .int .i64 0] 122)).alloc (by simp; try omega) (.cells #[.int .i64 x0, .int .i64 x1, .int .i64 x2] 122))); simpa [go_sem] using q) (fun hHeld => ?_)
    clear hK K
    try simp only [Act.put, List.setIfInBounds_toArray, List.set_cons_zero, List.set_cons_succ, List.getElem_toArray, List.getElem_cons_succ, List.getElem_cons_zero]
    refine wpAnyH_ready (rs := [13]) (by kernel_rfl) (by simp) ?_
    refine AllReadyH.cons (o := _) rfl (fun K hK => ?_) AllReadyH.nil
    go_simp
    clear hHeld
    refine hK.out _ _ (by have q := KK.out _ ((((Below.refl A.heap.size A).alloc (by simp; try omega) (.cells #[.int .i64 y0, .int .i64 y1, .int .i64 y2] 122)).alloc (by simp; try omega) (.cells #[.int .i64 x0, .int .i64 x1, .int .i64 x2] 122))); simpa [go_sem] using q) (fun hHeld => ?_)
    clear hK K
    try simp only [Act.put, List.setIfInBounds_toArray, List.set_cons_zero, List.set_cons_succ, List.getElem_toArray, List.getElem_cons_succ, List.getElem_cons_zero]
    refine wpAnyH_done (by kernel_rfl) ?_ _
    clear hHeld
    have hV0 : Below A.heap.size A (((A.alloc (.cells #[.int .i64 y0, .int .i64 y1, .int .i64 y2] 122)).alloc (.cells #[.int .i64 x0, .int .i64 x1, .int .i64 x2] 122)).drew) := (((Below.refl A.heap.size A).alloc (by simp; try omega) (.cells #[.int .i64 y0, .int .i64 y1, .int .i64 y2] 122)).alloc (by simp; try omega) (.cells #[.int .i64 x0, .int .i64 x1, .int .i64 x2] 122)).drew
    have a0 : (((A.alloc (.cells #[.int .i64 y0, .int .i64 y1, .int .i64 y2] 122)).alloc (.cells #[.int .i64 x0, .int .i64 x1, .int .i64 x2] 122)).drew).cell? ⟨A.heap.size + 1, 0, none⟩ = some (.int .i64 x0) := by simp [go_sem]
    have a1 : (((A.alloc (.cells #[.int .i64 y0, .int .i64 y1, .int .i64 y2] 122)).alloc (.cells #[.int .i64 x0, .int .i64 x1, .int .i64 x2] 122)).drew).cell? ⟨A.heap.size + 1, 1, none⟩ = some (.int .i64 x1) := by simp [go_sem]
    have a2 : (((A.alloc (.cells #[.int .i64 y0, .int .i64 y1, .int .i64 y2] 122)).alloc (.cells #[.int .i64 x0, .int .i64 x1, .int .i64 x2] 122)).drew).cell? ⟨A.heap.size + 1, 2, none⟩ = some (.int .i64 x2) := by simp [go_sem]
    have b0 : (((A.alloc (.cells #[.int .i64 y0, .int .i64 y1, .int .i64 y2] 122)).alloc (.cells #[.int .i64 x0, .int .i64 x1, .int .i64 x2] 122)).drew).cell? ⟨A.heap.size, 0, none⟩ = some (.int .i64 y0) := by simp [go_sem]
    have b1 : (((A.alloc (.cells #[.int .i64 y0, .int .i64 y1, .int .i64 y2] 122)).alloc (.cells #[.int .i64 x0, .int .i64 x1, .int .i64 x2] 122)).drew).cell? ⟨A.heap.size, 1, none⟩ = some (.int .i64 y1) := by simp [go_sem]
    have b2 : (((A.alloc (.cells #[.int .i64 y0, .int .i64 y1, .int .i64 y2] 122)).alloc (.cells #[.int .i64 x0, .int .i64 x1, .int .i64 x2] 122)).drew).cell? ⟨A.heap.size, 2, none⟩ = some (.int .i64 y2) := by simp [go_sem]
    generalize hV : (((A.alloc (.cells #[.int .i64 y0, .int .i64 y1, .int .i64 y2] 122)).alloc (.cells #[.int .i64 x0, .int .i64 x1, .int .i64 x2] 122)).drew) = V at *
    have l7 : A.heap.size + 1 < V.heap.size := World.block_lt_of_cell? V ⟨A.heap.size + 1, 0, none⟩ a0
    have l8 : A.heap.size < V.heap.size := World.block_lt_of_cell? V ⟨A.heap.size, 0, none⟩ b0
    have HV := Lib.hid hV0
    have HVE := Lib.hid hV
    clear hV hV0 k2 g0 g1 g2 h0 h1 h2
    have kr := KR.out _ HV.out
    go_wp2_with fail
    try rw [HVE.out]
    have K2 := Lib.hid (show ∀ W, Below V.heap.size V W → W.cell? ⟨A.heap.size + 1, 0, none⟩ = some (.int .i64 x0) ∧ W.cell? ⟨A.heap.size + 1, 1, none⟩ = some (.int .i64 x1) ∧ W.cell? ⟨A.heap.size + 1, 2, none⟩ = some (.int .i64 x2) ∧ W.cell? ⟨A.heap.size, 0, none⟩ = some (.int .i64 y0) ∧ W.cell? ⟨A.heap.size, 1, none⟩ = some (.int .i64 y1) ∧ W.cell? ⟨A.heap.size, 2, none⟩ = some (.int .i64 y2) ∧ W.cell? ⟨w.heap.size, 1, none⟩ = some (.int .i64 r) from fun W h => ⟨(h.cell (p := ⟨A.heap.size + 1, 0, none⟩) (by show A.heap.size + 1 < V.heap.size; first | exact l7 | exact l8 | (have := HV.out.size; have := HZA.out; omega))).trans a0, (h.cell (p := ⟨A.heap.size + 1, 1, none⟩) (by show A.heap.size + 1 < V.heap.size; first | exact l7 | exact l8 | (have := HV.out.size; have := HZA.out; omega))).trans a1, (h.cell (p := ⟨A.heap.size + 1, 2, none⟩) (by show A.heap.size + 1 < V.heap.size; first | exact l7 | exact l8 | (have := HV.out.size; have := HZA.out; omega))).trans a2, (h.cell (p := ⟨A.heap.size, 0, none⟩) (by show A.heap.size < V.heap.size; first | exact l7 | exact l8 | (have := HV.out.size; have := HZA.out; omega))).trans b0, (h.cell (p := ⟨A.heap.size, 1, none⟩) (by show A.heap.size < V.heap.size; first | exact l7 | exact l8 | (have := HV.out.size; have := HZA.out; omega))).trans b1, (h.cell (p := ⟨A.heap.size, 2, none⟩) (by show A.heap.size < V.heap.size; first | exact l7 | exact l8 | (have := HV.out.size; have := HZA.out; omega))).trans b2, (h.cell (p := ⟨w.heap.size, 1, none⟩) (by show w.heap.size < V.heap.size; first | exact l7 | exact l8 | (have := HV.out.size; have := HZA.out; omega))).trans kr⟩)
    refine wp_region_held_drew (S := fun w' => w'.cell? ⟨A.heap.size + 1, 0, none⟩ = some (.int .i64 x0) ∧ w'.cell? ⟨A.heap.size + 1, 1, none⟩ = some (.int .i64 x1) ∧ w'.cell? ⟨A.heap.size + 1, 2, none⟩ = some (.int .i64 x2) ∧ w'.cell? ⟨A.heap.size, 0, none⟩ = some (.int .i64 y0) ∧ w'.cell? ⟨A.heap.size, 1, none⟩ = some (.int .i64 y1) ∧ w'.cell? ⟨A.heap.size, 2, none⟩ = some (.int .i64 y2) ∧ w'.cell? ⟨w.heap.size, 1, none⟩ = some (.int .i64 r)) (by kernel_rfl) ⟨by simpa [go_sem] using a0, by simpa [go_sem] using a1, by simpa [go_sem] using a2, by simpa [go_sem] using b0, by simpa [go_sem] using b1, by simpa [go_sem] using b2, by simpa [go_sem] using kr⟩ (fun hHeld => ?_)
    refine wpAnyH_take (i := 0) (oi := _) (v := Value.agg #[Value.int .i64 x0, Value.int .i64 x1, Value.int .i64 x2]) rfl (by kernel_rfl) (by kernel_rfl) (by kernel_rfl) (fun _ _ _ h => h) (Or.inl ⟨by rfl, fun w' hSw => ?_⟩) hHeld ?_
    · obtain ⟨t0, t1, t2, t3, t4, t5, t6⟩ := hSw
      go_simp
      try simp [*]
      try (intro hh; exfalso; omega)
      try omega
    try simp only [Act.put, List.setIfInBounds_toArray, List.set_cons_zero, List.set_cons_succ, List.getElem_toArray, List.getElem_cons_succ, List.getElem_cons_zero]
    refine wpAnyH_take (i := 1) (oi := _) (v := Value.pointer (some ⟨A.heap.size, 2, none⟩)) rfl (by kernel_rfl) (by kernel_rfl) (by kernel_rfl) (fun _ _ _ h => h) (Or.inl ⟨by rfl, fun w' hSw => ?_⟩) hHeld ?_
    · obtain ⟨t0, t1, t2, t3, t4, t5, t6⟩ := hSw
      go_simp
      try simp [*]
      try (intro hh; exfalso; omega)
      try omega
    try simp only [Act.put, List.setIfInBounds_toArray, List.set_cons_zero, List.set_cons_succ, List.getElem_toArray, List.getElem_cons_succ, List.getElem_cons_zero]
    refine wpAnyH_take (i := 2) (oi := _) (v := Value.int .i64 y2) rfl (by kernel_rfl) (by kernel_rfl) (by kernel_rfl) (fun _ _ _ h => h) (Or.inl ⟨by rfl, fun w' hSw => ?_⟩) hHeld ?_
    · obtain ⟨t0, t1, t2, t3, t4, t5, t6⟩ := hSw
      go_simp
      try simp [*]
      try (intro hh; exfalso; omega)
      try omega
    try simp only [Act.put, List.setIfInBounds_toArray, List.set_cons_zero, List.set_cons_succ, List.getElem_toArray, List.getElem_cons_succ, List.getElem_cons_zero]
    refine wpAnyH_take (i := 3) (oi := _) (v := Value.pointer (some ⟨w.heap.size, 1, none⟩)) rfl (by kernel_rfl) (by kernel_rfl) (by kernel_rfl) (fun _ _ _ h => h) (Or.inl ⟨by rfl, fun w' hSw => ?_⟩) hHeld ?_
    · obtain ⟨t0, t1, t2, t3, t4, t5, t6⟩ := hSw
      go_simp
      try simp [*]
      try (intro hh; exfalso; omega)
      try omega
    try simp only [Act.put, List.setIfInBounds_toArray, List.set_cons_zero, List.set_cons_succ, List.getElem_toArray, List.getElem_cons_succ, List.getElem_cons_zero]
    refine wpAnyH_take (i := 4) (oi := _) (v := Value.int .i64 r) rfl (by kernel_rfl) (by kernel_rfl) (by kernel_rfl) (fun _ _ _ h => h) (Or.inl ⟨by rfl, fun w' hSw => ?_⟩) hHeld ?_
    · obtain ⟨t0, t1, t2, t3, t4, t5, t6⟩ := hSw
      go_simp
      try simp [*]
      try (intro hh; exfalso; omega)
      try omega
    try simp only [Act.put, List.setIfInBounds_toArray, List.set_cons_zero, List.set_cons_succ, List.getElem_toArray, List.getElem_cons_succ, List.getElem_cons_zero]
    refine wpAnyH_take (i := 6) (oi := _) (v := Value.pointer (some ⟨A.heap.size, 0, none⟩)) rfl (by kernel_rfl) (by kernel_rfl) (by kernel_rfl) (fun _ _ _ h => h) (Or.inl ⟨by rfl, fun w' hSw => ?_⟩) hHeld ?_
    · obtain ⟨t0, t1, t2, t3, t4, t5, t6⟩ := hSw
      go_simp
      try simp [*]
      try (intro hh; exfalso; omega)
      try omega
    try simp only [Act.put, List.setIfInBounds_toArray, List.set_cons_zero, List.set_cons_succ, List.getElem_toArray, List.getElem_cons_succ, List.getElem_cons_zero]
    refine wpAnyH_take (i := 7) (oi := _) (v := Value.agg #[Value.int .i64 y0, Value.int .i64 y1]) rfl (by kernel_rfl) (by kernel_rfl) (by kernel_rfl) (fun _ _ _ h => h) (Or.inl ⟨by rfl, fun w' hSw => ?_⟩) hHeld ?_
    · obtain ⟨t0, t1, t2, t3, t4, t5, t6⟩ := hSw
      go_simp
      try simp [*]
      try (intro hh; exfalso; omega)
      try omega
    try simp only [Act.put, List.setIfInBounds_toArray, List.set_cons_zero, List.set_cons_succ, List.getElem_toArray, List.getElem_cons_succ, List.getElem_cons_zero]
    refine wpAnyH_ready (rs := [5]) (by kernel_rfl) (by simp) ?_
    refine AllReadyH.cons (o := _) rfl (fun K hK => ?_) AllReadyH.nil
    go_simp
    go_at_call 75
    refine Calls.mono (c75 _) ?_
    rintro e v1 ⟨rfl, hb⟩
    have HV1 := Lib.hid (show Below V.heap.size V v1 from Below.trans ((Below.refl V.heap.size V).drew) hb)
    clear hb
    clear hHeld
    refine hK.out _ _ (K2.out _ HV1.out) (fun hHeld => ?_)
    clear hK K
    try simp only [Act.put, List.setIfInBounds_toArray, List.set_cons_zero, List.set_cons_succ, List.getElem_toArray, List.getElem_cons_succ, List.getElem_cons_zero]
    refine wpAnyH_ready (rs := [8]) (by kernel_rfl) (by simp) ?_
    refine AllReadyH.cons (o := _) rfl (fun K hK => ?_) AllReadyH.nil
    go_simp
    go_at_call 73
    refine Calls.mono (c73 _) ?_
    rintro e v2 ⟨rfl, hb⟩
    have HV2 := Lib.hid (show Below V.heap.size V v2 from Below.trans HV1.out (hb.mono HV1.out.size))
    clear hb
    clear hHeld
    refine hK.out _ _ (K2.out _ HV2.out) (fun hHeld => ?_)
    clear hK K
    try simp only [Act.put, List.setIfInBounds_toArray, List.set_cons_zero, List.set_cons_succ, List.getElem_toArray, List.getElem_cons_succ, List.getElem_cons_zero]
    refine wpAnyH_ready (rs := [9]) (by kernel_rfl) (by simp) ?_
    refine AllReadyH.cons (o := _) rfl (fun K hK => ?_) AllReadyH.nil
    go_simp
    go_at_call 77
    refine Calls.mono (c77 _) ?_
    rintro e v3 ⟨rfl, hb⟩
    have HV3 := Lib.hid (show Below V.heap.size V v3 from Below.trans HV2.out (hb.mono HV2.out.size))
    clear hb
    clear hHeld
    refine hK.out _ _ (K2.out _ HV3.out) (fun hHeld => ?_)
    clear hK K
    try simp only [Act.put, List.setIfInBounds_toArray, List.set_cons_zero, List.set_cons_succ, List.getElem_toArray, List.getElem_cons_succ, List.getElem_cons_zero]
    refine wpAnyH_take (i := 10) (oi := _) (v := Value.bool (!q)) rfl (by kernel_rfl) (by kernel_rfl) (by kernel_rfl) (fun _ _ _ h => h) (Or.inl ⟨by rfl, fun w' hSw => ?_⟩) hHeld ?_
    · obtain ⟨t0, t1, t2, t3, t4, t5, t6⟩ := hSw
      go_simp
      try simp [*]
      try (intro hh; exfalso; omega)
      try omega
    try simp only [Act.put, List.setIfInBounds_toArray, List.set_cons_zero, List.set_cons_succ, List.getElem_toArray, List.getElem_cons_succ, List.getElem_cons_zero]
    refine wpAnyH_take (i := 11) (oi := _) (v := Value.bool (!q)) rfl (by kernel_rfl) (by kernel_rfl) (by kernel_rfl) (fun _ _ _ h => h) (Or.inl ⟨by rfl, fun w' hSw => ?_⟩) hHeld ?_
    · obtain ⟨t0, t1, t2, t3, t4, t5, t6⟩ := hSw
      go_simp
      try simp [*]
      try (intro hh; exfalso; omega)
      try omega
    try simp only [Act.put, List.setIfInBounds_toArray, List.set_cons_zero, List.set_cons_succ, List.getElem_toArray, List.getElem_cons_succ, List.getElem_cons_zero]
    refine wpAnyH_done (by kernel_rfl) ?_ _
    clear hHeld
    go_wp2_with fail
    go_ret
    exact ⟨rfl, HBA.out.trans ((HV.out.trans (HV3.out.mono HV.out.size)).mono HBA.out.size)⟩
end Go.Proofs.Ytcchmjbedppfnaa

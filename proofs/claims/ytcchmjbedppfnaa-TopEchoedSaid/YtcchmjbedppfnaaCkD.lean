/-
  Clock: what an offset tells of another reading; the offset by an exchange.
-/
import Derived.Test.YtcchmjbedppfnaaCkB
namespace Go.Proofs.Ytcchmjbedppfnaa
open Go.RowKit Go.Shelf
set_option linter.unusedSimpArgs false
/-- how far apart two readings are -/
def gap (t r : Int) : Int := max (t - r) (r - t)
theorem gap_nn (t r : Int) : 0 ≤ gap t r := by unfold gap; omega
theorem gap_self (t : Int) : gap t t = 0 := by unfold gap; omega
theorem gap_comm (t r : Int) : gap t r = gap r t := by unfold gap; omega
theorem grw_zero (r : Int) : grw r 0 = 0 := by unfold grw; simp
set_option maxRecDepth 100000 in
set_option maxHeartbeats 4000000 in
theorem at_any (lo hi rd t r : Int) (h1 : -100000000000000000 ≤ lo ∧ lo ≤ 100000000000000000) (h2 : -100000000000000000 ≤ hi ∧ hi ≤ 100000000000000000) (hr : 0 ≤ r ∧ r ≤ 1000000) (hd : gap t rd ≤ 9007199254740992) (w : World) :
    Calls Try.prog 75 #[.agg #[.int .i64 lo, .int .i64 hi, .int .i64 rd], .int .i64 t, .int .i64 r] w fun e w' => e = .returned (.agg #[.int .i64 (lo - grw r (gap t rd)), .int .i64 (hi + grw r (gap t rd))]) ∧ Below w.heap.size w w' := by
  have hg0 := gap_nn t rd
  have cG := fun W => growth_any r (gap t rd) hr ⟨hg0, hd⟩ W
  have hgb := (grw_bd hr ⟨hg0, hd⟩).2.2
  have hgap : max (t - rd) (rd - t) = gap t rd := rfl
  have v1 : IntKind.i64.wrap (t - rd) = t - rd := by rw [IntKind.wrap_i64]; unfold gap at hd; omega
  have v2 : IntKind.i64.wrap (rd - t) = rd - t := by rw [IntKind.wrap_i64]; unfold gap at hd; omega
  clear hd hg0
  generalize gap t rd = d at *
  generalize grw r d = g at *
  have cW := fun W => grown_any lo hi g (by omega) (by omega) (by omega) W
  clear hr hgb h1 h2
  obtain ⟨A, hA⟩ : ∃ A, A = (w.alloc (.cells #[.int .i64 lo, .int .i64 hi, .int .i64 rd] 122)).alloc (.cells #[.int .i64 0, .int .i64 0] 23) := ⟨_, rfl⟩
  have hzA : A.heap.size = w.heap.size + 2 := by rw [hA]; simp
  have HBA := Lib.hid (show Below w.heap.size w A by rw [hA]; exact ((Below.refl _ _).alloc (Nat.le_refl _) _).alloc (by simp) _)
  have k0 : A.cell? ⟨w.heap.size, 0, none⟩ = some (.int .i64 lo) := by rw [hA]; simp [go_sem]
  have k1 : A.cell? ⟨w.heap.size, 1, none⟩ = some (.int .i64 hi) := by rw [hA]; simp [go_sem]
  have k2 : A.cell? ⟨w.heap.size, 2, none⟩ = some (.int .i64 rd) := by rw [hA]; simp [go_sem]
  have q0 : A.cell? ⟨w.heap.size + 1, 0, none⟩ = some (.int .i64 0) := by rw [hA]; simp [go_sem]
  have q1 : A.cell? ⟨w.heap.size + 1, 1, none⟩ = some (.int .i64 0) := by rw [hA]; simp [go_sem]
  have f0 : ∀ o, A.frozen? ⟨w.heap.size + 1, o, none⟩ = false := fun o => by rw [hA]; simp [go_sem]
  go_enter Try.func75, Try.ntmps75
  go_wp2_with fail
  try rw [← hA]
  clear hA
  refine wp_region_held_drew (S := fun w' => w'.cell? ⟨w.heap.size, 0, none⟩ = some (.int .i64 lo) ∧ w'.cell? ⟨w.heap.size, 1, none⟩ = some (.int .i64 hi) ∧ w'.cell? ⟨w.heap.size, 2, none⟩ = some (.int .i64 rd)) (by kernel_rfl) ⟨by simpa [go_sem] using k0, by simpa [go_sem] using k1, by simpa [go_sem] using k2⟩ (fun hHeld => ?_)
  refine wpAnyH_take (i := 0) (oi := _) (v := Value.pointer (some ⟨w.heap.size, 0, none⟩)) rfl (by kernel_rfl) (by kernel_rfl) (by kernel_rfl) (fun _ _ _ h => h) (Or.inl ⟨by rfl, fun w' hSw => ?_⟩) hHeld ?_
  · obtain ⟨t0, t1, t2⟩ := hSw
    go_simp
    try simp [*]
    try (intro hh; exfalso; omega)
    try omega
  try simp only [Act.put, List.setIfInBounds_toArray, List.set_cons_zero, List.set_cons_succ, List.getElem_toArray, List.getElem_cons_succ, List.getElem_cons_zero]
  refine wpAnyH_take (i := 1) (oi := _) (v := Value.agg #[Value.int .i64 lo, Value.int .i64 hi]) rfl (by kernel_rfl) (by kernel_rfl) (by kernel_rfl) (fun _ _ _ h => h) (Or.inl ⟨by rfl, fun w' hSw => ?_⟩) hHeld ?_
  · obtain ⟨t0, t1, t2⟩ := hSw
    go_simp
    try simp [*]
    try (intro hh; exfalso; omega)
    try omega
  try simp only [Act.put, List.setIfInBounds_toArray, List.set_cons_zero, List.set_cons_succ, List.getElem_toArray, List.getElem_cons_succ, List.getElem_cons_zero]
  refine wpAnyH_take (i := 2) (oi := _) (v := Value.int .i64 r) rfl (by kernel_rfl) (by kernel_rfl) (by kernel_rfl) (fun _ _ _ h => h) (Or.inl ⟨by rfl, fun w' hSw => ?_⟩) hHeld ?_
  · obtain ⟨t0, t1, t2⟩ := hSw
    go_simp
    try simp [*]
    try (intro hh; exfalso; omega)
    try omega
  try simp only [Act.put, List.setIfInBounds_toArray, List.set_cons_zero, List.set_cons_succ, List.getElem_toArray, List.getElem_cons_succ, List.getElem_cons_zero]
  refine wpAnyH_take (i := 3) (oi := _) (v := Value.int .i64 t) rfl (by kernel_rfl) (by kernel_rfl) (by kernel_rfl) (fun _ _ _ h => h) (Or.inl ⟨by rfl, fun w' hSw => ?_⟩) hHeld ?_
  · obtain ⟨t0, t1, t2⟩ := hSw
    go_simp
    try simp [*]
    try (intro hh; exfalso; omega)
    try omega
  try simp only [Act.put, List.setIfInBounds_toArray, List.set_cons_zero, List.set_cons_succ, List.getElem_toArray, List.getElem_cons_succ, List.getElem_cons_zero]
  refine wpAnyH_take (i := 4) (oi := _) (v := Value.pointer (some ⟨w.heap.size, 2, none⟩)) rfl (by kernel_rfl) (by kernel_rfl) (by kernel_rfl) (fun _ _ _ h => h) (Or.inl ⟨by rfl, fun w' hSw => ?_⟩) hHeld ?_
  · obtain ⟨t0, t1, t2⟩ := hSw
    go_simp
    try simp [*]
    try (intro hh; exfalso; omega)
    try omega
  try simp only [Act.put, List.setIfInBounds_toArray, List.set_cons_zero, List.set_cons_succ, List.getElem_toArray, List.getElem_cons_succ, List.getElem_cons_zero]
  refine wpAnyH_take (i := 5) (oi := _) (v := Value.int .i64 rd) rfl (by kernel_rfl) (by kernel_rfl) (by kernel_rfl) (fun _ _ _ h => h) (Or.inl ⟨by rfl, fun w' hSw => ?_⟩) hHeld ?_
  · obtain ⟨t0, t1, t2⟩ := hSw
    go_simp
    try simp [*]
    try (intro hh; exfalso; omega)
    try omega
  try simp only [Act.put, List.setIfInBounds_toArray, List.set_cons_zero, List.set_cons_succ, List.getElem_toArray, List.getElem_cons_succ, List.getElem_cons_zero]
  refine wpAnyH_take (i := 6) (oi := _) (v := Value.int .i64 (t - rd)) rfl (by kernel_rfl) (by kernel_rfl) (by kernel_rfl) (fun _ _ _ h => h) (Or.inl ⟨by rfl, fun w' hSw => ?_⟩) hHeld ?_
  · obtain ⟨t0, t1, t2⟩ := hSw
    go_simp
    try simp [*]
    try (intro hh; exfalso; omega)
    try omega
  try simp only [Act.put, List.setIfInBounds_toArray, List.set_cons_zero, List.set_cons_succ, List.getElem_toArray, List.getElem_cons_succ, List.getElem_cons_zero]
  refine wpAnyH_take (i := 7) (oi := _) (v := Value.pointer (some ⟨w.heap.size, 2, none⟩)) rfl (by kernel_rfl) (by kernel_rfl) (by kernel_rfl) (fun _ _ _ h => h) (Or.inl ⟨by rfl, fun w' hSw => ?_⟩) hHeld ?_
  · obtain ⟨t0, t1, t2⟩ := hSw
    go_simp
    try simp [*]
    try (intro hh; exfalso; omega)
    try omega
  try simp only [Act.put, List.setIfInBounds_toArray, List.set_cons_zero, List.set_cons_succ, List.getElem_toArray, List.getElem_cons_succ, List.getElem_cons_zero]
  refine wpAnyH_take (i := 8) (oi := _) (v := Value.int .i64 rd) rfl (by kernel_rfl) (by kernel_rfl) (by kernel_rfl) (fun _ _ _ h => h) (Or.inl ⟨by rfl, fun w' hSw => ?_⟩) hHeld ?_
  · obtain ⟨t0, t1, t2⟩ := hSw
    go_simp
    try simp [*]
    try (intro hh; exfalso; omega)
    try omega
  try simp only [Act.put, List.setIfInBounds_toArray, List.set_cons_zero, List.set_cons_succ, List.getElem_toArray, List.getElem_cons_succ, List.getElem_cons_zero]
  refine wpAnyH_take (i := 9) (oi := _) (v := Value.int .i64 t) rfl (by kernel_rfl) (by kernel_rfl) (by kernel_rfl) (fun _ _ _ h => h) (Or.inl ⟨by rfl, fun w' hSw => ?_⟩) hHeld ?_
  · obtain ⟨t0, t1, t2⟩ := hSw
    go_simp
    try simp [*]
    try (intro hh; exfalso; omega)
    try omega
  try simp only [Act.put, List.setIfInBounds_toArray, List.set_cons_zero, List.set_cons_succ, List.getElem_toArray, List.getElem_cons_succ, List.getElem_cons_zero]
  refine wpAnyH_take (i := 10) (oi := _) (v := Value.int .i64 (rd - t)) rfl (by kernel_rfl) (by kernel_rfl) (by kernel_rfl) (fun _ _ _ h => h) (Or.inl ⟨by rfl, fun w' hSw => ?_⟩) hHeld ?_
  · obtain ⟨t0, t1, t2⟩ := hSw
    go_simp
    try simp [*]
    try (intro hh; exfalso; omega)
    try omega
  try simp only [Act.put, List.setIfInBounds_toArray, List.set_cons_zero, List.set_cons_succ, List.getElem_toArray, List.getElem_cons_succ, List.getElem_cons_zero]
  refine wpAnyH_take (i := 11) (oi := _) (v := Value.int .i64 d) rfl (by kernel_rfl) (by kernel_rfl) (by kernel_rfl) (fun _ _ _ h => h) (Or.inl ⟨by rfl, fun w' hSw => ?_⟩) hHeld ?_
  · obtain ⟨t0, t1, t2⟩ := hSw
    go_simp
    try simp [*]
    try (intro hh; exfalso; omega)
    try omega
  try simp only [Act.put, List.setIfInBounds_toArray, List.set_cons_zero, List.set_cons_succ, List.getElem_toArray, List.getElem_cons_succ, List.getElem_cons_zero]
  refine wpAnyH_ready (rs := [12]) (by kernel_rfl) (by simp) ?_
  refine AllReadyH.cons (o := _) rfl (fun K hK => ?_) AllReadyH.nil
  go_simp
  go_at_call 132
  refine Calls.mono (cG _) ?_
  rintro e v1 ⟨rfl, rfl⟩
  clear hHeld
  refine hK.out _ _ ⟨k0, k1, k2⟩ (fun hHeld => ?_)
  clear hK K
  try simp only [Act.put, List.setIfInBounds_toArray, List.set_cons_zero, List.set_cons_succ, List.getElem_toArray, List.getElem_cons_succ, List.getElem_cons_zero]
  refine wpAnyH_ready (rs := [13]) (by kernel_rfl) (by simp) ?_
  refine AllReadyH.cons (o := _) rfl (fun K hK => ?_) AllReadyH.nil
  go_simp
  go_at_call 131
  refine Calls.mono (cW _) ?_
  rintro e v3 ⟨rfl, hb⟩
  have hbd : Below A.heap.size A v3 := Below.trans ((Below.refl A.heap.size A).drew) hb
  have HB3 := Lib.hid hbd
  clear hHeld
  refine hK.out _ _ ⟨(hbd.cell (p := ⟨w.heap.size, 0, none⟩) (by rw [hzA]; simp)).trans k0, (hbd.cell (p := ⟨w.heap.size, 1, none⟩) (by rw [hzA]; simp)).trans k1, (hbd.cell (p := ⟨w.heap.size, 2, none⟩) (by rw [hzA]; simp)).trans k2⟩ (fun hHeld => ?_)
  clear hK K
  try simp only [Act.put, List.setIfInBounds_toArray, List.set_cons_zero, List.set_cons_succ, List.getElem_toArray, List.getElem_cons_succ, List.getElem_cons_zero]
  have s0 := (HB3.out.cell (p := ⟨w.heap.size + 1, 0, none⟩) (by rw [hzA]; simp)).trans q0
  have s1 := (HB3.out.cell (p := ⟨w.heap.size + 1, 1, none⟩) (by rw [hzA]; simp)).trans q1
  have s2 := fun o => (HB3.out.frozen (p := ⟨w.heap.size + 1, o, none⟩) (by rw [hzA]; simp)).trans (f0 o)
  have s20 := s2 0
  have s21 := s2 1
  have b0 := (HB3.out.cell (p := ⟨w.heap.size, 0, none⟩) (by rw [hzA]; simp)).trans k0
  have b1 := (HB3.out.cell (p := ⟨w.heap.size, 1, none⟩) (by rw [hzA]; simp)).trans k1
  have b2 := (HB3.out.cell (p := ⟨w.heap.size, 2, none⟩) (by rw [hzA]; simp)).trans k2
  refine wpAnyH_ready (rs := [14]) (by kernel_rfl) (by simp) ?_
  refine AllReadyH.cons (o := _) rfl (fun K hK => ?_) AllReadyH.nil
  go_simp
  clear hHeld
  refine hK.out _ _ ⟨by simpa [go_sem] using b0, by simpa [go_sem] using b1, by simpa [go_sem] using b2⟩ (fun hHeld => ?_)
  clear hK K
  try simp only [Act.put, List.setIfInBounds_toArray, List.set_cons_zero, List.set_cons_succ, List.getElem_toArray, List.getElem_cons_succ, List.getElem_cons_zero]
  refine wpAnyH_done (by kernel_rfl) ?_ _
  clear hHeld
  go_wp2_with fail
  refine bodyPost_ret (v := .agg #[.int .i64 (lo - g), .int .i64 (hi + g)]) (by simp [results, Try.results75, go_sem, s0, s1]) rfl ⟨rfl, ?_⟩
  exact ((HBA.out.trans (HB3.out.mono (by omega))).setCell (p := ⟨w.heap.size + 1, 0, none⟩) (by show w.heap.size ≤ w.heap.size + 1; omega) _).setCell (p := ⟨w.heap.size + 1, 1, none⟩) (by show w.heap.size ≤ w.heap.size + 1; omega) _
structure R3 where
  lo : Int
  hi : Int
  e : Int
/-- the ends of the offset by an exchange -/
def offL (r : Int) (x : Xc) : Int := max (x.he - x.se - x.fHi - grw r (x.ba - x.se)) (x.an - x.ba + x.hLo)
def offH (r : Int) (x : Xc) : Int := min (x.he - x.se - x.fLo + grw r (x.ba - x.se)) (x.an - x.ba + x.hHi)
def offR (r : Int) (x : Xc) : R3 := if xcB x = true then (if rtB r = true then (if offL r x ≤ offH r x then ⟨offL r x, offH r x, 0⟩ else ⟨0, 0, 5⟩) else ⟨0, 0, 3⟩) else ⟨0, 0, 2⟩
def R3.out (z : R3) : Value := .tuple #[.agg #[.int .i64 z.lo, .int .i64 z.hi], .int .i64 z.e]
theorem gap_le {t r : Int} (h : r ≤ t) : gap t r = t - r := by unfold gap; omega
set_option maxRecDepth 100000 in
set_option maxHeartbeats 8000000 in
theorem offset_any (x : Xc) (r : Int) (w : World) :
    Calls Try.prog 22 #[x.val, .int .i64 r] w fun e w' => e = .returned (offR r x).out ∧ Below w.heap.size w w' := by
  have cX := fun W => checkX_any x W
  have cR := fun W => isRate_any r W
  unfold offR
  obtain ⟨A, hA⟩ : ∃ A, A = (w.alloc (.cells #[.int .i64 x.se, .int .i64 x.he, .int .i64 x.an, .int .i64 x.ba, .int .i64 x.fLo, .int .i64 x.fHi, .int .i64 x.hLo, .int .i64 x.hHi] 25)).alloc (.cells #[.int .i64 0, .int .i64 0] 23) := ⟨_, rfl⟩
  have hzA : A.heap.size = w.heap.size + 2 := by rw [hA]; simp
  have HBA := Lib.hid (show Below w.heap.size w A by rw [hA]; exact ((Below.refl _ _).alloc (Nat.le_refl _) _).alloc (by simp) _)
  have KK := Lib.hid (show ∀ W, Below A.heap.size A W → W.cell? ⟨w.heap.size, 0, none⟩ = some (.int .i64 x.se) ∧ W.cell? ⟨w.heap.size, 1, none⟩ = some (.int .i64 x.he) ∧ W.cell? ⟨w.heap.size, 2, none⟩ = some (.int .i64 x.an) ∧ W.cell? ⟨w.heap.size, 3, none⟩ = some (.int .i64 x.ba) ∧ W.cell? ⟨w.heap.size, 4, none⟩ = some (.int .i64 x.fLo) ∧ W.cell? ⟨w.heap.size, 5, none⟩ = some (.int .i64 x.fHi) ∧ W.cell? ⟨w.heap.size, 6, none⟩ = some (.int .i64 x.hLo) ∧ W.cell? ⟨w.heap.size, 7, none⟩ = some (.int .i64 x.hHi) from fun W h => by
    have e : ∀ o, W.cell? ⟨w.heap.size, o, none⟩ = A.cell? ⟨w.heap.size, o, none⟩ := fun o => h.cell (p := ⟨w.heap.size, o, none⟩) (by rw [hzA]; simp)
    refine ⟨?_, ?_, ?_, ?_, ?_, ?_, ?_, ?_⟩ <;> (rw [e, hA]; simp [go_sem]))
  have KR := Lib.hid (show ∀ W, Below A.heap.size A W → W.cell? ⟨w.heap.size + 1, 0, none⟩ = some (.int .i64 0) ∧ W.cell? ⟨w.heap.size + 1, 1, none⟩ = some (.int .i64 0) ∧ W.frozen? ⟨w.heap.size + 1, 0, none⟩ = false ∧ W.frozen? ⟨w.heap.size + 1, 1, none⟩ = false from fun W h => by
    have e : ∀ o, W.cell? ⟨w.heap.size + 1, o, none⟩ = A.cell? ⟨w.heap.size + 1, o, none⟩ := fun o => h.cell (p := ⟨w.heap.size + 1, o, none⟩) (by rw [hzA]; simp)
    have f : ∀ o, W.frozen? ⟨w.heap.size + 1, o, none⟩ = A.frozen? ⟨w.heap.size + 1, o, none⟩ := fun o => h.frozen (p := ⟨w.heap.size + 1, o, none⟩) (by rw [hzA]; simp)
    refine ⟨?_, ?_, ?_, ?_⟩
    · rw [e, hA]; simp [go_sem]
    · rw [e, hA]; simp [go_sem]
    · rw [f, hA]; simp [go_sem]
    · rw [f, hA]; simp [go_sem])
  have HEND := Lib.hid (show ∀ W v0 v1, Below A.heap.size A W → Below w.heap.size w ((W.setCell ⟨w.heap.size + 1, 0, none⟩ v0).setCell ⟨w.heap.size + 1, 1, none⟩ v1) from fun W v0 v1 h =>
    ((HBA.out.trans (h.mono (by omega))).setCell (p := ⟨w.heap.size + 1, 0, none⟩) (by show w.heap.size ≤ w.heap.size + 1; omega) _).setCell (p := ⟨w.heap.size + 1, 1, none⟩) (by show w.heap.size ≤ w.heap.size + 1; omega) _)
  by_cases hx : xcB x = true
  rotate_left
  · rw [if_neg hx]
    have cX' : ∀ W, Calls Try.prog 26 #[x.val] W fun e w' => e = .returned (.int .i64 2) ∧ Below W.heap.size W w' := fun W => by have q := cX W; rw [if_neg hx] at q; exact q
    clear cX hx cR
    unfold Xc.val R3.out at *
    go_enter Try.func22, Try.ntmps22
    go_wp2_with fail
    try rw [← hA]
    clear hA
    refine (cX' _).mono ?_
    rintro e w1 ⟨rfl, hb⟩
    have HB1 := Lib.hid hb
    obtain ⟨q0, q1, q2, q3⟩ := KR.out _ hb
    clear hb
    go_wp2_with fail
    refine bodyPost_ret (v := .tuple #[.agg #[.int .i64 0, .int .i64 0], .int .i64 2]) (by simp [results, Try.results22, go_sem, q0, q1]) rfl ⟨rfl, HEND.out _ _ _ HB1.out⟩
  rw [if_pos hx]
  have cX' : ∀ W, Calls Try.prog 26 #[x.val] W fun e w' => e = .returned (.int .i64 0) ∧ Below W.heap.size W w' := fun W => by have q := cX W; rw [if_pos hx] at q; exact q
  clear cX
  by_cases hr : rtB r = true
  rotate_left
  · rw [if_neg hr]
    have hrf : rtB r = false := by cases q : rtB r; rfl; exact absurd q hr
    rw [hrf] at cR
    clear hr hx hrf
    unfold Xc.val R3.out at *
    go_enter Try.func22, Try.ntmps22
    go_wp2_with fail
    try rw [← hA]
    clear hA
    refine (cX' _).mono ?_
    rintro e w1 ⟨rfl, hb⟩
    have HB1 := Lib.hid hb
    obtain ⟨q0, q1, q2, q3⟩ := KR.out _ hb
    clear hb
    go_wp2_with fail
    refine (cR _).mono ?_
    rintro e w2 ⟨rfl, rfl⟩
    go_wp2_with fail
    refine bodyPost_ret (v := .tuple #[.agg #[.int .i64 0, .int .i64 0], .int .i64 3]) (by simp [results, Try.results22, go_sem, q0, q1]) rfl ⟨rfl, HEND.out _ _ _ HB1.out⟩
  rw [if_pos hr]
  rw [hr] at cR
  obtain ⟨h1, h2, h3, h4⟩ := (xcB_iff x).1 hx
  obtain ⟨hr0, hr1⟩ := (rtB_iff r).1 hr
  have c74 := fun W => there_any x hx W
  have c76 := fun W => back_any x hx W
  have c75a := fun W => at_any (x.he - x.se - x.fHi) (x.he - x.se - x.fLo) x.se x.ba r (by omega) (by omega) ⟨hr0, hr1⟩ (by rw [gap_le h1.2.1]; omega) W
  have c75b := fun W => at_any (x.an - x.ba + x.hLo) (x.an - x.ba + x.hHi) x.ba x.ba r (by omega) (by omega) ⟨hr0, hr1⟩ (by rw [gap_self]; omega) W
  rw [gap_le h1.2.1] at c75a
  rw [gap_self, grw_zero, Int.sub_zero, Int.add_zero] at c75b
  have c73 := fun W => meet_any (x.he - x.se - x.fHi - grw r (x.ba - x.se)) (x.he - x.se - x.fLo + grw r (x.ba - x.se)) (x.an - x.ba + x.hLo) (x.an - x.ba + x.hHi) W
  have hL : max (x.he - x.se - x.fHi - grw r (x.ba - x.se)) (x.an - x.ba + x.hLo) = offL r x := rfl
  have hH : min (x.he - x.se - x.fLo + grw r (x.ba - x.se)) (x.an - x.ba + x.hHi) = offH r x := rfl
  rw [hL, hH] at c73
  have c77 := fun W => exists_any (offL r x) (offH r x) W
  clear hL hH h1 h2 h3 h4 hr0 hr1 hr hx
  generalize hq : (if offL r x ≤ offH r x then (⟨offL r x, offH r x, 0⟩ : R3) else ⟨0, 0, 5⟩) = q at *
  generalize offL r x = oL at *
  generalize offH r x = oH at *
  generalize x.he - x.se - x.fHi - grw r (x.ba - x.se) = m0 at *
  generalize x.he - x.se - x.fLo + grw r (x.ba - x.se) = m1 at *
  generalize x.he - x.se - x.fHi = a0 at *
  generalize x.he - x.se - x.fLo = a1 at *
  generalize x.an - x.ba + x.hLo = b0 at *
  generalize x.an - x.ba + x.hHi = b1 at *
  have HQ := Lib.hid hq
  clear hq
  unfold Xc.val at *
  generalize hqo : q.out = qo at *
  have HQO := Lib.hid hqo
  clear hqo
  go_enter Try.func22, Try.ntmps22
  go_wp2_with fail
  try rw [← hA]
  clear hA
  refine (cX' _).mono ?_
  rintro e w1 ⟨rfl, hb⟩
  have HB1 := Lib.hid hb
  clear hb
  obtain ⟨k0, k1, k2, k3, k4, k5, k6, k7⟩ := KK.out _ HB1.out
  go_wp2_with fail
  refine (cR _).mono ?_
  rintro e w2 ⟨rfl, hw2⟩
  have hw3 := hw2.symm
  subst hw3
  go_wp2_with fail
  refine wp_region_held_drew (S := fun w' => w'.cell? ⟨w.heap.size, 0, none⟩ = some (.int .i64 x.se) ∧ w'.cell? ⟨w.heap.size, 1, none⟩ = some (.int .i64 x.he) ∧ w'.cell? ⟨w.heap.size, 2, none⟩ = some (.int .i64 x.an) ∧ w'.cell? ⟨w.heap.size, 3, none⟩ = some (.int .i64 x.ba) ∧ w'.cell? ⟨w.heap.size, 4, none⟩ = some (.int .i64 x.fLo) ∧ w'.cell? ⟨w.heap.size, 5, none⟩ = some (.int .i64 x.fHi) ∧ w'.cell? ⟨w.heap.size, 6, none⟩ = some (.int .i64 x.hLo) ∧ w'.cell? ⟨w.heap.size, 7, none⟩ = some (.int .i64 x.hHi)) (by kernel_rfl) ⟨by simpa [go_sem] using k0, by simpa [go_sem] using k1, by simpa [go_sem] using k2, by simpa [go_sem] using k3, by simpa [go_sem] using k4, by simpa [go_sem] using k5, by simpa [go_sem] using k6, by simpa [go_sem] using k7⟩ (fun hHeld => ?_)
  refine wpAnyH_take (i := 0) (oi := _) (v := Value.agg #[Value.int .i64 x.se, Value.int .i64 x.he, Value.int .i64 x.an, Value.int .i64 x.ba, Value.int .i64 x.fLo, Value.int .i64 x.fHi, Value.int .i64 x.hLo, Value.int .i64 x.hHi]) rfl (by kernel_rfl) (by kernel_rfl) (by kernel_rfl) (fun _ _ _ h => h) (Or.inl ⟨by rfl, fun w' hSw => ?_⟩) hHeld ?_
  · obtain ⟨t0, t1, t2, t3, t4, t5, t6, t7⟩ := hSw
    go_simp
    try simp [*]
    try (intro hh; exfalso; omega)
    try omega
  try simp only [Act.put, List.setIfInBounds_toArray, List.set_cons_zero, List.set_cons_succ, List.getElem_toArray, List.getElem_cons_succ, List.getElem_cons_zero]
  refine wpAnyH_take (i := 2) (oi := _) (v := Value.pointer (some ⟨w.heap.size, 3, none⟩)) rfl (by kernel_rfl) (by kernel_rfl) (by kernel_rfl) (fun _ _ _ h => h) (Or.inl ⟨by rfl, fun w' hSw => ?_⟩) hHeld ?_
  · obtain ⟨t0, t1, t2, t3, t4, t5, t6, t7⟩ := hSw
    go_simp
    try simp [*]
    try (intro hh; exfalso; omega)
    try omega
  try simp only [Act.put, List.setIfInBounds_toArray, List.set_cons_zero, List.set_cons_succ, List.getElem_toArray, List.getElem_cons_succ, List.getElem_cons_zero]
  refine wpAnyH_take (i := 3) (oi := _) (v := Value.int .i64 x.ba) rfl (by kernel_rfl) (by kernel_rfl) (by kernel_rfl) (fun _ _ _ h => h) (Or.inl ⟨by rfl, fun w' hSw => ?_⟩) hHeld ?_
  · obtain ⟨t0, t1, t2, t3, t4, t5, t6, t7⟩ := hSw
    go_simp
    try simp [*]
    try (intro hh; exfalso; omega)
    try omega
  try simp only [Act.put, List.setIfInBounds_toArray, List.set_cons_zero, List.set_cons_succ, List.getElem_toArray, List.getElem_cons_succ, List.getElem_cons_zero]
  refine wpAnyH_take (i := 4) (oi := _) (v := Value.int .i64 r) rfl (by kernel_rfl) (by kernel_rfl) (by kernel_rfl) (fun _ _ _ h => h) (Or.inl ⟨by rfl, fun w' hSw => ?_⟩) hHeld ?_
  · obtain ⟨t0, t1, t2, t3, t4, t5, t6, t7⟩ := hSw
    go_simp
    try simp [*]
    try (intro hh; exfalso; omega)
    try omega
  try simp only [Act.put, List.setIfInBounds_toArray, List.set_cons_zero, List.set_cons_succ, List.getElem_toArray, List.getElem_cons_succ, List.getElem_cons_zero]
  refine wpAnyH_take (i := 6) (oi := _) (v := Value.agg #[Value.int .i64 x.se, Value.int .i64 x.he, Value.int .i64 x.an, Value.int .i64 x.ba, Value.int .i64 x.fLo, Value.int .i64 x.fHi, Value.int .i64 x.hLo, Value.int .i64 x.hHi]) rfl (by kernel_rfl) (by kernel_rfl) (by kernel_rfl) (fun _ _ _ h => h) (Or.inl ⟨by rfl, fun w' hSw => ?_⟩) hHeld ?_
  · obtain ⟨t0, t1, t2, t3, t4, t5, t6, t7⟩ := hSw
    go_simp
    try simp [*]
    try (intro hh; exfalso; omega)
    try omega
  try simp only [Act.put, List.setIfInBounds_toArray, List.set_cons_zero, List.set_cons_succ, List.getElem_toArray, List.getElem_cons_succ, List.getElem_cons_zero]
  refine wpAnyH_take (i := 8) (oi := _) (v := Value.pointer (some ⟨w.heap.size, 3, none⟩)) rfl (by kernel_rfl) (by kernel_rfl) (by kernel_rfl) (fun _ _ _ h => h) (Or.inl ⟨by rfl, fun w' hSw => ?_⟩) hHeld ?_
  · obtain ⟨t0, t1, t2, t3, t4, t5, t6, t7⟩ := hSw
    go_simp
    try simp [*]
    try (intro hh; exfalso; omega)
    try omega
  try simp only [Act.put, List.setIfInBounds_toArray, List.set_cons_zero, List.set_cons_succ, List.getElem_toArray, List.getElem_cons_succ, List.getElem_cons_zero]
  refine wpAnyH_take (i := 9) (oi := _) (v := Value.int .i64 x.ba) rfl (by kernel_rfl) (by kernel_rfl) (by kernel_rfl) (fun _ _ _ h => h) (Or.inl ⟨by rfl, fun w' hSw => ?_⟩) hHeld ?_
  · obtain ⟨t0, t1, t2, t3, t4, t5, t6, t7⟩ := hSw
    go_simp
    try simp [*]
    try (intro hh; exfalso; omega)
    try omega
  try simp only [Act.put, List.setIfInBounds_toArray, List.set_cons_zero, List.set_cons_succ, List.getElem_toArray, List.getElem_cons_succ, List.getElem_cons_zero]
  refine wpAnyH_take (i := 10) (oi := _) (v := Value.int .i64 r) rfl (by kernel_rfl) (by kernel_rfl) (by kernel_rfl) (fun _ _ _ h => h) (Or.inl ⟨by rfl, fun w' hSw => ?_⟩) hHeld ?_
  · obtain ⟨t0, t1, t2, t3, t4, t5, t6, t7⟩ := hSw
    go_simp
    try simp [*]
    try (intro hh; exfalso; omega)
    try omega
  try simp only [Act.put, List.setIfInBounds_toArray, List.set_cons_zero, List.set_cons_succ, List.getElem_toArray, List.getElem_cons_succ, List.getElem_cons_zero]
  refine wpAnyH_ready (rs := [1, 13]) (by kernel_rfl) (by simp) ?_
  refine AllReadyH.cons (o := _) rfl (fun K hK => ?_) (AllReadyH.cons (o := _) rfl (fun K hK => ?_) (AllReadyH.nil))
  · go_simp
    go_at_call 74
    refine Calls.mono (c74 _) ?_
    rintro e v1 ⟨rfl, hb⟩
    have HV1 := Lib.hid (show Below A.heap.size A v1 from Below.trans ((HB1.out).drew) (hb.mono ((HB1.out).drew).size))
    clear hb
    clear hHeld
    refine hK.out _ _ (KK.out _ HV1.out) (fun hHeld => ?_)
    clear hK K
    try simp only [Act.put, List.setIfInBounds_toArray, List.set_cons_zero, List.set_cons_succ, List.getElem_toArray, List.getElem_cons_succ, List.getElem_cons_zero]
    refine wpAnyH_ready (rs := [5, 13]) (by kernel_rfl) (by simp) ?_
    refine AllReadyH.cons (o := _) rfl (fun K hK => ?_) (AllReadyH.cons (o := _) rfl (fun K hK => ?_) (AllReadyH.nil))
    · go_simp
      go_at_call 75
      refine Calls.mono (c75a _) ?_
      rintro e v2 ⟨rfl, hb⟩
      have HV2 := Lib.hid (show Below A.heap.size A v2 from Below.trans HV1.out (hb.mono HV1.out.size))
      clear hb
      clear hHeld
      refine hK.out _ _ (KK.out _ HV2.out) (fun hHeld => ?_)
      clear hK K
      try simp only [Act.put, List.setIfInBounds_toArray, List.set_cons_zero, List.set_cons_succ, List.getElem_toArray, List.getElem_cons_succ, List.getElem_cons_zero]
      refine wpAnyH_ready (rs := [7, 13]) (by kernel_rfl) (by simp) ?_
      refine AllReadyH.cons (o := _) rfl (fun K hK => ?_) (AllReadyH.cons (o := _) rfl (fun K hK => ?_) (AllReadyH.nil))
      · go_simp
        go_at_call 76
        refine Calls.mono (c76 _) ?_
        rintro e v3 ⟨rfl, hb⟩
        have HV3 := Lib.hid (show Below A.heap.size A v3 from Below.trans HV2.out (hb.mono HV2.out.size))
        clear hb
        clear hHeld
        refine hK.out _ _ (KK.out _ HV3.out) (fun hHeld => ?_)
        clear hK K
        try simp only [Act.put, List.setIfInBounds_toArray, List.set_cons_zero, List.set_cons_succ, List.getElem_toArray, List.getElem_cons_succ, List.getElem_cons_zero]
        refine wpAnyH_ready (rs := [11, 13]) (by kernel_rfl) (by simp) ?_
        refine AllReadyH.cons (o := _) rfl (fun K hK => ?_) (AllReadyH.cons (o := _) rfl (fun K hK => ?_) (AllReadyH.nil))
        · go_simp
          go_at_call 75
          refine Calls.mono (c75b _) ?_
          rintro e v4 ⟨rfl, hb⟩
          have HV4 := Lib.hid (show Below A.heap.size A v4 from Below.trans HV3.out (hb.mono HV3.out.size))
          clear hb
          clear hHeld
          refine hK.out _ _ (KK.out _ HV4.out) (fun hHeld => ?_)
          clear hK K
          try simp only [Act.put, List.setIfInBounds_toArray, List.set_cons_zero, List.set_cons_succ, List.getElem_toArray, List.getElem_cons_succ, List.getElem_cons_zero]
          refine wpAnyH_ready (rs := [12, 13]) (by kernel_rfl) (by simp) ?_
          refine AllReadyH.cons (o := _) rfl (fun K hK => ?_) (AllReadyH.cons (o := _) rfl (fun K hK => ?_) (AllReadyH.nil))
          · go_simp
            go_at_call 73
            refine Calls.mono (c73 _) ?_
            rintro e v5 ⟨rfl, hb⟩
            have HV5 := Lib.hid (show Below A.heap.size A v5 from Below.trans HV4.out (hb.mono HV4.out.size))
            clear hb
            clear hHeld
            refine hK.out _ _ (KK.out _ HV5.out) (fun hHeld => ?_)
            clear hK K
            try simp only [Act.put, List.setIfInBounds_toArray, List.set_cons_zero, List.set_cons_succ, List.getElem_toArray, List.getElem_cons_succ, List.getElem_cons_zero]
            refine wpAnyH_ready (rs := [13]) (by kernel_rfl) (by simp) ?_
            refine AllReadyH.cons (o := _) rfl (fun K hK => ?_) (AllReadyH.nil)
            go_simp
            obtain ⟨u, hu⟩ : ∃ u, u = v5.alloc (.cells #[.int .i64 0, .int .i64 0] 23) := ⟨_, rfl⟩
            have huz : u.heap.size = v5.heap.size + 1 := by rw [hu]; simp
            have HU := Lib.hid (show Below A.heap.size A u by rw [hu]; exact HV5.out.alloc HV5.out.size _)
            have y0 : u.cell? ⟨v5.heap.size, 0, none⟩ = some (.int .i64 0) := by rw [hu]; simp [go_sem]
            have y1 : u.cell? ⟨v5.heap.size, 1, none⟩ = some (.int .i64 0) := by rw [hu]; simp [go_sem]
            have yf : ∀ o, u.frozen? ⟨v5.heap.size, o, none⟩ = false := fun o => by rw [hu]; simp [go_sem]
            have HP := Lib.hid (show Below (v5.heap.size + 1) u u from Below.refl _ _)
            have hbz := HV5.out.size
            try rw [← hu]
            have HUU := Lib.hid hu
            clear hu
            clear hHeld
            refine hK.out _ _ (KK.out _ HU.out) (fun hHeld => ?_)
            clear hK K
            try simp only [Act.put, List.setIfInBounds_toArray, List.set_cons_zero, List.set_cons_succ, List.getElem_toArray, List.getElem_cons_succ, List.getElem_cons_zero]
            obtain ⟨V, hV⟩ : ∃ V, V = v5.alloc (.cells #[.int .i64 oL, .int .i64 oH] 23) := ⟨_, rfl⟩
            have HV := Lib.hid (show Below A.heap.size A V by rw [hV]; exact (HV5.out).alloc (HV5.out).size _)
            have z0 : V.cell? ⟨v5.heap.size, 0, none⟩ = some (.int .i64 oL) := by rw [hV]; simp [go_sem]
            have z1 : V.cell? ⟨v5.heap.size, 1, none⟩ = some (.int .i64 oH) := by rw [hV]; simp [go_sem]
            rw [HUU.out]
            refine wpAnyH_ready (rs := [14]) (by kernel_rfl) (by simp) ?_
            refine AllReadyH.cons (o := _) rfl (fun K hK => ?_) AllReadyH.nil
            go_simp
            try rw [← hV]
            clear hHeld
            refine hK.out _ _ (KK.out _ HV.out) (fun hHeld => ?_)
            clear hK K
            try simp only [Act.put, List.setIfInBounds_toArray, List.set_cons_zero, List.set_cons_succ, List.getElem_toArray, List.getElem_cons_succ, List.getElem_cons_zero]
            refine wpAnyH_done (by kernel_rfl) ?_ _
            clear hHeld
            obtain ⟨g0, g1, g2, g3⟩ := KR.out _ HV.out
            have HZ0 := Lib.hid z0
            have HZ1 := Lib.hid z1
            have hbl : v5.heap.size < V.heap.size := World.block_lt_of_cell? V ⟨v5.heap.size, 0, none⟩ z0
            clear hV k0 k1 k2 k3 k4 k5 k6 k7
            go_wp2_with fail
            refine (c77 _).mono ?_
            rintro e v9 ⟨rfl, hb⟩
            have hb9 : Below A.heap.size A v9 := HV.out.trans (hb.mono HV.out.size)
            have HV9 := Lib.hid hb9
            obtain ⟨g0, g1, g2, g3⟩ := KR.out _ hb9
            have z0 : v9.cell? ⟨v5.heap.size, 0, none⟩ = some (.int .i64 oL) := (hb.cell (p := ⟨v5.heap.size, 0, none⟩) hbl).trans HZ0.out
            have z1 : v9.cell? ⟨v5.heap.size, 1, none⟩ = some (.int .i64 oH) := (hb.cell (p := ⟨v5.heap.size, 1, none⟩) hbl).trans HZ1.out
            clear hb hb9
            by_cases hle : oL ≤ oH
            · obtain rfl : q = ⟨oL, oH, 0⟩ := by rw [← HQ.out, if_pos hle]
              obtain rfl := HQO.out.symm
              rw [decide_eq_true hle]
              go_wp2_with fail
              refine bodyPost_ret (v := .tuple #[.agg #[.int .i64 oL, .int .i64 oH], .int .i64 0]) (by simp [results, Try.results22, go_sem, g0, g1]) rfl ⟨rfl, HEND.out _ _ _ HV9.out⟩
            · obtain rfl : q = ⟨0, 0, 5⟩ := by rw [← HQ.out, if_neg hle]
              obtain rfl := HQO.out.symm
              rw [decide_eq_false hle]
              go_wp2_with fail
              refine bodyPost_ret (v := .tuple #[.agg #[.int .i64 0, .int .i64 0], .int .i64 5]) (by simp [results, Try.results22, go_sem, g0, g1]) rfl ⟨rfl, HEND.out _ _ _ HV9.out⟩
          · go_simp
            obtain ⟨u, hu⟩ : ∃ u, u = v4.alloc (.cells #[.int .i64 0, .int .i64 0] 23) := ⟨_, rfl⟩
            have huz : u.heap.size = v4.heap.size + 1 := by rw [hu]; simp
            have HU := Lib.hid (show Below A.heap.size A u by rw [hu]; exact HV4.out.alloc HV4.out.size _)
            have y0 : u.cell? ⟨v4.heap.size, 0, none⟩ = some (.int .i64 0) := by rw [hu]; simp [go_sem]
            have y1 : u.cell? ⟨v4.heap.size, 1, none⟩ = some (.int .i64 0) := by rw [hu]; simp [go_sem]
            have yf : ∀ o, u.frozen? ⟨v4.heap.size, o, none⟩ = false := fun o => by rw [hu]; simp [go_sem]
            have HP := Lib.hid (show Below (v4.heap.size + 1) u u from Below.refl _ _)
            have hbz := HV4.out.size
            try rw [← hu]
            have HUU := Lib.hid hu
            clear hu
            clear hHeld
            refine hK.out _ _ (KK.out _ HU.out) (fun hHeld => ?_)
            clear hK K
            try simp only [Act.put, List.setIfInBounds_toArray, List.set_cons_zero, List.set_cons_succ, List.getElem_toArray, List.getElem_cons_succ, List.getElem_cons_zero]
            refine wpAnyH_ready (rs := [12]) (by kernel_rfl) (by simp) ?_
            refine AllReadyH.cons (o := _) rfl (fun K hK => ?_) (AllReadyH.nil)
            go_simp
            go_at_call 73
            refine Calls.mono (c73 _) ?_
            rintro e v5 ⟨rfl, hb⟩
            have HV5 := Lib.hid (show Below A.heap.size A v5 from Below.trans HU.out (hb.mono HU.out.size))
            have HP5 := Lib.hid (show Below (v4.heap.size + 1) u v5 from Below.trans HP.out (hb.mono (by have := HP.out.size; omega)))
            clear hb
            clear hHeld
            refine hK.out _ _ (KK.out _ HV5.out) (fun hHeld => ?_)
            clear hK K
            try simp only [Act.put, List.setIfInBounds_toArray, List.set_cons_zero, List.set_cons_succ, List.getElem_toArray, List.getElem_cons_succ, List.getElem_cons_zero]
            have x0 := (HP5.out.cell (p := ⟨v4.heap.size, 0, none⟩) (Nat.lt_succ_self _)).trans y0
            have x1 := (HP5.out.cell (p := ⟨v4.heap.size, 1, none⟩) (Nat.lt_succ_self _)).trans y1
            have xf := fun o => (HP5.out.frozen (p := ⟨v4.heap.size, o, none⟩) (Nat.lt_succ_self _)).trans (yf o)
            have xf0 := xf 0
            have xf1 := xf 1
            obtain ⟨V, hV⟩ : ∃ V, V = (v5.setCell ⟨v4.heap.size, 0, none⟩ (.int .i64 oL)).setCell ⟨v4.heap.size, 1, none⟩ (.int .i64 oH) := ⟨_, rfl⟩
            have HV := Lib.hid (show Below A.heap.size A V by rw [hV]; exact (HV5.out.setCell (p := ⟨v4.heap.size, 0, none⟩) (by show A.heap.size ≤ v4.heap.size; exact hbz) _).setCell (p := ⟨v4.heap.size, 1, none⟩) (by show A.heap.size ≤ v4.heap.size; exact hbz) _)
            have z0 : V.cell? ⟨v4.heap.size, 0, none⟩ = some (.int .i64 oL) := by rw [hV]; simp [go_sem, x0, x1]
            have z1 : V.cell? ⟨v4.heap.size, 1, none⟩ = some (.int .i64 oH) := by rw [hV]; simp [go_sem, x0, x1]
            refine wpAnyH_ready (rs := [14]) (by kernel_rfl) (by simp) ?_
            refine AllReadyH.cons (o := _) rfl (fun K hK => ?_) AllReadyH.nil
            go_simp
            try rw [← hV]
            clear hHeld
            refine hK.out _ _ (KK.out _ HV.out) (fun hHeld => ?_)
            clear hK K
            try simp only [Act.put, List.setIfInBounds_toArray, List.set_cons_zero, List.set_cons_succ, List.getElem_toArray, List.getElem_cons_succ, List.getElem_cons_zero]
            refine wpAnyH_done (by kernel_rfl) ?_ _
            clear hHeld
            obtain ⟨g0, g1, g2, g3⟩ := KR.out _ HV.out
            have HZ0 := Lib.hid z0
            have HZ1 := Lib.hid z1
            have hbl : v4.heap.size < V.heap.size := World.block_lt_of_cell? V ⟨v4.heap.size, 0, none⟩ z0
            clear hV k0 k1 k2 k3 k4 k5 k6 k7
            go_wp2_with fail
            refine (c77 _).mono ?_
            rintro e v9 ⟨rfl, hb⟩
            have hb9 : Below A.heap.size A v9 := HV.out.trans (hb.mono HV.out.size)
            have HV9 := Lib.hid hb9
            obtain ⟨g0, g1, g2, g3⟩ := KR.out _ hb9
            have z0 : v9.cell? ⟨v4.heap.size, 0, none⟩ = some (.int .i64 oL) := (hb.cell (p := ⟨v4.heap.size, 0, none⟩) hbl).trans HZ0.out
            have z1 : v9.cell? ⟨v4.heap.size, 1, none⟩ = some (.int .i64 oH) := (hb.cell (p := ⟨v4.heap.size, 1, none⟩) hbl).trans HZ1.out
            clear hb hb9
            by_cases hle : oL ≤ oH
            · obtain rfl : q = ⟨oL, oH, 0⟩ := by rw [← HQ.out, if_pos hle]
              obtain rfl := HQO.out.symm
              rw [decide_eq_true hle]
              go_wp2_with fail
              refine bodyPost_ret (v := .tuple #[.agg #[.int .i64 oL, .int .i64 oH], .int .i64 0]) (by simp [results, Try.results22, go_sem, g0, g1]) rfl ⟨rfl, HEND.out _ _ _ HV9.out⟩
            · obtain rfl : q = ⟨0, 0, 5⟩ := by rw [← HQ.out, if_neg hle]
              obtain rfl := HQO.out.symm
              rw [decide_eq_false hle]
              go_wp2_with fail
              refine bodyPost_ret (v := .tuple #[.agg #[.int .i64 0, .int .i64 0], .int .i64 5]) (by simp [results, Try.results22, go_sem, g0, g1]) rfl ⟨rfl, HEND.out _ _ _ HV9.out⟩
        · go_simp
          obtain ⟨u, hu⟩ : ∃ u, u = v3.alloc (.cells #[.int .i64 0, .int .i64 0] 23) := ⟨_, rfl⟩
          have huz : u.heap.size = v3.heap.size + 1 := by rw [hu]; simp
          have HU := Lib.hid (show Below A.heap.size A u by rw [hu]; exact HV3.out.alloc HV3.out.size _)
          have y0 : u.cell? ⟨v3.heap.size, 0, none⟩ = some (.int .i64 0) := by rw [hu]; simp [go_sem]
          have y1 : u.cell? ⟨v3.heap.size, 1, none⟩ = some (.int .i64 0) := by rw [hu]; simp [go_sem]
          have yf : ∀ o, u.frozen? ⟨v3.heap.size, o, none⟩ = false := fun o => by rw [hu]; simp [go_sem]
          have HP := Lib.hid (show Below (v3.heap.size + 1) u u from Below.refl _ _)
          have hbz := HV3.out.size
          try rw [← hu]
          have HUU := Lib.hid hu
          clear hu
          clear hHeld
          refine hK.out _ _ (KK.out _ HU.out) (fun hHeld => ?_)
          clear hK K
          try simp only [Act.put, List.setIfInBounds_toArray, List.set_cons_zero, List.set_cons_succ, List.getElem_toArray, List.getElem_cons_succ, List.getElem_cons_zero]
          refine wpAnyH_ready (rs := [11]) (by kernel_rfl) (by simp) ?_
          refine AllReadyH.cons (o := _) rfl (fun K hK => ?_) (AllReadyH.nil)
          go_simp
          go_at_call 75
          refine Calls.mono (c75b _) ?_
          rintro e v4 ⟨rfl, hb⟩
          have HV4 := Lib.hid (show Below A.heap.size A v4 from Below.trans HU.out (hb.mono HU.out.size))
          have HP4 := Lib.hid (show Below (v3.heap.size + 1) u v4 from Below.trans HP.out (hb.mono (by have := HP.out.size; omega)))
          clear hb
          clear hHeld
          refine hK.out _ _ (KK.out _ HV4.out) (fun hHeld => ?_)
          clear hK K
          try simp only [Act.put, List.setIfInBounds_toArray, List.set_cons_zero, List.set_cons_succ, List.getElem_toArray, List.getElem_cons_succ, List.getElem_cons_zero]
          refine wpAnyH_ready (rs := [12]) (by kernel_rfl) (by simp) ?_
          refine AllReadyH.cons (o := _) rfl (fun K hK => ?_) (AllReadyH.nil)
          go_simp
          go_at_call 73
          refine Calls.mono (c73 _) ?_
          rintro e v5 ⟨rfl, hb⟩
          have HV5 := Lib.hid (show Below A.heap.size A v5 from Below.trans HV4.out (hb.mono HV4.out.size))
          have HP5 := Lib.hid (show Below (v3.heap.size + 1) u v5 from Below.trans HP4.out (hb.mono (by have := HP4.out.size; omega)))
          clear hb
          clear hHeld
          refine hK.out _ _ (KK.out _ HV5.out) (fun hHeld => ?_)
          clear hK K
          try simp only [Act.put, List.setIfInBounds_toArray, List.set_cons_zero, List.set_cons_succ, List.getElem_toArray, List.getElem_cons_succ, List.getElem_cons_zero]
          have x0 := (HP5.out.cell (p := ⟨v3.heap.size, 0, none⟩) (Nat.lt_succ_self _)).trans y0
          have x1 := (HP5.out.cell (p := ⟨v3.heap.size, 1, none⟩) (Nat.lt_succ_self _)).trans y1
          have xf := fun o => (HP5.out.frozen (p := ⟨v3.heap.size, o, none⟩) (Nat.lt_succ_self _)).trans (yf o)
          have xf0 := xf 0
          have xf1 := xf 1
          obtain ⟨V, hV⟩ : ∃ V, V = (v5.setCell ⟨v3.heap.size, 0, none⟩ (.int .i64 oL)).setCell ⟨v3.heap.size, 1, none⟩ (.int .i64 oH) := ⟨_, rfl⟩
          have HV := Lib.hid (show Below A.heap.size A V by rw [hV]; exact (HV5.out.setCell (p := ⟨v3.heap.size, 0, none⟩) (by show A.heap.size ≤ v3.heap.size; exact hbz) _).setCell (p := ⟨v3.heap.size, 1, none⟩) (by show A.heap.size ≤ v3.heap.size; exact hbz) _)
          have z0 : V.cell? ⟨v3.heap.size, 0, none⟩ = some (.int .i64 oL) := by rw [hV]; simp [go_sem, x0, x1]
          have z1 : V.cell? ⟨v3.heap.size, 1, none⟩ = some (.int .i64 oH) := by rw [hV]; simp [go_sem, x0, x1]
          refine wpAnyH_ready (rs := [14]) (by kernel_rfl) (by simp) ?_
          refine AllReadyH.cons (o := _) rfl (fun K hK => ?_) AllReadyH.nil
          go_simp
          try rw [← hV]
          clear hHeld
          refine hK.out _ _ (KK.out _ HV.out) (fun hHeld => ?_)
          clear hK K
          try simp only [Act.put, List.setIfInBounds_toArray, List.set_cons_zero, List.set_cons_succ, List.getElem_toArray, List.getElem_cons_succ, List.getElem_cons_zero]
          refine wpAnyH_done (by kernel_rfl) ?_ _
          clear hHeld
          obtain ⟨g0, g1, g2, g3⟩ := KR.out _ HV.out
          have HZ0 := Lib.hid z0
          have HZ1 := Lib.hid z1
          have hbl : v3.heap.size < V.heap.size := World.block_lt_of_cell? V ⟨v3.heap.size, 0, none⟩ z0
          clear hV k0 k1 k2 k3 k4 k5 k6 k7
          go_wp2_with fail
          refine (c77 _).mono ?_
          rintro e v9 ⟨rfl, hb⟩
          have hb9 : Below A.heap.size A v9 := HV.out.trans (hb.mono HV.out.size)
          have HV9 := Lib.hid hb9
          obtain ⟨g0, g1, g2, g3⟩ := KR.out _ hb9
          have z0 : v9.cell? ⟨v3.heap.size, 0, none⟩ = some (.int .i64 oL) := (hb.cell (p := ⟨v3.heap.size, 0, none⟩) hbl).trans HZ0.out
          have z1 : v9.cell? ⟨v3.heap.size, 1, none⟩ = some (.int .i64 oH) := (hb.cell (p := ⟨v3.heap.size, 1, none⟩) hbl).trans HZ1.out
          clear hb hb9
          by_cases hle : oL ≤ oH
          · obtain rfl : q = ⟨oL, oH, 0⟩ := by rw [← HQ.out, if_pos hle]
            obtain rfl := HQO.out.symm
            rw [decide_eq_true hle]
            go_wp2_with fail
            refine bodyPost_ret (v := .tuple #[.agg #[.int .i64 oL, .int .i64 oH], .int .i64 0]) (by simp [results, Try.results22, go_sem, g0, g1]) rfl ⟨rfl, HEND.out _ _ _ HV9.out⟩
          · obtain rfl : q = ⟨0, 0, 5⟩ := by rw [← HQ.out, if_neg hle]
            obtain rfl := HQO.out.symm
            rw [decide_eq_false hle]
            go_wp2_with fail
            refine bodyPost_ret (v := .tuple #[.agg #[.int .i64 0, .int .i64 0], .int .i64 5]) (by simp [results, Try.results22, go_sem, g0, g1]) rfl ⟨rfl, HEND.out _ _ _ HV9.out⟩
      · go_simp
        obtain ⟨u, hu⟩ : ∃ u, u = v2.alloc (.cells #[.int .i64 0, .int .i64 0] 23) := ⟨_, rfl⟩
        have huz : u.heap.size = v2.heap.size + 1 := by rw [hu]; simp
        have HU := Lib.hid (show Below A.heap.size A u by rw [hu]; exact HV2.out.alloc HV2.out.size _)
        have y0 : u.cell? ⟨v2.heap.size, 0, none⟩ = some (.int .i64 0) := by rw [hu]; simp [go_sem]
        have y1 : u.cell? ⟨v2.heap.size, 1, none⟩ = some (.int .i64 0) := by rw [hu]; simp [go_sem]
        have yf : ∀ o, u.frozen? ⟨v2.heap.size, o, none⟩ = false := fun o => by rw [hu]; simp [go_sem]
        have HP := Lib.hid (show Below (v2.heap.size + 1) u u from Below.refl _ _)
        have hbz := HV2.out.size
        try rw [← hu]
        have HUU := Lib.hid hu
        clear hu
        clear hHeld
        refine hK.out _ _ (KK.out _ HU.out) (fun hHeld => ?_)
        clear hK K
        try simp only [Act.put, List.setIfInBounds_toArray, List.set_cons_zero, List.set_cons_succ, List.getElem_toArray, List.getElem_cons_succ, List.getElem_cons_zero]
        refine wpAnyH_ready (rs := [7]) (by kernel_rfl) (by simp) ?_
        refine AllReadyH.cons (o := _) rfl (fun K hK => ?_) (AllReadyH.nil)
        go_simp
        go_at_call 76
        refine Calls.mono (c76 _) ?_
        rintro e v3 ⟨rfl, hb⟩
        have HV3 := Lib.hid (show Below A.heap.size A v3 from Below.trans HU.out (hb.mono HU.out.size))
        have HP3 := Lib.hid (show Below (v2.heap.size + 1) u v3 from Below.trans HP.out (hb.mono (by have := HP.out.size; omega)))
        clear hb
        clear hHeld
        refine hK.out _ _ (KK.out _ HV3.out) (fun hHeld => ?_)
        clear hK K
        try simp only [Act.put, List.setIfInBounds_toArray, List.set_cons_zero, List.set_cons_succ, List.getElem_toArray, List.getElem_cons_succ, List.getElem_cons_zero]
        refine wpAnyH_ready (rs := [11]) (by kernel_rfl) (by simp) ?_
        refine AllReadyH.cons (o := _) rfl (fun K hK => ?_) (AllReadyH.nil)
        go_simp
        go_at_call 75
        refine Calls.mono (c75b _) ?_
        rintro e v4 ⟨rfl, hb⟩
        have HV4 := Lib.hid (show Below A.heap.size A v4 from Below.trans HV3.out (hb.mono HV3.out.size))
        have HP4 := Lib.hid (show Below (v2.heap.size + 1) u v4 from Below.trans HP3.out (hb.mono (by have := HP3.out.size; omega)))
        clear hb
        clear hHeld
        refine hK.out _ _ (KK.out _ HV4.out) (fun hHeld => ?_)
        clear hK K
        try simp only [Act.put, List.setIfInBounds_toArray, List.set_cons_zero, List.set_cons_succ, List.getElem_toArray, List.getElem_cons_succ, List.getElem_cons_zero]
        refine wpAnyH_ready (rs := [12]) (by kernel_rfl) (by simp) ?_
        refine AllReadyH.cons (o := _) rfl (fun K hK => ?_) (AllReadyH.nil)
        go_simp
        go_at_call 73
        refine Calls.mono (c73 _) ?_
        rintro e v5 ⟨rfl, hb⟩
        have HV5 := Lib.hid (show Below A.heap.size A v5 from Below.trans HV4.out (hb.mono HV4.out.size))
        have HP5 := Lib.hid (show Below (v2.heap.size + 1) u v5 from Below.trans HP4.out (hb.mono (by have := HP4.out.size; omega)))
        clear hb
        clear hHeld
        refine hK.out _ _ (KK.out _ HV5.out) (fun hHeld => ?_)
        clear hK K
        try simp only [Act.put, List.setIfInBounds_toArray, List.set_cons_zero, List.set_cons_succ, List.getElem_toArray, List.getElem_cons_succ, List.getElem_cons_zero]
        have x0 := (HP5.out.cell (p := ⟨v2.heap.size, 0, none⟩) (Nat.lt_succ_self _)).trans y0
        have x1 := (HP5.out.cell (p := ⟨v2.heap.size, 1, none⟩) (Nat.lt_succ_self _)).trans y1
        have xf := fun o => (HP5.out.frozen (p := ⟨v2.heap.size, o, none⟩) (Nat.lt_succ_self _)).trans (yf o)
        have xf0 := xf 0
        have xf1 := xf 1
        obtain ⟨V, hV⟩ : ∃ V, V = (v5.setCell ⟨v2.heap.size, 0, none⟩ (.int .i64 oL)).setCell ⟨v2.heap.size, 1, none⟩ (.int .i64 oH) := ⟨_, rfl⟩
        have HV := Lib.hid (show Below A.heap.size A V by rw [hV]; exact (HV5.out.setCell (p := ⟨v2.heap.size, 0, none⟩) (by show A.heap.size ≤ v2.heap.size; exact hbz) _).setCell (p := ⟨v2.heap.size, 1, none⟩) (by show A.heap.size ≤ v2.heap.size; exact hbz) _)
        have z0 : V.cell? ⟨v2.heap.size, 0, none⟩ = some (.int .i64 oL) := by rw [hV]; simp [go_sem, x0, x1]
        have z1 : V.cell? ⟨v2.heap.size, 1, none⟩ = some (.int .i64 oH) := by rw [hV]; simp [go_sem, x0, x1]
        refine wpAnyH_ready (rs := [14]) (by kernel_rfl) (by simp) ?_
        refine AllReadyH.cons (o := _) rfl (fun K hK => ?_) AllReadyH.nil
        go_simp
        try rw [← hV]
        clear hHeld
        refine hK.out _ _ (KK.out _ HV.out) (fun hHeld => ?_)
        clear hK K
        try simp only [Act.put, List.setIfInBounds_toArray, List.set_cons_zero, List.set_cons_succ, List.getElem_toArray, List.getElem_cons_succ, List.getElem_cons_zero]
        refine wpAnyH_done (by kernel_rfl) ?_ _
        clear hHeld
        obtain ⟨g0, g1, g2, g3⟩ := KR.out _ HV.out
        have HZ0 := Lib.hid z0
        have HZ1 := Lib.hid z1
        have hbl : v2.heap.size < V.heap.size := World.block_lt_of_cell? V ⟨v2.heap.size, 0, none⟩ z0
        clear hV k0 k1 k2 k3 k4 k5 k6 k7
        go_wp2_with fail
        refine (c77 _).mono ?_
        rintro e v9 ⟨rfl, hb⟩
        have hb9 : Below A.heap.size A v9 := HV.out.trans (hb.mono HV.out.size)
        have HV9 := Lib.hid hb9
        obtain ⟨g0, g1, g2, g3⟩ := KR.out _ hb9
        have z0 : v9.cell? ⟨v2.heap.size, 0, none⟩ = some (.int .i64 oL) := (hb.cell (p := ⟨v2.heap.size, 0, none⟩) hbl).trans HZ0.out
        have z1 : v9.cell? ⟨v2.heap.size, 1, none⟩ = some (.int .i64 oH) := (hb.cell (p := ⟨v2.heap.size, 1, none⟩) hbl).trans HZ1.out
        clear hb hb9
        by_cases hle : oL ≤ oH
        · obtain rfl : q = ⟨oL, oH, 0⟩ := by rw [← HQ.out, if_pos hle]
          obtain rfl := HQO.out.symm
          rw [decide_eq_true hle]
          go_wp2_with fail
          refine bodyPost_ret (v := .tuple #[.agg #[.int .i64 oL, .int .i64 oH], .int .i64 0]) (by simp [results, Try.results22, go_sem, g0, g1]) rfl ⟨rfl, HEND.out _ _ _ HV9.out⟩
        · obtain rfl : q = ⟨0, 0, 5⟩ := by rw [← HQ.out, if_neg hle]
          obtain rfl := HQO.out.symm
          rw [decide_eq_false hle]
          go_wp2_with fail
          refine bodyPost_ret (v := .tuple #[.agg #[.int .i64 0, .int .i64 0], .int .i64 5]) (by simp [results, Try.results22, go_sem, g0, g1]) rfl ⟨rfl, HEND.out _ _ _ HV9.out⟩
    · go_simp
      obtain ⟨u, hu⟩ : ∃ u, u = v1.alloc (.cells #[.int .i64 0, .int .i64 0] 23) := ⟨_, rfl⟩
      have huz : u.heap.size = v1.heap.size + 1 := by rw [hu]; simp
      have HU := Lib.hid (show Below A.heap.size A u by rw [hu]; exact HV1.out.alloc HV1.out.size _)
      have y0 : u.cell? ⟨v1.heap.size, 0, none⟩ = some (.int .i64 0) := by rw [hu]; simp [go_sem]
      have y1 : u.cell? ⟨v1.heap.size, 1, none⟩ = some (.int .i64 0) := by rw [hu]; simp [go_sem]
      have yf : ∀ o, u.frozen? ⟨v1.heap.size, o, none⟩ = false := fun o => by rw [hu]; simp [go_sem]
      have HP := Lib.hid (show Below (v1.heap.size + 1) u u from Below.refl _ _)
      have hbz := HV1.out.size
      try rw [← hu]
      have HUU := Lib.hid hu
      clear hu
      clear hHeld
      refine hK.out _ _ (KK.out _ HU.out) (fun hHeld => ?_)
      clear hK K
      try simp only [Act.put, List.setIfInBounds_toArray, List.set_cons_zero, List.set_cons_succ, List.getElem_toArray, List.getElem_cons_succ, List.getElem_cons_zero]
      refine wpAnyH_ready (rs := [5]) (by kernel_rfl) (by simp) ?_
      refine AllReadyH.cons (o := _) rfl (fun K hK => ?_) (AllReadyH.nil)
      go_simp
      go_at_call 75
      refine Calls.mono (c75a _) ?_
      rintro e v2 ⟨rfl, hb⟩
      have HV2 := Lib.hid (show Below A.heap.size A v2 from Below.trans HU.out (hb.mono HU.out.size))
      have HP2 := Lib.hid (show Below (v1.heap.size + 1) u v2 from Below.trans HP.out (hb.mono (by have := HP.out.size; omega)))
      clear hb
      clear hHeld
      refine hK.out _ _ (KK.out _ HV2.out) (fun hHeld => ?_)
      clear hK K
      try simp only [Act.put, List.setIfInBounds_toArray, List.set_cons_zero, List.set_cons_succ, List.getElem_toArray, List.getElem_cons_succ, List.getElem_cons_zero]
      refine wpAnyH_ready (rs := [7]) (by kernel_rfl) (by simp) ?_
      refine AllReadyH.cons (o := _) rfl (fun K hK => ?_) (AllReadyH.nil)
      go_simp
      go_at_call 76
      refine Calls.mono (c76 _) ?_
      rintro e v3 ⟨rfl, hb⟩
      have HV3 := Lib.hid (show Below A.heap.size A v3 from Below.trans HV2.out (hb.mono HV2.out.size))
      have HP3 := Lib.hid (show Below (v1.heap.size + 1) u v3 from Below.trans HP2.out (hb.mono (by have := HP2.out.size; omega)))
      clear hb
      clear hHeld
      refine hK.out _ _ (KK.out _ HV3.out) (fun hHeld => ?_)
      clear hK K
      try simp only [Act.put, List.setIfInBounds_toArray, List.set_cons_zero, List.set_cons_succ, List.getElem_toArray, List.getElem_cons_succ, List.getElem_cons_zero]
      refine wpAnyH_ready (rs := [11]) (by kernel_rfl) (by simp) ?_
      refine AllReadyH.cons (o := _) rfl (fun K hK => ?_) (AllReadyH.nil)
      go_simp
      go_at_call 75
      refine Calls.mono (c75b _) ?_
      rintro e v4 ⟨rfl, hb⟩
      have HV4 := Lib.hid (show Below A.heap.size A v4 from Below.trans HV3.out (hb.mono HV3.out.size))
      have HP4 := Lib.hid (show Below (v1.heap.size + 1) u v4 from Below.trans HP3.out (hb.mono (by have := HP3.out.size; omega)))
      clear hb
      clear hHeld
      refine hK.out _ _ (KK.out _ HV4.out) (fun hHeld => ?_)
      clear hK K
      try simp only [Act.put, List.setIfInBounds_toArray, List.set_cons_zero, List.set_cons_succ, List.getElem_toArray, List.getElem_cons_succ, List.getElem_cons_zero]
      refine wpAnyH_ready (rs := [12]) (by kernel_rfl) (by simp) ?_
      refine AllReadyH.cons (o := _) rfl (fun K hK => ?_) (AllReadyH.nil)
      go_simp
      go_at_call 73
      refine Calls.mono (c73 _) ?_
      rintro e v5 ⟨rfl, hb⟩
      have HV5 := Lib.hid (show Below A.heap.size A v5 from Below.trans HV4.out (hb.mono HV4.out.size))
      have HP5 := Lib.hid (show Below (v1.heap.size + 1) u v5 from Below.trans HP4.out (hb.mono (by have := HP4.out.size; omega)))
      clear hb
      clear hHeld
      refine hK.out _ _ (KK.out _ HV5.out) (fun hHeld => ?_)
      clear hK K
      try simp only [Act.put, List.setIfInBounds_toArray, List.set_cons_zero, List.set_cons_succ, List.getElem_toArray, List.getElem_cons_succ, List.getElem_cons_zero]
      have x0 := (HP5.out.cell (p := ⟨v1.heap.size, 0, none⟩) (Nat.lt_succ_self _)).trans y0
      have x1 := (HP5.out.cell (p := ⟨v1.heap.size, 1, none⟩) (Nat.lt_succ_self _)).trans y1
      have xf := fun o => (HP5.out.frozen (p := ⟨v1.heap.size, o, none⟩) (Nat.lt_succ_self _)).trans (yf o)
      have xf0 := xf 0
      have xf1 := xf 1
      obtain ⟨V, hV⟩ : ∃ V, V = (v5.setCell ⟨v1.heap.size, 0, none⟩ (.int .i64 oL)).setCell ⟨v1.heap.size, 1, none⟩ (.int .i64 oH) := ⟨_, rfl⟩
      have HV := Lib.hid (show Below A.heap.size A V by rw [hV]; exact (HV5.out.setCell (p := ⟨v1.heap.size, 0, none⟩) (by show A.heap.size ≤ v1.heap.size; exact hbz) _).setCell (p := ⟨v1.heap.size, 1, none⟩) (by show A.heap.size ≤ v1.heap.size; exact hbz) _)
      have z0 : V.cell? ⟨v1.heap.size, 0, none⟩ = some (.int .i64 oL) := by rw [hV]; simp [go_sem, x0, x1]
      have z1 : V.cell? ⟨v1.heap.size, 1, none⟩ = some (.int .i64 oH) := by rw [hV]; simp [go_sem, x0, x1]
      refine wpAnyH_ready (rs := [14]) (by kernel_rfl) (by simp) ?_
      refine AllReadyH.cons (o := _) rfl (fun K hK => ?_) AllReadyH.nil
      go_simp
      try rw [← hV]
      clear hHeld
      refine hK.out _ _ (KK.out _ HV.out) (fun hHeld => ?_)
      clear hK K
      try simp only [Act.put, List.setIfInBounds_toArray, List.set_cons_zero, List.set_cons_succ, List.getElem_toArray, List.getElem_cons_succ, List.getElem_cons_zero]
      refine wpAnyH_done (by kernel_rfl) ?_ _
      clear hHeld
      obtain ⟨g0, g1, g2, g3⟩ := KR.out _ HV.out
      have HZ0 := Lib.hid z0
      have HZ1 := Lib.hid z1
      have hbl : v1.heap.size < V.heap.size := World.block_lt_of_cell? V ⟨v1.heap.size, 0, none⟩ z0
      clear hV k0 k1 k2 k3 k4 k5 k6 k7
      go_wp2_with fail
      refine (c77 _).mono ?_
      rintro e v9 ⟨rfl, hb⟩
      have hb9 : Below A.heap.size A v9 := HV.out.trans (hb.mono HV.out.size)
      have HV9 := Lib.hid hb9
      obtain ⟨g0, g1, g2, g3⟩ := KR.out _ hb9
      have z0 : v9.cell? ⟨v1.heap.size, 0, none⟩ = some (.int .i64 oL) := (hb.cell (p := ⟨v1.heap.size, 0, none⟩) hbl).trans HZ0.out
      have z1 : v9.cell? ⟨v1.heap.size, 1, none⟩ = some (.int .i64 oH) := (hb.cell (p := ⟨v1.heap.size, 1, none⟩) hbl).trans HZ1.out
      clear hb hb9
      by_cases hle : oL ≤ oH
      · obtain rfl : q = ⟨oL, oH, 0⟩ := by rw [← HQ.out, if_pos hle]
        obtain rfl := HQO.out.symm
        rw [decide_eq_true hle]
        go_wp2_with fail
        refine bodyPost_ret (v := .tuple #[.agg #[.int .i64 oL, .int .i64 oH], .int .i64 0]) (by simp [results, Try.results22, go_sem, g0, g1]) rfl ⟨rfl, HEND.out _ _ _ HV9.out⟩
      · obtain rfl : q = ⟨0, 0, 5⟩ := by rw [← HQ.out, if_neg hle]
        obtain rfl := HQO.out.symm
        rw [decide_eq_false hle]
        go_wp2_with fail
        refine bodyPost_ret (v := .tuple #[.agg #[.int .i64 0, .int .i64 0], .int .i64 5]) (by simp [results, Try.results22, go_sem, g0, g1]) rfl ⟨rfl, HEND.out _ _ _ HV9.out⟩
  · go_simp
    obtain ⟨u, hu⟩ : ∃ u, u = (w1.alloc (.cells #[.int .i64 0, .int .i64 0] 23)).drew := ⟨_, rfl⟩
    have huz : u.heap.size = w1.heap.size + 1 := by rw [hu]; simp
    have HU := Lib.hid (show Below A.heap.size A u by rw [hu]; exact (HB1.out.alloc HB1.out.size _).drew)
    have y0 : u.cell? ⟨w1.heap.size, 0, none⟩ = some (.int .i64 0) := by rw [hu]; simp [go_sem]
    have y1 : u.cell? ⟨w1.heap.size, 1, none⟩ = some (.int .i64 0) := by rw [hu]; simp [go_sem]
    have yf : ∀ o, u.frozen? ⟨w1.heap.size, o, none⟩ = false := fun o => by rw [hu]; simp [go_sem]
    have HP := Lib.hid (show Below (w1.heap.size + 1) u u from Below.refl _ _)
    have hbz := ((HB1.out).drew).size
    try rw [← hu]
    have HUU := Lib.hid hu
    clear hu
    clear hHeld
    refine hK.out _ _ (KK.out _ HU.out) (fun hHeld => ?_)
    clear hK K
    try simp only [Act.put, List.setIfInBounds_toArray, List.set_cons_zero, List.set_cons_succ, List.getElem_toArray, List.getElem_cons_succ, List.getElem_cons_zero]
    refine wpAnyH_ready (rs := [1]) (by kernel_rfl) (by simp) ?_
    refine AllReadyH.cons (o := _) rfl (fun K hK => ?_) (AllReadyH.nil)
    go_simp
    go_at_call 74
    refine Calls.mono (c74 _) ?_
    rintro e v1 ⟨rfl, hb⟩
    have HV1 := Lib.hid (show Below A.heap.size A v1 from Below.trans HU.out (hb.mono HU.out.size))
    have HP1 := Lib.hid (show Below (w1.heap.size + 1) u v1 from Below.trans HP.out (hb.mono (by have := HP.out.size; omega)))
    clear hb
    clear hHeld
    refine hK.out _ _ (KK.out _ HV1.out) (fun hHeld => ?_)
    clear hK K
    try simp only [Act.put, List.setIfInBounds_toArray, List.set_cons_zero, List.set_cons_succ, List.getElem_toArray, List.getElem_cons_succ, List.getElem_cons_zero]
    refine wpAnyH_ready (rs := [5]) (by kernel_rfl) (by simp) ?_
    refine AllReadyH.cons (o := _) rfl (fun K hK => ?_) (AllReadyH.nil)
    go_simp
    go_at_call 75
    refine Calls.mono (c75a _) ?_
    rintro e v2 ⟨rfl, hb⟩
    have HV2 := Lib.hid (show Below A.heap.size A v2 from Below.trans HV1.out (hb.mono HV1.out.size))
    have HP2 := Lib.hid (show Below (w1.heap.size + 1) u v2 from Below.trans HP1.out (hb.mono (by have := HP1.out.size; omega)))
    clear hb
    clear hHeld
    refine hK.out _ _ (KK.out _ HV2.out) (fun hHeld => ?_)
    clear hK K
    try simp only [Act.put, List.setIfInBounds_toArray, List.set_cons_zero, List.set_cons_succ, List.getElem_toArray, List.getElem_cons_succ, List.getElem_cons_zero]
    refine wpAnyH_ready (rs := [7]) (by kernel_rfl) (by simp) ?_
    refine AllReadyH.cons (o := _) rfl (fun K hK => ?_) (AllReadyH.nil)
    go_simp
    go_at_call 76
    refine Calls.mono (c76 _) ?_
    rintro e v3 ⟨rfl, hb⟩
    have HV3 := Lib.hid (show Below A.heap.size A v3 from Below.trans HV2.out (hb.mono HV2.out.size))
    have HP3 := Lib.hid (show Below (w1.heap.size + 1) u v3 from Below.trans HP2.out (hb.mono (by have := HP2.out.size; omega)))
    clear hb
    clear hHeld
    refine hK.out _ _ (KK.out _ HV3.out) (fun hHeld => ?_)
    clear hK K
    try simp only [Act.put, List.setIfInBounds_toArray, List.set_cons_zero, List.set_cons_succ, List.getElem_toArray, List.getElem_cons_succ, List.getElem_cons_zero]
    refine wpAnyH_ready (rs := [11]) (by kernel_rfl) (by simp) ?_
    refine AllReadyH.cons (o := _) rfl (fun K hK => ?_) (AllReadyH.nil)
    go_simp
    go_at_call 75
    refine Calls.mono (c75b _) ?_
    rintro e v4 ⟨rfl, hb⟩
    have HV4 := Lib.hid (show Below A.heap.size A v4 from Below.trans HV3.out (hb.mono HV3.out.size))
    have HP4 := Lib.hid (show Below (w1.heap.size + 1) u v4 from Below.trans HP3.out (hb.mono (by have := HP3.out.size; omega)))
    clear hb
    clear hHeld
    refine hK.out _ _ (KK.out _ HV4.out) (fun hHeld => ?_)
    clear hK K
    try simp only [Act.put, List.setIfInBounds_toArray, List.set_cons_zero, List.set_cons_succ, List.getElem_toArray, List.getElem_cons_succ, List.getElem_cons_zero]
    refine wpAnyH_ready (rs := [12]) (by kernel_rfl) (by simp) ?_
    refine AllReadyH.cons (o := _) rfl (fun K hK => ?_) (AllReadyH.nil)
    go_simp
    go_at_call 73
    refine Calls.mono (c73 _) ?_
    rintro e v5 ⟨rfl, hb⟩
    have HV5 := Lib.hid (show Below A.heap.size A v5 from Below.trans HV4.out (hb.mono HV4.out.size))
    have HP5 := Lib.hid (show Below (w1.heap.size + 1) u v5 from Below.trans HP4.out (hb.mono (by have := HP4.out.size; omega)))
    clear hb
    clear hHeld
    refine hK.out _ _ (KK.out _ HV5.out) (fun hHeld => ?_)
    clear hK K
    try simp only [Act.put, List.setIfInBounds_toArray, List.set_cons_zero, List.set_cons_succ, List.getElem_toArray, List.getElem_cons_succ, List.getElem_cons_zero]
    have x0 := (HP5.out.cell (p := ⟨w1.heap.size, 0, none⟩) (Nat.lt_succ_self _)).trans y0
    have x1 := (HP5.out.cell (p := ⟨w1.heap.size, 1, none⟩) (Nat.lt_succ_self _)).trans y1
    have xf := fun o => (HP5.out.frozen (p := ⟨w1.heap.size, o, none⟩) (Nat.lt_succ_self _)).trans (yf o)
    have xf0 := xf 0
    have xf1 := xf 1
    obtain ⟨V, hV⟩ : ∃ V, V = (v5.setCell ⟨w1.heap.size, 0, none⟩ (.int .i64 oL)).setCell ⟨w1.heap.size, 1, none⟩ (.int .i64 oH) := ⟨_, rfl⟩
    have HV := Lib.hid (show Below A.heap.size A V by rw [hV]; exact (HV5.out.setCell (p := ⟨w1.heap.size, 0, none⟩) (by show A.heap.size ≤ w1.heap.size; exact hbz) _).setCell (p := ⟨w1.heap.size, 1, none⟩) (by show A.heap.size ≤ w1.heap.size; exact hbz) _)
    have z0 : V.cell? ⟨w1.heap.size, 0, none⟩ = some (.int .i64 oL) := by rw [hV]; simp [go_sem, x0, x1]
    have z1 : V.cell? ⟨w1.heap.size, 1, none⟩ = some (.int .i64 oH) := by rw [hV]; simp [go_sem, x0, x1]
    refine wpAnyH_ready (rs := [14]) (by kernel_rfl) (by simp) ?_
    refine AllReadyH.cons (o := _) rfl (fun K hK => ?_) AllReadyH.nil
    go_simp
    try rw [← hV]
    clear hHeld
    refine hK.out _ _ (KK.out _ HV.out) (fun hHeld => ?_)
    clear hK K
    try simp only [Act.put, List.setIfInBounds_toArray, List.set_cons_zero, List.set_cons_succ, List.getElem_toArray, List.getElem_cons_succ, List.getElem_cons_zero]
    refine wpAnyH_done (by kernel_rfl) ?_ _
    clear hHeld
    obtain ⟨g0, g1, g2, g3⟩ := KR.out _ HV.out
    have HZ0 := Lib.hid z0
    have HZ1 := Lib.hid z1
    have hbl : w1.heap.size < V.heap.size := World.block_lt_of_cell? V ⟨w1.heap.size, 0, none⟩ z0
    clear hV k0 k1 k2 k3 k4 k5 k6 k7
    go_wp2_with fail
    refine (c77 _).mono ?_
    rintro e v9 ⟨rfl, hb⟩
    have hb9 : Below A.heap.size A v9 := HV.out.trans (hb.mono HV.out.size)
    have HV9 := Lib.hid hb9
    obtain ⟨g0, g1, g2, g3⟩ := KR.out _ hb9
    have z0 : v9.cell? ⟨w1.heap.size, 0, none⟩ = some (.int .i64 oL) := (hb.cell (p := ⟨w1.heap.size, 0, none⟩) hbl).trans HZ0.out
    have z1 : v9.cell? ⟨w1.heap.size, 1, none⟩ = some (.int .i64 oH) := (hb.cell (p := ⟨w1.heap.size, 1, none⟩) hbl).trans HZ1.out
    clear hb hb9
    by_cases hle : oL ≤ oH
    · obtain rfl : q = ⟨oL, oH, 0⟩ := by rw [← HQ.out, if_pos hle]
      obtain rfl := HQO.out.symm
      rw [decide_eq_true hle]
      go_wp2_with fail
      refine bodyPost_ret (v := .tuple #[.agg #[.int .i64 oL, .int .i64 oH], .int .i64 0]) (by simp [results, Try.results22, go_sem, g0, g1]) rfl ⟨rfl, HEND.out _ _ _ HV9.out⟩
    · obtain rfl : q = ⟨0, 0, 5⟩ := by rw [← HQ.out, if_neg hle]
      obtain rfl := HQO.out.symm
      rw [decide_eq_false hle]
      go_wp2_with fail
      refine bodyPost_ret (v := .tuple #[.agg #[.int .i64 0, .int .i64 0], .int .i64 5]) (by simp [results, Try.results22, go_sem, g0, g1]) rfl ⟨rfl, HEND.out _ _ _ HV9.out⟩
end Go.Proofs.Ytcchmjbedppfnaa

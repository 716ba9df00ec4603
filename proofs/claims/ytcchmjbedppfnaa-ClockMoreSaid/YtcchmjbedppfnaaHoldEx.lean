/-
  Clock: the exchange of a talk.
-/
import Derived.Test.YtcchmjbedppfnaaHoldFn
namespace Go.Proofs.Ytcchmjbedppfnaa
open Go.RowKit Go.Shelf
set_option linter.unusedSimpArgs false
theorem cellH {W : World} {B : Nat} {cs : Array Value} {t : TypeId} {q : Nat × Nat} (h : W.heap[B]? = some (.cells cs t q)) (j : Nat) : W.cell? ⟨B, j, none⟩ = cs[j]? := by simp [World.cell?, h]
theorem frozH {W : World} {B : Nat} {cs : Array Value} {t : TypeId} (h : W.heap[B]? = some (.cells cs t (0, 0))) (j : Nat) : W.frozen? ⟨B, j, none⟩ = false := by simp [World.frozen?, h]
def Tk.val (k : Tk) : Value := .agg #[.int .u32 k.se, .int .u16 k.go, .int .u16 k.fo, .int .u16 k.ho, .int .u16 k.w0, .int .u16 k.w1, .int .u16 k.w2, .int .u16 k.w3]
set_option maxRecDepth 100000 in
set_option maxHeartbeats 4000000 in
theorem exchange_any (st r : Int) (sv : Value) (sl : List Int) (x : Tk) (hx : x.Ok) (hst : -2147483648 ≤ st ∧ st ≤ 2147483647) (hr : 0 ≤ r ∧ r ≤ 1000000) (w : World) (hS : I8s w.heap.size w sv sl) :
    Calls Try.prog 109 #[.agg #[.int .i32 st, sv], .int .i64 r, x.val] w fun e w' => e = .returned (exS (truO st r sl) x).val ∧ Below w.heap.size w w' := by
  obtain ⟨h1, h2, h3, h4, h5, h6, h7, h8⟩ := hx
  obtain ⟨se, go, fo, ho, w0, w1, w2, w3⟩ := x
  dsimp only at *
  have hse : 0 ≤ se % 15000000 ∧ se % 15000000 ≤ 14999999 := by omega
  have hB1 := truO_bd (a := se % 15000000) hr hS.slow hst
  have hB2 := truO_bd (a := se % 15000000 + go) hr hS.slow hst
  have hup : -2200000000 ≤ upG (se % 15000000 * 1000000000 + truO st r sl (se % 15000000)) ∧ upG (se % 15000000 * 1000000000 + truO st r sl (se % 15000000)) ≤ 2200000000 := by
    unfold upG
    generalize truO st r sl (se % 15000000) = q at *
    omega
  have hdn : -2200000000 ≤ dnG ((se % 15000000 + go) * 1000000000 + truO st r sl (se % 15000000 + go)) ∧ dnG ((se % 15000000 + go) * 1000000000 + truO st r sl (se % 15000000 + go)) ≤ 2200000000 := by
    unfold dnG
    generalize truO st r sl (se % 15000000 + go) = q at *
    omega
  have c51a := Lib.hid (fun W (hb : Below w.heap.size w W) => truth_any st r (se % 15000000) sv sl hst hr ⟨by omega, by omega⟩ W (hS.at hb))
  have c51b := Lib.hid (fun W (hb : Below w.heap.size w W) => truth_any st r (se % 15000000 + go) sv sl hst hr ⟨by omega, by omega⟩ W (hS.at hb))
  have c53 := Lib.hid (fun W => up53_any (se % 15000000 * 1000000000 + truO st r sl (se % 15000000)) ⟨by omega, by omega⟩ W)
  have c52 := Lib.hid (fun W => down_any ((se % 15000000 + go) * 1000000000 + truO st r sl (se % 15000000 + go)) ⟨by omega, by omega⟩ W)
  obtain ⟨a, cap, hsv⟩ := hS.form
  subst hsv
  clear hS
  unfold exS sentS Tk.val Xc.val
  dsimp only
  generalize sl.length = len at *
  generalize hO1 : truO st r sl (se % 15000000) = O1 at *
  generalize hO2 : truO st r sl (se % 15000000 + go) = O2 at *
  have hm : se.tmod 15000000 = se % 15000000 := Int.tmod_eq_emod_of_nonneg h1.1
  have u1 : wrap64 se = se := wrap64_id (by omega) (by omega)
  generalize se % 15000000 = s at *
  generalize hU : upG (s * 1000000000 + O1) = U at *
  generalize hD : dnG ((s + go) * 1000000000 + O2) = D at *
  clear hO1 hO2 hU hD
  have u2 : wrap64 s = s := wrap64_id (by omega) (by omega)
  have u3 : wrap64 go = go := wrap64_id (by omega) (by omega)
  have u4 : wrap64 (s + go) = s + go := wrap64_id (by omega) (by omega)
  have u5 : wrap64 fo = fo := wrap64_id (by omega) (by omega)
  have u6 : wrap64 ho = ho := wrap64_id (by omega) (by omega)
  have u7 : wrap64 w0 = w0 := wrap64_id (by omega) (by omega)
  have u8 : wrap64 w1 = w1 := wrap64_id (by omega) (by omega)
  have u9 : wrap64 w2 = w2 := wrap64_id (by omega) (by omega)
  have u10 : wrap64 w3 = w3 := wrap64_id (by omega) (by omega)
  have u11 : wrap64 (s * 1000000000) = s * 1000000000 := wrap64_id (by omega) (by omega)
  have u12 : wrap64 (s * 1000000000 + O1) = s * 1000000000 + O1 := wrap64_id (by omega) (by omega)
  have u13 : wrap64 ((s + go) * 1000000000) = (s + go) * 1000000000 := wrap64_id (by omega) (by omega)
  have u14 : wrap64 ((s + go) * 1000000000 + O2) = (s + go) * 1000000000 + O2 := wrap64_id (by omega) (by omega)
  have u15 : wrap64 (U + fo) = U + fo := wrap64_id (by omega) (by omega)
  have u16 : wrap64 (D - ho) = D - ho := wrap64_id (by omega) (by omega)
  have u17 : wrap64 (fo - w0) = fo - w0 := wrap64_id (by omega) (by omega)
  have u18 : wrap64 (fo + 1) = fo + 1 := wrap64_id (by omega) (by omega)
  have u19 : wrap64 (fo + 1 + w1) = fo + 1 + w1 := wrap64_id (by omega) (by omega)
  have u20 : wrap64 (ho - w2) = ho - w2 := wrap64_id (by omega) (by omega)
  have u21 : wrap64 (ho + 1) = ho + 1 := wrap64_id (by omega) (by omega)
  have u22 : wrap64 (ho + 1 + w3) = ho + 1 + w3 := wrap64_id (by omega) (by omega)
  have v1 : IntKind.i64.wrap se = se := wrapI_id u1
  have v2 : IntKind.i64.wrap s = s := wrapI_id u2
  have v3 : IntKind.i64.wrap go = go := wrapI_id u3
  have v4 : IntKind.i64.wrap (s + go) = s + go := wrapI_id u4
  have v5 : IntKind.i64.wrap fo = fo := wrapI_id u5
  have v6 : IntKind.i64.wrap ho = ho := wrapI_id u6
  have v7 : IntKind.i64.wrap w0 = w0 := wrapI_id u7
  have v8 : IntKind.i64.wrap w1 = w1 := wrapI_id u8
  have v9 : IntKind.i64.wrap w2 = w2 := wrapI_id u9
  have v10 : IntKind.i64.wrap w3 = w3 := wrapI_id u10
  have v11 : IntKind.i64.wrap (s * 1000000000) = s * 1000000000 := wrapI_id u11
  have v12 : IntKind.i64.wrap (s * 1000000000 + O1) = s * 1000000000 + O1 := wrapI_id u12
  have v13 : IntKind.i64.wrap ((s + go) * 1000000000) = (s + go) * 1000000000 := wrapI_id u13
  have v14 : IntKind.i64.wrap ((s + go) * 1000000000 + O2) = (s + go) * 1000000000 + O2 := wrapI_id u14
  have v15 : IntKind.i64.wrap (U + fo) = U + fo := wrapI_id u15
  have v16 : IntKind.i64.wrap (D - ho) = D - ho := wrapI_id u16
  have v17 : IntKind.i64.wrap (fo - w0) = fo - w0 := wrapI_id u17
  have v18 : IntKind.i64.wrap (fo + 1) = fo + 1 := wrapI_id u18
  have v19 : IntKind.i64.wrap (fo + 1 + w1) = fo + 1 + w1 := wrapI_id u19
  have v20 : IntKind.i64.wrap (ho - w2) = ho - w2 := wrapI_id u20
  have v21 : IntKind.i64.wrap (ho + 1) = ho + 1 := wrapI_id u21
  have v22 : IntKind.i64.wrap (ho + 1 + w3) = ho + 1 + w3 := wrapI_id u22
  obtain ⟨A, hA⟩ : ∃ A, A = ((w.alloc (.cells #[.int .i32 st, .slice a len cap] 67)).alloc (.cells #[.int .u32 se, .int .u16 go, .int .u16 fo, .int .u16 ho, .int .u16 w0, .int .u16 w1, .int .u16 w2, .int .u16 w3] 161)).alloc (.cells #[.int .i64 0, .int .i64 0, .int .i64 0, .int .i64 0, .int .i64 0, .int .i64 0, .int .i64 0, .int .i64 0] 25) := ⟨_, rfl⟩
  have HBA := Lib.hid (show Below w.heap.size w A by rw [hA]; exact (((Below.refl _ _).alloc (Nat.le_refl _) _).alloc (by simp) _).alloc (by simp; omega) _)
  have hzA : A.heap.size = w.heap.size + 3 := by rw [hA]; simp
  have k0 : A.cell? ⟨w.heap.size, 0, none⟩ = some (.int .i32 st) := by rw [hA]; simp [go_sem]
  have k1 : A.cell? ⟨w.heap.size, 1, none⟩ = some (.slice a len cap) := by rw [hA]; simp [go_sem]
  have k2 : A.cell? ⟨w.heap.size + 1, 0, none⟩ = some (.int .u32 se) := by rw [hA]; simp [go_sem]
  have k3 : A.cell? ⟨w.heap.size + 1, 1, none⟩ = some (.int .u16 go) := by rw [hA]; simp [go_sem]
  have k4 : A.cell? ⟨w.heap.size + 1, 2, none⟩ = some (.int .u16 fo) := by rw [hA]; simp [go_sem]
  have k5 : A.cell? ⟨w.heap.size + 1, 3, none⟩ = some (.int .u16 ho) := by rw [hA]; simp [go_sem]
  have k6 : A.cell? ⟨w.heap.size + 1, 4, none⟩ = some (.int .u16 w0) := by rw [hA]; simp [go_sem]
  have k7 : A.cell? ⟨w.heap.size + 1, 5, none⟩ = some (.int .u16 w1) := by rw [hA]; simp [go_sem]
  have k8 : A.cell? ⟨w.heap.size + 1, 6, none⟩ = some (.int .u16 w2) := by rw [hA]; simp [go_sem]
  have k9 : A.cell? ⟨w.heap.size + 1, 7, none⟩ = some (.int .u16 w3) := by rw [hA]; simp [go_sem]
  have kr : A.heap[w.heap.size + 2]? = some (.cells #[.int .i64 0, .int .i64 0, .int .i64 0, .int .i64 0, .int .i64 0, .int .i64 0, .int .i64 0, .int .i64 0] 25 (0, 0)) := by
    rw [hA]
    have q := World.alloc_heap_new ((w.alloc (.cells #[.int .i32 st, .slice a len cap] 67)).alloc (.cells #[.int .u32 se, .int .u16 go, .int .u16 fo, .int .u16 ho, .int .u16 w0, .int .u16 w1, .int .u16 w2, .int .u16 w3] 161)) (.cells #[.int .i64 0, .int .i64 0, .int .i64 0, .int .i64 0, .int .i64 0, .int .i64 0, .int .i64 0, .int .i64 0] 25)
    simpa using q
  have KK := Lib.hid (show ∀ W, Below A.heap.size A W → W.cell? ⟨w.heap.size, 0, none⟩ = some (.int .i32 st) ∧ W.cell? ⟨w.heap.size, 1, none⟩ = some (.slice a len cap) ∧ W.cell? ⟨w.heap.size + 1, 0, none⟩ = some (.int .u32 se) ∧ W.cell? ⟨w.heap.size + 1, 1, none⟩ = some (.int .u16 go) ∧ W.cell? ⟨w.heap.size + 1, 2, none⟩ = some (.int .u16 fo) ∧ W.cell? ⟨w.heap.size + 1, 3, none⟩ = some (.int .u16 ho) ∧ W.cell? ⟨w.heap.size + 1, 4, none⟩ = some (.int .u16 w0) ∧ W.cell? ⟨w.heap.size + 1, 5, none⟩ = some (.int .u16 w1) ∧ W.cell? ⟨w.heap.size + 1, 6, none⟩ = some (.int .u16 w2) ∧ W.cell? ⟨w.heap.size + 1, 7, none⟩ = some (.int .u16 w3) from fun W h => ⟨(h.cell (p := ⟨w.heap.size, 0, none⟩) (by show w.heap.size < A.heap.size; omega)).trans k0, (h.cell (p := ⟨w.heap.size, 1, none⟩) (by show w.heap.size < A.heap.size; omega)).trans k1, (h.cell (p := ⟨w.heap.size + 1, 0, none⟩) (by show w.heap.size + 1 < A.heap.size; omega)).trans k2, (h.cell (p := ⟨w.heap.size + 1, 1, none⟩) (by show w.heap.size + 1 < A.heap.size; omega)).trans k3, (h.cell (p := ⟨w.heap.size + 1, 2, none⟩) (by show w.heap.size + 1 < A.heap.size; omega)).trans k4, (h.cell (p := ⟨w.heap.size + 1, 3, none⟩) (by show w.heap.size + 1 < A.heap.size; omega)).trans k5, (h.cell (p := ⟨w.heap.size + 1, 4, none⟩) (by show w.heap.size + 1 < A.heap.size; omega)).trans k6, (h.cell (p := ⟨w.heap.size + 1, 5, none⟩) (by show w.heap.size + 1 < A.heap.size; omega)).trans k7, (h.cell (p := ⟨w.heap.size + 1, 6, none⟩) (by show w.heap.size + 1 < A.heap.size; omega)).trans k8, (h.cell (p := ⟨w.heap.size + 1, 7, none⟩) (by show w.heap.size + 1 < A.heap.size; omega)).trans k9⟩)
  have HZA := Lib.hid hzA
  have HKR := Lib.hid kr
  clear kr hzA
  go_enter Try.func109, Try.ntmps109
  go_upto_region 1 with fail
  try rw [← hA]
  clear hA
  go_wp2_with fail
  refine wp_region_held_drew (S := fun w' => w'.cell? ⟨w.heap.size, 0, none⟩ = some (.int .i32 st) ∧ w'.cell? ⟨w.heap.size, 1, none⟩ = some (.slice a len cap) ∧ w'.cell? ⟨w.heap.size + 1, 0, none⟩ = some (.int .u32 se) ∧ w'.cell? ⟨w.heap.size + 1, 1, none⟩ = some (.int .u16 go) ∧ w'.cell? ⟨w.heap.size + 1, 2, none⟩ = some (.int .u16 fo) ∧ w'.cell? ⟨w.heap.size + 1, 3, none⟩ = some (.int .u16 ho) ∧ w'.cell? ⟨w.heap.size + 1, 4, none⟩ = some (.int .u16 w0) ∧ w'.cell? ⟨w.heap.size + 1, 5, none⟩ = some (.int .u16 w1) ∧ w'.cell? ⟨w.heap.size + 1, 6, none⟩ = some (.int .u16 w2) ∧ w'.cell? ⟨w.heap.size + 1, 7, none⟩ = some (.int .u16 w3)) (by kernel_rfl) ⟨by simpa [go_sem] using k0, by simpa [go_sem] using k1, by simpa [go_sem] using k2, by simpa [go_sem] using k3, by simpa [go_sem] using k4, by simpa [go_sem] using k5, by simpa [go_sem] using k6, by simpa [go_sem] using k7, by simpa [go_sem] using k8, by simpa [go_sem] using k9⟩ (fun hHeld => ?_)
  refine wpAnyH_take (i := 0) (oi := _) (v := Value.int .i64 s) rfl (by kernel_rfl) (by kernel_rfl) (by kernel_rfl) (fun _ _ _ h => h) (Or.inl ⟨by rfl, fun w' hSw => ?_⟩) hHeld ?_
  · obtain ⟨t0, t1, t2, t3, t4, t5, t6, t7, t8, t9⟩ := hSw
    go_simp
    try simp [*]
    try (intro hh; exfalso; omega)
    try omega
  try simp only [Act.put, List.setIfInBounds_toArray, List.set_cons_zero, List.set_cons_succ, List.getElem_toArray, List.getElem_cons_succ, List.getElem_cons_zero]
  refine wpAnyH_take (i := 1) (oi := _) (v := Value.int .i64 (s * 1000000000)) rfl (by kernel_rfl) (by kernel_rfl) (by kernel_rfl) (fun _ _ _ h => h) (Or.inl ⟨by rfl, fun w' hSw => ?_⟩) hHeld ?_
  · obtain ⟨t0, t1, t2, t3, t4, t5, t6, t7, t8, t9⟩ := hSw
    go_simp
    try simp [*]
    try (intro hh; exfalso; omega)
    try omega
  try simp only [Act.put, List.setIfInBounds_toArray, List.set_cons_zero, List.set_cons_succ, List.getElem_toArray, List.getElem_cons_succ, List.getElem_cons_zero]
  refine wpAnyH_take (i := 2) (oi := _) (v := Value.agg #[Value.int .i32 st, Value.slice a len cap]) rfl (by kernel_rfl) (by kernel_rfl) (by kernel_rfl) (fun _ _ _ h => h) (Or.inl ⟨by rfl, fun w' hSw => ?_⟩) hHeld ?_
  · obtain ⟨t0, t1, t2, t3, t4, t5, t6, t7, t8, t9⟩ := hSw
    go_simp
    try simp [*]
    try (intro hh; exfalso; omega)
    try omega
  try simp only [Act.put, List.setIfInBounds_toArray, List.set_cons_zero, List.set_cons_succ, List.getElem_toArray, List.getElem_cons_succ, List.getElem_cons_zero]
  refine wpAnyH_take (i := 3) (oi := _) (v := Value.int .i64 r) rfl (by kernel_rfl) (by kernel_rfl) (by kernel_rfl) (fun _ _ _ h => h) (Or.inl ⟨by rfl, fun w' hSw => ?_⟩) hHeld ?_
  · obtain ⟨t0, t1, t2, t3, t4, t5, t6, t7, t8, t9⟩ := hSw
    go_simp
    try simp [*]
    try (intro hh; exfalso; omega)
    try omega
  try simp only [Act.put, List.setIfInBounds_toArray, List.set_cons_zero, List.set_cons_succ, List.getElem_toArray, List.getElem_cons_succ, List.getElem_cons_zero]
  refine wpAnyH_take (i := 4) (oi := _) (v := Value.int .i64 s) rfl (by kernel_rfl) (by kernel_rfl) (by kernel_rfl) (fun _ _ _ h => h) (Or.inl ⟨by rfl, fun w' hSw => ?_⟩) hHeld ?_
  · obtain ⟨t0, t1, t2, t3, t4, t5, t6, t7, t8, t9⟩ := hSw
    go_simp
    try simp [*]
    try (intro hh; exfalso; omega)
    try omega
  try simp only [Act.put, List.setIfInBounds_toArray, List.set_cons_zero, List.set_cons_succ, List.getElem_toArray, List.getElem_cons_succ, List.getElem_cons_zero]
  refine wpAnyH_take (i := 8) (oi := _) (v := Value.pointer (some ⟨w.heap.size + 1, 2, none⟩)) rfl (by kernel_rfl) (by kernel_rfl) (by kernel_rfl) (fun _ _ _ h => h) (Or.inl ⟨by rfl, fun w' hSw => ?_⟩) hHeld ?_
  · obtain ⟨t0, t1, t2, t3, t4, t5, t6, t7, t8, t9⟩ := hSw
    go_simp
    try simp [*]
    try (intro hh; exfalso; omega)
    try omega
  try simp only [Act.put, List.setIfInBounds_toArray, List.set_cons_zero, List.set_cons_succ, List.getElem_toArray, List.getElem_cons_succ, List.getElem_cons_zero]
  refine wpAnyH_take (i := 9) (oi := _) (v := Value.int .u16 fo) rfl (by kernel_rfl) (by kernel_rfl) (by kernel_rfl) (fun _ _ _ h => h) (Or.inl ⟨by rfl, fun w' hSw => ?_⟩) hHeld ?_
  · obtain ⟨t0, t1, t2, t3, t4, t5, t6, t7, t8, t9⟩ := hSw
    go_simp
    try simp [*]
    try (intro hh; exfalso; omega)
    try omega
  try simp only [Act.put, List.setIfInBounds_toArray, List.set_cons_zero, List.set_cons_succ, List.getElem_toArray, List.getElem_cons_succ, List.getElem_cons_zero]
  refine wpAnyH_take (i := 10) (oi := _) (v := Value.int .i64 fo) rfl (by kernel_rfl) (by kernel_rfl) (by kernel_rfl) (fun _ _ _ h => h) (Or.inl ⟨by rfl, fun w' hSw => ?_⟩) hHeld ?_
  · obtain ⟨t0, t1, t2, t3, t4, t5, t6, t7, t8, t9⟩ := hSw
    go_simp
    try simp [*]
    try (intro hh; exfalso; omega)
    try omega
  try simp only [Act.put, List.setIfInBounds_toArray, List.set_cons_zero, List.set_cons_succ, List.getElem_toArray, List.getElem_cons_succ, List.getElem_cons_zero]
  refine wpAnyH_ready (rs := [5]) (by kernel_rfl) (by simp) ?_
  refine AllReadyH.cons (o := _) rfl (fun K hK => ?_) AllReadyH.nil
  go_simp
  go_at_call 51
  refine Calls.mono (c51a.out _ (HBA.out.trans ((Below.refl A.heap.size A).drew.mono HBA.out.size))) ?_
  rintro e v1 ⟨rfl, hb⟩
  have HVa := Lib.hid (show Below A.heap.size A v1 from Below.trans (Below.refl A.heap.size A).drew (hb.mono (Below.refl A.heap.size A).drew.size))
  clear hb
  clear hHeld
  refine hK.out _ _ (KK.out _ HVa.out) (fun hHeld => ?_)
  clear hK K
  try simp only [Act.put, List.setIfInBounds_toArray, List.set_cons_zero, List.set_cons_succ, List.getElem_toArray, List.getElem_cons_succ, List.getElem_cons_zero]
  refine wpAnyH_take (i := 6) (oi := _) (v := Value.int .i64 (s * 1000000000 + O1)) rfl (by kernel_rfl) (by kernel_rfl) (by kernel_rfl) (fun _ _ _ h => h) (Or.inl ⟨by rfl, fun w' hSw => ?_⟩) hHeld ?_
  · obtain ⟨t0, t1, t2, t3, t4, t5, t6, t7, t8, t9⟩ := hSw
    go_simp
    try simp [*]
    try (intro hh; exfalso; omega)
    try omega
  try simp only [Act.put, List.setIfInBounds_toArray, List.set_cons_zero, List.set_cons_succ, List.getElem_toArray, List.getElem_cons_succ, List.getElem_cons_zero]
  refine wpAnyH_ready (rs := [7]) (by kernel_rfl) (by simp) ?_
  refine AllReadyH.cons (o := _) rfl (fun K hK => ?_) AllReadyH.nil
  go_simp
  go_at_call 53
  refine Calls.mono (c53.out _) ?_
  rintro e v2 ⟨rfl, rfl⟩
  clear hHeld
  refine hK.out _ _ (KK.out _ HVa.out) (fun hHeld => ?_)
  clear hK K
  try simp only [Act.put, List.setIfInBounds_toArray, List.set_cons_zero, List.set_cons_succ, List.getElem_toArray, List.getElem_cons_succ, List.getElem_cons_zero]
  refine wpAnyH_take (i := 11) (oi := _) (v := Value.int .i64 (U + fo)) rfl (by kernel_rfl) (by kernel_rfl) (by kernel_rfl) (fun _ _ _ h => h) (Or.inl ⟨by rfl, fun w' hSw => ?_⟩) hHeld ?_
  · obtain ⟨t0, t1, t2, t3, t4, t5, t6, t7, t8, t9⟩ := hSw
    go_simp
    try simp [*]
    try (intro hh; exfalso; omega)
    try omega
  try simp only [Act.put, List.setIfInBounds_toArray, List.set_cons_zero, List.set_cons_succ, List.getElem_toArray, List.getElem_cons_succ, List.getElem_cons_zero]
  refine wpAnyH_take (i := 12) (oi := _) (v := Value.int .i64 (U + fo)) rfl (by kernel_rfl) (by kernel_rfl) (by kernel_rfl) (fun _ _ _ h => h) (Or.inl ⟨by rfl, fun w' hSw => ?_⟩) hHeld ?_
  · obtain ⟨t0, t1, t2, t3, t4, t5, t6, t7, t8, t9⟩ := hSw
    go_simp
    try simp [*]
    try (intro hh; exfalso; omega)
    try omega
  try simp only [Act.put, List.setIfInBounds_toArray, List.set_cons_zero, List.set_cons_succ, List.getElem_toArray, List.getElem_cons_succ, List.getElem_cons_zero]
  refine wpAnyH_done (by kernel_rfl) ?_ _
  clear hHeld
  obtain ⟨k0, k1, k2, k3, k4, k5, k6, k7, k8, k9⟩ := KK.out _ HVa.out
  go_wp2_with fail
  refine wp_region_held_drew (S := fun w' => w'.cell? ⟨w.heap.size, 0, none⟩ = some (.int .i32 st) ∧ w'.cell? ⟨w.heap.size, 1, none⟩ = some (.slice a len cap) ∧ w'.cell? ⟨w.heap.size + 1, 0, none⟩ = some (.int .u32 se) ∧ w'.cell? ⟨w.heap.size + 1, 1, none⟩ = some (.int .u16 go) ∧ w'.cell? ⟨w.heap.size + 1, 2, none⟩ = some (.int .u16 fo) ∧ w'.cell? ⟨w.heap.size + 1, 3, none⟩ = some (.int .u16 ho) ∧ w'.cell? ⟨w.heap.size + 1, 4, none⟩ = some (.int .u16 w0) ∧ w'.cell? ⟨w.heap.size + 1, 5, none⟩ = some (.int .u16 w1) ∧ w'.cell? ⟨w.heap.size + 1, 6, none⟩ = some (.int .u16 w2) ∧ w'.cell? ⟨w.heap.size + 1, 7, none⟩ = some (.int .u16 w3)) (by kernel_rfl) ⟨by simpa [go_sem] using k0, by simpa [go_sem] using k1, by simpa [go_sem] using k2, by simpa [go_sem] using k3, by simpa [go_sem] using k4, by simpa [go_sem] using k5, by simpa [go_sem] using k6, by simpa [go_sem] using k7, by simpa [go_sem] using k8, by simpa [go_sem] using k9⟩ (fun hHeld => ?_)
  refine wpAnyH_take (i := 0) (oi := _) (v := Value.int .i64 (s + go)) rfl (by kernel_rfl) (by kernel_rfl) (by kernel_rfl) (fun _ _ _ h => h) (Or.inl ⟨by rfl, fun w' hSw => ?_⟩) hHeld ?_
  · obtain ⟨t0, t1, t2, t3, t4, t5, t6, t7, t8, t9⟩ := hSw
    go_simp
    try simp [*]
    try (intro hh; exfalso; omega)
    try omega
  try simp only [Act.put, List.setIfInBounds_toArray, List.set_cons_zero, List.set_cons_succ, List.getElem_toArray, List.getElem_cons_succ, List.getElem_cons_zero]
  refine wpAnyH_take (i := 1) (oi := _) (v := Value.int .i64 ((s + go) * 1000000000)) rfl (by kernel_rfl) (by kernel_rfl) (by kernel_rfl) (fun _ _ _ h => h) (Or.inl ⟨by rfl, fun w' hSw => ?_⟩) hHeld ?_
  · obtain ⟨t0, t1, t2, t3, t4, t5, t6, t7, t8, t9⟩ := hSw
    go_simp
    try simp [*]
    try (intro hh; exfalso; omega)
    try omega
  try simp only [Act.put, List.setIfInBounds_toArray, List.set_cons_zero, List.set_cons_succ, List.getElem_toArray, List.getElem_cons_succ, List.getElem_cons_zero]
  refine wpAnyH_take (i := 2) (oi := _) (v := Value.agg #[Value.int .i32 st, Value.slice a len cap]) rfl (by kernel_rfl) (by kernel_rfl) (by kernel_rfl) (fun _ _ _ h => h) (Or.inl ⟨by rfl, fun w' hSw => ?_⟩) hHeld ?_
  · obtain ⟨t0, t1, t2, t3, t4, t5, t6, t7, t8, t9⟩ := hSw
    go_simp
    try simp [*]
    try (intro hh; exfalso; omega)
    try omega
  try simp only [Act.put, List.setIfInBounds_toArray, List.set_cons_zero, List.set_cons_succ, List.getElem_toArray, List.getElem_cons_succ, List.getElem_cons_zero]
  refine wpAnyH_take (i := 3) (oi := _) (v := Value.int .i64 r) rfl (by kernel_rfl) (by kernel_rfl) (by kernel_rfl) (fun _ _ _ h => h) (Or.inl ⟨by rfl, fun w' hSw => ?_⟩) hHeld ?_
  · obtain ⟨t0, t1, t2, t3, t4, t5, t6, t7, t8, t9⟩ := hSw
    go_simp
    try simp [*]
    try (intro hh; exfalso; omega)
    try omega
  try simp only [Act.put, List.setIfInBounds_toArray, List.set_cons_zero, List.set_cons_succ, List.getElem_toArray, List.getElem_cons_succ, List.getElem_cons_zero]
  refine wpAnyH_take (i := 4) (oi := _) (v := Value.int .i64 (s + go)) rfl (by kernel_rfl) (by kernel_rfl) (by kernel_rfl) (fun _ _ _ h => h) (Or.inl ⟨by rfl, fun w' hSw => ?_⟩) hHeld ?_
  · obtain ⟨t0, t1, t2, t3, t4, t5, t6, t7, t8, t9⟩ := hSw
    go_simp
    try simp [*]
    try (intro hh; exfalso; omega)
    try omega
  try simp only [Act.put, List.setIfInBounds_toArray, List.set_cons_zero, List.set_cons_succ, List.getElem_toArray, List.getElem_cons_succ, List.getElem_cons_zero]
  refine wpAnyH_take (i := 8) (oi := _) (v := Value.pointer (some ⟨w.heap.size + 1, 3, none⟩)) rfl (by kernel_rfl) (by kernel_rfl) (by kernel_rfl) (fun _ _ _ h => h) (Or.inl ⟨by rfl, fun w' hSw => ?_⟩) hHeld ?_
  · obtain ⟨t0, t1, t2, t3, t4, t5, t6, t7, t8, t9⟩ := hSw
    go_simp
    try simp [*]
    try (intro hh; exfalso; omega)
    try omega
  try simp only [Act.put, List.setIfInBounds_toArray, List.set_cons_zero, List.set_cons_succ, List.getElem_toArray, List.getElem_cons_succ, List.getElem_cons_zero]
  refine wpAnyH_take (i := 9) (oi := _) (v := Value.int .u16 ho) rfl (by kernel_rfl) (by kernel_rfl) (by kernel_rfl) (fun _ _ _ h => h) (Or.inl ⟨by rfl, fun w' hSw => ?_⟩) hHeld ?_
  · obtain ⟨t0, t1, t2, t3, t4, t5, t6, t7, t8, t9⟩ := hSw
    go_simp
    try simp [*]
    try (intro hh; exfalso; omega)
    try omega
  try simp only [Act.put, List.setIfInBounds_toArray, List.set_cons_zero, List.set_cons_succ, List.getElem_toArray, List.getElem_cons_succ, List.getElem_cons_zero]
  refine wpAnyH_take (i := 10) (oi := _) (v := Value.int .i64 ho) rfl (by kernel_rfl) (by kernel_rfl) (by kernel_rfl) (fun _ _ _ h => h) (Or.inl ⟨by rfl, fun w' hSw => ?_⟩) hHeld ?_
  · obtain ⟨t0, t1, t2, t3, t4, t5, t6, t7, t8, t9⟩ := hSw
    go_simp
    try simp [*]
    try (intro hh; exfalso; omega)
    try omega
  try simp only [Act.put, List.setIfInBounds_toArray, List.set_cons_zero, List.set_cons_succ, List.getElem_toArray, List.getElem_cons_succ, List.getElem_cons_zero]
  refine wpAnyH_ready (rs := [5]) (by kernel_rfl) (by simp) ?_
  refine AllReadyH.cons (o := _) rfl (fun K hK => ?_) AllReadyH.nil
  go_simp
  go_at_call 51
  refine Calls.mono (c51b.out _ (HBA.out.trans (HVa.out.drew.mono HBA.out.size))) ?_
  rintro e v1 ⟨rfl, hb⟩
  have HVb := Lib.hid (show Below A.heap.size A v1 from Below.trans HVa.out.drew (hb.mono HVa.out.drew.size))
  clear hb
  clear hHeld
  refine hK.out _ _ (KK.out _ HVb.out) (fun hHeld => ?_)
  clear hK K
  try simp only [Act.put, List.setIfInBounds_toArray, List.set_cons_zero, List.set_cons_succ, List.getElem_toArray, List.getElem_cons_succ, List.getElem_cons_zero]
  refine wpAnyH_take (i := 6) (oi := _) (v := Value.int .i64 ((s + go) * 1000000000 + O2)) rfl (by kernel_rfl) (by kernel_rfl) (by kernel_rfl) (fun _ _ _ h => h) (Or.inl ⟨by rfl, fun w' hSw => ?_⟩) hHeld ?_
  · obtain ⟨t0, t1, t2, t3, t4, t5, t6, t7, t8, t9⟩ := hSw
    go_simp
    try simp [*]
    try (intro hh; exfalso; omega)
    try omega
  try simp only [Act.put, List.setIfInBounds_toArray, List.set_cons_zero, List.set_cons_succ, List.getElem_toArray, List.getElem_cons_succ, List.getElem_cons_zero]
  refine wpAnyH_ready (rs := [7]) (by kernel_rfl) (by simp) ?_
  refine AllReadyH.cons (o := _) rfl (fun K hK => ?_) AllReadyH.nil
  go_simp
  go_at_call 52
  refine Calls.mono (c52.out _) ?_
  rintro e v2 ⟨rfl, rfl⟩
  clear hHeld
  refine hK.out _ _ (KK.out _ HVb.out) (fun hHeld => ?_)
  clear hK K
  try simp only [Act.put, List.setIfInBounds_toArray, List.set_cons_zero, List.set_cons_succ, List.getElem_toArray, List.getElem_cons_succ, List.getElem_cons_zero]
  refine wpAnyH_take (i := 11) (oi := _) (v := Value.int .i64 (D - ho)) rfl (by kernel_rfl) (by kernel_rfl) (by kernel_rfl) (fun _ _ _ h => h) (Or.inl ⟨by rfl, fun w' hSw => ?_⟩) hHeld ?_
  · obtain ⟨t0, t1, t2, t3, t4, t5, t6, t7, t8, t9⟩ := hSw
    go_simp
    try simp [*]
    try (intro hh; exfalso; omega)
    try omega
  try simp only [Act.put, List.setIfInBounds_toArray, List.set_cons_zero, List.set_cons_succ, List.getElem_toArray, List.getElem_cons_succ, List.getElem_cons_zero]
  refine wpAnyH_take (i := 12) (oi := _) (v := Value.int .i64 (D - ho)) rfl (by kernel_rfl) (by kernel_rfl) (by kernel_rfl) (fun _ _ _ h => h) (Or.inl ⟨by rfl, fun w' hSw => ?_⟩) hHeld ?_
  · obtain ⟨t0, t1, t2, t3, t4, t5, t6, t7, t8, t9⟩ := hSw
    go_simp
    try simp [*]
    try (intro hh; exfalso; omega)
    try omega
  try simp only [Act.put, List.setIfInBounds_toArray, List.set_cons_zero, List.set_cons_succ, List.getElem_toArray, List.getElem_cons_succ, List.getElem_cons_zero]
  refine wpAnyH_done (by kernel_rfl) ?_ _
  clear hHeld
  obtain ⟨k0, k1, k2, k3, k4, k5, k6, k7, k8, k9⟩ := KK.out _ HVb.out
  go_upto_region 6 with fail
  obtain ⟨V, hV⟩ : ∃ V, V = v2.alloc (.cells #[.int .i64 s, .int .i64 (U + fo), .int .i64 (D - ho), .int .i64 (s + go), .int .i64 0, .int .i64 0, .int .i64 0, .int .i64 0] 25) := ⟨_, rfl⟩
  try rw [← hV]
  have hAV : Below A.heap.size A V := by rw [hV]; exact HVb.out.alloc HVb.out.size _
  have hE : V.heap[v2.heap.size]? = some (.cells #[.int .i64 s, .int .i64 (U + fo), .int .i64 (D - ho), .int .i64 (s + go), .int .i64 0, .int .i64 0, .int .i64 0, .int .i64 0] 25 (0, 0)) := by rw [hV]; exact World.alloc_heap_new _ _
  have hAE := HVb.out.size
  have hA3 := HZA.out
  generalize v2.heap.size = E at *
  clear hV HVa HVb c51a c51b c52 c53
  obtain ⟨k0, k1, k2, k3, k4, k5, k6, k7, k8, k9⟩ := KK.out _ hAV
  have e4 : V.cell? ⟨E, 4, none⟩ = some (.int .i64 0) := cellH hE 4
  have e5 : V.cell? ⟨E, 5, none⟩ = some (.int .i64 0) := cellH hE 5
  have f4 := frozH hE 4
  have f5 := frozH hE 5
  have HAV := Lib.hid hAV
  have HE := Lib.hid hE
  clear hAV hE
  go_upto_region 7 with fail
  obtain ⟨V7, hV⟩ : ∃ V', V' = (V.setCell ⟨E, 4, none⟩ (.int .i64 (max 0 (fo - w0)))).setCell ⟨E, 5, none⟩ (.int .i64 (fo + 1 + w1)) := ⟨_, rfl⟩
  try rw [← hV]
  have hAV : Below A.heap.size A V7 := by rw [hV]; exact (HAV.out.setCell (p := ⟨E, 4, none⟩) hAE _).setCell (p := ⟨E, 5, none⟩) hAE _
  have hE : V7.heap[E]? = some (.cells #[.int .i64 s, .int .i64 (U + fo), .int .i64 (D - ho), .int .i64 (s + go), .int .i64 (max 0 (fo - w0)), .int .i64 (fo + 1 + w1), .int .i64 0, .int .i64 0] 25 (0, 0)) := by rw [hV]; simp [World.setCell, Array.getElem?_modify, HE.out]
  clear hV HAV HE e4 e5 f4 f5 k0 k1 k2 k3 k4 k5 k6 k7 k8 k9
  obtain ⟨k0, k1, k2, k3, k4, k5, k6, k7, k8, k9⟩ := KK.out _ hAV
  have e4 : V7.cell? ⟨E, 6, none⟩ = some (.int .i64 0) := cellH hE 6
  have e5 : V7.cell? ⟨E, 7, none⟩ = some (.int .i64 0) := cellH hE 7
  have f4 := frozH hE 6
  have f5 := frozH hE 7
  have HAV := Lib.hid hAV
  have HE := Lib.hid hE
  clear hAV hE
  go_upto_region 8 with fail
  obtain ⟨V8, hV⟩ : ∃ V', V' = (V7.setCell ⟨E, 6, none⟩ (.int .i64 (max 0 (ho - w2)))).setCell ⟨E, 7, none⟩ (.int .i64 (ho + 1 + w3)) := ⟨_, rfl⟩
  try rw [← hV]
  have hAV : Below A.heap.size A V8 := by rw [hV]; exact (HAV.out.setCell (p := ⟨E, 6, none⟩) hAE _).setCell (p := ⟨E, 7, none⟩) hAE _
  have hE : V8.heap[E]? = some (.cells #[.int .i64 s, .int .i64 (U + fo), .int .i64 (D - ho), .int .i64 (s + go), .int .i64 (max 0 (fo - w0)), .int .i64 (fo + 1 + w1), .int .i64 (max 0 (ho - w2)), .int .i64 (ho + 1 + w3)] 25 (0, 0)) := by rw [hV]; simp [World.setCell, Array.getElem?_modify, HE.out]
  have hR : V8.heap[w.heap.size + 2]? = some (.cells #[.int .i64 0, .int .i64 0, .int .i64 0, .int .i64 0, .int .i64 0, .int .i64 0, .int .i64 0, .int .i64 0] 25 (0, 0)) := (hAV.block _ (by omega)).trans HKR.out
  clear hV HAV HE e4 e5 f4 f5 k0 k1 k2 k3 k4 k5 k6 k7 k8 k9
  have e0 : V8.cell? ⟨E, 0, none⟩ = some (.int .i64 s) := cellH hE 0
  have e1 : V8.cell? ⟨E, 1, none⟩ = some (.int .i64 (U + fo)) := cellH hE 1
  have e2 : V8.cell? ⟨E, 2, none⟩ = some (.int .i64 (D - ho)) := cellH hE 2
  have e3 : V8.cell? ⟨E, 3, none⟩ = some (.int .i64 (s + go)) := cellH hE 3
  have e4 : V8.cell? ⟨E, 4, none⟩ = some (.int .i64 (max 0 (fo - w0))) := cellH hE 4
  have e5 : V8.cell? ⟨E, 5, none⟩ = some (.int .i64 (fo + 1 + w1)) := cellH hE 5
  have e6 : V8.cell? ⟨E, 6, none⟩ = some (.int .i64 (max 0 (ho - w2))) := cellH hE 6
  have e7 : V8.cell? ⟨E, 7, none⟩ = some (.int .i64 (ho + 1 + w3)) := cellH hE 7
  have r0 : V8.cell? ⟨w.heap.size + 2, 0, none⟩ = some (.int .i64 0) := cellH hR 0
  have f0 := frozH hR 0
  have r1 : V8.cell? ⟨w.heap.size + 2, 1, none⟩ = some (.int .i64 0) := cellH hR 1
  have f1 := frozH hR 1
  have r2 : V8.cell? ⟨w.heap.size + 2, 2, none⟩ = some (.int .i64 0) := cellH hR 2
  have f2 := frozH hR 2
  have r3 : V8.cell? ⟨w.heap.size + 2, 3, none⟩ = some (.int .i64 0) := cellH hR 3
  have f3 := frozH hR 3
  have r4 : V8.cell? ⟨w.heap.size + 2, 4, none⟩ = some (.int .i64 0) := cellH hR 4
  have f4 := frozH hR 4
  have r5 : V8.cell? ⟨w.heap.size + 2, 5, none⟩ = some (.int .i64 0) := cellH hR 5
  have f5 := frozH hR 5
  have r6 : V8.cell? ⟨w.heap.size + 2, 6, none⟩ = some (.int .i64 0) := cellH hR 6
  have f6 := frozH hR 6
  have r7 : V8.cell? ⟨w.heap.size + 2, 7, none⟩ = some (.int .i64 0) := cellH hR 7
  have f7 := frozH hR 7
  obtain ⟨Z, hZ⟩ : ∃ Z, Z = ((((((((V8.setCell ⟨w.heap.size + 2, 0, none⟩ (.int .i64 s)).setCell ⟨w.heap.size + 2, 1, none⟩ (.int .i64 (U + fo))).setCell ⟨w.heap.size + 2, 2, none⟩ (.int .i64 (D - ho))).setCell ⟨w.heap.size + 2, 3, none⟩ (.int .i64 (s + go))).setCell ⟨w.heap.size + 2, 4, none⟩ (.int .i64 (max 0 (fo - w0)))).setCell ⟨w.heap.size + 2, 5, none⟩ (.int .i64 (fo + 1 + w1))).setCell ⟨w.heap.size + 2, 6, none⟩ (.int .i64 (max 0 (ho - w2)))).setCell ⟨w.heap.size + 2, 7, none⟩ (.int .i64 (ho + 1 + w3))) := ⟨_, rfl⟩
  have hZB : Below w.heap.size w Z := by rw [hZ]; exact (((((((((HBA.out.trans (hAV.mono HBA.out.size)).setCell (p := ⟨w.heap.size + 2, 0, none⟩) (by show w.heap.size ≤ w.heap.size + 2; omega) _).setCell (p := ⟨w.heap.size + 2, 1, none⟩) (by show w.heap.size ≤ w.heap.size + 2; omega) _).setCell (p := ⟨w.heap.size + 2, 2, none⟩) (by show w.heap.size ≤ w.heap.size + 2; omega) _).setCell (p := ⟨w.heap.size + 2, 3, none⟩) (by show w.heap.size ≤ w.heap.size + 2; omega) _).setCell (p := ⟨w.heap.size + 2, 4, none⟩) (by show w.heap.size ≤ w.heap.size + 2; omega) _).setCell (p := ⟨w.heap.size + 2, 5, none⟩) (by show w.heap.size ≤ w.heap.size + 2; omega) _).setCell (p := ⟨w.heap.size + 2, 6, none⟩) (by show w.heap.size ≤ w.heap.size + 2; omega) _).setCell (p := ⟨w.heap.size + 2, 7, none⟩) (by show w.heap.size ≤ w.heap.size + 2; omega) _)
  have hZR : Z.heap[w.heap.size + 2]? = some (.cells #[.int .i64 s, .int .i64 (U + fo), .int .i64 (D - ho), .int .i64 (s + go), .int .i64 (max 0 (fo - w0)), .int .i64 (fo + 1 + w1), .int .i64 (max 0 (ho - w2)), .int .i64 (ho + 1 + w3)] 25 (0, 0)) := by rw [hZ]; simp [World.setCell, Array.getElem?_modify, hR]
  have z0 : Z.cell? ⟨w.heap.size + 2, 0, none⟩ = some (.int .i64 s) := cellH hZR 0
  have z1 : Z.cell? ⟨w.heap.size + 2, 1, none⟩ = some (.int .i64 (U + fo)) := cellH hZR 1
  have z2 : Z.cell? ⟨w.heap.size + 2, 2, none⟩ = some (.int .i64 (D - ho)) := cellH hZR 2
  have z3 : Z.cell? ⟨w.heap.size + 2, 3, none⟩ = some (.int .i64 (s + go)) := cellH hZR 3
  have z4 : Z.cell? ⟨w.heap.size + 2, 4, none⟩ = some (.int .i64 (max 0 (fo - w0))) := cellH hZR 4
  have z5 : Z.cell? ⟨w.heap.size + 2, 5, none⟩ = some (.int .i64 (fo + 1 + w1)) := cellH hZR 5
  have z6 : Z.cell? ⟨w.heap.size + 2, 6, none⟩ = some (.int .i64 (max 0 (ho - w2))) := cellH hZR 6
  have z7 : Z.cell? ⟨w.heap.size + 2, 7, none⟩ = some (.int .i64 (ho + 1 + w3)) := cellH hZR 7
  have HZB := Lib.hid hZB
  have hne : E ≠ w.heap.size + 2 := by omega
  clear hZB hZR hAV hE hR
  go_wp2_with fail
  try rw [← hZ]
  clear hZ
  refine bodyPost_ret (v := .agg #[.int .i64 s, .int .i64 (U + fo), .int .i64 (D - ho), .int .i64 (s + go), .int .i64 (max 0 (fo - w0)), .int .i64 (fo + 1 + w1), .int .i64 (max 0 (ho - w2)), .int .i64 (ho + 1 + w3)]) (by simp [results, Try.results109, go_sem, z0, z1, z2, z3, z4, z5, z6, z7]) rfl ⟨rfl, HZB.out⟩
end Go.Proofs.Ytcchmjbedppfnaa

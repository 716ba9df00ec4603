/-
  Cables: two nodes compared, as the sort does it.
-/
import Derived.Test.YtdohfpnnmppdkaaShA
namespace Go.Proofs.Ytdohfpnnmppdkaa
open Go.RowKit Go.Shelf Go.Lib Go.Sort
set_option linter.unusedSimpArgs false
attribute [local go_sem] Oper.semAt_some
/-- by two comparisons -/
def cf2 (x y : Int) (a b : Int) : Int := if Lib.compareInt y x = 0 then Lib.compareInt a b else Lib.compareInt y x
set_option maxRecDepth 100000 in
set_option maxHeartbeats 8000000 in
theorem byTwo_any (F SB R RB RO : Nat) (n c a b : Nat) (x y : Int) (ha : a < n) (hb : b < n) (W : World)
    (KF : ∀ Z, Below W.heap.size W Z → Z.cell? ⟨F, 0, none⟩ = some (.func (.func 164) #[] #[.pointer (some ⟨R, 0, none⟩)]) ∧ Z.cell? ⟨SB, 0, none⟩ = some (.func (.func 165) #[] #[]))
    (KR : ∀ Z, Below W.heap.size W Z → Z.cell? ⟨R, 0, none⟩ = some (.slice (some ⟨RB, RO, none⟩) n c) ∧ Z.cell? ⟨RB, RO + a, none⟩ = some (.int .i64 x) ∧ Z.cell? ⟨RB, RO + b, none⟩ = some (.int .i64 y)) :
    Calls Try.prog 195 #[.int .i64 (a : Int), .int .i64 (b : Int), .pointer (some ⟨F, 0, none⟩), .pointer (some ⟨SB, 0, none⟩)] W fun e w' => e = .returned (.int .i64 (cf2 x y a b)) ∧ ∃ q os', w' = grow (W.drewN q) os' := by
  have c1 := Lib.hid (fun Z (h : Below W.heap.size W Z) => byRank_any R RB RO n c a b x y ha hb Z (KR Z h).1 (KR Z h).2.1 (KR Z h).2.2)
  have c2 := Lib.hid (fun Z => cmpI_any (a : Int) (b : Int) Z)
  have HKF := Lib.hid KF
  unfold cf2
  clear KF KR ha hb
  generalize Lib.compareInt y x = r1 at *
  generalize Lib.compareInt (a : Int) (b : Int) = r2 at *
  have c3 := Lib.hid (fun V Z => or_any V r1 r2 Z)
  generalize (if r1 = 0 then r2 else r1) = r at *
  have HD0 := Lib.hid (show Below W.heap.size W W.drew from (Below.refl _ _).drew)
  have HD1 := Lib.hid (show Below W.heap.size W W.drew.drew from HD0.out.drew)
  have HD2 := Lib.hid (show Below W.heap.size W (W.drew.drew.alloc (.cells #[.int .i64 r1, .int .i64 r2] 3)) from HD1.out.alloc HD1.out.size _)
  have HE := Lib.hid (show (W.drew.drew.alloc (.cells #[.int .i64 r1, .int .i64 r2] 3)) = grow (W.drewN 2) #[.cells #[.int .i64 r1, .int .i64 r2] 3 (0, 0)] from by rw [alloc_eq_grow]; rfl)
  obtain ⟨k0, k1⟩ := HKF.out _ (Below.refl _ _)
  go_enter Try.func195, Try.ntmps195
  go_upto_region 1 with fail
  refine wp_region_held_drew (S := fun w' => w'.cell? ⟨F, 0, none⟩ = some (Value.func (Fn.func 164) #[] #[Value.pointer (some ⟨R, 0, none⟩)]) ∧ w'.cell? ⟨SB, 0, none⟩ = some (Value.func (Fn.func 165) #[] #[])) (by kernel_rfl) ⟨by simpa [go_sem] using k0, by simpa [go_sem] using k1⟩ (fun hHeld => ?_)
  refine wpAnyH_take (i := 0) (oi := _) (v := Value.func (Fn.func 164) #[] #[Value.pointer (some ⟨R, 0, none⟩)]) rfl (by kernel_rfl) (by kernel_rfl) (by kernel_rfl) (fun _ _ _ h => h) (Or.inl ⟨by rfl, fun w' hSw => ?_⟩) hHeld ?_
  · obtain ⟨t0, t1⟩ := hSw
    go_simp
    try simp [*]
    try (intro hh; exfalso; omega)
    try omega
  try simp only [Act.put, List.setIfInBounds_toArray, List.set_cons_zero, List.set_cons_succ, List.getElem_toArray, List.getElem_cons_succ, List.getElem_cons_zero]
  refine wpAnyH_take (i := 1) (oi := _) (v := Value.int .i64 (a : Int)) rfl (by kernel_rfl) (by kernel_rfl) (by kernel_rfl) (fun _ _ _ h => h) (Or.inl ⟨by rfl, fun w' hSw => ?_⟩) hHeld ?_
  · obtain ⟨t0, t1⟩ := hSw
    go_simp
    try simp [*]
    try (intro hh; exfalso; omega)
    try omega
  try simp only [Act.put, List.setIfInBounds_toArray, List.set_cons_zero, List.set_cons_succ, List.getElem_toArray, List.getElem_cons_succ, List.getElem_cons_zero]
  refine wpAnyH_take (i := 2) (oi := _) (v := Value.int .i64 (b : Int)) rfl (by kernel_rfl) (by kernel_rfl) (by kernel_rfl) (fun _ _ _ h => h) (Or.inl ⟨by rfl, fun w' hSw => ?_⟩) hHeld ?_
  · obtain ⟨t0, t1⟩ := hSw
    go_simp
    try simp [*]
    try (intro hh; exfalso; omega)
    try omega
  try simp only [Act.put, List.setIfInBounds_toArray, List.set_cons_zero, List.set_cons_succ, List.getElem_toArray, List.getElem_cons_succ, List.getElem_cons_zero]
  refine wpAnyH_take (i := 4) (oi := _) (v := Value.func (Fn.func 165) #[] #[]) rfl (by kernel_rfl) (by kernel_rfl) (by kernel_rfl) (fun _ _ _ h => h) (Or.inl ⟨by rfl, fun w' hSw => ?_⟩) hHeld ?_
  · obtain ⟨t0, t1⟩ := hSw
    go_simp
    try simp [*]
    try (intro hh; exfalso; omega)
    try omega
  try simp only [Act.put, List.setIfInBounds_toArray, List.set_cons_zero, List.set_cons_succ, List.getElem_toArray, List.getElem_cons_succ, List.getElem_cons_zero]
  refine wpAnyH_take (i := 5) (oi := _) (v := Value.int .i64 (a : Int)) rfl (by kernel_rfl) (by kernel_rfl) (by kernel_rfl) (fun _ _ _ h => h) (Or.inl ⟨by rfl, fun w' hSw => ?_⟩) hHeld ?_
  · obtain ⟨t0, t1⟩ := hSw
    go_simp
    try simp [*]
    try (intro hh; exfalso; omega)
    try omega
  try simp only [Act.put, List.setIfInBounds_toArray, List.set_cons_zero, List.set_cons_succ, List.getElem_toArray, List.getElem_cons_succ, List.getElem_cons_zero]
  refine wpAnyH_take (i := 6) (oi := _) (v := Value.int .i64 (b : Int)) rfl (by kernel_rfl) (by kernel_rfl) (by kernel_rfl) (fun _ _ _ h => h) (Or.inl ⟨by rfl, fun w' hSw => ?_⟩) hHeld ?_
  · obtain ⟨t0, t1⟩ := hSw
    go_simp
    try simp [*]
    try (intro hh; exfalso; omega)
    try omega
  try simp only [Act.put, List.setIfInBounds_toArray, List.set_cons_zero, List.set_cons_succ, List.getElem_toArray, List.getElem_cons_succ, List.getElem_cons_zero]
  refine wpAnyH_ready (rs := [3]) (by kernel_rfl) (by simp) ?_
  refine AllReadyH.cons (o := _) rfl (fun K hK => ?_) AllReadyH.nil
  go_simp
  go_at_call 164
  refine Calls.mono (c1.out _ HD0.out) ?_
  rintro e v ⟨rfl, rfl⟩
  clear hHeld
  refine hK.out _ _ (HKF.out _ HD1.out) (fun hHeld => ?_)
  clear hK K
  try simp only [Act.put, List.setIfInBounds_toArray, List.set_cons_zero, List.set_cons_succ, List.getElem_toArray, List.getElem_cons_succ, List.getElem_cons_zero]
  refine wpAnyH_ready (rs := [7]) (by kernel_rfl) (by simp) ?_
  refine AllReadyH.cons (o := _) rfl (fun K hK => ?_) AllReadyH.nil
  go_simp
  go_at_call 165
  refine Calls.mono (c2.out _) ?_
  rintro e v ⟨rfl, rfl⟩
  clear hHeld
  refine hK.out _ _ (HKF.out _ HD1.out) (fun hHeld => ?_)
  clear hK K
  try simp only [Act.put, List.setIfInBounds_toArray, List.set_cons_zero, List.set_cons_succ, List.getElem_toArray, List.getElem_cons_succ, List.getElem_cons_zero]
  refine wpAnyH_ready (rs := [8]) (by kernel_rfl) (by simp) ?_
  refine AllReadyH.cons (o := _) rfl (fun K hK => ?_) AllReadyH.nil
  go_simp
  clear hHeld
  refine hK.out _ _ (HKF.out _ HD2.out) (fun hHeld => ?_)
  clear hK K
  try simp only [Act.put, List.setIfInBounds_toArray, List.set_cons_zero, List.set_cons_succ, List.getElem_toArray, List.getElem_cons_succ, List.getElem_cons_zero]
  refine wpAnyH_ready (rs := [9]) (by kernel_rfl) (by simp) ?_
  refine AllReadyH.cons (o := _) rfl (fun K hK => ?_) AllReadyH.nil
  go_simp
  go_at_call 196
  refine Calls.mono (c3.out _ _ ?_ ?_) ?_
  · simp [go_sem]
  · simp [go_sem]
  rintro e v ⟨rfl, rfl⟩
  clear hHeld
  refine hK.out _ _ (HKF.out _ HD2.out) (fun hHeld => ?_)
  clear hK K
  try simp only [Act.put, List.setIfInBounds_toArray, List.set_cons_zero, List.set_cons_succ, List.getElem_toArray, List.getElem_cons_succ, List.getElem_cons_zero]
  refine wpAnyH_take (i := 10) (oi := _) (v := Value.int .i64 r) rfl (by kernel_rfl) (by kernel_rfl) (by kernel_rfl) (fun _ _ _ h => h) (Or.inl ⟨by rfl, fun w' hSw => ?_⟩) hHeld ?_
  · obtain ⟨t0, t1⟩ := hSw
    go_simp
    try simp [*]
    try (intro hh; exfalso; omega)
    try omega
  try simp only [Act.put, List.setIfInBounds_toArray, List.set_cons_zero, List.set_cons_succ, List.getElem_toArray, List.getElem_cons_succ, List.getElem_cons_zero]
  refine wpAnyH_done (by kernel_rfl) ?_ _
  clear hHeld
  go_wp2_with fail
  go_ret
  exact ⟨rfl, 2, _, HE.out⟩
end Go.Proofs.Ytdohfpnnmppdkaa

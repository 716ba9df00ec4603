/-
  Cables: which of two nodes is taken first.
-/
import Derived.Test.YtdohfpnnmppdkaaCbSb
import Derived.Test.YtdohfpnnmppdkaaCbD
import Derived.Test.YtdohfpnnmppdkaaShMath
namespace Go.Proofs.Ytdohfpnnmppdkaa
open Go.RowKit Go.Shelf Go.Lib Go.Sort
set_option linter.unusedSimpArgs false
attribute [local go_sem] Oper.semAt_some
theorem cmpI_any (x y : Int) (W : World) : Calls Try.prog 165 #[.int .i64 x, .int .i64 y] W fun e w' => e = .returned (.int .i64 (Lib.compareInt x y)) ∧ w' = W := by
  have h := AnyG.cmp_Compare_int Try.cmpI x y W
  change Calls Try.prog 165 _ _ _ at h
  exact h
set_option maxRecDepth 100000 in
set_option maxHeartbeats 4000000 in
/-- by ranks: the greater one first -/
theorem byRank_any (R RB RO : Nat) (n c a b : Nat) (x y : Int) (ha : a < n) (hb : b < n) (W : World) (k0 : W.cell? ⟨R, 0, none⟩ = some (.slice (some ⟨RB, RO, none⟩) n c)) (k1 : W.cell? ⟨RB, RO + a, none⟩ = some (.int .i64 x)) (k2 : W.cell? ⟨RB, RO + b, none⟩ = some (.int .i64 y)) :
    Calls Try.prog 164 #[.int .i64 (a : Int), .int .i64 (b : Int), .pointer (some ⟨R, 0, none⟩)] W fun e w' => e = .returned (.int .i64 (Lib.compareInt y x)) ∧ w' = W.drew := by
  have c1 := cmpI_any y x
  generalize Lib.compareInt y x = r at *
  go_enter Try.func164, Try.ntmps164
  go_upto_region 1 with fail
  refine wp_region_held_drew (S := fun w' => w'.cell? ⟨R, 0, none⟩ = some (Value.slice (some ⟨RB, RO, none⟩) n c) ∧ w'.cell? ⟨RB, RO + a, none⟩ = some (Value.int .i64 x) ∧ w'.cell? ⟨RB, RO + b, none⟩ = some (Value.int .i64 y)) (by kernel_rfl) ⟨by simpa [go_sem] using k0, by simpa [go_sem] using k1, by simpa [go_sem] using k2⟩ (fun hHeld => ?_)
  refine wpAnyH_take (i := 0) (oi := _) (v := Value.slice (some ⟨RB, RO, none⟩) n c) rfl (by kernel_rfl) (by kernel_rfl) (by kernel_rfl) (fun _ _ _ h => h) (Or.inl ⟨by rfl, fun w' hSw => ?_⟩) hHeld ?_
  · obtain ⟨t0, t1, t2⟩ := hSw
    go_simp
    try simp [*]
    try (intro hh; exfalso; omega)
    try omega
  try simp only [Act.put, List.setIfInBounds_toArray, List.set_cons_zero, List.set_cons_succ, List.getElem_toArray, List.getElem_cons_succ, List.getElem_cons_zero]
  refine wpAnyH_take (i := 1) (oi := _) (v := Value.int .i64 (b : Int)) rfl (by kernel_rfl) (by kernel_rfl) (by kernel_rfl) (fun _ _ _ h => h) (Or.inl ⟨by rfl, fun w' hSw => ?_⟩) hHeld ?_
  · obtain ⟨t0, t1, t2⟩ := hSw
    go_simp
    try simp [*]
    try (intro hh; exfalso; omega)
    try omega
  try simp only [Act.put, List.setIfInBounds_toArray, List.set_cons_zero, List.set_cons_succ, List.getElem_toArray, List.getElem_cons_succ, List.getElem_cons_zero]
  refine wpAnyH_take (i := 2) (oi := _) (v := Value.pointer (some ⟨RB, RO + b, none⟩)) rfl (by kernel_rfl) (by kernel_rfl) (by kernel_rfl) (fun _ _ _ h => h) (Or.inl ⟨by rfl, fun w' hSw => ?_⟩) hHeld ?_
  · obtain ⟨t0, t1, t2⟩ := hSw
    go_simp
    try simp [*]
    try (intro hh; exfalso; omega)
    try omega
  try simp only [Act.put, List.setIfInBounds_toArray, List.set_cons_zero, List.set_cons_succ, List.getElem_toArray, List.getElem_cons_succ, List.getElem_cons_zero]
  refine wpAnyH_take (i := 3) (oi := _) (v := Value.int .i64 y) rfl (by kernel_rfl) (by kernel_rfl) (by kernel_rfl) (fun _ _ _ h => h) (Or.inl ⟨by rfl, fun w' hSw => ?_⟩) hHeld ?_
  · obtain ⟨t0, t1, t2⟩ := hSw
    go_simp
    try simp [*]
    try (intro hh; exfalso; omega)
    try omega
  try simp only [Act.put, List.setIfInBounds_toArray, List.set_cons_zero, List.set_cons_succ, List.getElem_toArray, List.getElem_cons_succ, List.getElem_cons_zero]
  refine wpAnyH_take (i := 4) (oi := _) (v := Value.slice (some ⟨RB, RO, none⟩) n c) rfl (by kernel_rfl) (by kernel_rfl) (by kernel_rfl) (fun _ _ _ h => h) (Or.inl ⟨by rfl, fun w' hSw => ?_⟩) hHeld ?_
  · obtain ⟨t0, t1, t2⟩ := hSw
    go_simp
    try simp [*]
    try (intro hh; exfalso; omega)
    try omega
  try simp only [Act.put, List.setIfInBounds_toArray, List.set_cons_zero, List.set_cons_succ, List.getElem_toArray, List.getElem_cons_succ, List.getElem_cons_zero]
  refine wpAnyH_take (i := 5) (oi := _) (v := Value.int .i64 (a : Int)) rfl (by kernel_rfl) (by kernel_rfl) (by kernel_rfl) (fun _ _ _ h => h) (Or.inl ⟨by rfl, fun w' hSw => ?_⟩) hHeld ?_
  · obtain ⟨t0, t1, t2⟩ := hSw
    go_simp
    try simp [*]
    try (intro hh; exfalso; omega)
    try omega
  try simp only [Act.put, List.setIfInBounds_toArray, List.set_cons_zero, List.set_cons_succ, List.getElem_toArray, List.getElem_cons_succ, List.getElem_cons_zero]
  refine wpAnyH_take (i := 6) (oi := _) (v := Value.pointer (some ⟨RB, RO + a, none⟩)) rfl (by kernel_rfl) (by kernel_rfl) (by kernel_rfl) (fun _ _ _ h => h) (Or.inl ⟨by rfl, fun w' hSw => ?_⟩) hHeld ?_
  · obtain ⟨t0, t1, t2⟩ := hSw
    go_simp
    try simp [*]
    try (intro hh; exfalso; omega)
    try omega
  try simp only [Act.put, List.setIfInBounds_toArray, List.set_cons_zero, List.set_cons_succ, List.getElem_toArray, List.getElem_cons_succ, List.getElem_cons_zero]
  refine wpAnyH_take (i := 7) (oi := _) (v := Value.int .i64 x) rfl (by kernel_rfl) (by kernel_rfl) (by kernel_rfl) (fun _ _ _ h => h) (Or.inl ⟨by rfl, fun w' hSw => ?_⟩) hHeld ?_
  · obtain ⟨t0, t1, t2⟩ := hSw
    go_simp
    try simp [*]
    try (intro hh; exfalso; omega)
    try omega
  try simp only [Act.put, List.setIfInBounds_toArray, List.set_cons_zero, List.set_cons_succ, List.getElem_toArray, List.getElem_cons_succ, List.getElem_cons_zero]
  refine wpAnyH_ready (rs := [8]) (by kernel_rfl) (by simp) ?_
  refine AllReadyH.cons (o := _) rfl (fun K hK => ?_) AllReadyH.nil
  go_simp
  go_at_call 165
  refine Calls.mono (c1 _) ?_
  rintro e v ⟨rfl, rfl⟩
  clear hHeld
  refine hK.out _ _ ⟨by simpa [go_sem] using k0, by simpa [go_sem] using k1, by simpa [go_sem] using k2⟩ (fun hHeld => ?_)
  clear hK K
  try simp only [Act.put, List.setIfInBounds_toArray, List.set_cons_zero, List.set_cons_succ, List.getElem_toArray, List.getElem_cons_succ, List.getElem_cons_zero]
  refine wpAnyH_take (i := 9) (oi := _) (v := Value.int .i64 r) rfl (by kernel_rfl) (by kernel_rfl) (by kernel_rfl) (fun _ _ _ h => h) (Or.inl ⟨by rfl, fun w' hSw => ?_⟩) hHeld ?_
  · obtain ⟨t0, t1, t2⟩ := hSw
    go_simp
    try simp [*]
    try (intro hh; exfalso; omega)
    try omega
  try simp only [Act.put, List.setIfInBounds_toArray, List.set_cons_zero, List.set_cons_succ, List.getElem_toArray, List.getElem_cons_succ, List.getElem_cons_zero]
  refine wpAnyH_done (by kernel_rfl) ?_ _
  clear hHeld
  go_wp2_with fail
  go_ret
  exact ⟨rfl, rfl⟩
set_option maxRecDepth 100000 in
set_option maxHeartbeats 4000000 in
/-- of two numbers the first one that is not 0 -/
theorem or_any (V : Nat) (x y : Int) (W : World) (k0 : W.cell? ⟨V, 0, none⟩ = some (.int .i64 x)) (k1 : W.cell? ⟨V, 1, none⟩ = some (.int .i64 y)) :
    Calls Try.prog 196 #[.slice (some ⟨V, 0, none⟩) 2 2] W fun e w' => e = .returned (.int .i64 (if x = 0 then y else x)) ∧ w' = W := by
  obtain ⟨r, hr⟩ : ∃ r, r = if x = 0 then y else x := ⟨_, rfl⟩
  have H1 := Lib.hid (show x ≠ 0 → r = x from fun h => by rw [hr, if_neg h])
  have H2 := Lib.hid (show x = 0 → r = y from fun h => by rw [hr, if_pos h])
  rw [← hr]
  clear hr
  by_cases hx : x = 0
  · by_cases hy : y = 0
    · have HR := Lib.hid (show r = 0 by rw [H2.out hx, hy])
      subst hx hy
      go_enter Try.func196, Try.ntmps196
      go_wp2_with fail
      go_loopw [8] (fun iv wr => ∃ i : Nat, i ≤ 2 ∧ iv = .int .i64 i ∧ wr = W) (fun iv _ => 2 - (intOf iv).toNat)
      case atStart => exact ⟨0, by omega, rfl, rfl⟩
      case round =>
        obtain ⟨i, hi, rfl, rfl⟩ := hrel
        have h3 : i = 0 ∨ i = 1 ∨ i = 2 := by omega
        rcases h3 with rfl | rfl | rfl
        · go_wp2_with fail
          go_roundw
          case rel => exact ⟨1, by omega, by go_num, by simp⟩
          case measure => simp [intOf]
        · go_wp2_with fail
          go_roundw
          case rel => exact ⟨2, by omega, by go_num, by simp⟩
          case measure => simp [intOf]
        · go_wp2_with fail
          go_ret
          exact ⟨by rw [HR.out]; rfl, rfl⟩
    · have HR := Lib.hid (show r = y from H2.out hx)
      subst hx
      go_enter Try.func196, Try.ntmps196
      go_wp2_with fail
      go_loopw [8] (fun iv wr => ∃ i : Nat, i ≤ 1 ∧ iv = .int .i64 i ∧ wr = W) (fun iv _ => 2 - (intOf iv).toNat)
      case atStart => exact ⟨0, by omega, rfl, rfl⟩
      case round =>
        obtain ⟨i, hi, rfl, rfl⟩ := hrel
        have h3 : i = 0 ∨ i = 1 := by omega
        rcases h3 with rfl | rfl
        · go_wp2_with fail
          go_roundw
          case rel => exact ⟨1, by omega, by go_num, by simp⟩
          case measure => simp [intOf]
        · go_wp2_with fail
          go_ret
          exact ⟨by rw [HR.out]; rfl, rfl⟩
  · have HR := Lib.hid (show r = x from H1.out hx)
    go_enter Try.func196, Try.ntmps196
    go_wp2_with fail
    go_loopw [8] (fun iv wr => iv = .int .i64 0 ∧ wr = W) (fun iv _ => 2 - (intOf iv).toNat)
    case atStart => exact ⟨rfl, rfl⟩
    case round =>
      obtain ⟨rfl, rfl⟩ := hrel
      go_wp2_with fail
      go_ret
      exact ⟨by rw [HR.out]; rfl, rfl⟩
end Go.Proofs.Ytdohfpnnmppdkaa

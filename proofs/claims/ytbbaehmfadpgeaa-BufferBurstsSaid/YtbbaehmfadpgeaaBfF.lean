/-
  Buffers: where a new record goes: the search and its condition.
-/
import Derived.Test.YtbbaehmfadpgeaaBfE
namespace Go.Proofs.Ytbbaehmfadpgeaa
open Go.RowKit Go.Shelf
set_option linter.unusedSimpArgs false
set_option maxRecDepth 100000 in
set_option maxHeartbeats 4000000 in
/-- the condition of the search: a record of the buffer is less important than the new one -/
theorem addC_any (P1 P2 b M : Nat) (z : Int) (h : Hd) (r : Rc) (w : World) (k0 : w.cell? ⟨P1, 0, none⟩ = some (.pointer (some ⟨b, 0, none⟩))) (k1 : w.cell? ⟨b, 3, none⟩ = some (.map (some M)))
    (KL : ∀ W, Below w.heap.size w W → (Instr.lookup 106 (.map (some M)) (.int .i64 z) false).run Try.prog W = .ok (vH h) W) (HR : BxR w P2 r) :
    Calls Try.prog 85 #[.int .i64 z, .pointer (some ⟨P1, 0, none⟩), .pointer (some ⟨P2, 0, none⟩)] w fun e w' => e = .returned (.bool (lsR h.r r)) ∧ Below w.heap.size w w' := by
  obtain ⟨k3, k4, k5, k6, k7⟩ := HR.all
  have c1 := less_any h.r r
  generalize lsR h.r r = x at *
  unfold vH at *
  have hfd : ∀ W : World, (Instr.field 82 (Value.agg #[.int .i64 h.r.id, .int .i64 h.r.cls, .int .i64 h.r.made, .int .i64 h.r.size, .int .i64 h.r.packed, .bool h.small, .int .i64 h.sent]) 0).run Try.prog W = .ok (Value.agg #[.int .i64 h.r.id, .int .i64 h.r.cls, .int .i64 h.r.made, .int .i64 h.r.size, .int .i64 h.r.packed]) W := fun W => by kernel_rfl
  have hP1 := World.block_lt_of_cell? w _ k0
  have hb := World.block_lt_of_cell? w _ k1
  have hP2 := HR.lt
  have KB := Lib.hid (show ∀ W, Below w.heap.size w W → W.cell? ⟨P1, 0, none⟩ = some (Value.pointer (some ⟨b, 0, none⟩)) ∧ W.cell? ⟨b, 3, none⟩ = some (Value.map (some M)) ∧ (Instr.lookup 106 (.map (some M)) (.int .i64 z) false).run Try.prog W = .ok (Value.agg #[.int .i64 h.r.id, .int .i64 h.r.cls, .int .i64 h.r.made, .int .i64 h.r.size, .int .i64 h.r.packed, .bool h.small, .int .i64 h.sent]) W ∧ W.cell? ⟨P2, 0, none⟩ = some (Value.int .i64 r.id) ∧ W.cell? ⟨P2, 1, none⟩ = some (Value.int .i64 r.cls) ∧ W.cell? ⟨P2, 2, none⟩ = some (Value.int .i64 r.made) ∧ W.cell? ⟨P2, 3, none⟩ = some (Value.int .i64 r.size) ∧ W.cell? ⟨P2, 4, none⟩ = some (Value.int .i64 r.packed) from fun W hW => ⟨(hW.cell hP1).trans k0, (hW.cell hb).trans k1, KL W hW, (hW.cell (p := ⟨P2, 0, none⟩) hP2).trans k3, (hW.cell (p := ⟨P2, 1, none⟩) hP2).trans k4, (hW.cell (p := ⟨P2, 2, none⟩) hP2).trans k5, (hW.cell (p := ⟨P2, 3, none⟩) hP2).trans k6, (hW.cell (p := ⟨P2, 4, none⟩) hP2).trans k7⟩)
  clear hP1 hb hP2 HR KL
  obtain ⟨k0, k1, k2, k3, k4, k5, k6, k7⟩ := KB.out _ (Below.drew (Below.refl _ _))
  go_enter Try.func85, Try.ntmps85
  go_upto_region 1 with fail
  refine wp_region_held_drew (S := fun w' => w'.cell? ⟨P1, 0, none⟩ = some (Value.pointer (some ⟨b, 0, none⟩)) ∧ w'.cell? ⟨b, 3, none⟩ = some (Value.map (some M)) ∧ (Instr.lookup 106 (.map (some M)) (.int .i64 z) false).run Try.prog w' = .ok (Value.agg #[.int .i64 h.r.id, .int .i64 h.r.cls, .int .i64 h.r.made, .int .i64 h.r.size, .int .i64 h.r.packed, .bool h.small, .int .i64 h.sent]) w' ∧ w'.cell? ⟨P2, 0, none⟩ = some (Value.int .i64 r.id) ∧ w'.cell? ⟨P2, 1, none⟩ = some (Value.int .i64 r.cls) ∧ w'.cell? ⟨P2, 2, none⟩ = some (Value.int .i64 r.made) ∧ w'.cell? ⟨P2, 3, none⟩ = some (Value.int .i64 r.size) ∧ w'.cell? ⟨P2, 4, none⟩ = some (Value.int .i64 r.packed)) (by kernel_rfl) (KB.out _ (Below.drew (Below.refl _ _))) (fun hHeld => ?_)
  refine wpAnyH_take (i := 0) (oi := _) (v := Value.pointer (some ⟨b, 0, none⟩)) rfl (by kernel_rfl) (by kernel_rfl) (by kernel_rfl) (fun _ _ _ h => h) (Or.inl ⟨by rfl, fun w' hSw => ?_⟩) hHeld ?_
  · obtain ⟨t0, t1, t2, t3, t4, t5, t6, t7⟩ := hSw
    go_simp
    try simp [*]
    try (intro hh; exfalso; omega)
    try omega
  try simp only [Act.put, List.setIfInBounds_toArray, List.set_cons_zero, List.set_cons_succ, List.getElem_toArray, List.getElem_cons_succ, List.getElem_cons_zero]
  refine wpAnyH_take (i := 1) (oi := _) (v := Value.pointer (some ⟨b, 0, none⟩)) rfl (by kernel_rfl) (by kernel_rfl) (by kernel_rfl) (fun _ _ _ h => h) (Or.inl ⟨by rfl, fun w' hSw => ?_⟩) hHeld ?_
  · obtain ⟨t0, t1, t2, t3, t4, t5, t6, t7⟩ := hSw
    go_simp
    try simp [*]
    try (intro hh; exfalso; omega)
    try omega
  try simp only [Act.put, List.setIfInBounds_toArray, List.set_cons_zero, List.set_cons_succ, List.getElem_toArray, List.getElem_cons_succ, List.getElem_cons_zero]
  refine wpAnyH_take (i := 2) (oi := _) (v := Value.pointer (some ⟨b, 3, none⟩)) rfl (by kernel_rfl) (by kernel_rfl) (by kernel_rfl) (fun _ _ _ h => h) (Or.inl ⟨by rfl, fun w' hSw => ?_⟩) hHeld ?_
  · obtain ⟨t0, t1, t2, t3, t4, t5, t6, t7⟩ := hSw
    go_simp
    try simp [*]
    try (intro hh; exfalso; omega)
    try omega
  try simp only [Act.put, List.setIfInBounds_toArray, List.set_cons_zero, List.set_cons_succ, List.getElem_toArray, List.getElem_cons_succ, List.getElem_cons_zero]
  refine wpAnyH_take (i := 3) (oi := _) (v := Value.map (some M)) rfl (by kernel_rfl) (by kernel_rfl) (by kernel_rfl) (fun _ _ _ h => h) (Or.inl ⟨by rfl, fun w' hSw => ?_⟩) hHeld ?_
  · obtain ⟨t0, t1, t2, t3, t4, t5, t6, t7⟩ := hSw
    go_simp
    try simp [*]
    try (intro hh; exfalso; omega)
    try omega
  try simp only [Act.put, List.setIfInBounds_toArray, List.set_cons_zero, List.set_cons_succ, List.getElem_toArray, List.getElem_cons_succ, List.getElem_cons_zero]
  refine wpAnyH_take (i := 4) (oi := _) (v := Value.int .i64 z) rfl (by kernel_rfl) (by kernel_rfl) (by kernel_rfl) (fun _ _ _ h => h) (Or.inl ⟨by rfl, fun w' hSw => ?_⟩) hHeld ?_
  · obtain ⟨t0, t1, t2, t3, t4, t5, t6, t7⟩ := hSw
    go_simp
    try simp [*]
    try (intro hh; exfalso; omega)
    try omega
  try simp only [Act.put, List.setIfInBounds_toArray, List.set_cons_zero, List.set_cons_succ, List.getElem_toArray, List.getElem_cons_succ, List.getElem_cons_zero]
  refine wpAnyH_take (i := 5) (oi := _) (v := Value.agg #[.int .i64 h.r.id, .int .i64 h.r.cls, .int .i64 h.r.made, .int .i64 h.r.size, .int .i64 h.r.packed, .bool h.small, .int .i64 h.sent]) rfl (by kernel_rfl) (by kernel_rfl) (by kernel_rfl) (fun _ _ _ h => h) (Or.inl ⟨by rfl, fun w' hSw => ?_⟩) hHeld ?_
  · obtain ⟨t0, t1, t2, t3, t4, t5, t6, t7⟩ := hSw
    go_simp
    try simp [*]
    try (intro hh; exfalso; omega)
    try omega
  try simp only [Act.put, List.setIfInBounds_toArray, List.set_cons_zero, List.set_cons_succ, List.getElem_toArray, List.getElem_cons_succ, List.getElem_cons_zero]
  refine wpAnyH_take (i := 6) (oi := _) (v := Value.agg #[.int .i64 h.r.id, .int .i64 h.r.cls, .int .i64 h.r.made, .int .i64 h.r.size, .int .i64 h.r.packed]) rfl (by kernel_rfl) (by kernel_rfl) (by kernel_rfl) (fun _ _ _ h => h) (Or.inl ⟨by rfl, fun w' hSw => ?_⟩) hHeld ?_
  · obtain ⟨t0, t1, t2, t3, t4, t5, t6, t7⟩ := hSw
    go_simp
    try simp [*]
    try (intro hh; exfalso; omega)
    try omega
  try simp only [Act.put, List.setIfInBounds_toArray, List.set_cons_zero, List.set_cons_succ, List.getElem_toArray, List.getElem_cons_succ, List.getElem_cons_zero]
  refine wpAnyH_take (i := 7) (oi := _) (v := Value.agg #[.int .i64 r.id, .int .i64 r.cls, .int .i64 r.made, .int .i64 r.size, .int .i64 r.packed]) rfl (by kernel_rfl) (by kernel_rfl) (by kernel_rfl) (fun _ _ _ h => h) (Or.inl ⟨by rfl, fun w' hSw => ?_⟩) hHeld ?_
  · obtain ⟨t0, t1, t2, t3, t4, t5, t6, t7⟩ := hSw
    go_simp
    try simp [*]
    try (intro hh; exfalso; omega)
    try omega
  try simp only [Act.put, List.setIfInBounds_toArray, List.set_cons_zero, List.set_cons_succ, List.getElem_toArray, List.getElem_cons_succ, List.getElem_cons_zero]
  refine wpAnyH_ready (rs := [8]) (by kernel_rfl) (by simp) ?_
  refine AllReadyH.cons (o := _) rfl (fun K hK => ?_) AllReadyH.nil
  go_simp
  go_at_call 51
  refine Calls.mono (c1 _) ?_
  rintro e v ⟨rfl, hb⟩
  clear hHeld
  have HB := Lib.hid (show Below w.heap.size w v from (Below.drew (Below.refl _ _)).trans hb)
  refine hK.out _ _ (KB.out _ HB.out) (fun hHeld => ?_)
  clear hK K
  try simp only [Act.put, List.setIfInBounds_toArray, List.set_cons_zero, List.set_cons_succ, List.getElem_toArray, List.getElem_cons_succ, List.getElem_cons_zero]
  refine wpAnyH_take (i := 9) (oi := _) (v := Value.bool x) rfl (by kernel_rfl) (by kernel_rfl) (by kernel_rfl) (fun _ _ _ h => h) (Or.inl ⟨by rfl, fun w' hSw => ?_⟩) hHeld ?_
  · obtain ⟨t0, t1, t2, t3, t4, t5, t6, t7⟩ := hSw
    go_simp
    try simp [*]
    try (intro hh; exfalso; omega)
    try omega
  try simp only [Act.put, List.setIfInBounds_toArray, List.set_cons_zero, List.set_cons_succ, List.getElem_toArray, List.getElem_cons_succ, List.getElem_cons_zero]
  refine wpAnyH_done (by kernel_rfl) ?_ _
  clear hHeld
  go_wp2_with fail
  go_ret
  exact ⟨rfl, HB.out⟩
set_option maxRecDepth 100000 in
set_option maxHeartbeats 4000000 in
theorem first_any (P1 P2 g c n : Nat) (pos : Int) (q : Int → Int) (hn : n ≤ 1000) (hp : 0 ≤ pos ∧ pos ≤ n) (w : World) (hc : ∀ t : Int, 0 ≤ t → t < n → w.cell? ⟨g, t.toNat, none⟩ = some (.int .i64 (q t)))
    (hcl : ∀ (t : Int) W, 0 ≤ t → t < n → Below w.heap.size w W → Calls Try.prog 85 #[.int .i64 (q t), .pointer (some ⟨P1, 0, none⟩), .pointer (some ⟨P2, 0, none⟩)] W fun e w' => e = .returned (.bool (decide (pos ≤ t))) ∧ Below W.heap.size W w') :
    Calls Try.prog 84 #[.slice (some ⟨g, 0, none⟩) n c, .func (.func 85) #[] #[.pointer (some ⟨P1, 0, none⟩), .pointer (some ⟨P2, 0, none⟩)]] w fun e w' => e = .returned (.int .i64 pos) ∧ Below w.heap.size w w' := by
  have HC := Lib.hid (show ∀ (t : Int) W, 0 ≤ t → t < n → Below w.heap.size w W → W.cell? ⟨g, t.toNat, none⟩ = some (.int .i64 (q t)) from fun t W h0 h1 hW => (hW.cell (World.block_lt_of_cell? w _ (hc t h0 h1))).trans (hc t h0 h1))
  have HCL := Lib.hid hcl
  clear hc hcl
  go_enter Try.func84, Try.ntmps84
  go_wp2_with fail
  go_loopw [5, 6] (fun x y wr => ∃ a u : Int, x = .int .i64 a ∧ y = .int .i64 u ∧ 0 ≤ a ∧ a ≤ pos ∧ pos ≤ u ∧ u ≤ n ∧ Below w.heap.size w wr) (fun x y _ => (intOf y - intOf x).toNat)
  case atStart => exact ⟨0, n, rfl, rfl, Int.le_refl _, hp.1, hp.2, Int.le_refl _, Below.refl _ _⟩
  case round =>
    obtain ⟨a, u, rfl, rfl, h0, h1, h2, h3, hB⟩ := hrel
    have HB := Lib.hid hB
    clear hB
    by_cases hlt : a < u
    · have hm1 : a ≤ a + (u - a) / 2 := by omega
      have hm2 : a + (u - a) / 2 < u := by omega
      have hm3 : 0 ≤ a + (u - a) / 2 := by omega
      have hm4 : a + (u - a) / 2 < n := by omega
      have c1 := HCL.out (a + (u - a) / 2) wr hm3 hm4 HB.out
      have k1 := HC.out (a + (u - a) / 2) wr hm3 hm4 HB.out
      generalize q (a + (u - a) / 2) = z at *
      generalize hbm : decide (pos ≤ a + (u - a) / 2) = bm at *
      have HBM := Lib.hid hbm
      clear hbm
      go_wp2_with fail
      refine c1.mono ?_
      rintro e w2 ⟨rfl, hb⟩
      have HB2 := Lib.hid (HB.out.trans (hb.mono HB.out.size))
      clear hb c1
      cases bm
      · go_wp2_with fail
        have hq : ¬ pos ≤ a + (u - a) / 2 := of_decide_eq_false HBM.out
        go_roundw
        case rel => exact ⟨a + (u - a) / 2 + 1, u, by go_num, rfl, by omega, by omega, h2, h3, HB2.out⟩
        case measure => simp [intOf]; omega
      · go_wp2_with fail
        have hq : pos ≤ a + (u - a) / 2 := of_decide_eq_true HBM.out
        go_roundw
        case rel => exact ⟨a, a + (u - a) / 2, rfl, rfl, h0, h1, hq, by omega, HB2.out⟩
        case measure => simp [intOf]; omega
    · obtain rfl : a = u := by omega
      obtain rfl : pos = a := by omega
      go_wp2_with fail
      go_ret
      exact ⟨rfl, HB.out⟩
theorem first_none (p : Option Addr) (c P1 P2 : Nat) (w : World) :
    Calls Try.prog 84 #[.slice p 0 c, .func (.func 85) #[] #[.pointer (some ⟨P1, 0, none⟩), .pointer (some ⟨P2, 0, none⟩)]] w fun e w' => e = .returned (.int .i64 0) ∧ w' = w := by
  go_enter Try.func84, Try.ntmps84
  go_wp2_with fail
  go_loopw [5, 6] (fun x y wr => x = .int .i64 0 ∧ y = .int .i64 0 ∧ wr = w) (fun _ _ _ => 0)
  case atStart => exact ⟨rfl, rfl, rfl⟩
  case round =>
    obtain ⟨rfl, rfl, rfl⟩ := hrel
    go_wp2_with fail
    go_ret
    exact ⟨rfl, rfl⟩

end Go.Proofs.Ytbbaehmfadpgeaa

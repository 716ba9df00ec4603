/-
  Clock: the walk of ClockOrder.
-/
import Derived.Test.YtcchmjbedppfnaaOrdRow
import Derived.Test.YtcchmjbedppfnaaLawDue
import Derived.Test.YtcchmjbedppfnaaLawEvents
import Derived.Deep.CutRange
namespace Go.Proofs.Ytcchmjbedppfnaa
open Go.RowKit Go.Shelf
set_option linter.unusedSimpArgs false
theorem wrapJ_id {x : Int} (h : wrap64 x = x) : IntKind.i64.wrap x = x := by
  rw [IntKind.wrap_i64]
  unfold wrap64 at h
  omega
theorem infoSO : (Try.prog.info? 23).map (fun i => (i.zero, i.size, i.bytes)) = some (some (.agg #[.int .i64 0, .int .i64 0]), 2, 16) := by kernel_rfl
theorem two_newSO (W : World) (x y : Value) : ∀ (j : Nat) (u : Value), [x, y][j]? = some u → (W.alloc (.cells #[x, y] 23)).cell? ((⟨W.heap.size, 0, none⟩ : Addr).add j) = some u := by
  intro j u hj
  match j, hj with
  | 0, h => simp at h; subst h; simp [Addr.add, go_sem]
  | 1, h => simp at h; subst h; simp [Addr.add]
theorem infoI : (Try.prog.info? 2).map (fun i => (i.zero, i.size, i.bytes)) = some (some (.int .i64 0), 1, 8) := by kernel_rfl
theorem one_newI (W : World) (x : Value) : ∀ (j : Nat) (u : Value), [x][j]? = some u → (W.alloc (.cells #[x] 2)).cell? ((⟨W.heap.size, 0, none⟩ : Addr).add j) = some u := by
  intro j u hj
  match j, hj with
  | 0, h => simp at h; subst h; simp [Addr.add, go_sem]
set_option maxRecDepth 100000 in
set_option maxHeartbeats 8000000 in
theorem law_order (lv pv : Value) (us : List (Int × Int)) (ps : List Int) (w : World) (hL : T16 w.heap.size w lv us) (hP : U16 w.heap.size w pv ps) :
    Calls Try.prog 13 #[lv, pv] w fun e w' => e = .returned (.bool true) ∧ Below w.heap.size w w' := by
  have c21 := fun W => works_any W
  obtain ⟨i0, hi0, hz0, hz1, hz2⟩ := info_parts infoSO
  obtain ⟨i1, hj0, hj1, hj2, hj3⟩ := info_parts infoI
  obtain ⟨al, cl, rfl, hlc⟩ := hL
  obtain ⟨ap, cp, rfl, hpc⟩ := hP
  have hu : ∀ k, k < us.length → (0 ≤ (sp us k).1 ∧ (sp us k).1 ≤ 65535) ∧ (0 ≤ (sp us k).2 ∧ (sp us k).2 ≤ 65535) := fun k hk => (hlc k hk).1
  have hp : ∀ k, 0 ≤ tt ps k ∧ tt ps k ≤ 65535 := fun k => by
    by_cases h : k < ps.length
    · exact (hpc k h).1
    · rw [tt_out h]; decide
  have HL := Lib.hid hlc
  have HPC := Lib.hid hpc
  have HPB := Lib.hid hp
  have HPO := Lib.hid (fun k (h : ¬ k < ps.length) => tt_out h)
  have HIN := Lib.hid (in_all hu hp)
  have HEV := Lib.hid (fun (hn : us.length ≤ 128) => ev_all hn hu)
  have HZL := Lib.hid (fun k => zsT_len us k)
  have HTL := Lib.hid (fun k => tsT_len us ps k)
  have HZS := Lib.hid (fun k => show zsT us (k + 1) = zsT us k ++ [((sp us k).1, (sp us k).1 + (sp us k).2)] from rfl)
  have HTS := Lib.hid (fun k => show tsT us ps (k + 1) = tsT us ps k ++ [prS (sp us k).1 ((sp us k).1 + (sp us k).2) (tt ps k)] from rfl)
  have HZ0 := Lib.hid (show zsT us 0 = [] from rfl)
  have HT0 := Lib.hid (show tsT us ps 0 = [] from rfl)
  have HRF := Lib.hid (Below.refl w.heap.size w)
  clear hlc hpc hu hp
  generalize us.length = n at *
  generalize ps.length = m at *
  by_cases hbig : (20 : Int) < (n : Int)
  · go_enter Try.func13, Try.ntmps13
    go_wp2_with fail
    refine (c21 _).mono ?_
    rintro e wz ⟨rfl, hbz⟩
    have HBZ := Lib.hid (HRF.out.trans hbz)
    clear hbz
    go_wp2_with fail
    go_ret
    exact ⟨rfl, HBZ.out⟩
  have hev := HEV.out (by omega)
  have HCM := Lib.hid (com_in hev)
  have HE0 := Lib.hid hev
  clear HEV hev
  have hn20 : n ≤ 20 := by omega
  go_enter Try.func13, Try.ntmps13
  go_wp2_with fail
  go_loopw [5, 6, 7] (fun v5 v6 iv wr => ∃ k : Nat, k ≤ n ∧ iv = .int .i64 k ∧ wr.ownsRow w.heap.size 23 2 v5 k (flat2 (zsT us k)) ∧ wr.ownsRow w.heap.size 2 1 v6 k (flat1 (tsT us ps k)) ∧ Below w.heap.size w wr) (fun _ _ iv _ => n - (intOf iv).toNat)
  case atStart => exact ⟨0, Nat.zero_le _, rfl, by rw [HZ0.out]; exact World.ownsRow_nil _ _ _ _, by rw [HT0.out]; exact World.ownsRow_nil _ _ _ _, HRF.out⟩
  case round =>
    obtain ⟨k, hk, rfl, hrow, hrowT, hB⟩ := hrel
    obtain ⟨a0, c0, hv0⟩ := own_form hrow
    subst hv0
    obtain ⟨a1, c1, hv1⟩ := own_form hrowT
    subst hv1
    have HROW := Lib.hid hrow
    have HROWT := Lib.hid hrowT
    have HB := Lib.hid hB
    have hzr := hB.size
    clear hrow hrowT
    by_cases hlt : k < n
    · have hki : (k : Int) < (n : Int) := by omega
      obtain ⟨⟨hu1, hu2⟩, b, off, hab, hb, e0, e1⟩ := HL.out k hlt
      subst hab
      have m0 := (hB.cell (p := ⟨b, off + k * 2, none⟩) hb).trans e0
      have m1 := (hB.cell (p := ⟨b, off + k * 2 + 1, none⟩) hb).trans e1
      have HZSk := Lib.hid (HZS.out k)
      have HTSk := Lib.hid (HTS.out k)
      have HPBk := Lib.hid (HPB.out k)
      have HPOk := Lib.hid (HPO.out k)
      have hpk := HPB.out k
      have hPC : k < m → ∃ bp op, ap = some ⟨bp, op, none⟩ ∧ bp < w.heap.size ∧ w.cell? ⟨bp, op + k, none⟩ = some (.int .u16 (tt ps k)) := fun h => (HPC.out k h).2
      have HPCk := Lib.hid hPC
      have hbr : b < wr.heap.size := Nat.lt_of_lt_of_le hb hzr
      clear e0 e1 hPC
      generalize (sp us k).1 = u at *
      generalize (sp us k).2 = v at *
      generalize tt ps k = p at *
      have w1 : wrap64 u = u := wrap64_id (by omega) (by omega)
      have w2 : wrap64 v = v := wrap64_id (by omega) (by omega)
      have w3 : wrap64 (u + v) = u + v := wrap64_id (by omega) (by omega)
      have x1 : IntKind.i64.wrap u = u := wrapJ_id w1
      have x2 : IntKind.i64.wrap v = v := wrapJ_id w2
      have x3 : IntKind.i64.wrap (u + v) = u + v := wrapJ_id w3
      have c56 := fun W => part_any u (u + v) p ⟨by omega, by omega, by omega⟩ hpk W
      generalize prS u (u + v) p = q at *
      go_wp2_with fail
      refine wp_region_held_drew (S := fun w' => w'.cell? ⟨b, off + k * 2, none⟩ = some (.int .u16 u) ∧ w'.cell? ⟨b, off + k * 2 + 1, none⟩ = some (.int .u16 v)) (by kernel_rfl) ⟨by simpa [go_sem] using m0, by simpa [go_sem] using m1⟩ (fun hHeld => ?_)
      refine wpAnyH_take (i := 0) (oi := _) (v := Value.slice (some ⟨b, off, none⟩) n cl) rfl (by kernel_rfl) (by kernel_rfl) (by kernel_rfl) (fun _ _ _ h => h) (Or.inl ⟨by rfl, fun w' hSw => ?_⟩) hHeld ?_
      · obtain ⟨t0, t1⟩ := hSw
        go_simp
        try simp [*]
        try (intro hh; exfalso; omega)
        try omega
      try simp only [Act.put, List.setIfInBounds_toArray, List.set_cons_zero, List.set_cons_succ, List.getElem_toArray, List.getElem_cons_succ, List.getElem_cons_zero]
      refine wpAnyH_take (i := 1) (oi := _) (v := Value.int .i64 (k : Int)) rfl (by kernel_rfl) (by kernel_rfl) (by kernel_rfl) (fun _ _ _ h => h) (Or.inl ⟨by rfl, fun w' hSw => ?_⟩) hHeld ?_
      · obtain ⟨t0, t1⟩ := hSw
        go_simp
        try simp [*]
        try (intro hh; exfalso; omega)
        try omega
      try simp only [Act.put, List.setIfInBounds_toArray, List.set_cons_zero, List.set_cons_succ, List.getElem_toArray, List.getElem_cons_succ, List.getElem_cons_zero]
      refine wpAnyH_take (i := 2) (oi := _) (v := Value.pointer (some ⟨b, off + k * 2, none⟩)) rfl (by kernel_rfl) (by kernel_rfl) (by kernel_rfl) (fun _ _ _ h => h) (Or.inl ⟨by rfl, fun w' hSw => ?_⟩) hHeld ?_
      · obtain ⟨t0, t1⟩ := hSw
        go_simp
        try simp [*]
        try (intro hh; exfalso; omega)
        try omega
      try simp only [Act.put, List.setIfInBounds_toArray, List.set_cons_zero, List.set_cons_succ, List.getElem_toArray, List.getElem_cons_succ, List.getElem_cons_zero]
      refine wpAnyH_take (i := 3) (oi := _) (v := Value.pointer (some ⟨b, off + k * 2, none⟩)) rfl (by kernel_rfl) (by kernel_rfl) (by kernel_rfl) (fun _ _ _ h => h) (Or.inl ⟨by rfl, fun w' hSw => ?_⟩) hHeld ?_
      · obtain ⟨t0, t1⟩ := hSw
        go_simp
        try simp [*]
        try (intro hh; exfalso; omega)
        try omega
      try simp only [Act.put, List.setIfInBounds_toArray, List.set_cons_zero, List.set_cons_succ, List.getElem_toArray, List.getElem_cons_succ, List.getElem_cons_zero]
      refine wpAnyH_take (i := 4) (oi := _) (v := Value.int .u16 u) rfl (by kernel_rfl) (by kernel_rfl) (by kernel_rfl) (fun _ _ _ h => h) (Or.inl ⟨by rfl, fun w' hSw => ?_⟩) hHeld ?_
      · obtain ⟨t0, t1⟩ := hSw
        go_simp
        try simp [*]
        try (intro hh; exfalso; omega)
        try omega
      try simp only [Act.put, List.setIfInBounds_toArray, List.set_cons_zero, List.set_cons_succ, List.getElem_toArray, List.getElem_cons_succ, List.getElem_cons_zero]
      refine wpAnyH_take (i := 5) (oi := _) (v := Value.int .i64 u) rfl (by kernel_rfl) (by kernel_rfl) (by kernel_rfl) (fun _ _ _ h => h) (Or.inl ⟨by rfl, fun w' hSw => ?_⟩) hHeld ?_
      · obtain ⟨t0, t1⟩ := hSw
        go_simp
        try simp [*]
        try (intro hh; exfalso; omega)
        try omega
      try simp only [Act.put, List.setIfInBounds_toArray, List.set_cons_zero, List.set_cons_succ, List.getElem_toArray, List.getElem_cons_succ, List.getElem_cons_zero]
      refine wpAnyH_take (i := 6) (oi := _) (v := Value.slice (some ⟨b, off, none⟩) n cl) rfl (by kernel_rfl) (by kernel_rfl) (by kernel_rfl) (fun _ _ _ h => h) (Or.inl ⟨by rfl, fun w' hSw => ?_⟩) hHeld ?_
      · obtain ⟨t0, t1⟩ := hSw
        go_simp
        try simp [*]
        try (intro hh; exfalso; omega)
        try omega
      try simp only [Act.put, List.setIfInBounds_toArray, List.set_cons_zero, List.set_cons_succ, List.getElem_toArray, List.getElem_cons_succ, List.getElem_cons_zero]
      refine wpAnyH_take (i := 7) (oi := _) (v := Value.int .i64 (k : Int)) rfl (by kernel_rfl) (by kernel_rfl) (by kernel_rfl) (fun _ _ _ h => h) (Or.inl ⟨by rfl, fun w' hSw => ?_⟩) hHeld ?_
      · obtain ⟨t0, t1⟩ := hSw
        go_simp
        try simp [*]
        try (intro hh; exfalso; omega)
        try omega
      try simp only [Act.put, List.setIfInBounds_toArray, List.set_cons_zero, List.set_cons_succ, List.getElem_toArray, List.getElem_cons_succ, List.getElem_cons_zero]
      refine wpAnyH_take (i := 8) (oi := _) (v := Value.pointer (some ⟨b, off + k * 2, none⟩)) rfl (by kernel_rfl) (by kernel_rfl) (by kernel_rfl) (fun _ _ _ h => h) (Or.inl ⟨by rfl, fun w' hSw => ?_⟩) hHeld ?_
      · obtain ⟨t0, t1⟩ := hSw
        go_simp
        try simp [*]
        try (intro hh; exfalso; omega)
        try omega
      try simp only [Act.put, List.setIfInBounds_toArray, List.set_cons_zero, List.set_cons_succ, List.getElem_toArray, List.getElem_cons_succ, List.getElem_cons_zero]
      refine wpAnyH_take (i := 9) (oi := _) (v := Value.pointer (some ⟨b, off + k * 2, none⟩)) rfl (by kernel_rfl) (by kernel_rfl) (by kernel_rfl) (fun _ _ _ h => h) (Or.inl ⟨by rfl, fun w' hSw => ?_⟩) hHeld ?_
      · obtain ⟨t0, t1⟩ := hSw
        go_simp
        try simp [*]
        try (intro hh; exfalso; omega)
        try omega
      try simp only [Act.put, List.setIfInBounds_toArray, List.set_cons_zero, List.set_cons_succ, List.getElem_toArray, List.getElem_cons_succ, List.getElem_cons_zero]
      refine wpAnyH_take (i := 10) (oi := _) (v := Value.int .u16 u) rfl (by kernel_rfl) (by kernel_rfl) (by kernel_rfl) (fun _ _ _ h => h) (Or.inl ⟨by rfl, fun w' hSw => ?_⟩) hHeld ?_
      · obtain ⟨t0, t1⟩ := hSw
        go_simp
        try simp [*]
        try (intro hh; exfalso; omega)
        try omega
      try simp only [Act.put, List.setIfInBounds_toArray, List.set_cons_zero, List.set_cons_succ, List.getElem_toArray, List.getElem_cons_succ, List.getElem_cons_zero]
      refine wpAnyH_take (i := 11) (oi := _) (v := Value.int .i64 u) rfl (by kernel_rfl) (by kernel_rfl) (by kernel_rfl) (fun _ _ _ h => h) (Or.inl ⟨by rfl, fun w' hSw => ?_⟩) hHeld ?_
      · obtain ⟨t0, t1⟩ := hSw
        go_simp
        try simp [*]
        try (intro hh; exfalso; omega)
        try omega
      try simp only [Act.put, List.setIfInBounds_toArray, List.set_cons_zero, List.set_cons_succ, List.getElem_toArray, List.getElem_cons_succ, List.getElem_cons_zero]
      refine wpAnyH_take (i := 12) (oi := _) (v := Value.slice (some ⟨b, off, none⟩) n cl) rfl (by kernel_rfl) (by kernel_rfl) (by kernel_rfl) (fun _ _ _ h => h) (Or.inl ⟨by rfl, fun w' hSw => ?_⟩) hHeld ?_
      · obtain ⟨t0, t1⟩ := hSw
        go_simp
        try simp [*]
        try (intro hh; exfalso; omega)
        try omega
      try simp only [Act.put, List.setIfInBounds_toArray, List.set_cons_zero, List.set_cons_succ, List.getElem_toArray, List.getElem_cons_succ, List.getElem_cons_zero]
      refine wpAnyH_take (i := 13) (oi := _) (v := Value.int .i64 (k : Int)) rfl (by kernel_rfl) (by kernel_rfl) (by kernel_rfl) (fun _ _ _ h => h) (Or.inl ⟨by rfl, fun w' hSw => ?_⟩) hHeld ?_
      · obtain ⟨t0, t1⟩ := hSw
        go_simp
        try simp [*]
        try (intro hh; exfalso; omega)
        try omega
      try simp only [Act.put, List.setIfInBounds_toArray, List.set_cons_zero, List.set_cons_succ, List.getElem_toArray, List.getElem_cons_succ, List.getElem_cons_zero]
      refine wpAnyH_take (i := 14) (oi := _) (v := Value.pointer (some ⟨b, off + k * 2, none⟩)) rfl (by kernel_rfl) (by kernel_rfl) (by kernel_rfl) (fun _ _ _ h => h) (Or.inl ⟨by rfl, fun w' hSw => ?_⟩) hHeld ?_
      · obtain ⟨t0, t1⟩ := hSw
        go_simp
        try simp [*]
        try (intro hh; exfalso; omega)
        try omega
      try simp only [Act.put, List.setIfInBounds_toArray, List.set_cons_zero, List.set_cons_succ, List.getElem_toArray, List.getElem_cons_succ, List.getElem_cons_zero]
      refine wpAnyH_take (i := 15) (oi := _) (v := Value.pointer (some ⟨b, off + k * 2 + 1, none⟩)) rfl (by kernel_rfl) (by kernel_rfl) (by kernel_rfl) (fun _ _ _ h => h) (Or.inl ⟨by rfl, fun w' hSw => ?_⟩) hHeld ?_
      · obtain ⟨t0, t1⟩ := hSw
        go_simp
        try simp [*]
        try (intro hh; exfalso; omega)
        try omega
      try simp only [Act.put, List.setIfInBounds_toArray, List.set_cons_zero, List.set_cons_succ, List.getElem_toArray, List.getElem_cons_succ, List.getElem_cons_zero]
      refine wpAnyH_take (i := 16) (oi := _) (v := Value.int .u16 v) rfl (by kernel_rfl) (by kernel_rfl) (by kernel_rfl) (fun _ _ _ h => h) (Or.inl ⟨by rfl, fun w' hSw => ?_⟩) hHeld ?_
      · obtain ⟨t0, t1⟩ := hSw
        go_simp
        try simp [*]
        try (intro hh; exfalso; omega)
        try omega
      try simp only [Act.put, List.setIfInBounds_toArray, List.set_cons_zero, List.set_cons_succ, List.getElem_toArray, List.getElem_cons_succ, List.getElem_cons_zero]
      refine wpAnyH_take (i := 17) (oi := _) (v := Value.int .i64 v) rfl (by kernel_rfl) (by kernel_rfl) (by kernel_rfl) (fun _ _ _ h => h) (Or.inl ⟨by rfl, fun w' hSw => ?_⟩) hHeld ?_
      · obtain ⟨t0, t1⟩ := hSw
        go_simp
        try simp [*]
        try (intro hh; exfalso; omega)
        try omega
      try simp only [Act.put, List.setIfInBounds_toArray, List.set_cons_zero, List.set_cons_succ, List.getElem_toArray, List.getElem_cons_succ, List.getElem_cons_zero]
      refine wpAnyH_take (i := 18) (oi := _) (v := Value.int .i64 (u + v)) rfl (by kernel_rfl) (by kernel_rfl) (by kernel_rfl) (fun _ _ _ h => h) (Or.inl ⟨by rfl, fun w' hSw => ?_⟩) hHeld ?_
      · obtain ⟨t0, t1⟩ := hSw
        go_simp
        try simp [*]
        try (intro hh; exfalso; omega)
        try omega
      try simp only [Act.put, List.setIfInBounds_toArray, List.set_cons_zero, List.set_cons_succ, List.getElem_toArray, List.getElem_cons_succ, List.getElem_cons_zero]
      refine wpAnyH_take (i := 19) (oi := _) (v := Value.agg #[.int .i64 u, .int .i64 (u + v)]) rfl (by kernel_rfl) (by kernel_rfl) (by kernel_rfl) (fun _ _ _ h => h) (Or.inl ⟨by rfl, fun w' hSw => ?_⟩) hHeld ?_
      · obtain ⟨t0, t1⟩ := hSw
        go_simp
        try simp [*]
        try (intro hh; exfalso; omega)
        try omega
      try simp only [Act.put, List.setIfInBounds_toArray, List.set_cons_zero, List.set_cons_succ, List.getElem_toArray, List.getElem_cons_succ, List.getElem_cons_zero]
      have hAl : Below wr.heap.size wr (wr.drew.alloc (.cells #[.int .i64 0, .int .i64 0] 23)) := ((Below.refl _ _).drew).alloc (Nat.le_refl _) _
      refine wpAnyH_ready (rs := [20]) (by kernel_rfl) (by simp) ?_
      refine AllReadyH.cons (o := _) rfl (fun K hK => ?_) AllReadyH.nil
      go_simp
      clear hHeld
      refine hK.out _ _ ⟨(hAl.cell (p := ⟨b, off + k * 2, none⟩) hbr).trans m0, (hAl.cell (p := ⟨b, off + k * 2 + 1, none⟩) hbr).trans m1⟩ (fun hHeld => ?_)
      clear hK K
      try simp only [Act.put, List.setIfInBounds_toArray, List.set_cons_zero, List.set_cons_succ, List.getElem_toArray, List.getElem_cons_succ, List.getElem_cons_zero]
      obtain ⟨V, hV⟩ : ∃ V, V = (wr.alloc (.cells #[.int .i64 u, .int .i64 (u + v)] 23)).drew := ⟨_, rfl⟩
      have hBV : Below wr.heap.size wr V := by rw [hV]; exact ((Below.refl _ _).alloc (Nat.le_refl _) _).drew
      refine wpAnyH_ready (rs := [21]) (by kernel_rfl) (by simp) ?_
      refine AllReadyH.cons (o := _) rfl (fun K hK => ?_) AllReadyH.nil
      go_simp
      try rw [← hV]
      clear hHeld
      refine hK.out _ _ ⟨(hBV.cell (p := ⟨b, off + k * 2, none⟩) hbr).trans m0, (hBV.cell (p := ⟨b, off + k * 2 + 1, none⟩) hbr).trans m1⟩ (fun hHeld => ?_)
      clear hK K
      try simp only [Act.put, List.setIfInBounds_toArray, List.set_cons_zero, List.set_cons_succ, List.getElem_toArray, List.getElem_cons_succ, List.getElem_cons_zero]
      refine wpAnyH_done (by kernel_rfl) ?_ _
      clear hHeld
      have kx : Bx2 V wr.heap.size (.int .i64 u) (.int .i64 (u + v)) := by rw [hV]; exact Bx2.new wr _ _
      have hzV : wr.heap.size < V.heap.size := by rw [hV]; simp
      clear hV m0 m1 hAl w1 w2 w3 x1 x2 x3
      have HBWV := Lib.hid hBV
      have HROW1 := Lib.hid (own_below HROW.out hBV)
      have HROWT1 := Lib.hid (own_below HROWT.out hBV)
      have HB1 := Lib.hid (HB.out.trans (hBV.mono hzr))
      have KX := Lib.hid kx
      clear hBV kx
      go_upto_if 53 with fail
      go_cut [9] from 50 to 57 (fun s9 wc => s9 = .int .u16 p ∧ wc = V)
      case first =>
        by_cases hpm : k < m
        · have hkm : (k : Int) < (m : Int) := by omega
          have hkd : decide ((k : Int) < (m : Int)) = true := decide_eq_true hkm
          obtain ⟨bp, op, hap, hbp, ep⟩ := HPCk.out hpm
          subst hap
          have mp := (HB1.out.cell (p := ⟨bp, op + k, none⟩) hbp).trans ep
          go_wp2_with fail
          go_meet
          case rel => exact ⟨rfl, rfl⟩
        · have hkm : ¬ (k : Int) < (m : Int) := by omega
          have hkd : decide ((k : Int) < (m : Int)) = false := decide_eq_false hkm
          have HP0 := Lib.hid (HPOk.out hpm)
          go_wp2_with fail
          go_meet
          case rel => exact ⟨by rw [HP0.out], rfl⟩
      case rest =>
        obtain ⟨h9, hwc⟩ := hcut
        subst h9
        have hwc2 := hwc.symm
        subst hwc2
        have d0 := KX.out.c0
        have d1 := KX.out.c1
        have hVb := HB1.out.size
        have HROW2 := Lib.hid (HROW1.out.alloc (.cells #[.int .i64 u, .int .i64 (u + v)] 23))
        have hVA : Below V.heap.size V (V.alloc (.cells #[.int .i64 u, .int .i64 (u + v)] 23)) := (Below.refl _ _).alloc (Nat.le_refl _) _
        have HROWT2 := Lib.hid (own_below HROWT1.out hVA)
        have HB2 := Lib.hid (HB1.out.trans (hVA.mono hVb))
        have HX2 := Lib.hid (KX.out.keep hVA)
        have hzA : (V.alloc (.cells #[.int .i64 u, .int .i64 (u + v)] 23)).heap.size = V.heap.size + 1 := by simp
        have HZ2 := Lib.hid hzA
        clear hVA hzA
        go_upto_region 12 with fail
        iterate 10 go_step
        refine wpList_append_own _ rfl _ _ 50 rfl w.heap.size 23 i0 (.agg #[.int .i64 0, .int .i64 0]) 2 16 Try.underlying50 hi0 hz0 hz1 hz2 rfl (by decide) _ _ _ rfl HROW2.out ⟨V.heap.size, 0, none⟩ 1 1 [.int .i64 u, .int .i64 (u + v)] rfl rfl (two_newSO _ _ _) (by simp [Value.oneCell']) (by unfold maxLen; omega) (by omega) (by simp; omega) ?_
        intro v' w5 hrow' hgrow _
        have HG := Lib.hid hgrow
        have HROW5 := Lib.hid hrow'
        obtain ⟨a6, c6, hv6⟩ := own_form hrow'
        subst hv6
        clear hrow' hgrow
        have HB5 := Lib.hid (HB2.out.grown HG.out (by have := HZ2.out; omega) (fun j hj => (HROW2.out.lt j hj).1))
        have HROWT5 := Lib.hid (own_keep HROWT2.out (fun j hj => HG.out.block j (HROWT2.out.lt j hj).2 (fun e => row_apart (by decide) HROW2.out HROWT2.out j e.symm hj)))
        have HX5 := Lib.hid (show Bx2 w5 wr.heap.size (.int .i64 u) (.int .i64 (u + v)) from HX2.out.same (HG.out.block _ HX2.out.lt (fun e => by have h1 := (HROW.out.lt _ e.symm).2; omega)))
        have d0 := HX5.out.c0
        have d1 := HX5.out.c1
        have hz5 := HB5.out.size
        go_wp2_with fail
        refine (c56 _).mono ?_
        rintro e w6 ⟨rfl, hb6⟩
        have HROW6 := Lib.hid (own_below HROW5.out hb6)
        have HROWT6 := Lib.hid (own_below HROWT5.out hb6)
        have HB6 := Lib.hid (HB5.out.trans (hb6.mono hz5))
        have hz6 := HB6.out.size
        clear hb6 d0 d1
        have hA7 : Below w6.heap.size w6 (w6.alloc (.cells #[.int .i64 q] 2)) := (Below.refl _ _).alloc (Nat.le_refl _) _
        have HROW7 := Lib.hid (own_below HROW6.out hA7)
        have HROWT7 := Lib.hid (HROWT6.out.alloc (.cells #[.int .i64 q] 2))
        have HB7 := Lib.hid (HB6.out.alloc hz6 (.cells #[.int .i64 q] 2))
        clear hA7
        go_wp2_with (at_builtin; refine wpList_append_own _ rfl _ _ 85 rfl w.heap.size 2 i1 (.int .i64 0) 1 8 Try.underlying85 hj0 hj1 hj2 hj3 rfl (by decide) _ _ _ rfl HROWT7.out ⟨w6.heap.size, 0, none⟩ 1 1 [.int .i64 q] rfl rfl (one_newI _ _) (by simp [Value.oneCell']) (by unfold maxLen; omega) (by omega) (by simp; omega) ?_; intro v' w8 hrow' hgrow _; have HG8 := Lib.hid hgrow; have HROWT8 := Lib.hid hrow'; obtain ⟨a8, c8, rfl⟩ := own_form hrow'; clear hrow' hgrow)
        have HB8 := Lib.hid (HB7.out.grown HG8.out (by simp; omega) (fun j hj => (HROWT7.out.lt j hj).1))
        have HROW8 := Lib.hid (own_keep HROW7.out (fun j hj => HG8.out.block j (HROW7.out.lt j hj).2 (fun e => row_apart (by decide) HROW7.out HROWT7.out j hj e.symm)))
        go_roundw
        case rel => exact ⟨k + 1, by omega, by go_num, by rw [HZSk.out, flat2_snoc]; exact HROW8.out, by rw [HTSk.out, flat1_snoc]; exact HROWT8.out, HB8.out⟩
        case measure => simp [intOf]; omega
    · obtain rfl : k = n := by omega
      have HS := Lib.hid (show Sps wr.heap.size wr (.slice a0 k c0) (zsT us k) from sps_of_owns (t := 23) (base := w.heap.size) (by rw [HZL.out]; exact HROW.out))
      have HTS2 := Lib.hid (show I64s wr.heap.size wr (.slice a1 k c1) (tsT us ps k) from i64s_of_owns (t := 2) (base := w.heap.size) (by rw [HTL.out]; exact HROWT.out))
      have HZK := Lib.hid (HZL.out k)
      clear HL HPC HPB HPO HZL HTL HZS HTS HZ0 HT0 hB
      generalize zsT us k = zs at *
      generalize tsT us ps k = ts at *
      have c46 := ranks46_any (.slice a0 k c0) zs wr HS.out
      unfold RnkR at c46
      go_wp2_with fail
      refine c46.mono ?_
      rintro e w2 ⟨v2, E, rfl, hE, hR, hb⟩
      rw [HE0.out] at hE
      subst hE
      rw [if_pos rfl, HZK.out] at hR
      have HB2 := Lib.hid (HB.out.trans (hb.mono hzr))
      have HS2 := Lib.hid (HS.out.at hb)
      have HT2 := Lib.hid (HTS2.out.at hb)
      have HR2 := Lib.hid hR
      obtain ⟨a3, c3, hv3⟩ := hR.form
      rw [rkTo_len] at hv3
      subst hv3
      have c48 := common_any (.slice a0 k c0) zs w2 HS2.out
      have HQ : ∃ q0 q1 qe, comR zs = ⟨q0, q1, qe⟩ ∧ (qe = 5 ∨ (qe = 0 ∧ q0 ≤ q1 ∧ ∀ j, j < zs.length → (sp zs j).1 ≤ q0 ∧ q1 ≤ (sp zs j).2)) := by
        rcases HCM.out with h | ⟨a, b, h, h2, h3⟩
        · exact ⟨0, 0, 5, h, .inl rfl⟩
        · exact ⟨a, b, 0, h, .inr ⟨rfl, h2, h3⟩⟩
      obtain ⟨q0, q1, qe, hq, hqq⟩ := HQ
      rw [hq] at c48
      unfold R3.out at c48
      dsimp only at c48
      have HQQ := Lib.hid hqq
      clear hq hqq hb hR c46 HCM
      have hz2 := HB2.out.size
      go_wp2_with fail
      refine c48.mono ?_
      rintro e w3 ⟨rfl, hb⟩
      have HB3 := Lib.hid (HB2.out.trans (hb.mono hz2))
      have HS3 := Lib.hid (HS2.out.at hb)
      have HT3 := Lib.hid (HT2.out.at hb)
      have HR3 := Lib.hid (HR2.out.at hb)
      clear hb c48 HS2 HT2 HR2
      go_upto_region 16 with fail
      obtain ⟨V, hV⟩ : ∃ V, V = w3.alloc (.cells #[.int .i64 q0, .int .i64 q1] 23) := ⟨_, rfl⟩
      try rw [← hV]
      have hbV : Below w3.heap.size w3 V := by rw [hV]; exact (Below.refl _ _).alloc (Nat.le_refl _) _
      have hXV : Bx2 V w3.heap.size (.int .i64 q0) (.int .i64 q1) := by rw [hV]; exact Bx2.new _ _ _
      have hz3 := HB3.out.size
      have HBV := Lib.hid (HB3.out.trans (hbV.mono hz3))
      have HXV := Lib.hid hXV
      obtain ⟨sa1, sa2, hsv, -, hsc⟩ := HS3.out.at hbV
      obtain ⟨ta1, ta2, htv, htc⟩ := HT3.out.at hbV
      obtain ⟨ra1, ra2, hrv, -, hrc⟩ := HR3.out.at hbV
      rw [HZK.out] at hsv hsc
      rw [HIN.out.1, HZK.out] at htv htc
      rw [rkTo_len] at hrv hrc
      simp only [Value.slice.injEq, true_and] at hsv htv hrv
      obtain ⟨rfl, -⟩ := hsv
      obtain ⟨rfl, -⟩ := htv
      obtain ⟨rfl, -⟩ := hrv
      have HSC := Lib.hid hsc
      have HTC := Lib.hid htc
      have HRC := Lib.hid hrc
      have hlt3 : w3.heap.size < V.heap.size := by rw [hV]; simp
      clear hV hbV hXV hsc htc hrc HS3 HT3 HR3 HROW HROWT HS HTS2
      have HUP := Lib.hid (show ∀ W, Below V.heap.size V W → Below w.heap.size w W from fun W h => HBV.out.trans (h.mono HBV.out.size))
      go_cut [105] from 78 to 105 (fun sc wc => sc = Value.bool false ∧ wc = V)
      case first =>
        rcases HQQ.out with h5 | ⟨h5, h6, -⟩
        · have b1 : (qe != 0) = true := by rw [h5]; rfl
          have b2 : (qe != 5) = false := by rw [h5]; rfl
          have b3 : (qe == 0) = false := by rw [h5]; rfl
          clear h5
          go_wp2_with fail
          go_meet
          case rel => exact ⟨rfl, rfl⟩
        · have b1 : (qe != 0) = false := by rw [h5]; rfl
          have b3 : (qe == 0) = true := by rw [h5]; rfl
          have b4 : ¬ q1 < q0 := by omega
          have g0 := HXV.out.c0
          have g1 := HXV.out.c1
          clear h5
          go_wp2_with fail
          go_meet
          case rel => exact ⟨rfl, rfl⟩
      case rest =>
        obtain ⟨hc1, hc2⟩ := hcut
        subst hc1
        have hc3 := hc2.symm
        subst hc3
        clear hc2
        go_wp2_with fail
        go_loopw [14] (fun iv wr => ∃ i : Nat, i ≤ k ∧ iv = .int .i64 i ∧ Below V.heap.size V wr) (fun iv _ => k - (intOf iv).toNat)
        case atStart => exact ⟨0, Nat.zero_le _, rfl, Below.refl _ _⟩
        case round =>
          obtain ⟨i, hi, rfl, hBi⟩ := hrel
          have HBI := Lib.hid hBi
          clear hBi
          by_cases hlt : i < k
          rotate_left
          · obtain rfl : i = k := by omega
            go_wp2_with fail
            refine (c21 _).mono ?_
            rintro e wz ⟨rfl, hbz⟩
            have HBZ := Lib.hid (HBI.out.trans (hbz.mono HBI.out.size))
            clear hbz
            go_wp2_with fail
            go_ret
            exact ⟨rfl, HUP.out _ HBZ.out⟩
          have hil : (i : Int) < (k : Int) := by omega
          have HIK := Lib.hid hlt
          obtain ⟨bs, os, hab, hbs, y0, y1⟩ := HSC.out i hlt
          subst hab
          obtain ⟨bt, ot, hab, hbt, x0⟩ := HTC.out i hlt
          subst hab
          obtain ⟨br, orr, hab, hbr2, z0, z1⟩ := HRC.out i hlt
          subst hab
          have HIS := Lib.hid (show ∀ W, Below V.heap.size V W → W.cell? ⟨bs, os + i * 2, none⟩ = some (.int .i64 (sp zs i).1) ∧ W.cell? ⟨bs, os + i * 2 + 1, none⟩ = some (.int .i64 (sp zs i).2) ∧ W.cell? ⟨bt, ot + i, none⟩ = some (.int .i64 (tt ts i)) ∧ W.cell? ⟨br, orr + i * 2, none⟩ = some (.int .i64 (sp (rkTo zs k) i).1) ∧ W.cell? ⟨br, orr + i * 2 + 1, none⟩ = some (.int .i64 (sp (rkTo zs k) i).2) from fun W h => ⟨(h.cell (p := ⟨bs, _, none⟩) hbs).trans y0, (h.cell (p := ⟨bs, _, none⟩) hbs).trans y1, (h.cell (p := ⟨bt, _, none⟩) hbt).trans x0, (h.cell (p := ⟨br, _, none⟩) hbr2).trans z0, (h.cell (p := ⟨br, _, none⟩) hbr2).trans z1⟩)
          have HKS := Lib.hid (show ∀ j W, j < k → Below V.heap.size V W → W.cell? ⟨bs, os + j * 2, none⟩ = some (.int .i64 (sp zs j).1) ∧ W.cell? ⟨bs, os + j * 2 + 1, none⟩ = some (.int .i64 (sp zs j).2) ∧ W.cell? ⟨bt, ot + j, none⟩ = some (.int .i64 (tt ts j)) from fun j W hj h => by
            obtain ⟨bs', os', hab, -, y0', y1'⟩ := HSC.out j hj
            obtain ⟨bt', ot', hab2, -, x0'⟩ := HTC.out j hj
            simp only [Option.some.injEq, Addr.mk.injEq, and_true] at hab hab2
            obtain ⟨rfl, rfl⟩ := hab
            obtain ⟨rfl, rfl⟩ := hab2
            exact ⟨(h.cell (p := ⟨bs, _, none⟩) hbs).trans y0', (h.cell (p := ⟨bs, _, none⟩) hbs).trans y1', (h.cell (p := ⟨bt, _, none⟩) hbt).trans x0'⟩)
          have HRKI := Lib.hid (show (sp (rkTo zs k) i).1 ≤ (cL ts (tt ts i) k : Int) ∧ (cL ts (tt ts i) k : Int) ≤ (sp (rkTo zs k) i).2 by
            have q := rk_ok HIN.out (i := i) (by rw [HZK.out]; exact hlt)
            rw [HZK.out] at q
            rw [rkTo_get zs k i hlt]
            exact q)
          have HBFk := Lib.hid (show ∀ j, j < k → (befS (sp zs j) (sp zs i) = 2 → tt ts j < tt ts i) ∧ (befS (sp zs j) (sp zs i) = 0 → ¬ tt ts j < tt ts i) ∧ BefR (sp zs j) (sp zs i) = (befS (sp zs j) (sp zs i), 0) from fun j hj => by
            have e := HE0.out
            have g := (evE_get e).2
            refine ⟨bef_yes HIN.out (by rw [HZK.out]; exact hj) (by rw [HZK.out]; exact hlt), bef_no HIN.out (by rw [HZK.out]; exact hj) (by rw [HZK.out]; exact hlt), ?_⟩
            unfold BefR
            rw [if_pos (g j (by rw [HZK.out]; exact hj)), if_pos (g i (by rw [HZK.out]; exact hlt))])
          have HQI := Lib.hid (show qe = 5 ∨ (qe = 0 ∧ q0 ≤ q1 ∧ ((sp zs i).1 ≤ q0 ∧ q1 ≤ (sp zs i).2)) by
            rcases HQQ.out with h | ⟨h, h2, h3⟩
            · exact .inl h
            · exact .inr ⟨h, h2, h3 i (by rw [HZK.out]; exact hlt)⟩)
          have HCL := Lib.hid (fun j => show cL ts (tt ts i) (j + 1) = cL ts (tt ts i) j + (if tt ts j < tt ts i then 1 else 0) from rfl)
          have HCE := Lib.hid (fun j => show cE ts (tt ts i) (j + 1) = cE ts (tt ts i) j + (if tt ts j < tt ts i then 0 else if tt ts j = tt ts i then 1 else 0) from rfl)
          have HCB := Lib.hid (fun j => And.intro (cL_le ts (tt ts i) j) (cE_le ts (tt ts i) j))
          have HC0 := Lib.hid (show cL ts (tt ts i) 0 = 0 ∧ cE ts (tt ts i) 0 = 0 from ⟨rfl, rfl⟩)
          have c44 := Lib.hid (fun j W => before44_any (sp zs j) (sp zs i) W)
          have c54 := Lib.hid (fun W => inside_any (q0, q1) (sp zs i) W)
          clear y0 y1 x0 z0 z1
          generalize (sp (rkTo zs k) i).1 = r0 at *
          generalize (sp (rkTo zs k) i).2 = r1 at *
          go_wp2_with fail
          go_loopw [15, 16, 17] (fun lv ev jv wq => ∃ j : Nat, j ≤ k ∧ jv = .int .i64 j ∧ lv = .int .i64 (cL ts (tt ts i) j) ∧ ev = .int .i64 (cE ts (tt ts i) j) ∧ Below V.heap.size V wq) (fun _ _ jv _ => k - (intOf jv).toNat)
          case atStart => exact ⟨0, Nat.zero_le _, rfl, by rw [HC0.out.1]; rfl, by rw [HC0.out.2]; rfl, HBI.out⟩
          case round =>
            obtain ⟨j, hj, rfl, rfl, rfl, hBj⟩ := hrel
            have HBJ := Lib.hid hBj
            clear hBj
            by_cases hjk : j < k
            · have hjl : (j : Int) < (k : Int) := by omega
              obtain ⟨n0, n1, n2⟩ := HKS.out j _ hjk HBJ.out
              obtain ⟨m0, m1, m2, -, -⟩ := HIS.out _ HBJ.out
              obtain ⟨hy, hno, hbr⟩ := HBFk.out j hjk
              have hc44 := c44.out j
              rw [hbr] at hc44
              dsimp only at hc44
              obtain ⟨hcl, hce⟩ := HCB.out j
              have HCLj := Lib.hid (HCL.out j)
              have HCEj := Lib.hid (HCE.out j)
              have HBD := Lib.hid (bef_bd (sp zs j) (sp zs i))
              have HJ := Lib.hid (fun W h => HKS.out j W hjk h)
              have HTI := Lib.hid (fun W h => (HIS.out W h).2.2.1)
              unfold spv at hc44
              generalize befS (sp zs j) (sp zs i) = bf at *
              generalize (sp zs j).1 = e0 at *
              generalize (sp zs j).2 = e1 at *
              generalize (sp zs i).1 = f0 at *
              generalize (sp zs i).2 = f1 at *
              generalize tt ts j = tj at *
              generalize tt ts i = ti at *
              generalize cL ts ti j = lc at *
              generalize cE ts ti j = ec at *
              have HC44 := Lib.hid hc44
              have HYES := Lib.hid hy
              have HNO := Lib.hid hno
              clear hy hno hbr hc44
              go_wp2_with fail
              refine wp_region_held_drew (S := fun w' => w'.cell? ⟨bs, os + j * 2, none⟩ = some (.int .i64 e0) ∧ w'.cell? ⟨bs, os + j * 2 + 1, none⟩ = some (.int .i64 e1) ∧ w'.cell? ⟨bs, os + i * 2, none⟩ = some (.int .i64 f0) ∧ w'.cell? ⟨bs, os + i * 2 + 1, none⟩ = some (.int .i64 f1)) (by kernel_rfl) ⟨by simpa [go_sem] using n0, by simpa [go_sem] using n1, by simpa [go_sem] using m0, by simpa [go_sem] using m1⟩ (fun hHeld => ?_)
              refine wpAnyH_take (i := 0) (oi := _) (v := Value.slice (some ⟨bs, os, none⟩) k c0) rfl (by kernel_rfl) (by kernel_rfl) (by kernel_rfl) (fun _ _ _ h => h) (Or.inl ⟨by rfl, fun w' hSw => ?_⟩) hHeld ?_
              · obtain ⟨t0, t1, t2, t3⟩ := hSw
                go_simp
                try simp [*]
                try (intro hh; exfalso; omega)
                try omega
              try simp only [Act.put, List.setIfInBounds_toArray, List.set_cons_zero, List.set_cons_succ, List.getElem_toArray, List.getElem_cons_succ, List.getElem_cons_zero]
              refine wpAnyH_take (i := 1) (oi := _) (v := Value.int .i64 (j : Int)) rfl (by kernel_rfl) (by kernel_rfl) (by kernel_rfl) (fun _ _ _ h => h) (Or.inl ⟨by rfl, fun w' hSw => ?_⟩) hHeld ?_
              · obtain ⟨t0, t1, t2, t3⟩ := hSw
                go_simp
                try simp [*]
                try (intro hh; exfalso; omega)
                try omega
              try simp only [Act.put, List.setIfInBounds_toArray, List.set_cons_zero, List.set_cons_succ, List.getElem_toArray, List.getElem_cons_succ, List.getElem_cons_zero]
              refine wpAnyH_take (i := 2) (oi := _) (v := Value.pointer (some ⟨bs, os + j * 2, none⟩)) rfl (by kernel_rfl) (by kernel_rfl) (by kernel_rfl) (fun _ _ _ h => h) (Or.inl ⟨by rfl, fun w' hSw => ?_⟩) hHeld ?_
              · obtain ⟨t0, t1, t2, t3⟩ := hSw
                go_simp
                try simp [*]
                try (intro hh; exfalso; omega)
                try omega
              try simp only [Act.put, List.setIfInBounds_toArray, List.set_cons_zero, List.set_cons_succ, List.getElem_toArray, List.getElem_cons_succ, List.getElem_cons_zero]
              refine wpAnyH_take (i := 3) (oi := _) (v := Value.agg #[Value.int .i64 e0, Value.int .i64 e1]) rfl (by kernel_rfl) (by kernel_rfl) (by kernel_rfl) (fun _ _ _ h => h) (Or.inl ⟨by rfl, fun w' hSw => ?_⟩) hHeld ?_
              · obtain ⟨t0, t1, t2, t3⟩ := hSw
                go_simp
                try simp [*]
                try (intro hh; exfalso; omega)
                try omega
              try simp only [Act.put, List.setIfInBounds_toArray, List.set_cons_zero, List.set_cons_succ, List.getElem_toArray, List.getElem_cons_succ, List.getElem_cons_zero]
              refine wpAnyH_take (i := 4) (oi := _) (v := Value.slice (some ⟨bs, os, none⟩) k c0) rfl (by kernel_rfl) (by kernel_rfl) (by kernel_rfl) (fun _ _ _ h => h) (Or.inl ⟨by rfl, fun w' hSw => ?_⟩) hHeld ?_
              · obtain ⟨t0, t1, t2, t3⟩ := hSw
                go_simp
                try simp [*]
                try (intro hh; exfalso; omega)
                try omega
              try simp only [Act.put, List.setIfInBounds_toArray, List.set_cons_zero, List.set_cons_succ, List.getElem_toArray, List.getElem_cons_succ, List.getElem_cons_zero]
              refine wpAnyH_take (i := 5) (oi := _) (v := Value.int .i64 (i : Int)) rfl (by kernel_rfl) (by kernel_rfl) (by kernel_rfl) (fun _ _ _ h => h) (Or.inl ⟨by rfl, fun w' hSw => ?_⟩) hHeld ?_
              · obtain ⟨t0, t1, t2, t3⟩ := hSw
                go_simp
                try simp [*]
                try (intro hh; exfalso; omega)
                try omega
              try simp only [Act.put, List.setIfInBounds_toArray, List.set_cons_zero, List.set_cons_succ, List.getElem_toArray, List.getElem_cons_succ, List.getElem_cons_zero]
              refine wpAnyH_take (i := 6) (oi := _) (v := Value.pointer (some ⟨bs, os + i * 2, none⟩)) rfl (by kernel_rfl) (by kernel_rfl) (by kernel_rfl) (fun _ _ _ h => h) (Or.inl ⟨by rfl, fun w' hSw => ?_⟩) hHeld ?_
              · obtain ⟨t0, t1, t2, t3⟩ := hSw
                go_simp
                try simp [*]
                try (intro hh; exfalso; omega)
                try omega
              try simp only [Act.put, List.setIfInBounds_toArray, List.set_cons_zero, List.set_cons_succ, List.getElem_toArray, List.getElem_cons_succ, List.getElem_cons_zero]
              refine wpAnyH_take (i := 7) (oi := _) (v := Value.agg #[Value.int .i64 f0, Value.int .i64 f1]) rfl (by kernel_rfl) (by kernel_rfl) (by kernel_rfl) (fun _ _ _ h => h) (Or.inl ⟨by rfl, fun w' hSw => ?_⟩) hHeld ?_
              · obtain ⟨t0, t1, t2, t3⟩ := hSw
                go_simp
                try simp [*]
                try (intro hh; exfalso; omega)
                try omega
              try simp only [Act.put, List.setIfInBounds_toArray, List.set_cons_zero, List.set_cons_succ, List.getElem_toArray, List.getElem_cons_succ, List.getElem_cons_zero]
              refine wpAnyH_ready (rs := [8]) (by kernel_rfl) (by simp) ?_
              refine AllReadyH.cons (o := _) rfl (fun K hK => ?_) AllReadyH.nil
              go_simp
              go_at_call 44
              refine Calls.mono (HC44.out _) ?_
              rintro e w4 ⟨rfl, hb4⟩
              have hbd : Below V.heap.size V w4 := HBJ.out.drew.trans (hb4.mono HBJ.out.drew.size)
              have HB4 := Lib.hid hbd
              clear hb4
              clear hHeld
              refine hK.out _ _ ⟨(HJ.out _ hbd).1, (HJ.out _ hbd).2.1, (HIS.out _ hbd).1, (HIS.out _ hbd).2.1⟩ (fun hHeld => ?_)
              clear hK K
              try simp only [Act.put, List.setIfInBounds_toArray, List.set_cons_zero, List.set_cons_succ, List.getElem_toArray, List.getElem_cons_succ, List.getElem_cons_zero]
              refine wpAnyH_take (i := 9) (oi := _) (v := .tuple #[.int .i64 bf, .int .i64 0]) rfl (by kernel_rfl) (by kernel_rfl) (by kernel_rfl) (fun _ _ _ h => h) (Or.inl ⟨by rfl, fun w' hSw => ?_⟩) hHeld ?_
              · obtain ⟨t0, t1, t2, t3⟩ := hSw
                go_simp
                try simp [*]
                try (intro hh; exfalso; omega)
                try omega
              try simp only [Act.put, List.setIfInBounds_toArray, List.set_cons_zero, List.set_cons_succ, List.getElem_toArray, List.getElem_cons_succ, List.getElem_cons_zero]
              refine wpAnyH_take (i := 10) (oi := _) (v := .int .i64 bf) rfl (by kernel_rfl) (by kernel_rfl) (by kernel_rfl) (fun _ _ _ h => h) (Or.inl ⟨by rfl, fun w' hSw => ?_⟩) hHeld ?_
              · obtain ⟨t0, t1, t2, t3⟩ := hSw
                go_simp
                try simp [*]
                try (intro hh; exfalso; omega)
                try omega
              try simp only [Act.put, List.setIfInBounds_toArray, List.set_cons_zero, List.set_cons_succ, List.getElem_toArray, List.getElem_cons_succ, List.getElem_cons_zero]
              refine wpAnyH_take (i := 11) (oi := _) (v := .int .i64 0) rfl (by kernel_rfl) (by kernel_rfl) (by kernel_rfl) (fun _ _ _ h => h) (Or.inl ⟨by rfl, fun w' hSw => ?_⟩) hHeld ?_
              · obtain ⟨t0, t1, t2, t3⟩ := hSw
                go_simp
                try simp [*]
                try (intro hh; exfalso; omega)
                try omega
              try simp only [Act.put, List.setIfInBounds_toArray, List.set_cons_zero, List.set_cons_succ, List.getElem_toArray, List.getElem_cons_succ, List.getElem_cons_zero]
              refine wpAnyH_take (i := 12) (oi := _) (v := .int .i64 bf) rfl (by kernel_rfl) (by kernel_rfl) (by kernel_rfl) (fun _ _ _ h => h) (Or.inl ⟨by rfl, fun w' hSw => ?_⟩) hHeld ?_
              · obtain ⟨t0, t1, t2, t3⟩ := hSw
                go_simp
                try simp [*]
                try (intro hh; exfalso; omega)
                try omega
              try simp only [Act.put, List.setIfInBounds_toArray, List.set_cons_zero, List.set_cons_succ, List.getElem_toArray, List.getElem_cons_succ, List.getElem_cons_zero]
              refine wpAnyH_take (i := 13) (oi := _) (v := .int .i64 0) rfl (by kernel_rfl) (by kernel_rfl) (by kernel_rfl) (fun _ _ _ h => h) (Or.inl ⟨by rfl, fun w' hSw => ?_⟩) hHeld ?_
              · obtain ⟨t0, t1, t2, t3⟩ := hSw
                go_simp
                try simp [*]
                try (intro hh; exfalso; omega)
                try omega
              try simp only [Act.put, List.setIfInBounds_toArray, List.set_cons_zero, List.set_cons_succ, List.getElem_toArray, List.getElem_cons_succ, List.getElem_cons_zero]
              refine wpAnyH_done (by kernel_rfl) ?_ _
              clear hHeld
              clear n0 n1 n2 m0 m1 m2
              obtain ⟨-, -, n2⟩ := HJ.out _ HB4.out
              have m2 := HTI.out _ HB4.out
              go_upto_region 26 with fail
              go_cut [169] from 130 to 169 (fun sc wc => sc = Value.bool false ∧ Below V.heap.size V wc)
              case first =>
                rcases HBD.out with h | h | h
                · have HBF := Lib.hid h
                  have HCMP := Lib.hid (HNO.out h)
                  clear h
                  refine wp_region_held_drew (S := fun w' => w'.cell? ⟨bt, ot + j, none⟩ = some (.int .i64 tj) ∧ w'.cell? ⟨bt, ot + i, none⟩ = some (.int .i64 ti)) (by kernel_rfl) ⟨by simpa [go_sem] using n2, by simpa [go_sem] using m2⟩ (fun hHeld => ?_)
                  refine wpAnyH_take (i := 0) (oi := _) (v := Value.int .i64 0) rfl (by kernel_rfl) (by kernel_rfl) (by kernel_rfl) (fun _ _ _ h => h) (Or.inl ⟨by rfl, fun w' hSw => ?_⟩) hHeld ?_
                  · obtain ⟨t0, t1⟩ := hSw
                    have hbf := HBF.out
                    have hcmp := HCMP.out
                    go_simp
                    try simp [*]
                    try (intro hh; exfalso; omega)
                    try omega
                  try simp only [Act.put, List.setIfInBounds_toArray, List.set_cons_zero, List.set_cons_succ, List.getElem_toArray, List.getElem_cons_succ, List.getElem_cons_zero]
                  refine wpAnyH_take (i := 1) (oi := _) (v := Value.bool false) rfl (by kernel_rfl) (by kernel_rfl) (by kernel_rfl) (fun _ _ _ h => h) (Or.inl ⟨by rfl, fun w' hSw => ?_⟩) hHeld ?_
                  · obtain ⟨t0, t1⟩ := hSw
                    have hbf := HBF.out
                    have hcmp := HCMP.out
                    go_simp
                    try simp [*]
                    try (intro hh; exfalso; omega)
                    try omega
                  try simp only [Act.put, List.setIfInBounds_toArray, List.set_cons_zero, List.set_cons_succ, List.getElem_toArray, List.getElem_cons_succ, List.getElem_cons_zero]
                  refine wpAnyH_take (i := 2) (oi := _) (v := Value.bool false) rfl (by kernel_rfl) (by kernel_rfl) (by kernel_rfl) (fun _ _ _ h => h) (Or.inl ⟨by rfl, fun w' hSw => ?_⟩) hHeld ?_
                  · obtain ⟨t0, t1⟩ := hSw
                    have hbf := HBF.out
                    have hcmp := HCMP.out
                    go_simp
                    try simp [*]
                    try (intro hh; exfalso; omega)
                    try omega
                  try simp only [Act.put, List.setIfInBounds_toArray, List.set_cons_zero, List.set_cons_succ, List.getElem_toArray, List.getElem_cons_succ, List.getElem_cons_zero]
                  refine wpAnyH_take (i := 3) (oi := _) (v := Value.int .i64 bf) rfl (by kernel_rfl) (by kernel_rfl) (by kernel_rfl) (fun _ _ _ h => h) (Or.inl ⟨by rfl, fun w' hSw => ?_⟩) hHeld ?_
                  · obtain ⟨t0, t1⟩ := hSw
                    have hbf := HBF.out
                    have hcmp := HCMP.out
                    go_simp
                    try simp [*]
                    try (intro hh; exfalso; omega)
                    try omega
                  try simp only [Act.put, List.setIfInBounds_toArray, List.set_cons_zero, List.set_cons_succ, List.getElem_toArray, List.getElem_cons_succ, List.getElem_cons_zero]
                  refine wpAnyH_take (i := 4) (oi := _) (v := Value.bool false) rfl (by kernel_rfl) (by kernel_rfl) (by kernel_rfl) (fun _ _ _ h => h) (Or.inl ⟨by rfl, fun w' hSw => ?_⟩) hHeld ?_
                  · obtain ⟨t0, t1⟩ := hSw
                    have hbf := HBF.out
                    have hcmp := HCMP.out
                    go_simp
                    try simp [*]
                    try (intro hh; exfalso; omega)
                    try omega
                  try simp only [Act.put, List.setIfInBounds_toArray, List.set_cons_zero, List.set_cons_succ, List.getElem_toArray, List.getElem_cons_succ, List.getElem_cons_zero]
                  refine wpAnyH_take (i := 5) (oi := _) (v := Value.bool false) rfl (by kernel_rfl) (by kernel_rfl) (by kernel_rfl) (fun _ _ _ h => h) (Or.inl ⟨by rfl, fun w' hSw => ?_⟩) hHeld ?_
                  · obtain ⟨t0, t1⟩ := hSw
                    have hbf := HBF.out
                    have hcmp := HCMP.out
                    go_simp
                    try simp [*]
                    try (intro hh; exfalso; omega)
                    try omega
                  try simp only [Act.put, List.setIfInBounds_toArray, List.set_cons_zero, List.set_cons_succ, List.getElem_toArray, List.getElem_cons_succ, List.getElem_cons_zero]
                  refine wpAnyH_take (i := 6) (oi := _) (v := undef) rfl (by kernel_rfl) (by kernel_rfl) (by kernel_rfl) (fun _ _ _ h => h) (Or.inr ⟨by rfl, rfl⟩) hHeld ?_
                  try simp only [Act.put, List.setIfInBounds_toArray, List.set_cons_zero, List.set_cons_succ, List.getElem_toArray, List.getElem_cons_succ, List.getElem_cons_zero]
                  refine wpAnyH_take (i := 7) (oi := _) (v := undef) rfl (by kernel_rfl) (by kernel_rfl) (by kernel_rfl) (fun _ _ _ h => h) (Or.inr ⟨by rfl, rfl⟩) hHeld ?_
                  try simp only [Act.put, List.setIfInBounds_toArray, List.set_cons_zero, List.set_cons_succ, List.getElem_toArray, List.getElem_cons_succ, List.getElem_cons_zero]
                  refine wpAnyH_take (i := 8) (oi := _) (v := undef) rfl (by kernel_rfl) (by kernel_rfl) (by kernel_rfl) (fun _ _ _ h => h) (Or.inr ⟨by rfl, rfl⟩) hHeld ?_
                  try simp only [Act.put, List.setIfInBounds_toArray, List.set_cons_zero, List.set_cons_succ, List.getElem_toArray, List.getElem_cons_succ, List.getElem_cons_zero]
                  refine wpAnyH_take (i := 9) (oi := _) (v := undef) rfl (by kernel_rfl) (by kernel_rfl) (by kernel_rfl) (fun _ _ _ h => h) (Or.inr ⟨by rfl, rfl⟩) hHeld ?_
                  try simp only [Act.put, List.setIfInBounds_toArray, List.set_cons_zero, List.set_cons_succ, List.getElem_toArray, List.getElem_cons_succ, List.getElem_cons_zero]
                  refine wpAnyH_take (i := 10) (oi := _) (v := undef) rfl (by kernel_rfl) (by kernel_rfl) (by kernel_rfl) (fun _ _ _ h => h) (Or.inr ⟨by rfl, rfl⟩) hHeld ?_
                  try simp only [Act.put, List.setIfInBounds_toArray, List.set_cons_zero, List.set_cons_succ, List.getElem_toArray, List.getElem_cons_succ, List.getElem_cons_zero]
                  refine wpAnyH_take (i := 11) (oi := _) (v := undef) rfl (by kernel_rfl) (by kernel_rfl) (by kernel_rfl) (fun _ _ _ h => h) (Or.inr ⟨by rfl, rfl⟩) hHeld ?_
                  try simp only [Act.put, List.setIfInBounds_toArray, List.set_cons_zero, List.set_cons_succ, List.getElem_toArray, List.getElem_cons_succ, List.getElem_cons_zero]
                  refine wpAnyH_take (i := 12) (oi := _) (v := undef) rfl (by kernel_rfl) (by kernel_rfl) (by kernel_rfl) (fun _ _ _ h => h) (Or.inr ⟨by rfl, rfl⟩) hHeld ?_
                  try simp only [Act.put, List.setIfInBounds_toArray, List.set_cons_zero, List.set_cons_succ, List.getElem_toArray, List.getElem_cons_succ, List.getElem_cons_zero]
                  refine wpAnyH_take (i := 13) (oi := _) (v := undef) rfl (by kernel_rfl) (by kernel_rfl) (by kernel_rfl) (fun _ _ _ h => h) (Or.inr ⟨by rfl, rfl⟩) hHeld ?_
                  try simp only [Act.put, List.setIfInBounds_toArray, List.set_cons_zero, List.set_cons_succ, List.getElem_toArray, List.getElem_cons_succ, List.getElem_cons_zero]
                  refine wpAnyH_take (i := 14) (oi := _) (v := undef) rfl (by kernel_rfl) (by kernel_rfl) (by kernel_rfl) (fun _ _ _ h => h) (Or.inr ⟨by rfl, rfl⟩) hHeld ?_
                  try simp only [Act.put, List.setIfInBounds_toArray, List.set_cons_zero, List.set_cons_succ, List.getElem_toArray, List.getElem_cons_succ, List.getElem_cons_zero]
                  refine wpAnyH_take (i := 15) (oi := _) (v := Value.bool false) rfl (by kernel_rfl) (by kernel_rfl) (by kernel_rfl) (fun _ _ _ h => h) (Or.inl ⟨by rfl, fun w' hSw => ?_⟩) hHeld ?_
                  · obtain ⟨t0, t1⟩ := hSw
                    have hbf := HBF.out
                    have hcmp := HCMP.out
                    go_simp
                    try simp [*]
                    try (intro hh; exfalso; omega)
                    try omega
                  try simp only [Act.put, List.setIfInBounds_toArray, List.set_cons_zero, List.set_cons_succ, List.getElem_toArray, List.getElem_cons_succ, List.getElem_cons_zero]
                  refine wpAnyH_take (i := 16) (oi := _) (v := Value.bool false) rfl (by kernel_rfl) (by kernel_rfl) (by kernel_rfl) (fun _ _ _ h => h) (Or.inl ⟨by rfl, fun w' hSw => ?_⟩) hHeld ?_
                  · obtain ⟨t0, t1⟩ := hSw
                    have hbf := HBF.out
                    have hcmp := HCMP.out
                    go_simp
                    try simp [*]
                    try (intro hh; exfalso; omega)
                    try omega
                  try simp only [Act.put, List.setIfInBounds_toArray, List.set_cons_zero, List.set_cons_succ, List.getElem_toArray, List.getElem_cons_succ, List.getElem_cons_zero]
                  refine wpAnyH_take (i := 17) (oi := _) (v := Value.bool false) rfl (by kernel_rfl) (by kernel_rfl) (by kernel_rfl) (fun _ _ _ h => h) (Or.inl ⟨by rfl, fun w' hSw => ?_⟩) hHeld ?_
                  · obtain ⟨t0, t1⟩ := hSw
                    have hbf := HBF.out
                    have hcmp := HCMP.out
                    go_simp
                    try simp [*]
                    try (intro hh; exfalso; omega)
                    try omega
                  try simp only [Act.put, List.setIfInBounds_toArray, List.set_cons_zero, List.set_cons_succ, List.getElem_toArray, List.getElem_cons_succ, List.getElem_cons_zero]
                  refine wpAnyH_take (i := 18) (oi := _) (v := Value.int .i64 bf) rfl (by kernel_rfl) (by kernel_rfl) (by kernel_rfl) (fun _ _ _ h => h) (Or.inl ⟨by rfl, fun w' hSw => ?_⟩) hHeld ?_
                  · obtain ⟨t0, t1⟩ := hSw
                    have hbf := HBF.out
                    have hcmp := HCMP.out
                    go_simp
                    try simp [*]
                    try (intro hh; exfalso; omega)
                    try omega
                  try simp only [Act.put, List.setIfInBounds_toArray, List.set_cons_zero, List.set_cons_succ, List.getElem_toArray, List.getElem_cons_succ, List.getElem_cons_zero]
                  refine wpAnyH_take (i := 19) (oi := _) (v := Value.bool true) rfl (by kernel_rfl) (by kernel_rfl) (by kernel_rfl) (fun _ _ _ h => h) (Or.inl ⟨by rfl, fun w' hSw => ?_⟩) hHeld ?_
                  · obtain ⟨t0, t1⟩ := hSw
                    have hbf := HBF.out
                    have hcmp := HCMP.out
                    go_simp
                    try simp [*]
                    try (intro hh; exfalso; omega)
                    try omega
                  try simp only [Act.put, List.setIfInBounds_toArray, List.set_cons_zero, List.set_cons_succ, List.getElem_toArray, List.getElem_cons_succ, List.getElem_cons_zero]
                  refine wpAnyH_take (i := 20) (oi := _) (v := Value.bool true) rfl (by kernel_rfl) (by kernel_rfl) (by kernel_rfl) (fun _ _ _ h => h) (Or.inl ⟨by rfl, fun w' hSw => ?_⟩) hHeld ?_
                  · obtain ⟨t0, t1⟩ := hSw
                    have hbf := HBF.out
                    have hcmp := HCMP.out
                    go_simp
                    try simp [*]
                    try (intro hh; exfalso; omega)
                    try omega
                  try simp only [Act.put, List.setIfInBounds_toArray, List.set_cons_zero, List.set_cons_succ, List.getElem_toArray, List.getElem_cons_succ, List.getElem_cons_zero]
                  refine wpAnyH_take (i := 21) (oi := _) (v := Value.slice (some ⟨bt, ot, none⟩) k c1) rfl (by kernel_rfl) (by kernel_rfl) (by kernel_rfl) (fun _ _ _ h => h) (Or.inl ⟨by rfl, fun w' hSw => ?_⟩) hHeld ?_
                  · obtain ⟨t0, t1⟩ := hSw
                    have hbf := HBF.out
                    have hcmp := HCMP.out
                    go_simp
                    try simp [*]
                    try (intro hh; exfalso; omega)
                    try omega
                  try simp only [Act.put, List.setIfInBounds_toArray, List.set_cons_zero, List.set_cons_succ, List.getElem_toArray, List.getElem_cons_succ, List.getElem_cons_zero]
                  refine wpAnyH_take (i := 22) (oi := _) (v := Value.int .i64 (j : Int)) rfl (by kernel_rfl) (by kernel_rfl) (by kernel_rfl) (fun _ _ _ h => h) (Or.inl ⟨by rfl, fun w' hSw => ?_⟩) hHeld ?_
                  · obtain ⟨t0, t1⟩ := hSw
                    have hbf := HBF.out
                    have hcmp := HCMP.out
                    go_simp
                    try simp [*]
                    try (intro hh; exfalso; omega)
                    try omega
                  try simp only [Act.put, List.setIfInBounds_toArray, List.set_cons_zero, List.set_cons_succ, List.getElem_toArray, List.getElem_cons_succ, List.getElem_cons_zero]
                  refine wpAnyH_take (i := 23) (oi := _) (v := Value.pointer (some ⟨bt, ot + j, none⟩)) rfl (by kernel_rfl) (by kernel_rfl) (by kernel_rfl) (fun _ _ _ h => h) (Or.inl ⟨by rfl, fun w' hSw => ?_⟩) hHeld ?_
                  · obtain ⟨t0, t1⟩ := hSw
                    have hbf := HBF.out
                    have hcmp := HCMP.out
                    go_simp
                    try simp [*]
                    try (intro hh; exfalso; omega)
                    try omega
                  try simp only [Act.put, List.setIfInBounds_toArray, List.set_cons_zero, List.set_cons_succ, List.getElem_toArray, List.getElem_cons_succ, List.getElem_cons_zero]
                  refine wpAnyH_take (i := 24) (oi := _) (v := Value.int .i64 tj) rfl (by kernel_rfl) (by kernel_rfl) (by kernel_rfl) (fun _ _ _ h => h) (Or.inl ⟨by rfl, fun w' hSw => ?_⟩) hHeld ?_
                  · obtain ⟨t0, t1⟩ := hSw
                    have hbf := HBF.out
                    have hcmp := HCMP.out
                    go_simp
                    try simp [*]
                    try (intro hh; exfalso; omega)
                    try omega
                  try simp only [Act.put, List.setIfInBounds_toArray, List.set_cons_zero, List.set_cons_succ, List.getElem_toArray, List.getElem_cons_succ, List.getElem_cons_zero]
                  refine wpAnyH_take (i := 25) (oi := _) (v := Value.slice (some ⟨bt, ot, none⟩) k c1) rfl (by kernel_rfl) (by kernel_rfl) (by kernel_rfl) (fun _ _ _ h => h) (Or.inl ⟨by rfl, fun w' hSw => ?_⟩) hHeld ?_
                  · obtain ⟨t0, t1⟩ := hSw
                    have hbf := HBF.out
                    have hcmp := HCMP.out
                    go_simp
                    try simp [*]
                    try (intro hh; exfalso; omega)
                    try omega
                  try simp only [Act.put, List.setIfInBounds_toArray, List.set_cons_zero, List.set_cons_succ, List.getElem_toArray, List.getElem_cons_succ, List.getElem_cons_zero]
                  refine wpAnyH_take (i := 26) (oi := _) (v := Value.int .i64 (i : Int)) rfl (by kernel_rfl) (by kernel_rfl) (by kernel_rfl) (fun _ _ _ h => h) (Or.inl ⟨by rfl, fun w' hSw => ?_⟩) hHeld ?_
                  · obtain ⟨t0, t1⟩ := hSw
                    have hbf := HBF.out
                    have hcmp := HCMP.out
                    go_simp
                    try simp [*]
                    try (intro hh; exfalso; omega)
                    try omega
                  try simp only [Act.put, List.setIfInBounds_toArray, List.set_cons_zero, List.set_cons_succ, List.getElem_toArray, List.getElem_cons_succ, List.getElem_cons_zero]
                  refine wpAnyH_take (i := 27) (oi := _) (v := Value.pointer (some ⟨bt, ot + i, none⟩)) rfl (by kernel_rfl) (by kernel_rfl) (by kernel_rfl) (fun _ _ _ h => h) (Or.inl ⟨by rfl, fun w' hSw => ?_⟩) hHeld ?_
                  · obtain ⟨t0, t1⟩ := hSw
                    have hbf := HBF.out
                    have hcmp := HCMP.out
                    go_simp
                    try simp [*]
                    try (intro hh; exfalso; omega)
                    try omega
                  try simp only [Act.put, List.setIfInBounds_toArray, List.set_cons_zero, List.set_cons_succ, List.getElem_toArray, List.getElem_cons_succ, List.getElem_cons_zero]
                  refine wpAnyH_take (i := 28) (oi := _) (v := Value.int .i64 ti) rfl (by kernel_rfl) (by kernel_rfl) (by kernel_rfl) (fun _ _ _ h => h) (Or.inl ⟨by rfl, fun w' hSw => ?_⟩) hHeld ?_
                  · obtain ⟨t0, t1⟩ := hSw
                    have hbf := HBF.out
                    have hcmp := HCMP.out
                    go_simp
                    try simp [*]
                    try (intro hh; exfalso; omega)
                    try omega
                  try simp only [Act.put, List.setIfInBounds_toArray, List.set_cons_zero, List.set_cons_succ, List.getElem_toArray, List.getElem_cons_succ, List.getElem_cons_zero]
                  refine wpAnyH_take (i := 29) (oi := _) (v := Value.bool false) rfl (by kernel_rfl) (by kernel_rfl) (by kernel_rfl) (fun _ _ _ h => h) (Or.inl ⟨by rfl, fun w' hSw => ?_⟩) hHeld ?_
                  · obtain ⟨t0, t1⟩ := hSw
                    have hbf := HBF.out
                    have hcmp := HCMP.out
                    go_simp
                    try simp [*]
                    try (intro hh; exfalso; omega)
                    try omega
                  try simp only [Act.put, List.setIfInBounds_toArray, List.set_cons_zero, List.set_cons_succ, List.getElem_toArray, List.getElem_cons_succ, List.getElem_cons_zero]
                  refine wpAnyH_take (i := 30) (oi := _) (v := Value.bool false) rfl (by kernel_rfl) (by kernel_rfl) (by kernel_rfl) (fun _ _ _ h => h) (Or.inl ⟨by rfl, fun w' hSw => ?_⟩) hHeld ?_
                  · obtain ⟨t0, t1⟩ := hSw
                    have hbf := HBF.out
                    have hcmp := HCMP.out
                    go_simp
                    try simp [*]
                    try (intro hh; exfalso; omega)
                    try omega
                  try simp only [Act.put, List.setIfInBounds_toArray, List.set_cons_zero, List.set_cons_succ, List.getElem_toArray, List.getElem_cons_succ, List.getElem_cons_zero]
                  refine wpAnyH_take (i := 31) (oi := _) (v := Value.bool false) rfl (by kernel_rfl) (by kernel_rfl) (by kernel_rfl) (fun _ _ _ h => h) (Or.inl ⟨by rfl, fun w' hSw => ?_⟩) hHeld ?_
                  · obtain ⟨t0, t1⟩ := hSw
                    have hbf := HBF.out
                    have hcmp := HCMP.out
                    go_simp
                    try simp [*]
                    try (intro hh; exfalso; omega)
                    try omega
                  try simp only [Act.put, List.setIfInBounds_toArray, List.set_cons_zero, List.set_cons_succ, List.getElem_toArray, List.getElem_cons_succ, List.getElem_cons_zero]
                  refine wpAnyH_take (i := 32) (oi := _) (v := Value.bool false) rfl (by kernel_rfl) (by kernel_rfl) (by kernel_rfl) (fun _ _ _ h => h) (Or.inl ⟨by rfl, fun w' hSw => ?_⟩) hHeld ?_
                  · obtain ⟨t0, t1⟩ := hSw
                    have hbf := HBF.out
                    have hcmp := HCMP.out
                    go_simp
                    try simp [*]
                    try (intro hh; exfalso; omega)
                    try omega
                  try simp only [Act.put, List.setIfInBounds_toArray, List.set_cons_zero, List.set_cons_succ, List.getElem_toArray, List.getElem_cons_succ, List.getElem_cons_zero]
                  refine wpAnyH_take (i := 33) (oi := _) (v := Value.int .i64 bf) rfl (by kernel_rfl) (by kernel_rfl) (by kernel_rfl) (fun _ _ _ h => h) (Or.inl ⟨by rfl, fun w' hSw => ?_⟩) hHeld ?_
                  · obtain ⟨t0, t1⟩ := hSw
                    have hbf := HBF.out
                    have hcmp := HCMP.out
                    go_simp
                    try simp [*]
                    try (intro hh; exfalso; omega)
                    try omega
                  try simp only [Act.put, List.setIfInBounds_toArray, List.set_cons_zero, List.set_cons_succ, List.getElem_toArray, List.getElem_cons_succ, List.getElem_cons_zero]
                  refine wpAnyH_take (i := 34) (oi := _) (v := Value.bool false) rfl (by kernel_rfl) (by kernel_rfl) (by kernel_rfl) (fun _ _ _ h => h) (Or.inl ⟨by rfl, fun w' hSw => ?_⟩) hHeld ?_
                  · obtain ⟨t0, t1⟩ := hSw
                    have hbf := HBF.out
                    have hcmp := HCMP.out
                    go_simp
                    try simp [*]
                    try (intro hh; exfalso; omega)
                    try omega
                  try simp only [Act.put, List.setIfInBounds_toArray, List.set_cons_zero, List.set_cons_succ, List.getElem_toArray, List.getElem_cons_succ, List.getElem_cons_zero]
                  refine wpAnyH_take (i := 35) (oi := _) (v := Value.bool false) rfl (by kernel_rfl) (by kernel_rfl) (by kernel_rfl) (fun _ _ _ h => h) (Or.inl ⟨by rfl, fun w' hSw => ?_⟩) hHeld ?_
                  · obtain ⟨t0, t1⟩ := hSw
                    have hbf := HBF.out
                    have hcmp := HCMP.out
                    go_simp
                    try simp [*]
                    try (intro hh; exfalso; omega)
                    try omega
                  try simp only [Act.put, List.setIfInBounds_toArray, List.set_cons_zero, List.set_cons_succ, List.getElem_toArray, List.getElem_cons_succ, List.getElem_cons_zero]
                  refine wpAnyH_take (i := 36) (oi := _) (v := Value.bool false) rfl (by kernel_rfl) (by kernel_rfl) (by kernel_rfl) (fun _ _ _ h => h) (Or.inl ⟨by rfl, fun w' hSw => ?_⟩) hHeld ?_
                  · obtain ⟨t0, t1⟩ := hSw
                    have hbf := HBF.out
                    have hcmp := HCMP.out
                    go_simp
                    try simp [*]
                    try (intro hh; exfalso; omega)
                    try omega
                  try simp only [Act.put, List.setIfInBounds_toArray, List.set_cons_zero, List.set_cons_succ, List.getElem_toArray, List.getElem_cons_succ, List.getElem_cons_zero]
                  refine wpAnyH_take (i := 37) (oi := _) (v := Value.int .i64 bf) rfl (by kernel_rfl) (by kernel_rfl) (by kernel_rfl) (fun _ _ _ h => h) (Or.inl ⟨by rfl, fun w' hSw => ?_⟩) hHeld ?_
                  · obtain ⟨t0, t1⟩ := hSw
                    have hbf := HBF.out
                    have hcmp := HCMP.out
                    go_simp
                    try simp [*]
                    try (intro hh; exfalso; omega)
                    try omega
                  try simp only [Act.put, List.setIfInBounds_toArray, List.set_cons_zero, List.set_cons_succ, List.getElem_toArray, List.getElem_cons_succ, List.getElem_cons_zero]
                  refine wpAnyH_take (i := 38) (oi := _) (v := Value.bool false) rfl (by kernel_rfl) (by kernel_rfl) (by kernel_rfl) (fun _ _ _ h => h) (Or.inl ⟨by rfl, fun w' hSw => ?_⟩) hHeld ?_
                  · obtain ⟨t0, t1⟩ := hSw
                    have hbf := HBF.out
                    have hcmp := HCMP.out
                    go_simp
                    try simp [*]
                    try (intro hh; exfalso; omega)
                    try omega
                  try simp only [Act.put, List.setIfInBounds_toArray, List.set_cons_zero, List.set_cons_succ, List.getElem_toArray, List.getElem_cons_succ, List.getElem_cons_zero]
                  refine wpAnyH_take (i := 39) (oi := _) (v := Value.bool false) rfl (by kernel_rfl) (by kernel_rfl) (by kernel_rfl) (fun _ _ _ h => h) (Or.inl ⟨by rfl, fun w' hSw => ?_⟩) hHeld ?_
                  · obtain ⟨t0, t1⟩ := hSw
                    have hbf := HBF.out
                    have hcmp := HCMP.out
                    go_simp
                    try simp [*]
                    try (intro hh; exfalso; omega)
                    try omega
                  try simp only [Act.put, List.setIfInBounds_toArray, List.set_cons_zero, List.set_cons_succ, List.getElem_toArray, List.getElem_cons_succ, List.getElem_cons_zero]
                  refine wpAnyH_done (by kernel_rfl) ?_ _
                  clear hHeld
                  go_wp2_with fail
                  go_meet
                  case rel => exact ⟨rfl, by first | exact HB4.out.drew | exact HB4.out⟩
                · have HBF := Lib.hid h
                  have HCMP := Lib.hid (True.intro)
                  clear h
                  refine wp_region_held_drew (S := fun w' => w'.cell? ⟨bt, ot + j, none⟩ = some (.int .i64 tj) ∧ w'.cell? ⟨bt, ot + i, none⟩ = some (.int .i64 ti)) (by kernel_rfl) ⟨by simpa [go_sem] using n2, by simpa [go_sem] using m2⟩ (fun hHeld => ?_)
                  refine wpAnyH_take (i := 0) (oi := _) (v := Value.int .i64 0) rfl (by kernel_rfl) (by kernel_rfl) (by kernel_rfl) (fun _ _ _ h => h) (Or.inl ⟨by rfl, fun w' hSw => ?_⟩) hHeld ?_
                  · obtain ⟨t0, t1⟩ := hSw
                    have hbf := HBF.out
                    have hcmp := HCMP.out
                    go_simp
                    try simp [*]
                    try (intro hh; exfalso; omega)
                    try omega
                  try simp only [Act.put, List.setIfInBounds_toArray, List.set_cons_zero, List.set_cons_succ, List.getElem_toArray, List.getElem_cons_succ, List.getElem_cons_zero]
                  refine wpAnyH_take (i := 1) (oi := _) (v := Value.bool false) rfl (by kernel_rfl) (by kernel_rfl) (by kernel_rfl) (fun _ _ _ h => h) (Or.inl ⟨by rfl, fun w' hSw => ?_⟩) hHeld ?_
                  · obtain ⟨t0, t1⟩ := hSw
                    have hbf := HBF.out
                    have hcmp := HCMP.out
                    go_simp
                    try simp [*]
                    try (intro hh; exfalso; omega)
                    try omega
                  try simp only [Act.put, List.setIfInBounds_toArray, List.set_cons_zero, List.set_cons_succ, List.getElem_toArray, List.getElem_cons_succ, List.getElem_cons_zero]
                  refine wpAnyH_take (i := 2) (oi := _) (v := Value.bool false) rfl (by kernel_rfl) (by kernel_rfl) (by kernel_rfl) (fun _ _ _ h => h) (Or.inl ⟨by rfl, fun w' hSw => ?_⟩) hHeld ?_
                  · obtain ⟨t0, t1⟩ := hSw
                    have hbf := HBF.out
                    have hcmp := HCMP.out
                    go_simp
                    try simp [*]
                    try (intro hh; exfalso; omega)
                    try omega
                  try simp only [Act.put, List.setIfInBounds_toArray, List.set_cons_zero, List.set_cons_succ, List.getElem_toArray, List.getElem_cons_succ, List.getElem_cons_zero]
                  refine wpAnyH_take (i := 3) (oi := _) (v := Value.int .i64 bf) rfl (by kernel_rfl) (by kernel_rfl) (by kernel_rfl) (fun _ _ _ h => h) (Or.inl ⟨by rfl, fun w' hSw => ?_⟩) hHeld ?_
                  · obtain ⟨t0, t1⟩ := hSw
                    have hbf := HBF.out
                    have hcmp := HCMP.out
                    go_simp
                    try simp [*]
                    try (intro hh; exfalso; omega)
                    try omega
                  try simp only [Act.put, List.setIfInBounds_toArray, List.set_cons_zero, List.set_cons_succ, List.getElem_toArray, List.getElem_cons_succ, List.getElem_cons_zero]
                  refine wpAnyH_take (i := 4) (oi := _) (v := Value.bool false) rfl (by kernel_rfl) (by kernel_rfl) (by kernel_rfl) (fun _ _ _ h => h) (Or.inl ⟨by rfl, fun w' hSw => ?_⟩) hHeld ?_
                  · obtain ⟨t0, t1⟩ := hSw
                    have hbf := HBF.out
                    have hcmp := HCMP.out
                    go_simp
                    try simp [*]
                    try (intro hh; exfalso; omega)
                    try omega
                  try simp only [Act.put, List.setIfInBounds_toArray, List.set_cons_zero, List.set_cons_succ, List.getElem_toArray, List.getElem_cons_succ, List.getElem_cons_zero]
                  refine wpAnyH_take (i := 5) (oi := _) (v := Value.bool false) rfl (by kernel_rfl) (by kernel_rfl) (by kernel_rfl) (fun _ _ _ h => h) (Or.inl ⟨by rfl, fun w' hSw => ?_⟩) hHeld ?_
                  · obtain ⟨t0, t1⟩ := hSw
                    have hbf := HBF.out
                    have hcmp := HCMP.out
                    go_simp
                    try simp [*]
                    try (intro hh; exfalso; omega)
                    try omega
                  try simp only [Act.put, List.setIfInBounds_toArray, List.set_cons_zero, List.set_cons_succ, List.getElem_toArray, List.getElem_cons_succ, List.getElem_cons_zero]
                  refine wpAnyH_take (i := 6) (oi := _) (v := undef) rfl (by kernel_rfl) (by kernel_rfl) (by kernel_rfl) (fun _ _ _ h => h) (Or.inr ⟨by rfl, rfl⟩) hHeld ?_
                  try simp only [Act.put, List.setIfInBounds_toArray, List.set_cons_zero, List.set_cons_succ, List.getElem_toArray, List.getElem_cons_succ, List.getElem_cons_zero]
                  refine wpAnyH_take (i := 7) (oi := _) (v := undef) rfl (by kernel_rfl) (by kernel_rfl) (by kernel_rfl) (fun _ _ _ h => h) (Or.inr ⟨by rfl, rfl⟩) hHeld ?_
                  try simp only [Act.put, List.setIfInBounds_toArray, List.set_cons_zero, List.set_cons_succ, List.getElem_toArray, List.getElem_cons_succ, List.getElem_cons_zero]
                  refine wpAnyH_take (i := 8) (oi := _) (v := undef) rfl (by kernel_rfl) (by kernel_rfl) (by kernel_rfl) (fun _ _ _ h => h) (Or.inr ⟨by rfl, rfl⟩) hHeld ?_
                  try simp only [Act.put, List.setIfInBounds_toArray, List.set_cons_zero, List.set_cons_succ, List.getElem_toArray, List.getElem_cons_succ, List.getElem_cons_zero]
                  refine wpAnyH_take (i := 9) (oi := _) (v := undef) rfl (by kernel_rfl) (by kernel_rfl) (by kernel_rfl) (fun _ _ _ h => h) (Or.inr ⟨by rfl, rfl⟩) hHeld ?_
                  try simp only [Act.put, List.setIfInBounds_toArray, List.set_cons_zero, List.set_cons_succ, List.getElem_toArray, List.getElem_cons_succ, List.getElem_cons_zero]
                  refine wpAnyH_take (i := 10) (oi := _) (v := undef) rfl (by kernel_rfl) (by kernel_rfl) (by kernel_rfl) (fun _ _ _ h => h) (Or.inr ⟨by rfl, rfl⟩) hHeld ?_
                  try simp only [Act.put, List.setIfInBounds_toArray, List.set_cons_zero, List.set_cons_succ, List.getElem_toArray, List.getElem_cons_succ, List.getElem_cons_zero]
                  refine wpAnyH_take (i := 11) (oi := _) (v := undef) rfl (by kernel_rfl) (by kernel_rfl) (by kernel_rfl) (fun _ _ _ h => h) (Or.inr ⟨by rfl, rfl⟩) hHeld ?_
                  try simp only [Act.put, List.setIfInBounds_toArray, List.set_cons_zero, List.set_cons_succ, List.getElem_toArray, List.getElem_cons_succ, List.getElem_cons_zero]
                  refine wpAnyH_take (i := 12) (oi := _) (v := undef) rfl (by kernel_rfl) (by kernel_rfl) (by kernel_rfl) (fun _ _ _ h => h) (Or.inr ⟨by rfl, rfl⟩) hHeld ?_
                  try simp only [Act.put, List.setIfInBounds_toArray, List.set_cons_zero, List.set_cons_succ, List.getElem_toArray, List.getElem_cons_succ, List.getElem_cons_zero]
                  refine wpAnyH_take (i := 13) (oi := _) (v := undef) rfl (by kernel_rfl) (by kernel_rfl) (by kernel_rfl) (fun _ _ _ h => h) (Or.inr ⟨by rfl, rfl⟩) hHeld ?_
                  try simp only [Act.put, List.setIfInBounds_toArray, List.set_cons_zero, List.set_cons_succ, List.getElem_toArray, List.getElem_cons_succ, List.getElem_cons_zero]
                  refine wpAnyH_take (i := 14) (oi := _) (v := undef) rfl (by kernel_rfl) (by kernel_rfl) (by kernel_rfl) (fun _ _ _ h => h) (Or.inr ⟨by rfl, rfl⟩) hHeld ?_
                  try simp only [Act.put, List.setIfInBounds_toArray, List.set_cons_zero, List.set_cons_succ, List.getElem_toArray, List.getElem_cons_succ, List.getElem_cons_zero]
                  refine wpAnyH_take (i := 15) (oi := _) (v := Value.bool false) rfl (by kernel_rfl) (by kernel_rfl) (by kernel_rfl) (fun _ _ _ h => h) (Or.inl ⟨by rfl, fun w' hSw => ?_⟩) hHeld ?_
                  · obtain ⟨t0, t1⟩ := hSw
                    have hbf := HBF.out
                    have hcmp := HCMP.out
                    go_simp
                    try simp [*]
                    try (intro hh; exfalso; omega)
                    try omega
                  try simp only [Act.put, List.setIfInBounds_toArray, List.set_cons_zero, List.set_cons_succ, List.getElem_toArray, List.getElem_cons_succ, List.getElem_cons_zero]
                  refine wpAnyH_take (i := 16) (oi := _) (v := Value.bool false) rfl (by kernel_rfl) (by kernel_rfl) (by kernel_rfl) (fun _ _ _ h => h) (Or.inl ⟨by rfl, fun w' hSw => ?_⟩) hHeld ?_
                  · obtain ⟨t0, t1⟩ := hSw
                    have hbf := HBF.out
                    have hcmp := HCMP.out
                    go_simp
                    try simp [*]
                    try (intro hh; exfalso; omega)
                    try omega
                  try simp only [Act.put, List.setIfInBounds_toArray, List.set_cons_zero, List.set_cons_succ, List.getElem_toArray, List.getElem_cons_succ, List.getElem_cons_zero]
                  refine wpAnyH_take (i := 17) (oi := _) (v := Value.bool false) rfl (by kernel_rfl) (by kernel_rfl) (by kernel_rfl) (fun _ _ _ h => h) (Or.inl ⟨by rfl, fun w' hSw => ?_⟩) hHeld ?_
                  · obtain ⟨t0, t1⟩ := hSw
                    have hbf := HBF.out
                    have hcmp := HCMP.out
                    go_simp
                    try simp [*]
                    try (intro hh; exfalso; omega)
                    try omega
                  try simp only [Act.put, List.setIfInBounds_toArray, List.set_cons_zero, List.set_cons_succ, List.getElem_toArray, List.getElem_cons_succ, List.getElem_cons_zero]
                  refine wpAnyH_take (i := 18) (oi := _) (v := Value.int .i64 bf) rfl (by kernel_rfl) (by kernel_rfl) (by kernel_rfl) (fun _ _ _ h => h) (Or.inl ⟨by rfl, fun w' hSw => ?_⟩) hHeld ?_
                  · obtain ⟨t0, t1⟩ := hSw
                    have hbf := HBF.out
                    have hcmp := HCMP.out
                    go_simp
                    try simp [*]
                    try (intro hh; exfalso; omega)
                    try omega
                  try simp only [Act.put, List.setIfInBounds_toArray, List.set_cons_zero, List.set_cons_succ, List.getElem_toArray, List.getElem_cons_succ, List.getElem_cons_zero]
                  refine wpAnyH_take (i := 19) (oi := _) (v := Value.bool false) rfl (by kernel_rfl) (by kernel_rfl) (by kernel_rfl) (fun _ _ _ h => h) (Or.inl ⟨by rfl, fun w' hSw => ?_⟩) hHeld ?_
                  · obtain ⟨t0, t1⟩ := hSw
                    have hbf := HBF.out
                    have hcmp := HCMP.out
                    go_simp
                    try simp [*]
                    try (intro hh; exfalso; omega)
                    try omega
                  try simp only [Act.put, List.setIfInBounds_toArray, List.set_cons_zero, List.set_cons_succ, List.getElem_toArray, List.getElem_cons_succ, List.getElem_cons_zero]
                  refine wpAnyH_take (i := 20) (oi := _) (v := Value.bool false) rfl (by kernel_rfl) (by kernel_rfl) (by kernel_rfl) (fun _ _ _ h => h) (Or.inl ⟨by rfl, fun w' hSw => ?_⟩) hHeld ?_
                  · obtain ⟨t0, t1⟩ := hSw
                    have hbf := HBF.out
                    have hcmp := HCMP.out
                    go_simp
                    try simp [*]
                    try (intro hh; exfalso; omega)
                    try omega
                  try simp only [Act.put, List.setIfInBounds_toArray, List.set_cons_zero, List.set_cons_succ, List.getElem_toArray, List.getElem_cons_succ, List.getElem_cons_zero]
                  refine wpAnyH_take (i := 21) (oi := _) (v := undef) rfl (by kernel_rfl) (by kernel_rfl) (by kernel_rfl) (fun _ _ _ h => h) (Or.inr ⟨by rfl, rfl⟩) hHeld ?_
                  try simp only [Act.put, List.setIfInBounds_toArray, List.set_cons_zero, List.set_cons_succ, List.getElem_toArray, List.getElem_cons_succ, List.getElem_cons_zero]
                  refine wpAnyH_take (i := 22) (oi := _) (v := undef) rfl (by kernel_rfl) (by kernel_rfl) (by kernel_rfl) (fun _ _ _ h => h) (Or.inr ⟨by rfl, rfl⟩) hHeld ?_
                  try simp only [Act.put, List.setIfInBounds_toArray, List.set_cons_zero, List.set_cons_succ, List.getElem_toArray, List.getElem_cons_succ, List.getElem_cons_zero]
                  refine wpAnyH_take (i := 23) (oi := _) (v := undef) rfl (by kernel_rfl) (by kernel_rfl) (by kernel_rfl) (fun _ _ _ h => h) (Or.inr ⟨by rfl, rfl⟩) hHeld ?_
                  try simp only [Act.put, List.setIfInBounds_toArray, List.set_cons_zero, List.set_cons_succ, List.getElem_toArray, List.getElem_cons_succ, List.getElem_cons_zero]
                  refine wpAnyH_take (i := 24) (oi := _) (v := undef) rfl (by kernel_rfl) (by kernel_rfl) (by kernel_rfl) (fun _ _ _ h => h) (Or.inr ⟨by rfl, rfl⟩) hHeld ?_
                  try simp only [Act.put, List.setIfInBounds_toArray, List.set_cons_zero, List.set_cons_succ, List.getElem_toArray, List.getElem_cons_succ, List.getElem_cons_zero]
                  refine wpAnyH_take (i := 25) (oi := _) (v := undef) rfl (by kernel_rfl) (by kernel_rfl) (by kernel_rfl) (fun _ _ _ h => h) (Or.inr ⟨by rfl, rfl⟩) hHeld ?_
                  try simp only [Act.put, List.setIfInBounds_toArray, List.set_cons_zero, List.set_cons_succ, List.getElem_toArray, List.getElem_cons_succ, List.getElem_cons_zero]
                  refine wpAnyH_take (i := 26) (oi := _) (v := undef) rfl (by kernel_rfl) (by kernel_rfl) (by kernel_rfl) (fun _ _ _ h => h) (Or.inr ⟨by rfl, rfl⟩) hHeld ?_
                  try simp only [Act.put, List.setIfInBounds_toArray, List.set_cons_zero, List.set_cons_succ, List.getElem_toArray, List.getElem_cons_succ, List.getElem_cons_zero]
                  refine wpAnyH_take (i := 27) (oi := _) (v := undef) rfl (by kernel_rfl) (by kernel_rfl) (by kernel_rfl) (fun _ _ _ h => h) (Or.inr ⟨by rfl, rfl⟩) hHeld ?_
                  try simp only [Act.put, List.setIfInBounds_toArray, List.set_cons_zero, List.set_cons_succ, List.getElem_toArray, List.getElem_cons_succ, List.getElem_cons_zero]
                  refine wpAnyH_take (i := 28) (oi := _) (v := undef) rfl (by kernel_rfl) (by kernel_rfl) (by kernel_rfl) (fun _ _ _ h => h) (Or.inr ⟨by rfl, rfl⟩) hHeld ?_
                  try simp only [Act.put, List.setIfInBounds_toArray, List.set_cons_zero, List.set_cons_succ, List.getElem_toArray, List.getElem_cons_succ, List.getElem_cons_zero]
                  refine wpAnyH_take (i := 29) (oi := _) (v := undef) rfl (by kernel_rfl) (by kernel_rfl) (by kernel_rfl) (fun _ _ _ h => h) (Or.inr ⟨by rfl, rfl⟩) hHeld ?_
                  try simp only [Act.put, List.setIfInBounds_toArray, List.set_cons_zero, List.set_cons_succ, List.getElem_toArray, List.getElem_cons_succ, List.getElem_cons_zero]
                  refine wpAnyH_take (i := 30) (oi := _) (v := Value.bool false) rfl (by kernel_rfl) (by kernel_rfl) (by kernel_rfl) (fun _ _ _ h => h) (Or.inl ⟨by rfl, fun w' hSw => ?_⟩) hHeld ?_
                  · obtain ⟨t0, t1⟩ := hSw
                    have hbf := HBF.out
                    have hcmp := HCMP.out
                    go_simp
                    try simp [*]
                    try (intro hh; exfalso; omega)
                    try omega
                  try simp only [Act.put, List.setIfInBounds_toArray, List.set_cons_zero, List.set_cons_succ, List.getElem_toArray, List.getElem_cons_succ, List.getElem_cons_zero]
                  refine wpAnyH_take (i := 31) (oi := _) (v := Value.bool false) rfl (by kernel_rfl) (by kernel_rfl) (by kernel_rfl) (fun _ _ _ h => h) (Or.inl ⟨by rfl, fun w' hSw => ?_⟩) hHeld ?_
                  · obtain ⟨t0, t1⟩ := hSw
                    have hbf := HBF.out
                    have hcmp := HCMP.out
                    go_simp
                    try simp [*]
                    try (intro hh; exfalso; omega)
                    try omega
                  try simp only [Act.put, List.setIfInBounds_toArray, List.set_cons_zero, List.set_cons_succ, List.getElem_toArray, List.getElem_cons_succ, List.getElem_cons_zero]
                  refine wpAnyH_take (i := 32) (oi := _) (v := Value.bool false) rfl (by kernel_rfl) (by kernel_rfl) (by kernel_rfl) (fun _ _ _ h => h) (Or.inl ⟨by rfl, fun w' hSw => ?_⟩) hHeld ?_
                  · obtain ⟨t0, t1⟩ := hSw
                    have hbf := HBF.out
                    have hcmp := HCMP.out
                    go_simp
                    try simp [*]
                    try (intro hh; exfalso; omega)
                    try omega
                  try simp only [Act.put, List.setIfInBounds_toArray, List.set_cons_zero, List.set_cons_succ, List.getElem_toArray, List.getElem_cons_succ, List.getElem_cons_zero]
                  refine wpAnyH_take (i := 33) (oi := _) (v := Value.int .i64 bf) rfl (by kernel_rfl) (by kernel_rfl) (by kernel_rfl) (fun _ _ _ h => h) (Or.inl ⟨by rfl, fun w' hSw => ?_⟩) hHeld ?_
                  · obtain ⟨t0, t1⟩ := hSw
                    have hbf := HBF.out
                    have hcmp := HCMP.out
                    go_simp
                    try simp [*]
                    try (intro hh; exfalso; omega)
                    try omega
                  try simp only [Act.put, List.setIfInBounds_toArray, List.set_cons_zero, List.set_cons_succ, List.getElem_toArray, List.getElem_cons_succ, List.getElem_cons_zero]
                  refine wpAnyH_take (i := 34) (oi := _) (v := Value.bool false) rfl (by kernel_rfl) (by kernel_rfl) (by kernel_rfl) (fun _ _ _ h => h) (Or.inl ⟨by rfl, fun w' hSw => ?_⟩) hHeld ?_
                  · obtain ⟨t0, t1⟩ := hSw
                    have hbf := HBF.out
                    have hcmp := HCMP.out
                    go_simp
                    try simp [*]
                    try (intro hh; exfalso; omega)
                    try omega
                  try simp only [Act.put, List.setIfInBounds_toArray, List.set_cons_zero, List.set_cons_succ, List.getElem_toArray, List.getElem_cons_succ, List.getElem_cons_zero]
                  refine wpAnyH_take (i := 35) (oi := _) (v := Value.bool false) rfl (by kernel_rfl) (by kernel_rfl) (by kernel_rfl) (fun _ _ _ h => h) (Or.inl ⟨by rfl, fun w' hSw => ?_⟩) hHeld ?_
                  · obtain ⟨t0, t1⟩ := hSw
                    have hbf := HBF.out
                    have hcmp := HCMP.out
                    go_simp
                    try simp [*]
                    try (intro hh; exfalso; omega)
                    try omega
                  try simp only [Act.put, List.setIfInBounds_toArray, List.set_cons_zero, List.set_cons_succ, List.getElem_toArray, List.getElem_cons_succ, List.getElem_cons_zero]
                  refine wpAnyH_take (i := 36) (oi := _) (v := Value.bool false) rfl (by kernel_rfl) (by kernel_rfl) (by kernel_rfl) (fun _ _ _ h => h) (Or.inl ⟨by rfl, fun w' hSw => ?_⟩) hHeld ?_
                  · obtain ⟨t0, t1⟩ := hSw
                    have hbf := HBF.out
                    have hcmp := HCMP.out
                    go_simp
                    try simp [*]
                    try (intro hh; exfalso; omega)
                    try omega
                  try simp only [Act.put, List.setIfInBounds_toArray, List.set_cons_zero, List.set_cons_succ, List.getElem_toArray, List.getElem_cons_succ, List.getElem_cons_zero]
                  refine wpAnyH_take (i := 37) (oi := _) (v := Value.int .i64 bf) rfl (by kernel_rfl) (by kernel_rfl) (by kernel_rfl) (fun _ _ _ h => h) (Or.inl ⟨by rfl, fun w' hSw => ?_⟩) hHeld ?_
                  · obtain ⟨t0, t1⟩ := hSw
                    have hbf := HBF.out
                    have hcmp := HCMP.out
                    go_simp
                    try simp [*]
                    try (intro hh; exfalso; omega)
                    try omega
                  try simp only [Act.put, List.setIfInBounds_toArray, List.set_cons_zero, List.set_cons_succ, List.getElem_toArray, List.getElem_cons_succ, List.getElem_cons_zero]
                  refine wpAnyH_take (i := 38) (oi := _) (v := Value.bool false) rfl (by kernel_rfl) (by kernel_rfl) (by kernel_rfl) (fun _ _ _ h => h) (Or.inl ⟨by rfl, fun w' hSw => ?_⟩) hHeld ?_
                  · obtain ⟨t0, t1⟩ := hSw
                    have hbf := HBF.out
                    have hcmp := HCMP.out
                    go_simp
                    try simp [*]
                    try (intro hh; exfalso; omega)
                    try omega
                  try simp only [Act.put, List.setIfInBounds_toArray, List.set_cons_zero, List.set_cons_succ, List.getElem_toArray, List.getElem_cons_succ, List.getElem_cons_zero]
                  refine wpAnyH_take (i := 39) (oi := _) (v := Value.bool false) rfl (by kernel_rfl) (by kernel_rfl) (by kernel_rfl) (fun _ _ _ h => h) (Or.inl ⟨by rfl, fun w' hSw => ?_⟩) hHeld ?_
                  · obtain ⟨t0, t1⟩ := hSw
                    have hbf := HBF.out
                    have hcmp := HCMP.out
                    go_simp
                    try simp [*]
                    try (intro hh; exfalso; omega)
                    try omega
                  try simp only [Act.put, List.setIfInBounds_toArray, List.set_cons_zero, List.set_cons_succ, List.getElem_toArray, List.getElem_cons_succ, List.getElem_cons_zero]
                  refine wpAnyH_done (by kernel_rfl) ?_ _
                  clear hHeld
                  go_wp2_with fail
                  go_meet
                  case rel => exact ⟨rfl, by first | exact HB4.out.drew | exact HB4.out⟩
                · have HBF := Lib.hid h
                  have HCMP := Lib.hid (HYES.out h)
                  clear h
                  refine wp_region_held_drew (S := fun w' => w'.cell? ⟨bt, ot + j, none⟩ = some (.int .i64 tj) ∧ w'.cell? ⟨bt, ot + i, none⟩ = some (.int .i64 ti)) (by kernel_rfl) ⟨by simpa [go_sem] using n2, by simpa [go_sem] using m2⟩ (fun hHeld => ?_)
                  refine wpAnyH_take (i := 0) (oi := _) (v := Value.int .i64 0) rfl (by kernel_rfl) (by kernel_rfl) (by kernel_rfl) (fun _ _ _ h => h) (Or.inl ⟨by rfl, fun w' hSw => ?_⟩) hHeld ?_
                  · obtain ⟨t0, t1⟩ := hSw
                    have hbf := HBF.out
                    have hcmp := HCMP.out
                    go_simp
                    try simp [*]
                    try (intro hh; exfalso; omega)
                    try omega
                  try simp only [Act.put, List.setIfInBounds_toArray, List.set_cons_zero, List.set_cons_succ, List.getElem_toArray, List.getElem_cons_succ, List.getElem_cons_zero]
                  refine wpAnyH_take (i := 1) (oi := _) (v := Value.bool false) rfl (by kernel_rfl) (by kernel_rfl) (by kernel_rfl) (fun _ _ _ h => h) (Or.inl ⟨by rfl, fun w' hSw => ?_⟩) hHeld ?_
                  · obtain ⟨t0, t1⟩ := hSw
                    have hbf := HBF.out
                    have hcmp := HCMP.out
                    go_simp
                    try simp [*]
                    try (intro hh; exfalso; omega)
                    try omega
                  try simp only [Act.put, List.setIfInBounds_toArray, List.set_cons_zero, List.set_cons_succ, List.getElem_toArray, List.getElem_cons_succ, List.getElem_cons_zero]
                  refine wpAnyH_take (i := 2) (oi := _) (v := Value.bool false) rfl (by kernel_rfl) (by kernel_rfl) (by kernel_rfl) (fun _ _ _ h => h) (Or.inl ⟨by rfl, fun w' hSw => ?_⟩) hHeld ?_
                  · obtain ⟨t0, t1⟩ := hSw
                    have hbf := HBF.out
                    have hcmp := HCMP.out
                    go_simp
                    try simp [*]
                    try (intro hh; exfalso; omega)
                    try omega
                  try simp only [Act.put, List.setIfInBounds_toArray, List.set_cons_zero, List.set_cons_succ, List.getElem_toArray, List.getElem_cons_succ, List.getElem_cons_zero]
                  refine wpAnyH_take (i := 3) (oi := _) (v := Value.int .i64 bf) rfl (by kernel_rfl) (by kernel_rfl) (by kernel_rfl) (fun _ _ _ h => h) (Or.inl ⟨by rfl, fun w' hSw => ?_⟩) hHeld ?_
                  · obtain ⟨t0, t1⟩ := hSw
                    have hbf := HBF.out
                    have hcmp := HCMP.out
                    go_simp
                    try simp [*]
                    try (intro hh; exfalso; omega)
                    try omega
                  try simp only [Act.put, List.setIfInBounds_toArray, List.set_cons_zero, List.set_cons_succ, List.getElem_toArray, List.getElem_cons_succ, List.getElem_cons_zero]
                  refine wpAnyH_take (i := 4) (oi := _) (v := Value.bool true) rfl (by kernel_rfl) (by kernel_rfl) (by kernel_rfl) (fun _ _ _ h => h) (Or.inl ⟨by rfl, fun w' hSw => ?_⟩) hHeld ?_
                  · obtain ⟨t0, t1⟩ := hSw
                    have hbf := HBF.out
                    have hcmp := HCMP.out
                    go_simp
                    try simp [*]
                    try (intro hh; exfalso; omega)
                    try omega
                  try simp only [Act.put, List.setIfInBounds_toArray, List.set_cons_zero, List.set_cons_succ, List.getElem_toArray, List.getElem_cons_succ, List.getElem_cons_zero]
                  refine wpAnyH_take (i := 5) (oi := _) (v := Value.bool true) rfl (by kernel_rfl) (by kernel_rfl) (by kernel_rfl) (fun _ _ _ h => h) (Or.inl ⟨by rfl, fun w' hSw => ?_⟩) hHeld ?_
                  · obtain ⟨t0, t1⟩ := hSw
                    have hbf := HBF.out
                    have hcmp := HCMP.out
                    go_simp
                    try simp [*]
                    try (intro hh; exfalso; omega)
                    try omega
                  try simp only [Act.put, List.setIfInBounds_toArray, List.set_cons_zero, List.set_cons_succ, List.getElem_toArray, List.getElem_cons_succ, List.getElem_cons_zero]
                  refine wpAnyH_take (i := 6) (oi := _) (v := Value.slice (some ⟨bt, ot, none⟩) k c1) rfl (by kernel_rfl) (by kernel_rfl) (by kernel_rfl) (fun _ _ _ h => h) (Or.inl ⟨by rfl, fun w' hSw => ?_⟩) hHeld ?_
                  · obtain ⟨t0, t1⟩ := hSw
                    have hbf := HBF.out
                    have hcmp := HCMP.out
                    go_simp
                    try simp [*]
                    try (intro hh; exfalso; omega)
                    try omega
                  try simp only [Act.put, List.setIfInBounds_toArray, List.set_cons_zero, List.set_cons_succ, List.getElem_toArray, List.getElem_cons_succ, List.getElem_cons_zero]
                  refine wpAnyH_take (i := 7) (oi := _) (v := Value.int .i64 (j : Int)) rfl (by kernel_rfl) (by kernel_rfl) (by kernel_rfl) (fun _ _ _ h => h) (Or.inl ⟨by rfl, fun w' hSw => ?_⟩) hHeld ?_
                  · obtain ⟨t0, t1⟩ := hSw
                    have hbf := HBF.out
                    have hcmp := HCMP.out
                    go_simp
                    try simp [*]
                    try (intro hh; exfalso; omega)
                    try omega
                  try simp only [Act.put, List.setIfInBounds_toArray, List.set_cons_zero, List.set_cons_succ, List.getElem_toArray, List.getElem_cons_succ, List.getElem_cons_zero]
                  refine wpAnyH_take (i := 8) (oi := _) (v := Value.pointer (some ⟨bt, ot + j, none⟩)) rfl (by kernel_rfl) (by kernel_rfl) (by kernel_rfl) (fun _ _ _ h => h) (Or.inl ⟨by rfl, fun w' hSw => ?_⟩) hHeld ?_
                  · obtain ⟨t0, t1⟩ := hSw
                    have hbf := HBF.out
                    have hcmp := HCMP.out
                    go_simp
                    try simp [*]
                    try (intro hh; exfalso; omega)
                    try omega
                  try simp only [Act.put, List.setIfInBounds_toArray, List.set_cons_zero, List.set_cons_succ, List.getElem_toArray, List.getElem_cons_succ, List.getElem_cons_zero]
                  refine wpAnyH_take (i := 9) (oi := _) (v := Value.int .i64 tj) rfl (by kernel_rfl) (by kernel_rfl) (by kernel_rfl) (fun _ _ _ h => h) (Or.inl ⟨by rfl, fun w' hSw => ?_⟩) hHeld ?_
                  · obtain ⟨t0, t1⟩ := hSw
                    have hbf := HBF.out
                    have hcmp := HCMP.out
                    go_simp
                    try simp [*]
                    try (intro hh; exfalso; omega)
                    try omega
                  try simp only [Act.put, List.setIfInBounds_toArray, List.set_cons_zero, List.set_cons_succ, List.getElem_toArray, List.getElem_cons_succ, List.getElem_cons_zero]
                  refine wpAnyH_take (i := 10) (oi := _) (v := Value.slice (some ⟨bt, ot, none⟩) k c1) rfl (by kernel_rfl) (by kernel_rfl) (by kernel_rfl) (fun _ _ _ h => h) (Or.inl ⟨by rfl, fun w' hSw => ?_⟩) hHeld ?_
                  · obtain ⟨t0, t1⟩ := hSw
                    have hbf := HBF.out
                    have hcmp := HCMP.out
                    go_simp
                    try simp [*]
                    try (intro hh; exfalso; omega)
                    try omega
                  try simp only [Act.put, List.setIfInBounds_toArray, List.set_cons_zero, List.set_cons_succ, List.getElem_toArray, List.getElem_cons_succ, List.getElem_cons_zero]
                  refine wpAnyH_take (i := 11) (oi := _) (v := Value.int .i64 (i : Int)) rfl (by kernel_rfl) (by kernel_rfl) (by kernel_rfl) (fun _ _ _ h => h) (Or.inl ⟨by rfl, fun w' hSw => ?_⟩) hHeld ?_
                  · obtain ⟨t0, t1⟩ := hSw
                    have hbf := HBF.out
                    have hcmp := HCMP.out
                    go_simp
                    try simp [*]
                    try (intro hh; exfalso; omega)
                    try omega
                  try simp only [Act.put, List.setIfInBounds_toArray, List.set_cons_zero, List.set_cons_succ, List.getElem_toArray, List.getElem_cons_succ, List.getElem_cons_zero]
                  refine wpAnyH_take (i := 12) (oi := _) (v := Value.pointer (some ⟨bt, ot + i, none⟩)) rfl (by kernel_rfl) (by kernel_rfl) (by kernel_rfl) (fun _ _ _ h => h) (Or.inl ⟨by rfl, fun w' hSw => ?_⟩) hHeld ?_
                  · obtain ⟨t0, t1⟩ := hSw
                    have hbf := HBF.out
                    have hcmp := HCMP.out
                    go_simp
                    try simp [*]
                    try (intro hh; exfalso; omega)
                    try omega
                  try simp only [Act.put, List.setIfInBounds_toArray, List.set_cons_zero, List.set_cons_succ, List.getElem_toArray, List.getElem_cons_succ, List.getElem_cons_zero]
                  refine wpAnyH_take (i := 13) (oi := _) (v := Value.int .i64 ti) rfl (by kernel_rfl) (by kernel_rfl) (by kernel_rfl) (fun _ _ _ h => h) (Or.inl ⟨by rfl, fun w' hSw => ?_⟩) hHeld ?_
                  · obtain ⟨t0, t1⟩ := hSw
                    have hbf := HBF.out
                    have hcmp := HCMP.out
                    go_simp
                    try simp [*]
                    try (intro hh; exfalso; omega)
                    try omega
                  try simp only [Act.put, List.setIfInBounds_toArray, List.set_cons_zero, List.set_cons_succ, List.getElem_toArray, List.getElem_cons_succ, List.getElem_cons_zero]
                  refine wpAnyH_take (i := 14) (oi := _) (v := Value.bool false) rfl (by kernel_rfl) (by kernel_rfl) (by kernel_rfl) (fun _ _ _ h => h) (Or.inl ⟨by rfl, fun w' hSw => ?_⟩) hHeld ?_
                  · obtain ⟨t0, t1⟩ := hSw
                    have hbf := HBF.out
                    have hcmp := HCMP.out
                    go_simp
                    try simp [*]
                    try (intro hh; exfalso; omega)
                    try omega
                  try simp only [Act.put, List.setIfInBounds_toArray, List.set_cons_zero, List.set_cons_succ, List.getElem_toArray, List.getElem_cons_succ, List.getElem_cons_zero]
                  refine wpAnyH_take (i := 15) (oi := _) (v := Value.bool false) rfl (by kernel_rfl) (by kernel_rfl) (by kernel_rfl) (fun _ _ _ h => h) (Or.inl ⟨by rfl, fun w' hSw => ?_⟩) hHeld ?_
                  · obtain ⟨t0, t1⟩ := hSw
                    have hbf := HBF.out
                    have hcmp := HCMP.out
                    go_simp
                    try simp [*]
                    try (intro hh; exfalso; omega)
                    try omega
                  try simp only [Act.put, List.setIfInBounds_toArray, List.set_cons_zero, List.set_cons_succ, List.getElem_toArray, List.getElem_cons_succ, List.getElem_cons_zero]
                  refine wpAnyH_take (i := 16) (oi := _) (v := Value.bool false) rfl (by kernel_rfl) (by kernel_rfl) (by kernel_rfl) (fun _ _ _ h => h) (Or.inl ⟨by rfl, fun w' hSw => ?_⟩) hHeld ?_
                  · obtain ⟨t0, t1⟩ := hSw
                    have hbf := HBF.out
                    have hcmp := HCMP.out
                    go_simp
                    try simp [*]
                    try (intro hh; exfalso; omega)
                    try omega
                  try simp only [Act.put, List.setIfInBounds_toArray, List.set_cons_zero, List.set_cons_succ, List.getElem_toArray, List.getElem_cons_succ, List.getElem_cons_zero]
                  refine wpAnyH_take (i := 17) (oi := _) (v := Value.bool false) rfl (by kernel_rfl) (by kernel_rfl) (by kernel_rfl) (fun _ _ _ h => h) (Or.inl ⟨by rfl, fun w' hSw => ?_⟩) hHeld ?_
                  · obtain ⟨t0, t1⟩ := hSw
                    have hbf := HBF.out
                    have hcmp := HCMP.out
                    go_simp
                    try simp [*]
                    try (intro hh; exfalso; omega)
                    try omega
                  try simp only [Act.put, List.setIfInBounds_toArray, List.set_cons_zero, List.set_cons_succ, List.getElem_toArray, List.getElem_cons_succ, List.getElem_cons_zero]
                  refine wpAnyH_take (i := 18) (oi := _) (v := Value.int .i64 bf) rfl (by kernel_rfl) (by kernel_rfl) (by kernel_rfl) (fun _ _ _ h => h) (Or.inl ⟨by rfl, fun w' hSw => ?_⟩) hHeld ?_
                  · obtain ⟨t0, t1⟩ := hSw
                    have hbf := HBF.out
                    have hcmp := HCMP.out
                    go_simp
                    try simp [*]
                    try (intro hh; exfalso; omega)
                    try omega
                  try simp only [Act.put, List.setIfInBounds_toArray, List.set_cons_zero, List.set_cons_succ, List.getElem_toArray, List.getElem_cons_succ, List.getElem_cons_zero]
                  refine wpAnyH_take (i := 19) (oi := _) (v := Value.bool false) rfl (by kernel_rfl) (by kernel_rfl) (by kernel_rfl) (fun _ _ _ h => h) (Or.inl ⟨by rfl, fun w' hSw => ?_⟩) hHeld ?_
                  · obtain ⟨t0, t1⟩ := hSw
                    have hbf := HBF.out
                    have hcmp := HCMP.out
                    go_simp
                    try simp [*]
                    try (intro hh; exfalso; omega)
                    try omega
                  try simp only [Act.put, List.setIfInBounds_toArray, List.set_cons_zero, List.set_cons_succ, List.getElem_toArray, List.getElem_cons_succ, List.getElem_cons_zero]
                  refine wpAnyH_take (i := 20) (oi := _) (v := Value.bool false) rfl (by kernel_rfl) (by kernel_rfl) (by kernel_rfl) (fun _ _ _ h => h) (Or.inl ⟨by rfl, fun w' hSw => ?_⟩) hHeld ?_
                  · obtain ⟨t0, t1⟩ := hSw
                    have hbf := HBF.out
                    have hcmp := HCMP.out
                    go_simp
                    try simp [*]
                    try (intro hh; exfalso; omega)
                    try omega
                  try simp only [Act.put, List.setIfInBounds_toArray, List.set_cons_zero, List.set_cons_succ, List.getElem_toArray, List.getElem_cons_succ, List.getElem_cons_zero]
                  refine wpAnyH_take (i := 21) (oi := _) (v := undef) rfl (by kernel_rfl) (by kernel_rfl) (by kernel_rfl) (fun _ _ _ h => h) (Or.inr ⟨by rfl, rfl⟩) hHeld ?_
                  try simp only [Act.put, List.setIfInBounds_toArray, List.set_cons_zero, List.set_cons_succ, List.getElem_toArray, List.getElem_cons_succ, List.getElem_cons_zero]
                  refine wpAnyH_take (i := 22) (oi := _) (v := undef) rfl (by kernel_rfl) (by kernel_rfl) (by kernel_rfl) (fun _ _ _ h => h) (Or.inr ⟨by rfl, rfl⟩) hHeld ?_
                  try simp only [Act.put, List.setIfInBounds_toArray, List.set_cons_zero, List.set_cons_succ, List.getElem_toArray, List.getElem_cons_succ, List.getElem_cons_zero]
                  refine wpAnyH_take (i := 23) (oi := _) (v := undef) rfl (by kernel_rfl) (by kernel_rfl) (by kernel_rfl) (fun _ _ _ h => h) (Or.inr ⟨by rfl, rfl⟩) hHeld ?_
                  try simp only [Act.put, List.setIfInBounds_toArray, List.set_cons_zero, List.set_cons_succ, List.getElem_toArray, List.getElem_cons_succ, List.getElem_cons_zero]
                  refine wpAnyH_take (i := 24) (oi := _) (v := undef) rfl (by kernel_rfl) (by kernel_rfl) (by kernel_rfl) (fun _ _ _ h => h) (Or.inr ⟨by rfl, rfl⟩) hHeld ?_
                  try simp only [Act.put, List.setIfInBounds_toArray, List.set_cons_zero, List.set_cons_succ, List.getElem_toArray, List.getElem_cons_succ, List.getElem_cons_zero]
                  refine wpAnyH_take (i := 25) (oi := _) (v := undef) rfl (by kernel_rfl) (by kernel_rfl) (by kernel_rfl) (fun _ _ _ h => h) (Or.inr ⟨by rfl, rfl⟩) hHeld ?_
                  try simp only [Act.put, List.setIfInBounds_toArray, List.set_cons_zero, List.set_cons_succ, List.getElem_toArray, List.getElem_cons_succ, List.getElem_cons_zero]
                  refine wpAnyH_take (i := 26) (oi := _) (v := undef) rfl (by kernel_rfl) (by kernel_rfl) (by kernel_rfl) (fun _ _ _ h => h) (Or.inr ⟨by rfl, rfl⟩) hHeld ?_
                  try simp only [Act.put, List.setIfInBounds_toArray, List.set_cons_zero, List.set_cons_succ, List.getElem_toArray, List.getElem_cons_succ, List.getElem_cons_zero]
                  refine wpAnyH_take (i := 27) (oi := _) (v := undef) rfl (by kernel_rfl) (by kernel_rfl) (by kernel_rfl) (fun _ _ _ h => h) (Or.inr ⟨by rfl, rfl⟩) hHeld ?_
                  try simp only [Act.put, List.setIfInBounds_toArray, List.set_cons_zero, List.set_cons_succ, List.getElem_toArray, List.getElem_cons_succ, List.getElem_cons_zero]
                  refine wpAnyH_take (i := 28) (oi := _) (v := undef) rfl (by kernel_rfl) (by kernel_rfl) (by kernel_rfl) (fun _ _ _ h => h) (Or.inr ⟨by rfl, rfl⟩) hHeld ?_
                  try simp only [Act.put, List.setIfInBounds_toArray, List.set_cons_zero, List.set_cons_succ, List.getElem_toArray, List.getElem_cons_succ, List.getElem_cons_zero]
                  refine wpAnyH_take (i := 29) (oi := _) (v := undef) rfl (by kernel_rfl) (by kernel_rfl) (by kernel_rfl) (fun _ _ _ h => h) (Or.inr ⟨by rfl, rfl⟩) hHeld ?_
                  try simp only [Act.put, List.setIfInBounds_toArray, List.set_cons_zero, List.set_cons_succ, List.getElem_toArray, List.getElem_cons_succ, List.getElem_cons_zero]
                  refine wpAnyH_take (i := 30) (oi := _) (v := Value.bool false) rfl (by kernel_rfl) (by kernel_rfl) (by kernel_rfl) (fun _ _ _ h => h) (Or.inl ⟨by rfl, fun w' hSw => ?_⟩) hHeld ?_
                  · obtain ⟨t0, t1⟩ := hSw
                    have hbf := HBF.out
                    have hcmp := HCMP.out
                    go_simp
                    try simp [*]
                    try (intro hh; exfalso; omega)
                    try omega
                  try simp only [Act.put, List.setIfInBounds_toArray, List.set_cons_zero, List.set_cons_succ, List.getElem_toArray, List.getElem_cons_succ, List.getElem_cons_zero]
                  refine wpAnyH_take (i := 31) (oi := _) (v := Value.bool false) rfl (by kernel_rfl) (by kernel_rfl) (by kernel_rfl) (fun _ _ _ h => h) (Or.inl ⟨by rfl, fun w' hSw => ?_⟩) hHeld ?_
                  · obtain ⟨t0, t1⟩ := hSw
                    have hbf := HBF.out
                    have hcmp := HCMP.out
                    go_simp
                    try simp [*]
                    try (intro hh; exfalso; omega)
                    try omega
                  try simp only [Act.put, List.setIfInBounds_toArray, List.set_cons_zero, List.set_cons_succ, List.getElem_toArray, List.getElem_cons_succ, List.getElem_cons_zero]
                  refine wpAnyH_take (i := 32) (oi := _) (v := Value.bool false) rfl (by kernel_rfl) (by kernel_rfl) (by kernel_rfl) (fun _ _ _ h => h) (Or.inl ⟨by rfl, fun w' hSw => ?_⟩) hHeld ?_
                  · obtain ⟨t0, t1⟩ := hSw
                    have hbf := HBF.out
                    have hcmp := HCMP.out
                    go_simp
                    try simp [*]
                    try (intro hh; exfalso; omega)
                    try omega
                  try simp only [Act.put, List.setIfInBounds_toArray, List.set_cons_zero, List.set_cons_succ, List.getElem_toArray, List.getElem_cons_succ, List.getElem_cons_zero]
                  refine wpAnyH_take (i := 33) (oi := _) (v := Value.int .i64 bf) rfl (by kernel_rfl) (by kernel_rfl) (by kernel_rfl) (fun _ _ _ h => h) (Or.inl ⟨by rfl, fun w' hSw => ?_⟩) hHeld ?_
                  · obtain ⟨t0, t1⟩ := hSw
                    have hbf := HBF.out
                    have hcmp := HCMP.out
                    go_simp
                    try simp [*]
                    try (intro hh; exfalso; omega)
                    try omega
                  try simp only [Act.put, List.setIfInBounds_toArray, List.set_cons_zero, List.set_cons_succ, List.getElem_toArray, List.getElem_cons_succ, List.getElem_cons_zero]
                  refine wpAnyH_take (i := 34) (oi := _) (v := Value.bool false) rfl (by kernel_rfl) (by kernel_rfl) (by kernel_rfl) (fun _ _ _ h => h) (Or.inl ⟨by rfl, fun w' hSw => ?_⟩) hHeld ?_
                  · obtain ⟨t0, t1⟩ := hSw
                    have hbf := HBF.out
                    have hcmp := HCMP.out
                    go_simp
                    try simp [*]
                    try (intro hh; exfalso; omega)
                    try omega
                  try simp only [Act.put, List.setIfInBounds_toArray, List.set_cons_zero, List.set_cons_succ, List.getElem_toArray, List.getElem_cons_succ, List.getElem_cons_zero]
                  refine wpAnyH_take (i := 35) (oi := _) (v := Value.bool false) rfl (by kernel_rfl) (by kernel_rfl) (by kernel_rfl) (fun _ _ _ h => h) (Or.inl ⟨by rfl, fun w' hSw => ?_⟩) hHeld ?_
                  · obtain ⟨t0, t1⟩ := hSw
                    have hbf := HBF.out
                    have hcmp := HCMP.out
                    go_simp
                    try simp [*]
                    try (intro hh; exfalso; omega)
                    try omega
                  try simp only [Act.put, List.setIfInBounds_toArray, List.set_cons_zero, List.set_cons_succ, List.getElem_toArray, List.getElem_cons_succ, List.getElem_cons_zero]
                  refine wpAnyH_take (i := 36) (oi := _) (v := Value.bool false) rfl (by kernel_rfl) (by kernel_rfl) (by kernel_rfl) (fun _ _ _ h => h) (Or.inl ⟨by rfl, fun w' hSw => ?_⟩) hHeld ?_
                  · obtain ⟨t0, t1⟩ := hSw
                    have hbf := HBF.out
                    have hcmp := HCMP.out
                    go_simp
                    try simp [*]
                    try (intro hh; exfalso; omega)
                    try omega
                  try simp only [Act.put, List.setIfInBounds_toArray, List.set_cons_zero, List.set_cons_succ, List.getElem_toArray, List.getElem_cons_succ, List.getElem_cons_zero]
                  refine wpAnyH_take (i := 37) (oi := _) (v := Value.int .i64 bf) rfl (by kernel_rfl) (by kernel_rfl) (by kernel_rfl) (fun _ _ _ h => h) (Or.inl ⟨by rfl, fun w' hSw => ?_⟩) hHeld ?_
                  · obtain ⟨t0, t1⟩ := hSw
                    have hbf := HBF.out
                    have hcmp := HCMP.out
                    go_simp
                    try simp [*]
                    try (intro hh; exfalso; omega)
                    try omega
                  try simp only [Act.put, List.setIfInBounds_toArray, List.set_cons_zero, List.set_cons_succ, List.getElem_toArray, List.getElem_cons_succ, List.getElem_cons_zero]
                  refine wpAnyH_take (i := 38) (oi := _) (v := Value.bool false) rfl (by kernel_rfl) (by kernel_rfl) (by kernel_rfl) (fun _ _ _ h => h) (Or.inl ⟨by rfl, fun w' hSw => ?_⟩) hHeld ?_
                  · obtain ⟨t0, t1⟩ := hSw
                    have hbf := HBF.out
                    have hcmp := HCMP.out
                    go_simp
                    try simp [*]
                    try (intro hh; exfalso; omega)
                    try omega
                  try simp only [Act.put, List.setIfInBounds_toArray, List.set_cons_zero, List.set_cons_succ, List.getElem_toArray, List.getElem_cons_succ, List.getElem_cons_zero]
                  refine wpAnyH_take (i := 39) (oi := _) (v := Value.bool false) rfl (by kernel_rfl) (by kernel_rfl) (by kernel_rfl) (fun _ _ _ h => h) (Or.inl ⟨by rfl, fun w' hSw => ?_⟩) hHeld ?_
                  · obtain ⟨t0, t1⟩ := hSw
                    have hbf := HBF.out
                    have hcmp := HCMP.out
                    go_simp
                    try simp [*]
                    try (intro hh; exfalso; omega)
                    try omega
                  try simp only [Act.put, List.setIfInBounds_toArray, List.set_cons_zero, List.set_cons_succ, List.getElem_toArray, List.getElem_cons_succ, List.getElem_cons_zero]
                  refine wpAnyH_done (by kernel_rfl) ?_ _
                  clear hHeld
                  go_wp2_with fail
                  go_meet
                  case rel => exact ⟨rfl, by first | exact HB4.out.drew | exact HB4.out⟩
              case rest =>
                obtain ⟨hc1, hbc⟩ := hcut
                subst hc1
                have HBC := Lib.hid hbc
                clear hbc n2 m2
                obtain ⟨-, -, n2⟩ := HJ.out _ HBC.out
                have m2 := HTI.out _ HBC.out
                have HJK := Lib.hid hjk
                clear hlt hi
                go_wp2_with fail
                by_cases h1 : tj < ti
                · have hl : lc + 1 = cL ts ti (j + 1) := by rw [HCLj.out, if_pos h1]
                  have he : ec = cE ts ti (j + 1) := by rw [HCEj.out, if_pos h1]; rfl
                  have HLL := Lib.hid hl
                  have HEE := Lib.hid he
                  clear hl he
                  refine wp_region_held_drew (S := fun w' => w'.cell? ⟨bt, ot + j, none⟩ = some (.int .i64 tj) ∧ w'.cell? ⟨bt, ot + i, none⟩ = some (.int .i64 ti)) (by kernel_rfl) ⟨by simpa [go_sem] using n2, by simpa [go_sem] using m2⟩ (fun hHeld => ?_)
                  refine wpAnyH_take (i := 0) (oi := _) (v := Value.slice (some ⟨bt, ot, none⟩) k c1) rfl (by kernel_rfl) (by kernel_rfl) (by kernel_rfl) (fun _ _ _ h => h) (Or.inl ⟨by rfl, fun w' hSw => ?_⟩) hHeld ?_
                  · obtain ⟨t0, t1⟩ := hSw
                    go_simp
                    try simp [*]
                    try (intro hh; exfalso; omega)
                    try omega
                  try simp only [Act.put, List.setIfInBounds_toArray, List.set_cons_zero, List.set_cons_succ, List.getElem_toArray, List.getElem_cons_succ, List.getElem_cons_zero]
                  refine wpAnyH_take (i := 1) (oi := _) (v := Value.int .i64 (j : Int)) rfl (by kernel_rfl) (by kernel_rfl) (by kernel_rfl) (fun _ _ _ h => h) (Or.inl ⟨by rfl, fun w' hSw => ?_⟩) hHeld ?_
                  · obtain ⟨t0, t1⟩ := hSw
                    go_simp
                    try simp [*]
                    try (intro hh; exfalso; omega)
                    try omega
                  try simp only [Act.put, List.setIfInBounds_toArray, List.set_cons_zero, List.set_cons_succ, List.getElem_toArray, List.getElem_cons_succ, List.getElem_cons_zero]
                  refine wpAnyH_take (i := 2) (oi := _) (v := Value.pointer (some ⟨bt, ot + j, none⟩)) rfl (by kernel_rfl) (by kernel_rfl) (by kernel_rfl) (fun _ _ _ h => h) (Or.inl ⟨by rfl, fun w' hSw => ?_⟩) hHeld ?_
                  · obtain ⟨t0, t1⟩ := hSw
                    go_simp
                    try simp [*]
                    try (intro hh; exfalso; omega)
                    try omega
                  try simp only [Act.put, List.setIfInBounds_toArray, List.set_cons_zero, List.set_cons_succ, List.getElem_toArray, List.getElem_cons_succ, List.getElem_cons_zero]
                  refine wpAnyH_take (i := 3) (oi := _) (v := Value.int .i64 tj) rfl (by kernel_rfl) (by kernel_rfl) (by kernel_rfl) (fun _ _ _ h => h) (Or.inl ⟨by rfl, fun w' hSw => ?_⟩) hHeld ?_
                  · obtain ⟨t0, t1⟩ := hSw
                    go_simp
                    try simp [*]
                    try (intro hh; exfalso; omega)
                    try omega
                  try simp only [Act.put, List.setIfInBounds_toArray, List.set_cons_zero, List.set_cons_succ, List.getElem_toArray, List.getElem_cons_succ, List.getElem_cons_zero]
                  refine wpAnyH_take (i := 4) (oi := _) (v := Value.slice (some ⟨bt, ot, none⟩) k c1) rfl (by kernel_rfl) (by kernel_rfl) (by kernel_rfl) (fun _ _ _ h => h) (Or.inl ⟨by rfl, fun w' hSw => ?_⟩) hHeld ?_
                  · obtain ⟨t0, t1⟩ := hSw
                    go_simp
                    try simp [*]
                    try (intro hh; exfalso; omega)
                    try omega
                  try simp only [Act.put, List.setIfInBounds_toArray, List.set_cons_zero, List.set_cons_succ, List.getElem_toArray, List.getElem_cons_succ, List.getElem_cons_zero]
                  refine wpAnyH_take (i := 5) (oi := _) (v := Value.int .i64 (i : Int)) rfl (by kernel_rfl) (by kernel_rfl) (by kernel_rfl) (fun _ _ _ h => h) (Or.inl ⟨by rfl, fun w' hSw => ?_⟩) hHeld ?_
                  · obtain ⟨t0, t1⟩ := hSw
                    go_simp
                    try simp [*]
                    try (intro hh; exfalso; omega)
                    try omega
                  try simp only [Act.put, List.setIfInBounds_toArray, List.set_cons_zero, List.set_cons_succ, List.getElem_toArray, List.getElem_cons_succ, List.getElem_cons_zero]
                  refine wpAnyH_take (i := 6) (oi := _) (v := Value.pointer (some ⟨bt, ot + i, none⟩)) rfl (by kernel_rfl) (by kernel_rfl) (by kernel_rfl) (fun _ _ _ h => h) (Or.inl ⟨by rfl, fun w' hSw => ?_⟩) hHeld ?_
                  · obtain ⟨t0, t1⟩ := hSw
                    go_simp
                    try simp [*]
                    try (intro hh; exfalso; omega)
                    try omega
                  try simp only [Act.put, List.setIfInBounds_toArray, List.set_cons_zero, List.set_cons_succ, List.getElem_toArray, List.getElem_cons_succ, List.getElem_cons_zero]
                  refine wpAnyH_take (i := 7) (oi := _) (v := Value.int .i64 ti) rfl (by kernel_rfl) (by kernel_rfl) (by kernel_rfl) (fun _ _ _ h => h) (Or.inl ⟨by rfl, fun w' hSw => ?_⟩) hHeld ?_
                  · obtain ⟨t0, t1⟩ := hSw
                    go_simp
                    try simp [*]
                    try (intro hh; exfalso; omega)
                    try omega
                  try simp only [Act.put, List.setIfInBounds_toArray, List.set_cons_zero, List.set_cons_succ, List.getElem_toArray, List.getElem_cons_succ, List.getElem_cons_zero]
                  refine wpAnyH_take (i := 8) (oi := _) (v := Value.bool true) rfl (by kernel_rfl) (by kernel_rfl) (by kernel_rfl) (fun _ _ _ h => h) (Or.inl ⟨by rfl, fun w' hSw => ?_⟩) hHeld ?_
                  · obtain ⟨t0, t1⟩ := hSw
                    go_simp
                    try simp [*]
                    try (intro hh; exfalso; omega)
                    try omega
                  try simp only [Act.put, List.setIfInBounds_toArray, List.set_cons_zero, List.set_cons_succ, List.getElem_toArray, List.getElem_cons_succ, List.getElem_cons_zero]
                  refine wpAnyH_done (by kernel_rfl) ?_ _
                  clear hHeld
                  go_wp2_with fail
                  go_roundw
                  case rel => exact ⟨j + 1, by have := HJK.out; omega, by go_num, by rw [← HLL.out]; go_num, by rw [← HEE.out], by first | exact HBC.out | exact HBC.out.drew | exact HBC.out.drew.drew⟩
                  case measure => have := HJK.out; simp [intOf]; omega
                · have hl : lc = cL ts ti (j + 1) := by rw [HCLj.out, if_neg (show ¬ tj < ti by omega)]; rfl
                  have HLL := Lib.hid hl
                  clear hl
                  refine wp_region_held_drew (S := fun w' => w'.cell? ⟨bt, ot + j, none⟩ = some (.int .i64 tj) ∧ w'.cell? ⟨bt, ot + i, none⟩ = some (.int .i64 ti)) (by kernel_rfl) ⟨by simpa [go_sem] using n2, by simpa [go_sem] using m2⟩ (fun hHeld => ?_)
                  refine wpAnyH_take (i := 0) (oi := _) (v := Value.slice (some ⟨bt, ot, none⟩) k c1) rfl (by kernel_rfl) (by kernel_rfl) (by kernel_rfl) (fun _ _ _ h => h) (Or.inl ⟨by rfl, fun w' hSw => ?_⟩) hHeld ?_
                  · obtain ⟨t0, t1⟩ := hSw
                    go_simp
                    try simp [*]
                    try (intro hh; exfalso; omega)
                    try omega
                  try simp only [Act.put, List.setIfInBounds_toArray, List.set_cons_zero, List.set_cons_succ, List.getElem_toArray, List.getElem_cons_succ, List.getElem_cons_zero]
                  refine wpAnyH_take (i := 1) (oi := _) (v := Value.int .i64 (j : Int)) rfl (by kernel_rfl) (by kernel_rfl) (by kernel_rfl) (fun _ _ _ h => h) (Or.inl ⟨by rfl, fun w' hSw => ?_⟩) hHeld ?_
                  · obtain ⟨t0, t1⟩ := hSw
                    go_simp
                    try simp [*]
                    try (intro hh; exfalso; omega)
                    try omega
                  try simp only [Act.put, List.setIfInBounds_toArray, List.set_cons_zero, List.set_cons_succ, List.getElem_toArray, List.getElem_cons_succ, List.getElem_cons_zero]
                  refine wpAnyH_take (i := 2) (oi := _) (v := Value.pointer (some ⟨bt, ot + j, none⟩)) rfl (by kernel_rfl) (by kernel_rfl) (by kernel_rfl) (fun _ _ _ h => h) (Or.inl ⟨by rfl, fun w' hSw => ?_⟩) hHeld ?_
                  · obtain ⟨t0, t1⟩ := hSw
                    go_simp
                    try simp [*]
                    try (intro hh; exfalso; omega)
                    try omega
                  try simp only [Act.put, List.setIfInBounds_toArray, List.set_cons_zero, List.set_cons_succ, List.getElem_toArray, List.getElem_cons_succ, List.getElem_cons_zero]
                  refine wpAnyH_take (i := 3) (oi := _) (v := Value.int .i64 tj) rfl (by kernel_rfl) (by kernel_rfl) (by kernel_rfl) (fun _ _ _ h => h) (Or.inl ⟨by rfl, fun w' hSw => ?_⟩) hHeld ?_
                  · obtain ⟨t0, t1⟩ := hSw
                    go_simp
                    try simp [*]
                    try (intro hh; exfalso; omega)
                    try omega
                  try simp only [Act.put, List.setIfInBounds_toArray, List.set_cons_zero, List.set_cons_succ, List.getElem_toArray, List.getElem_cons_succ, List.getElem_cons_zero]
                  refine wpAnyH_take (i := 4) (oi := _) (v := Value.slice (some ⟨bt, ot, none⟩) k c1) rfl (by kernel_rfl) (by kernel_rfl) (by kernel_rfl) (fun _ _ _ h => h) (Or.inl ⟨by rfl, fun w' hSw => ?_⟩) hHeld ?_
                  · obtain ⟨t0, t1⟩ := hSw
                    go_simp
                    try simp [*]
                    try (intro hh; exfalso; omega)
                    try omega
                  try simp only [Act.put, List.setIfInBounds_toArray, List.set_cons_zero, List.set_cons_succ, List.getElem_toArray, List.getElem_cons_succ, List.getElem_cons_zero]
                  refine wpAnyH_take (i := 5) (oi := _) (v := Value.int .i64 (i : Int)) rfl (by kernel_rfl) (by kernel_rfl) (by kernel_rfl) (fun _ _ _ h => h) (Or.inl ⟨by rfl, fun w' hSw => ?_⟩) hHeld ?_
                  · obtain ⟨t0, t1⟩ := hSw
                    go_simp
                    try simp [*]
                    try (intro hh; exfalso; omega)
                    try omega
                  try simp only [Act.put, List.setIfInBounds_toArray, List.set_cons_zero, List.set_cons_succ, List.getElem_toArray, List.getElem_cons_succ, List.getElem_cons_zero]
                  refine wpAnyH_take (i := 6) (oi := _) (v := Value.pointer (some ⟨bt, ot + i, none⟩)) rfl (by kernel_rfl) (by kernel_rfl) (by kernel_rfl) (fun _ _ _ h => h) (Or.inl ⟨by rfl, fun w' hSw => ?_⟩) hHeld ?_
                  · obtain ⟨t0, t1⟩ := hSw
                    go_simp
                    try simp [*]
                    try (intro hh; exfalso; omega)
                    try omega
                  try simp only [Act.put, List.setIfInBounds_toArray, List.set_cons_zero, List.set_cons_succ, List.getElem_toArray, List.getElem_cons_succ, List.getElem_cons_zero]
                  refine wpAnyH_take (i := 7) (oi := _) (v := Value.int .i64 ti) rfl (by kernel_rfl) (by kernel_rfl) (by kernel_rfl) (fun _ _ _ h => h) (Or.inl ⟨by rfl, fun w' hSw => ?_⟩) hHeld ?_
                  · obtain ⟨t0, t1⟩ := hSw
                    go_simp
                    try simp [*]
                    try (intro hh; exfalso; omega)
                    try omega
                  try simp only [Act.put, List.setIfInBounds_toArray, List.set_cons_zero, List.set_cons_succ, List.getElem_toArray, List.getElem_cons_succ, List.getElem_cons_zero]
                  refine wpAnyH_take (i := 8) (oi := _) (v := Value.bool false) rfl (by kernel_rfl) (by kernel_rfl) (by kernel_rfl) (fun _ _ _ h => h) (Or.inl ⟨by rfl, fun w' hSw => ?_⟩) hHeld ?_
                  · obtain ⟨t0, t1⟩ := hSw
                    go_simp
                    try simp [*]
                    try (intro hh; exfalso; omega)
                    try omega
                  try simp only [Act.put, List.setIfInBounds_toArray, List.set_cons_zero, List.set_cons_succ, List.getElem_toArray, List.getElem_cons_succ, List.getElem_cons_zero]
                  refine wpAnyH_done (by kernel_rfl) ?_ _
                  clear hHeld
                  go_wp2_with fail
                  obtain ⟨-, -, n2⟩ := HJ.out _ HBC.out.drew
                  have m2 := HTI.out _ HBC.out.drew
                  by_cases h2 : tj = ti
                  · have he : ec + 1 = cE ts ti (j + 1) := by rw [HCEj.out, if_neg (show ¬ tj < ti by omega), if_pos h2]
                    have HEE := Lib.hid he
                    have HEQ := Lib.hid h2
                    clear he h2
                    refine wp_region_held_drew (S := fun w' => w'.cell? ⟨bt, ot + j, none⟩ = some (.int .i64 tj) ∧ w'.cell? ⟨bt, ot + i, none⟩ = some (.int .i64 ti)) (by kernel_rfl) ⟨by simpa [go_sem] using n2, by simpa [go_sem] using m2⟩ (fun hHeld => ?_)
                    refine wpAnyH_take (i := 0) (oi := _) (v := Value.slice (some ⟨bt, ot, none⟩) k c1) rfl (by kernel_rfl) (by kernel_rfl) (by kernel_rfl) (fun _ _ _ h => h) (Or.inl ⟨by rfl, fun w' hSw => ?_⟩) hHeld ?_
                    · obtain ⟨t0, t1⟩ := hSw
                      go_simp
                      try simp [*]
                      try (intro hh; exfalso; omega)
                      try omega
                    try simp only [Act.put, List.setIfInBounds_toArray, List.set_cons_zero, List.set_cons_succ, List.getElem_toArray, List.getElem_cons_succ, List.getElem_cons_zero]
                    refine wpAnyH_take (i := 1) (oi := _) (v := Value.int .i64 (j : Int)) rfl (by kernel_rfl) (by kernel_rfl) (by kernel_rfl) (fun _ _ _ h => h) (Or.inl ⟨by rfl, fun w' hSw => ?_⟩) hHeld ?_
                    · obtain ⟨t0, t1⟩ := hSw
                      go_simp
                      try simp [*]
                      try (intro hh; exfalso; omega)
                      try omega
                    try simp only [Act.put, List.setIfInBounds_toArray, List.set_cons_zero, List.set_cons_succ, List.getElem_toArray, List.getElem_cons_succ, List.getElem_cons_zero]
                    refine wpAnyH_take (i := 2) (oi := _) (v := Value.pointer (some ⟨bt, ot + j, none⟩)) rfl (by kernel_rfl) (by kernel_rfl) (by kernel_rfl) (fun _ _ _ h => h) (Or.inl ⟨by rfl, fun w' hSw => ?_⟩) hHeld ?_
                    · obtain ⟨t0, t1⟩ := hSw
                      go_simp
                      try simp [*]
                      try (intro hh; exfalso; omega)
                      try omega
                    try simp only [Act.put, List.setIfInBounds_toArray, List.set_cons_zero, List.set_cons_succ, List.getElem_toArray, List.getElem_cons_succ, List.getElem_cons_zero]
                    refine wpAnyH_take (i := 3) (oi := _) (v := Value.int .i64 tj) rfl (by kernel_rfl) (by kernel_rfl) (by kernel_rfl) (fun _ _ _ h => h) (Or.inl ⟨by rfl, fun w' hSw => ?_⟩) hHeld ?_
                    · obtain ⟨t0, t1⟩ := hSw
                      go_simp
                      try simp [*]
                      try (intro hh; exfalso; omega)
                      try omega
                    try simp only [Act.put, List.setIfInBounds_toArray, List.set_cons_zero, List.set_cons_succ, List.getElem_toArray, List.getElem_cons_succ, List.getElem_cons_zero]
                    refine wpAnyH_take (i := 4) (oi := _) (v := Value.slice (some ⟨bt, ot, none⟩) k c1) rfl (by kernel_rfl) (by kernel_rfl) (by kernel_rfl) (fun _ _ _ h => h) (Or.inl ⟨by rfl, fun w' hSw => ?_⟩) hHeld ?_
                    · obtain ⟨t0, t1⟩ := hSw
                      go_simp
                      try simp [*]
                      try (intro hh; exfalso; omega)
                      try omega
                    try simp only [Act.put, List.setIfInBounds_toArray, List.set_cons_zero, List.set_cons_succ, List.getElem_toArray, List.getElem_cons_succ, List.getElem_cons_zero]
                    refine wpAnyH_take (i := 5) (oi := _) (v := Value.int .i64 (i : Int)) rfl (by kernel_rfl) (by kernel_rfl) (by kernel_rfl) (fun _ _ _ h => h) (Or.inl ⟨by rfl, fun w' hSw => ?_⟩) hHeld ?_
                    · obtain ⟨t0, t1⟩ := hSw
                      go_simp
                      try simp [*]
                      try (intro hh; exfalso; omega)
                      try omega
                    try simp only [Act.put, List.setIfInBounds_toArray, List.set_cons_zero, List.set_cons_succ, List.getElem_toArray, List.getElem_cons_succ, List.getElem_cons_zero]
                    refine wpAnyH_take (i := 6) (oi := _) (v := Value.pointer (some ⟨bt, ot + i, none⟩)) rfl (by kernel_rfl) (by kernel_rfl) (by kernel_rfl) (fun _ _ _ h => h) (Or.inl ⟨by rfl, fun w' hSw => ?_⟩) hHeld ?_
                    · obtain ⟨t0, t1⟩ := hSw
                      go_simp
                      try simp [*]
                      try (intro hh; exfalso; omega)
                      try omega
                    try simp only [Act.put, List.setIfInBounds_toArray, List.set_cons_zero, List.set_cons_succ, List.getElem_toArray, List.getElem_cons_succ, List.getElem_cons_zero]
                    refine wpAnyH_take (i := 7) (oi := _) (v := Value.int .i64 ti) rfl (by kernel_rfl) (by kernel_rfl) (by kernel_rfl) (fun _ _ _ h => h) (Or.inl ⟨by rfl, fun w' hSw => ?_⟩) hHeld ?_
                    · obtain ⟨t0, t1⟩ := hSw
                      go_simp
                      try simp [*]
                      try (intro hh; exfalso; omega)
                      try omega
                    try simp only [Act.put, List.setIfInBounds_toArray, List.set_cons_zero, List.set_cons_succ, List.getElem_toArray, List.getElem_cons_succ, List.getElem_cons_zero]
                    refine wpAnyH_take (i := 8) (oi := _) (v := Value.bool true) rfl (by kernel_rfl) (by kernel_rfl) (by kernel_rfl) (fun _ _ _ h => h) (Or.inl ⟨by rfl, fun w' hSw => ?_⟩) hHeld ?_
                    · obtain ⟨t0, t1⟩ := hSw
                      have hqq := HEQ.out
                      go_simp
                      try simp [*]
                      try (intro hh; exfalso; omega)
                      try omega
                    try simp only [Act.put, List.setIfInBounds_toArray, List.set_cons_zero, List.set_cons_succ, List.getElem_toArray, List.getElem_cons_succ, List.getElem_cons_zero]
                    refine wpAnyH_done (by kernel_rfl) ?_ _
                    clear hHeld
                    go_wp2_with fail
                    go_roundw
                    case rel => exact ⟨j + 1, by have := HJK.out; omega, by go_num, by rw [← HLL.out], by rw [← HEE.out]; go_num, by first | exact HBC.out | exact HBC.out.drew | exact HBC.out.drew.drew⟩
                    case measure => have := HJK.out; simp [intOf]; omega
                  · have he : ec = cE ts ti (j + 1) := by rw [HCEj.out, if_neg (show ¬ tj < ti by omega), if_neg h2]; rfl
                    have HEE := Lib.hid he
                    have HEQ := Lib.hid h2
                    clear he h2
                    refine wp_region_held_drew (S := fun w' => w'.cell? ⟨bt, ot + j, none⟩ = some (.int .i64 tj) ∧ w'.cell? ⟨bt, ot + i, none⟩ = some (.int .i64 ti)) (by kernel_rfl) ⟨by simpa [go_sem] using n2, by simpa [go_sem] using m2⟩ (fun hHeld => ?_)
                    refine wpAnyH_take (i := 0) (oi := _) (v := Value.slice (some ⟨bt, ot, none⟩) k c1) rfl (by kernel_rfl) (by kernel_rfl) (by kernel_rfl) (fun _ _ _ h => h) (Or.inl ⟨by rfl, fun w' hSw => ?_⟩) hHeld ?_
                    · obtain ⟨t0, t1⟩ := hSw
                      go_simp
                      try simp [*]
                      try (intro hh; exfalso; omega)
                      try omega
                    try simp only [Act.put, List.setIfInBounds_toArray, List.set_cons_zero, List.set_cons_succ, List.getElem_toArray, List.getElem_cons_succ, List.getElem_cons_zero]
                    refine wpAnyH_take (i := 1) (oi := _) (v := Value.int .i64 (j : Int)) rfl (by kernel_rfl) (by kernel_rfl) (by kernel_rfl) (fun _ _ _ h => h) (Or.inl ⟨by rfl, fun w' hSw => ?_⟩) hHeld ?_
                    · obtain ⟨t0, t1⟩ := hSw
                      go_simp
                      try simp [*]
                      try (intro hh; exfalso; omega)
                      try omega
                    try simp only [Act.put, List.setIfInBounds_toArray, List.set_cons_zero, List.set_cons_succ, List.getElem_toArray, List.getElem_cons_succ, List.getElem_cons_zero]
                    refine wpAnyH_take (i := 2) (oi := _) (v := Value.pointer (some ⟨bt, ot + j, none⟩)) rfl (by kernel_rfl) (by kernel_rfl) (by kernel_rfl) (fun _ _ _ h => h) (Or.inl ⟨by rfl, fun w' hSw => ?_⟩) hHeld ?_
                    · obtain ⟨t0, t1⟩ := hSw
                      go_simp
                      try simp [*]
                      try (intro hh; exfalso; omega)
                      try omega
                    try simp only [Act.put, List.setIfInBounds_toArray, List.set_cons_zero, List.set_cons_succ, List.getElem_toArray, List.getElem_cons_succ, List.getElem_cons_zero]
                    refine wpAnyH_take (i := 3) (oi := _) (v := Value.int .i64 tj) rfl (by kernel_rfl) (by kernel_rfl) (by kernel_rfl) (fun _ _ _ h => h) (Or.inl ⟨by rfl, fun w' hSw => ?_⟩) hHeld ?_
                    · obtain ⟨t0, t1⟩ := hSw
                      go_simp
                      try simp [*]
                      try (intro hh; exfalso; omega)
                      try omega
                    try simp only [Act.put, List.setIfInBounds_toArray, List.set_cons_zero, List.set_cons_succ, List.getElem_toArray, List.getElem_cons_succ, List.getElem_cons_zero]
                    refine wpAnyH_take (i := 4) (oi := _) (v := Value.slice (some ⟨bt, ot, none⟩) k c1) rfl (by kernel_rfl) (by kernel_rfl) (by kernel_rfl) (fun _ _ _ h => h) (Or.inl ⟨by rfl, fun w' hSw => ?_⟩) hHeld ?_
                    · obtain ⟨t0, t1⟩ := hSw
                      go_simp
                      try simp [*]
                      try (intro hh; exfalso; omega)
                      try omega
                    try simp only [Act.put, List.setIfInBounds_toArray, List.set_cons_zero, List.set_cons_succ, List.getElem_toArray, List.getElem_cons_succ, List.getElem_cons_zero]
                    refine wpAnyH_take (i := 5) (oi := _) (v := Value.int .i64 (i : Int)) rfl (by kernel_rfl) (by kernel_rfl) (by kernel_rfl) (fun _ _ _ h => h) (Or.inl ⟨by rfl, fun w' hSw => ?_⟩) hHeld ?_
                    · obtain ⟨t0, t1⟩ := hSw
                      go_simp
                      try simp [*]
                      try (intro hh; exfalso; omega)
                      try omega
                    try simp only [Act.put, List.setIfInBounds_toArray, List.set_cons_zero, List.set_cons_succ, List.getElem_toArray, List.getElem_cons_succ, List.getElem_cons_zero]
                    refine wpAnyH_take (i := 6) (oi := _) (v := Value.pointer (some ⟨bt, ot + i, none⟩)) rfl (by kernel_rfl) (by kernel_rfl) (by kernel_rfl) (fun _ _ _ h => h) (Or.inl ⟨by rfl, fun w' hSw => ?_⟩) hHeld ?_
                    · obtain ⟨t0, t1⟩ := hSw
                      go_simp
                      try simp [*]
                      try (intro hh; exfalso; omega)
                      try omega
                    try simp only [Act.put, List.setIfInBounds_toArray, List.set_cons_zero, List.set_cons_succ, List.getElem_toArray, List.getElem_cons_succ, List.getElem_cons_zero]
                    refine wpAnyH_take (i := 7) (oi := _) (v := Value.int .i64 ti) rfl (by kernel_rfl) (by kernel_rfl) (by kernel_rfl) (fun _ _ _ h => h) (Or.inl ⟨by rfl, fun w' hSw => ?_⟩) hHeld ?_
                    · obtain ⟨t0, t1⟩ := hSw
                      go_simp
                      try simp [*]
                      try (intro hh; exfalso; omega)
                      try omega
                    try simp only [Act.put, List.setIfInBounds_toArray, List.set_cons_zero, List.set_cons_succ, List.getElem_toArray, List.getElem_cons_succ, List.getElem_cons_zero]
                    refine wpAnyH_take (i := 8) (oi := _) (v := Value.bool false) rfl (by kernel_rfl) (by kernel_rfl) (by kernel_rfl) (fun _ _ _ h => h) (Or.inl ⟨by rfl, fun w' hSw => ?_⟩) hHeld ?_
                    · obtain ⟨t0, t1⟩ := hSw
                      have hqq := HEQ.out
                      go_simp
                      try simp [*]
                      try (intro hh; exfalso; omega)
                      try omega
                    try simp only [Act.put, List.setIfInBounds_toArray, List.set_cons_zero, List.set_cons_succ, List.getElem_toArray, List.getElem_cons_succ, List.getElem_cons_zero]
                    refine wpAnyH_done (by kernel_rfl) ?_ _
                    clear hHeld
                    go_wp2_with fail
                    go_roundw
                    case rel => exact ⟨j + 1, by have := HJK.out; omega, by go_num, by rw [← HLL.out], by rw [← HEE.out], by first | exact HBC.out | exact HBC.out.drew | exact HBC.out.drew.drew⟩
                    case measure => have := HJK.out; simp [intOf]; omega
            · obtain rfl : j = k := by omega
              have HRW := Lib.hid (fun W h => HIS.out W h)
              have hlc := HRKI.out
              have HRC2 := Lib.hid hlc
              have HQJ := Lib.hid HQI.out
              have hc54 := c54.out
              unfold spv at hc54
              dsimp only at hc54
              have hcb := HCB.out j
              clear hlt hi hjk hlc
              generalize (sp zs i).1 = f0 at *
              generalize (sp zs i).2 = f1 at *
              generalize cL ts (tt ts i) j = lc at *
              generalize cE ts (tt ts i) j = ec at *
              have HC54 := Lib.hid hc54
              clear hc54
              obtain ⟨-, -, -, z0, z1⟩ := HRW.out _ HBJ.out
              go_upto_region 32 with fail
              go_cut [211] from 192 to 211 (fun sc wc => sc = Value.bool false ∧ wc = wr)
              case first =>
                by_cases he : ec = 1
                · have b1 : ((ec : Int) == 1) = true := by rw [he]; rfl
                  obtain ⟨h1, h2⟩ := HRC2.out
                  have b2 : ¬ (lc : Int) < r0 := by omega
                  have b3 : ¬ r1 < (lc : Int) := by omega
                  clear h1 h2 he
                  go_wp2_with fail
                  go_meet
                  case rel => exact ⟨rfl, rfl⟩
                · have b1 : ((ec : Int) == 1) = false := by simp; omega
                  clear he
                  go_wp2_with fail
                  go_meet
                  case rel => exact ⟨rfl, rfl⟩
              case rest =>
                obtain ⟨hc1, hc2⟩ := hcut
                subst hc1
                have hc3 := hc2.symm
                subst hc3
                clear hc2 z0 z1
                obtain ⟨m0, m1, -, -, -⟩ := HRW.out _ HBJ.out
                have hX9 := HXV.out.keep HBJ.out
                have g0 := hX9.c0
                have g1 := hX9.c1
                clear hX9
                go_wp2_with fail
                go_cut [222] from 212 to 222 (fun sc wc => sc = Value.bool false ∧ Below V.heap.size V wc)
                case first =>
                  rcases HQJ.out with h5 | ⟨h5, h6, h7⟩
                  · have HQE := Lib.hid (show (qe == 0) = false by rw [h5]; rfl)
                    clear h5
                    refine wp_region_held_drew (S := fun w' => w'.cell? ⟨w3.heap.size, 0, none⟩ = some (.int .i64 q0) ∧ w'.cell? ⟨w3.heap.size, 1, none⟩ = some (.int .i64 q1) ∧ w'.cell? ⟨bs, os + i * 2, none⟩ = some (.int .i64 f0) ∧ w'.cell? ⟨bs, os + i * 2 + 1, none⟩ = some (.int .i64 f1)) (by kernel_rfl) ⟨by simpa [go_sem] using g0, by simpa [go_sem] using g1, by simpa [go_sem] using m0, by simpa [go_sem] using m1⟩ (fun hHeld => ?_)
                    refine wpAnyH_take (i := 0) (oi := _) (v := Value.int .i64 qe) rfl (by kernel_rfl) (by kernel_rfl) (by kernel_rfl) (fun _ _ _ h => h) (Or.inl ⟨by rfl, fun w' hSw => ?_⟩) hHeld ?_
                    · obtain ⟨t0, t1, t2, t3⟩ := hSw
                      have hqe := HQE.out
                      go_simp
                      try simp [*]
                      try (intro hh; exfalso; omega)
                      try omega
                    try simp only [Act.put, List.setIfInBounds_toArray, List.set_cons_zero, List.set_cons_succ, List.getElem_toArray, List.getElem_cons_succ, List.getElem_cons_zero]
                    refine wpAnyH_take (i := 1) (oi := _) (v := Value.bool false) rfl (by kernel_rfl) (by kernel_rfl) (by kernel_rfl) (fun _ _ _ h => h) (Or.inl ⟨by rfl, fun w' hSw => ?_⟩) hHeld ?_
                    · obtain ⟨t0, t1, t2, t3⟩ := hSw
                      have hqe := HQE.out
                      go_simp
                      try simp [*]
                      try (intro hh; exfalso; omega)
                      try omega
                    try simp only [Act.put, List.setIfInBounds_toArray, List.set_cons_zero, List.set_cons_succ, List.getElem_toArray, List.getElem_cons_succ, List.getElem_cons_zero]
                    refine wpAnyH_take (i := 2) (oi := _) (v := Value.bool false) rfl (by kernel_rfl) (by kernel_rfl) (by kernel_rfl) (fun _ _ _ h => h) (Or.inl ⟨by rfl, fun w' hSw => ?_⟩) hHeld ?_
                    · obtain ⟨t0, t1, t2, t3⟩ := hSw
                      have hqe := HQE.out
                      go_simp
                      try simp [*]
                      try (intro hh; exfalso; omega)
                      try omega
                    try simp only [Act.put, List.setIfInBounds_toArray, List.set_cons_zero, List.set_cons_succ, List.getElem_toArray, List.getElem_cons_succ, List.getElem_cons_zero]
                    refine wpAnyH_take (i := 3) (oi := _) (v := undef) rfl (by kernel_rfl) (by kernel_rfl) (by kernel_rfl) (fun _ _ _ h => h) (Or.inr ⟨by rfl, rfl⟩) hHeld ?_
                    try simp only [Act.put, List.setIfInBounds_toArray, List.set_cons_zero, List.set_cons_succ, List.getElem_toArray, List.getElem_cons_succ, List.getElem_cons_zero]
                    refine wpAnyH_take (i := 4) (oi := _) (v := undef) rfl (by kernel_rfl) (by kernel_rfl) (by kernel_rfl) (fun _ _ _ h => h) (Or.inr ⟨by rfl, rfl⟩) hHeld ?_
                    try simp only [Act.put, List.setIfInBounds_toArray, List.set_cons_zero, List.set_cons_succ, List.getElem_toArray, List.getElem_cons_succ, List.getElem_cons_zero]
                    refine wpAnyH_take (i := 5) (oi := _) (v := undef) rfl (by kernel_rfl) (by kernel_rfl) (by kernel_rfl) (fun _ _ _ h => h) (Or.inr ⟨by rfl, rfl⟩) hHeld ?_
                    try simp only [Act.put, List.setIfInBounds_toArray, List.set_cons_zero, List.set_cons_succ, List.getElem_toArray, List.getElem_cons_succ, List.getElem_cons_zero]
                    refine wpAnyH_take (i := 6) (oi := _) (v := undef) rfl (by kernel_rfl) (by kernel_rfl) (by kernel_rfl) (fun _ _ _ h => h) (Or.inr ⟨by rfl, rfl⟩) hHeld ?_
                    try simp only [Act.put, List.setIfInBounds_toArray, List.set_cons_zero, List.set_cons_succ, List.getElem_toArray, List.getElem_cons_succ, List.getElem_cons_zero]
                    refine wpAnyH_take (i := 7) (oi := _) (v := undef) rfl (by kernel_rfl) (by kernel_rfl) (by kernel_rfl) (fun _ _ _ h => h) (Or.inr ⟨by rfl, rfl⟩) hHeld ?_
                    try simp only [Act.put, List.setIfInBounds_toArray, List.set_cons_zero, List.set_cons_succ, List.getElem_toArray, List.getElem_cons_succ, List.getElem_cons_zero]
                    refine wpAnyH_take (i := 8) (oi := _) (v := undef) rfl (by kernel_rfl) (by kernel_rfl) (by kernel_rfl) (fun _ _ _ h => h) (Or.inr ⟨by rfl, rfl⟩) hHeld ?_
                    try simp only [Act.put, List.setIfInBounds_toArray, List.set_cons_zero, List.set_cons_succ, List.getElem_toArray, List.getElem_cons_succ, List.getElem_cons_zero]
                    refine wpAnyH_take (i := 9) (oi := _) (v := undef) rfl (by kernel_rfl) (by kernel_rfl) (by kernel_rfl) (fun _ _ _ h => h) (Or.inr ⟨by rfl, rfl⟩) hHeld ?_
                    try simp only [Act.put, List.setIfInBounds_toArray, List.set_cons_zero, List.set_cons_succ, List.getElem_toArray, List.getElem_cons_succ, List.getElem_cons_zero]
                    refine wpAnyH_take (i := 10) (oi := _) (v := Value.bool false) rfl (by kernel_rfl) (by kernel_rfl) (by kernel_rfl) (fun _ _ _ h => h) (Or.inl ⟨by rfl, fun w' hSw => ?_⟩) hHeld ?_
                    · obtain ⟨t0, t1, t2, t3⟩ := hSw
                      have hqe := HQE.out
                      go_simp
                      try simp [*]
                      try (intro hh; exfalso; omega)
                      try omega
                    try simp only [Act.put, List.setIfInBounds_toArray, List.set_cons_zero, List.set_cons_succ, List.getElem_toArray, List.getElem_cons_succ, List.getElem_cons_zero]
                    refine wpAnyH_done (by kernel_rfl) ?_ _
                    clear hHeld
                    go_wp2_with fail
                    go_meet
                    case rel => exact ⟨rfl, by first | exact HBJ.out.drew | exact HBJ.out⟩
                  · have HQE := Lib.hid (show (qe == 0) = true by rw [h5]; rfl)
                    have HIN4 := Lib.hid h7
                    clear h5 h6 h7
                    refine wp_region_held_drew (S := fun w' => w'.cell? ⟨w3.heap.size, 0, none⟩ = some (.int .i64 q0) ∧ w'.cell? ⟨w3.heap.size, 1, none⟩ = some (.int .i64 q1) ∧ w'.cell? ⟨bs, os + i * 2, none⟩ = some (.int .i64 f0) ∧ w'.cell? ⟨bs, os + i * 2 + 1, none⟩ = some (.int .i64 f1)) (by kernel_rfl) ⟨by simpa [go_sem] using g0, by simpa [go_sem] using g1, by simpa [go_sem] using m0, by simpa [go_sem] using m1⟩ (fun hHeld => ?_)
                    refine wpAnyH_take (i := 0) (oi := _) (v := Value.int .i64 qe) rfl (by kernel_rfl) (by kernel_rfl) (by kernel_rfl) (fun _ _ _ h => h) (Or.inl ⟨by rfl, fun w' hSw => ?_⟩) hHeld ?_
                    · obtain ⟨t0, t1, t2, t3⟩ := hSw
                      have hqe := HQE.out
                      go_simp
                      try simp [*]
                      try (intro hh; exfalso; omega)
                      try omega
                    try simp only [Act.put, List.setIfInBounds_toArray, List.set_cons_zero, List.set_cons_succ, List.getElem_toArray, List.getElem_cons_succ, List.getElem_cons_zero]
                    refine wpAnyH_take (i := 1) (oi := _) (v := Value.bool true) rfl (by kernel_rfl) (by kernel_rfl) (by kernel_rfl) (fun _ _ _ h => h) (Or.inl ⟨by rfl, fun w' hSw => ?_⟩) hHeld ?_
                    · obtain ⟨t0, t1, t2, t3⟩ := hSw
                      have hqe := HQE.out
                      go_simp
                      try simp [*]
                      try (intro hh; exfalso; omega)
                      try omega
                    try simp only [Act.put, List.setIfInBounds_toArray, List.set_cons_zero, List.set_cons_succ, List.getElem_toArray, List.getElem_cons_succ, List.getElem_cons_zero]
                    refine wpAnyH_take (i := 2) (oi := _) (v := Value.bool true) rfl (by kernel_rfl) (by kernel_rfl) (by kernel_rfl) (fun _ _ _ h => h) (Or.inl ⟨by rfl, fun w' hSw => ?_⟩) hHeld ?_
                    · obtain ⟨t0, t1, t2, t3⟩ := hSw
                      have hqe := HQE.out
                      go_simp
                      try simp [*]
                      try (intro hh; exfalso; omega)
                      try omega
                    try simp only [Act.put, List.setIfInBounds_toArray, List.set_cons_zero, List.set_cons_succ, List.getElem_toArray, List.getElem_cons_succ, List.getElem_cons_zero]
                    refine wpAnyH_take (i := 3) (oi := _) (v := Value.agg #[Value.int .i64 q0, Value.int .i64 q1]) rfl (by kernel_rfl) (by kernel_rfl) (by kernel_rfl) (fun _ _ _ h => h) (Or.inl ⟨by rfl, fun w' hSw => ?_⟩) hHeld ?_
                    · obtain ⟨t0, t1, t2, t3⟩ := hSw
                      have hqe := HQE.out
                      go_simp
                      try simp [*]
                      try (intro hh; exfalso; omega)
                      try omega
                    try simp only [Act.put, List.setIfInBounds_toArray, List.set_cons_zero, List.set_cons_succ, List.getElem_toArray, List.getElem_cons_succ, List.getElem_cons_zero]
                    refine wpAnyH_take (i := 4) (oi := _) (v := Value.slice (some ⟨bs, os, none⟩) j c0) rfl (by kernel_rfl) (by kernel_rfl) (by kernel_rfl) (fun _ _ _ h => h) (Or.inl ⟨by rfl, fun w' hSw => ?_⟩) hHeld ?_
                    · obtain ⟨t0, t1, t2, t3⟩ := hSw
                      have hqe := HQE.out
                      go_simp
                      try simp [*]
                      try (intro hh; exfalso; omega)
                      try omega
                    try simp only [Act.put, List.setIfInBounds_toArray, List.set_cons_zero, List.set_cons_succ, List.getElem_toArray, List.getElem_cons_succ, List.getElem_cons_zero]
                    refine wpAnyH_take (i := 5) (oi := _) (v := Value.int .i64 (i : Int)) rfl (by kernel_rfl) (by kernel_rfl) (by kernel_rfl) (fun _ _ _ h => h) (Or.inl ⟨by rfl, fun w' hSw => ?_⟩) hHeld ?_
                    · obtain ⟨t0, t1, t2, t3⟩ := hSw
                      have hqe := HQE.out
                      go_simp
                      try simp [*]
                      try (intro hh; exfalso; omega)
                      try omega
                    try simp only [Act.put, List.setIfInBounds_toArray, List.set_cons_zero, List.set_cons_succ, List.getElem_toArray, List.getElem_cons_succ, List.getElem_cons_zero]
                    refine wpAnyH_take (i := 6) (oi := _) (v := Value.pointer (some ⟨bs, os + i * 2, none⟩)) rfl (by kernel_rfl) (by kernel_rfl) (by kernel_rfl) (fun _ _ _ h => h) (Or.inl ⟨by rfl, fun w' hSw => ?_⟩) hHeld ?_
                    · obtain ⟨t0, t1, t2, t3⟩ := hSw
                      have hqe := HQE.out
                      go_simp
                      try simp [*]
                      try (intro hh; exfalso; omega)
                      try omega
                    try simp only [Act.put, List.setIfInBounds_toArray, List.set_cons_zero, List.set_cons_succ, List.getElem_toArray, List.getElem_cons_succ, List.getElem_cons_zero]
                    refine wpAnyH_take (i := 7) (oi := _) (v := Value.agg #[Value.int .i64 f0, Value.int .i64 f1]) rfl (by kernel_rfl) (by kernel_rfl) (by kernel_rfl) (fun _ _ _ h => h) (Or.inl ⟨by rfl, fun w' hSw => ?_⟩) hHeld ?_
                    · obtain ⟨t0, t1, t2, t3⟩ := hSw
                      have hqe := HQE.out
                      go_simp
                      try simp [*]
                      try (intro hh; exfalso; omega)
                      try omega
                    try simp only [Act.put, List.setIfInBounds_toArray, List.set_cons_zero, List.set_cons_succ, List.getElem_toArray, List.getElem_cons_succ, List.getElem_cons_zero]
                    refine wpAnyH_ready (rs := [8]) (by kernel_rfl) (by simp) ?_
                    refine AllReadyH.cons (o := _) rfl (fun K hK => ?_) AllReadyH.nil
                    go_simp
                    go_at_call 54
                    refine Calls.mono (HC54.out _) ?_
                    rintro e w4 ⟨rfl, hb4⟩
                    rw [decide_eq_true HIN4.out]
                    have hbd : Below V.heap.size V w4 := HBJ.out.drew.trans (hb4.mono HBJ.out.drew.size)
                    have HB4 := Lib.hid hbd
                    have hX8 := HXV.out.keep hbd
                    clear hb4
                    clear hHeld
                    refine hK.out _ _ ⟨hX8.c0, hX8.c1, (HRW.out _ hbd).1, (HRW.out _ hbd).2.1⟩ (fun hHeld => ?_)
                    clear hK K
                    try simp only [Act.put, List.setIfInBounds_toArray, List.set_cons_zero, List.set_cons_succ, List.getElem_toArray, List.getElem_cons_succ, List.getElem_cons_zero]
                    refine wpAnyH_take (i := 9) (oi := _) (v := Value.bool false) rfl (by kernel_rfl) (by kernel_rfl) (by kernel_rfl) (fun _ _ _ h => h) (Or.inl ⟨by rfl, fun w' hSw => ?_⟩) hHeld ?_
                    · obtain ⟨t0, t1, t2, t3⟩ := hSw
                      go_simp
                      try simp [*]
                      try (intro hh; exfalso; omega)
                      try omega
                    try simp only [Act.put, List.setIfInBounds_toArray, List.set_cons_zero, List.set_cons_succ, List.getElem_toArray, List.getElem_cons_succ, List.getElem_cons_zero]
                    refine wpAnyH_take (i := 10) (oi := _) (v := Value.bool false) rfl (by kernel_rfl) (by kernel_rfl) (by kernel_rfl) (fun _ _ _ h => h) (Or.inl ⟨by rfl, fun w' hSw => ?_⟩) hHeld ?_
                    · obtain ⟨t0, t1, t2, t3⟩ := hSw
                      go_simp
                      try simp [*]
                      try (intro hh; exfalso; omega)
                      try omega
                    try simp only [Act.put, List.setIfInBounds_toArray, List.set_cons_zero, List.set_cons_succ, List.getElem_toArray, List.getElem_cons_succ, List.getElem_cons_zero]
                    refine wpAnyH_done (by kernel_rfl) ?_ _
                    clear hHeld
                    go_wp2_with fail
                    go_meet
                    case rel => exact ⟨rfl, by first | exact HB4.out.drew | exact HB4.out⟩
                case rest =>
                  obtain ⟨hc1, hbc⟩ := hcut
                  subst hc1
                  have HBC := Lib.hid hbc
                  have HIJ := Lib.hid hil
                  clear hbc m0 m1 g0 g1
                  go_wp2_with fail
                  go_roundw
                  case rel => exact ⟨i + 1, by have := HIJ.out; omega, by go_num, HBC.out⟩
                  case measure => have := HIJ.out; simp [intOf]; omega
end Go.Proofs.Ytcchmjbedppfnaa

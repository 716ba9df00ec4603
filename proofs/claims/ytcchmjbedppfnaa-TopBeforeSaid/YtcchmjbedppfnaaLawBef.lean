/-
  The walk of TopBefore.
-/
import Derived.Test.YtcchmjbedppfnaaBefMath
import Derived.Test.YtcchmjbedppfnaaTbE
import Derived.Test.YtcchmjbedppfnaaLawEvents
import Derived.Deep.CutRange
namespace Go.Proofs.Ytcchmjbedppfnaa
open Go.RowKit Go.Shelf
set_option linter.unusedSimpArgs false
set_option maxRecDepth 100000 in
set_option maxHeartbeats 8000000 in
theorem law_before (lv : Value) (zs : List (Int × Int)) (w : World) (hZ : Sps w.heap.size w lv zs) :
    Calls Try.prog 19 #[lv] w fun e w' => e = .returned (.bool true) ∧ Below w.heap.size w w' := by
  have c59 := fun W => works05_any W
  have c46 := Lib.hid (fun W (hb : Below w.heap.size w W) => ranks46_any lv zs W (hZ.at hb))
  have c48 := Lib.hid (fun W (hb : Below w.heap.size w W) => common_any lv zs W (hZ.at hb))
  obtain ⟨a, cap, rfl, -, hcc⟩ := hZ
  have HC := Lib.hid (show ∀ W k, Below w.heap.size w W → k < zs.length → ∃ b off, a = some ⟨b, off, none⟩ ∧ b < w.heap.size ∧ W.cell? ⟨b, off + k * 2, none⟩ = some (.int .i64 (sp zs k).1) ∧ W.cell? ⟨b, off + k * 2 + 1, none⟩ = some (.int .i64 (sp zs k).2) from fun W k hb hk => by
    obtain ⟨b, off, h1, h2, e0, e1⟩ := hcc k hk
    exact ⟨b, off, h1, h2, (hb.cell (p := ⟨b, _, none⟩) h2).trans e0, (hb.cell (p := ⟨b, _, none⟩) h2).trans e1⟩)
  have HRF := Lib.hid (Below.refl w.heap.size w)
  have HV0 := Lib.hid (fun (h : zs.length ≤ 12) (hv : AllV zs) => ev_valid (by omega) hv)
  clear hcc
  generalize hn : zs.length = n at *
  have HN := Lib.hid hn
  clear hn
  by_cases hbig : (12 : Int) < (n : Int)
  · go_enter Try.func19, Try.ntmps19
    go_wp2_with fail
    refine (c59 _).mono ?_
    rintro e wz ⟨rfl, hbz⟩
    have HBZ := Lib.hid (HRF.out.trans hbz)
    clear hbz
    go_wp2_with fail
    go_ret
    exact ⟨rfl, HBZ.out⟩
  have hn12 : n ≤ 12 := by omega
  go_enter Try.func19, Try.ntmps19
  go_wp2_with fail
  go_loopw [3] (fun iv wr => ∃ k : Nat, k ≤ n ∧ iv = .int .i64 k ∧ (∀ j, j < k → vB (sp zs j).1 (sp zs j).2 = true) ∧ Below w.heap.size w wr) (fun iv _ => n - (intOf iv).toNat)
  case atStart => exact ⟨0, Nat.zero_le _, rfl, fun j hj => absurd hj (Nat.not_lt_zero _), HRF.out⟩
  case round =>
    obtain ⟨k, hk, rfl, hv, hB⟩ := hrel
    have HVK := Lib.hid hv
    have HB := Lib.hid hB
    clear hv hB
    by_cases hlt : k < n
    · have hki : (k : Int) < (n : Int) := by omega
      obtain ⟨b, off, hab, hb, m0, m1⟩ := HC.out _ k HB.out hlt
      subst hab
      by_cases hvk : vB (sp zs k).1 (sp zs k).2 = true
      · have HVN := Lib.hid (show ∀ j, j < k + 1 → vB (sp zs j).1 (sp zs j).2 = true from fun j hj => by
          rcases (show j < k ∨ j = k by omega) with h | h
          · exact HVK.out j h
          · rw [h]; exact hvk)
        have c70 := fun W => check_ok (sp zs k).1 (sp zs k).2 hvk W
        clear hvk
        generalize (sp zs k).1 = s0 at *
        generalize (sp zs k).2 = s1 at *
        go_wp2_with fail
        refine (c70 _).mono ?_
        rintro e w1 ⟨rfl, hb1⟩
        have HB1 := Lib.hid (HB.out.trans (hb1.mono HB.out.size))
        clear hb1
        go_wp2_with fail
        go_roundw
        case rel => exact ⟨k + 1, by omega, by go_num, HVN.out, HB1.out⟩
        case measure => simp [intOf]; omega
      · have c70 := fun W => check_bad (sp zs k).1 (sp zs k).2 hvk W
        clear hvk
        generalize (sp zs k).1 = s0 at *
        generalize (sp zs k).2 = s1 at *
        go_wp2_with fail
        refine (c70 _).mono ?_
        rintro e w1 ⟨rfl, hb1⟩
        have HB1 := Lib.hid (HB.out.trans (hb1.mono HB.out.size))
        clear hb1
        go_wp2_with fail
        refine (c59 _).mono ?_
        rintro e wz ⟨rfl, hbz⟩
        have HBZ := Lib.hid (HB1.out.trans (hbz.mono HB1.out.size))
        clear hbz
        go_wp2_with fail
        go_ret
        exact ⟨rfl, HBZ.out⟩
    · obtain rfl : k = n := by omega
      have HAV := Lib.hid (show AllV zs from fun j hj => HVK.out j (by rw [← HN.out]; exact hj))
      have HEV := Lib.hid (HV0.out hn12 HAV.out)
      have c46b := c46.out _ HB.out
      unfold RnkR at c46b
      go_wp2_with fail
      refine c46b.mono ?_
      rintro e w2 ⟨v2, E, rfl, hE, hR, hb⟩
      rw [HEV.out] at hE
      subst hE
      rw [if_pos rfl] at hR
      have HB2 := Lib.hid (HB.out.trans (hb.mono HB.out.size))
      obtain ⟨ra, rc, hrv, -, hrc⟩ := hR
      rw [rkTo_len, HN.out] at hrv hrc
      subst hrv
      have HRC := Lib.hid hrc
      have HRL := Lib.hid (show ∀ j, j < k → sp (rkTo zs k) j = rkS zs (sp zs j) from fun j hj => rkTo_get zs k j hj)
      clear hb hrc c46b hlt
      go_wp2_with fail
      go_loopw [6] (fun iv wr => ∃ i : Nat, i ≤ k ∧ iv = .int .i64 i ∧ Below w2.heap.size w2 wr) (fun iv _ => k - (intOf iv).toNat)
      case atStart => exact ⟨0, Nat.zero_le _, rfl, Below.refl _ _⟩
      case round =>
        obtain ⟨i, hi, rfl, hBi⟩ := hrel
        have HBI := Lib.hid hBi
        clear hBi
        by_cases hlt : i < k
        · have hil : (i : Int) < (k : Int) := by omega
          have HIK := Lib.hid hlt
          obtain ⟨br, orr, hab, hbr, r0, r1⟩ := HRC.out i hlt
          subst hab
          have HRI := Lib.hid (show ∀ W, Below w2.heap.size w2 W → W.cell? ⟨br, orr + i * 2, none⟩ = some (.int .i64 ((rkA zs (sp zs i) k : Nat) : Int)) ∧ W.cell? ⟨br, orr + i * 2 + 1, none⟩ = some (.int .i64 ((k : Int) - 1 - ((rkB zs (sp zs i) k : Nat) : Int))) from fun W h => by
            have e := HRL.out i hlt
            have e1 : (sp (rkTo zs k) i).1 = ((rkA zs (sp zs i) k : Nat) : Int) := by rw [e]; unfold rkS; rw [HN.out]
            have e2 : (sp (rkTo zs k) i).2 = (k : Int) - 1 - ((rkB zs (sp zs i) k : Nat) : Int) := by rw [e]; unfold rkS; rw [HN.out]
            rw [e1] at r0
            rw [e2] at r1
            exact ⟨(h.cell (p := ⟨br, _, none⟩) hbr).trans r0, (h.cell (p := ⟨br, _, none⟩) hbr).trans r1⟩)
          have HA0 := Lib.hid (show rkA zs (sp zs i) 0 = 0 ∧ rkB zs (sp zs i) 0 = 0 from ⟨rfl, rfl⟩)
          have HAS := Lib.hid (fun j => And.intro (show rkA zs (sp zs i) (j + 1) = rkA zs (sp zs i) j + (if befS (sp zs j) (sp zs i) = 2 then 1 else 0) from rfl) (show rkB zs (sp zs i) (j + 1) = rkB zs (sp zs i) j + (if befS (sp zs i) (sp zs j) = 2 then 1 else 0) from rfl))
          have HAB := Lib.hid (fun j => And.intro (rkA_le zs (sp zs i) j) (rkB_le zs (sp zs i) j))
          have HUW := Lib.hid (show ∀ W, Below w2.heap.size w2 W → Below w.heap.size w W from fun W h => HB2.out.trans (h.mono HB2.out.size))
          have HVI := Lib.hid (HVK.out i hlt)
          clear r0 r1
          go_wp2_with fail
          go_loopw [7, 8, 9] (fun fv lv jv wq => ∃ j : Nat, j ≤ k ∧ jv = .int .i64 j ∧ fv = .int .i64 ((rkA zs (sp zs i) j : Nat) : Int) ∧ lv = .int .i64 ((k : Int) - 1 - ((rkB zs (sp zs i) j : Nat) : Int)) ∧ Below w2.heap.size w2 wq) (fun _ _ jv _ => k - (intOf jv).toNat)
          case atStart => exact ⟨0, Nat.zero_le _, rfl, by rw [HA0.out.1]; rfl, by rw [HA0.out.2]; simp, HBI.out⟩
          case round =>
            obtain ⟨j, hj, rfl, rfl, rfl, hBj⟩ := hrel
            have HBJ := Lib.hid hBj
            clear hBj
            by_cases hjk : j < k
            · have hjl : (j : Int) < (k : Int) := by omega
              obtain ⟨b, off, hab, hb0, n0, n1⟩ := HC.out _ j (HUW.out _ HBJ.out) hjk
              subst hab
              obtain ⟨b', off', hab, -, m0, m1⟩ := HC.out _ i (HUW.out _ HBJ.out) hlt
              simp only [Option.some.injEq, Addr.mk.injEq, and_true] at hab
              obtain ⟨rfl, rfl⟩ := hab
              have hv1 := HVK.out j hjk
              have hv2 := HVI.out
              have c71a := fun W => bless_any (sp zs i).1 (sp zs i).2 (sp zs j).1 (sp zs j).2 W
              rw [less_bef hv2 hv1] at c71a
              have c71b := fun W => bless_any (sp zs j).1 (sp zs j).2 (sp zs i).1 (sp zs i).2 W
              rw [less_bef hv1 hv2] at c71b
              have c44 := fun W => before44_any (sp zs i) (sp zs j) W
              have hbr : BefR (sp zs i) (sp zs j) = (befS (sp zs i) (sp zs j), 0) := by
                unfold BefR
                rw [if_pos ((vB_iff _ _).1 hv2).1, if_pos ((vB_iff _ _).1 hv1).1]
              rw [hbr] at c44
              have KW := Lib.hid (show ∀ W, Below wr.heap.size wr W → W.cell? ⟨b, off + i * 2, none⟩ = some (.int .i64 (sp zs i).1) ∧ W.cell? ⟨b, off + i * 2 + 1, none⟩ = some (.int .i64 (sp zs i).2) ∧ W.cell? ⟨b, off + j * 2, none⟩ = some (.int .i64 (sp zs j).1) ∧ W.cell? ⟨b, off + j * 2 + 1, none⟩ = some (.int .i64 (sp zs j).2) from fun W h => by
                have hbq : b < wr.heap.size := Nat.lt_of_lt_of_le hb0 (HUW.out _ HBJ.out).size
                exact ⟨(h.cell (p := ⟨b, _, none⟩) hbq).trans m0, (h.cell (p := ⟨b, _, none⟩) hbq).trans m1, (h.cell (p := ⟨b, _, none⟩) hbq).trans n0, (h.cell (p := ⟨b, _, none⟩) hbq).trans n1⟩)
              have HASj := Lib.hid (HAS.out j)
              obtain ⟨hra, hrb⟩ := HAB.out j
              unfold spv at c44
              dsimp only at c71a c71b c44
              clear hbr hv1 hv2 m0 m1 n0 n1
              generalize rkA zs (sp zs i) j = ra0 at *
              generalize rkB zs (sp zs i) j = rb0 at *
              generalize befS (sp zs i) (sp zs j) = bij at *
              generalize befS (sp zs j) (sp zs i) = bji at *
              generalize (sp zs j).1 = e0 at *
              generalize (sp zs j).2 = e1 at *
              generalize (sp zs i).1 = f0 at *
              generalize (sp zs i).2 = f1 at *
              have C71a := Lib.hid c71a
              have C71b := Lib.hid c71b
              have C44 := Lib.hid c44
              clear c71a c71b c44
              obtain ⟨m0, m1, n0, n1⟩ := KW.out _ (Below.refl _ _)
              go_wp2_with fail
              refine wp_region_held_drew (S := fun w' => w'.cell? ⟨b, off + i * 2, none⟩ = some (.int .i64 f0) ∧ w'.cell? ⟨b, off + i * 2 + 1, none⟩ = some (.int .i64 f1) ∧ w'.cell? ⟨b, off + j * 2, none⟩ = some (.int .i64 e0) ∧ w'.cell? ⟨b, off + j * 2 + 1, none⟩ = some (.int .i64 e1)) (by kernel_rfl) ⟨by simpa [go_sem] using m0, by simpa [go_sem] using m1, by simpa [go_sem] using n0, by simpa [go_sem] using n1⟩ (fun hHeld => ?_)
              refine wpAnyH_take (i := 0) (oi := _) (v := Value.slice (some ⟨b, off, none⟩) k cap) rfl (by kernel_rfl) (by kernel_rfl) (by kernel_rfl) (fun _ _ _ h => h) (Or.inl ⟨by rfl, fun w' hSw => ?_⟩) hHeld ?_
              · obtain ⟨t0, t1, t2, t3⟩ := hSw
                go_simp
                try simp [*]
                try (intro hh; exfalso; omega)
                try omega
              try simp only [Act.put, List.setIfInBounds_toArray, List.set_cons_zero, List.set_cons_succ, List.getElem_toArray, List.getElem_cons_succ, List.getElem_cons_zero]
              refine wpAnyH_take (i := 1) (oi := _) (v := Value.int .i64 (i : Int)) rfl (by kernel_rfl) (by kernel_rfl) (by kernel_rfl) (fun _ _ _ h => h) (Or.inl ⟨by rfl, fun w' hSw => ?_⟩) hHeld ?_
              · obtain ⟨t0, t1, t2, t3⟩ := hSw
                go_simp
                try simp [*]
                try (intro hh; exfalso; omega)
                try omega
              try simp only [Act.put, List.setIfInBounds_toArray, List.set_cons_zero, List.set_cons_succ, List.getElem_toArray, List.getElem_cons_succ, List.getElem_cons_zero]
              refine wpAnyH_take (i := 2) (oi := _) (v := Value.pointer (some ⟨b, off + i * 2, none⟩)) rfl (by kernel_rfl) (by kernel_rfl) (by kernel_rfl) (fun _ _ _ h => h) (Or.inl ⟨by rfl, fun w' hSw => ?_⟩) hHeld ?_
              · obtain ⟨t0, t1, t2, t3⟩ := hSw
                go_simp
                try simp [*]
                try (intro hh; exfalso; omega)
                try omega
              try simp only [Act.put, List.setIfInBounds_toArray, List.set_cons_zero, List.set_cons_succ, List.getElem_toArray, List.getElem_cons_succ, List.getElem_cons_zero]
              refine wpAnyH_take (i := 3) (oi := _) (v := Value.agg #[Value.int .i64 f0, Value.int .i64 f1]) rfl (by kernel_rfl) (by kernel_rfl) (by kernel_rfl) (fun _ _ _ h => h) (Or.inl ⟨by rfl, fun w' hSw => ?_⟩) hHeld ?_
              · obtain ⟨t0, t1, t2, t3⟩ := hSw
                go_simp
                try simp [*]
                try (intro hh; exfalso; omega)
                try omega
              try simp only [Act.put, List.setIfInBounds_toArray, List.set_cons_zero, List.set_cons_succ, List.getElem_toArray, List.getElem_cons_succ, List.getElem_cons_zero]
              refine wpAnyH_take (i := 4) (oi := _) (v := Value.slice (some ⟨b, off, none⟩) k cap) rfl (by kernel_rfl) (by kernel_rfl) (by kernel_rfl) (fun _ _ _ h => h) (Or.inl ⟨by rfl, fun w' hSw => ?_⟩) hHeld ?_
              · obtain ⟨t0, t1, t2, t3⟩ := hSw
                go_simp
                try simp [*]
                try (intro hh; exfalso; omega)
                try omega
              try simp only [Act.put, List.setIfInBounds_toArray, List.set_cons_zero, List.set_cons_succ, List.getElem_toArray, List.getElem_cons_succ, List.getElem_cons_zero]
              refine wpAnyH_take (i := 5) (oi := _) (v := Value.int .i64 (j : Int)) rfl (by kernel_rfl) (by kernel_rfl) (by kernel_rfl) (fun _ _ _ h => h) (Or.inl ⟨by rfl, fun w' hSw => ?_⟩) hHeld ?_
              · obtain ⟨t0, t1, t2, t3⟩ := hSw
                go_simp
                try simp [*]
                try (intro hh; exfalso; omega)
                try omega
              try simp only [Act.put, List.setIfInBounds_toArray, List.set_cons_zero, List.set_cons_succ, List.getElem_toArray, List.getElem_cons_succ, List.getElem_cons_zero]
              refine wpAnyH_take (i := 6) (oi := _) (v := Value.pointer (some ⟨b, off + j * 2, none⟩)) rfl (by kernel_rfl) (by kernel_rfl) (by kernel_rfl) (fun _ _ _ h => h) (Or.inl ⟨by rfl, fun w' hSw => ?_⟩) hHeld ?_
              · obtain ⟨t0, t1, t2, t3⟩ := hSw
                go_simp
                try simp [*]
                try (intro hh; exfalso; omega)
                try omega
              try simp only [Act.put, List.setIfInBounds_toArray, List.set_cons_zero, List.set_cons_succ, List.getElem_toArray, List.getElem_cons_succ, List.getElem_cons_zero]
              refine wpAnyH_take (i := 7) (oi := _) (v := Value.agg #[Value.int .i64 e0, Value.int .i64 e1]) rfl (by kernel_rfl) (by kernel_rfl) (by kernel_rfl) (fun _ _ _ h => h) (Or.inl ⟨by rfl, fun w' hSw => ?_⟩) hHeld ?_
              · obtain ⟨t0, t1, t2, t3⟩ := hSw
                go_simp
                try simp [*]
                try (intro hh; exfalso; omega)
                try omega
              try simp only [Act.put, List.setIfInBounds_toArray, List.set_cons_zero, List.set_cons_succ, List.getElem_toArray, List.getElem_cons_succ, List.getElem_cons_zero]
              have HD1 := Lib.hid (show Below wr.heap.size wr _ from (Below.refl wr.heap.size wr).drew)
              refine wpAnyH_ready (rs := [8]) (by kernel_rfl) (by simp) ?_
              refine AllReadyH.cons (o := _) rfl (fun K hK => ?_) AllReadyH.nil
              go_simp
              go_at_call 71
              refine Calls.mono (C71a.out _) ?_
              rintro e v1 ⟨rfl, hb⟩
              have HV1 := Lib.hid (show Below wr.heap.size wr v1 from HD1.out.trans (hb.mono HD1.out.size))
              clear hb
              clear hHeld
              refine hK.out _ _ (KW.out _ HV1.out) (fun hHeld => ?_)
              clear hK K
              try simp only [Act.put, List.setIfInBounds_toArray, List.set_cons_zero, List.set_cons_succ, List.getElem_toArray, List.getElem_cons_succ, List.getElem_cons_zero]
              refine wpAnyH_take (i := 9) (oi := _) (v := .tuple #[.int .i64 bij, .int .i64 0]) rfl (by kernel_rfl) (by kernel_rfl) (by kernel_rfl) (fun _ _ _ h => h) (Or.inl ⟨by rfl, fun w' hSw => ?_⟩) hHeld ?_
              · obtain ⟨t0, t1, t2, t3⟩ := hSw
                go_simp
                try simp [*]
                try (intro hh; exfalso; omega)
                try omega
              try simp only [Act.put, List.setIfInBounds_toArray, List.set_cons_zero, List.set_cons_succ, List.getElem_toArray, List.getElem_cons_succ, List.getElem_cons_zero]
              refine wpAnyH_take (i := 10) (oi := _) (v := .int .i64 bij) rfl (by kernel_rfl) (by kernel_rfl) (by kernel_rfl) (fun _ _ _ h => h) (Or.inl ⟨by rfl, fun w' hSw => ?_⟩) hHeld ?_
              · obtain ⟨t0, t1, t2, t3⟩ := hSw
                go_simp
                try simp [*]
                try (intro hh; exfalso; omega)
                try omega
              try simp only [Act.put, List.setIfInBounds_toArray, List.set_cons_zero, List.set_cons_succ, List.getElem_toArray, List.getElem_cons_succ, List.getElem_cons_zero]
              refine wpAnyH_take (i := 11) (oi := _) (v := .int .i64 0) rfl (by kernel_rfl) (by kernel_rfl) (by kernel_rfl) (fun _ _ _ h => h) (Or.inl ⟨by rfl, fun w' hSw => ?_⟩) hHeld ?_
              · obtain ⟨t0, t1, t2, t3⟩ := hSw
                go_simp
                try simp [*]
                try (intro hh; exfalso; omega)
                try omega
              try simp only [Act.put, List.setIfInBounds_toArray, List.set_cons_zero, List.set_cons_succ, List.getElem_toArray, List.getElem_cons_succ, List.getElem_cons_zero]
              refine wpAnyH_take (i := 12) (oi := _) (v := .int .i64 bij) rfl (by kernel_rfl) (by kernel_rfl) (by kernel_rfl) (fun _ _ _ h => h) (Or.inl ⟨by rfl, fun w' hSw => ?_⟩) hHeld ?_
              · obtain ⟨t0, t1, t2, t3⟩ := hSw
                go_simp
                try simp [*]
                try (intro hh; exfalso; omega)
                try omega
              try simp only [Act.put, List.setIfInBounds_toArray, List.set_cons_zero, List.set_cons_succ, List.getElem_toArray, List.getElem_cons_succ, List.getElem_cons_zero]
              refine wpAnyH_take (i := 13) (oi := _) (v := .int .i64 0) rfl (by kernel_rfl) (by kernel_rfl) (by kernel_rfl) (fun _ _ _ h => h) (Or.inl ⟨by rfl, fun w' hSw => ?_⟩) hHeld ?_
              · obtain ⟨t0, t1, t2, t3⟩ := hSw
                go_simp
                try simp [*]
                try (intro hh; exfalso; omega)
                try omega
              try simp only [Act.put, List.setIfInBounds_toArray, List.set_cons_zero, List.set_cons_succ, List.getElem_toArray, List.getElem_cons_succ, List.getElem_cons_zero]
              refine wpAnyH_done (by kernel_rfl) ?_ _
              clear hHeld
              clear m0 m1 n0 n1
              obtain ⟨m0, m1, n0, n1⟩ := KW.out _ HV1.out
              go_wp2_with fail
              refine wp_region_held_drew (S := fun w' => w'.cell? ⟨b, off + i * 2, none⟩ = some (.int .i64 f0) ∧ w'.cell? ⟨b, off + i * 2 + 1, none⟩ = some (.int .i64 f1) ∧ w'.cell? ⟨b, off + j * 2, none⟩ = some (.int .i64 e0) ∧ w'.cell? ⟨b, off + j * 2 + 1, none⟩ = some (.int .i64 e1)) (by kernel_rfl) ⟨by simpa [go_sem] using m0, by simpa [go_sem] using m1, by simpa [go_sem] using n0, by simpa [go_sem] using n1⟩ (fun hHeld => ?_)
              refine wpAnyH_take (i := 0) (oi := _) (v := Value.slice (some ⟨b, off, none⟩) k cap) rfl (by kernel_rfl) (by kernel_rfl) (by kernel_rfl) (fun _ _ _ h => h) (Or.inl ⟨by rfl, fun w' hSw => ?_⟩) hHeld ?_
              · obtain ⟨t0, t1, t2, t3⟩ := hSw
                go_simp
                try simp [*]
                try (intro hh; exfalso; omega)
                try omega
              try simp only [Act.put, List.setIfInBounds_toArray, List.set_cons_zero, List.set_cons_succ, List.getElem_toArray, List.getElem_cons_succ, List.getElem_cons_zero]
              refine wpAnyH_take (i := 1) (oi := _) (v := Value.int .i64 (i : Int)) rfl (by kernel_rfl) (by kernel_rfl) (by kernel_rfl) (fun _ _ _ h => h) (Or.inl ⟨by rfl, fun w' hSw => ?_⟩) hHeld ?_
              · obtain ⟨t0, t1, t2, t3⟩ := hSw
                go_simp
                try simp [*]
                try (intro hh; exfalso; omega)
                try omega
              try simp only [Act.put, List.setIfInBounds_toArray, List.set_cons_zero, List.set_cons_succ, List.getElem_toArray, List.getElem_cons_succ, List.getElem_cons_zero]
              refine wpAnyH_take (i := 2) (oi := _) (v := Value.pointer (some ⟨b, off + i * 2, none⟩)) rfl (by kernel_rfl) (by kernel_rfl) (by kernel_rfl) (fun _ _ _ h => h) (Or.inl ⟨by rfl, fun w' hSw => ?_⟩) hHeld ?_
              · obtain ⟨t0, t1, t2, t3⟩ := hSw
                go_simp
                try simp [*]
                try (intro hh; exfalso; omega)
                try omega
              try simp only [Act.put, List.setIfInBounds_toArray, List.set_cons_zero, List.set_cons_succ, List.getElem_toArray, List.getElem_cons_succ, List.getElem_cons_zero]
              refine wpAnyH_take (i := 3) (oi := _) (v := Value.agg #[Value.int .i64 f0, Value.int .i64 f1]) rfl (by kernel_rfl) (by kernel_rfl) (by kernel_rfl) (fun _ _ _ h => h) (Or.inl ⟨by rfl, fun w' hSw => ?_⟩) hHeld ?_
              · obtain ⟨t0, t1, t2, t3⟩ := hSw
                go_simp
                try simp [*]
                try (intro hh; exfalso; omega)
                try omega
              try simp only [Act.put, List.setIfInBounds_toArray, List.set_cons_zero, List.set_cons_succ, List.getElem_toArray, List.getElem_cons_succ, List.getElem_cons_zero]
              refine wpAnyH_take (i := 4) (oi := _) (v := Value.slice (some ⟨b, off, none⟩) k cap) rfl (by kernel_rfl) (by kernel_rfl) (by kernel_rfl) (fun _ _ _ h => h) (Or.inl ⟨by rfl, fun w' hSw => ?_⟩) hHeld ?_
              · obtain ⟨t0, t1, t2, t3⟩ := hSw
                go_simp
                try simp [*]
                try (intro hh; exfalso; omega)
                try omega
              try simp only [Act.put, List.setIfInBounds_toArray, List.set_cons_zero, List.set_cons_succ, List.getElem_toArray, List.getElem_cons_succ, List.getElem_cons_zero]
              refine wpAnyH_take (i := 5) (oi := _) (v := Value.int .i64 (j : Int)) rfl (by kernel_rfl) (by kernel_rfl) (by kernel_rfl) (fun _ _ _ h => h) (Or.inl ⟨by rfl, fun w' hSw => ?_⟩) hHeld ?_
              · obtain ⟨t0, t1, t2, t3⟩ := hSw
                go_simp
                try simp [*]
                try (intro hh; exfalso; omega)
                try omega
              try simp only [Act.put, List.setIfInBounds_toArray, List.set_cons_zero, List.set_cons_succ, List.getElem_toArray, List.getElem_cons_succ, List.getElem_cons_zero]
              refine wpAnyH_take (i := 6) (oi := _) (v := Value.pointer (some ⟨b, off + j * 2, none⟩)) rfl (by kernel_rfl) (by kernel_rfl) (by kernel_rfl) (fun _ _ _ h => h) (Or.inl ⟨by rfl, fun w' hSw => ?_⟩) hHeld ?_
              · obtain ⟨t0, t1, t2, t3⟩ := hSw
                go_simp
                try simp [*]
                try (intro hh; exfalso; omega)
                try omega
              try simp only [Act.put, List.setIfInBounds_toArray, List.set_cons_zero, List.set_cons_succ, List.getElem_toArray, List.getElem_cons_succ, List.getElem_cons_zero]
              refine wpAnyH_take (i := 7) (oi := _) (v := Value.agg #[Value.int .i64 e0, Value.int .i64 e1]) rfl (by kernel_rfl) (by kernel_rfl) (by kernel_rfl) (fun _ _ _ h => h) (Or.inl ⟨by rfl, fun w' hSw => ?_⟩) hHeld ?_
              · obtain ⟨t0, t1, t2, t3⟩ := hSw
                go_simp
                try simp [*]
                try (intro hh; exfalso; omega)
                try omega
              try simp only [Act.put, List.setIfInBounds_toArray, List.set_cons_zero, List.set_cons_succ, List.getElem_toArray, List.getElem_cons_succ, List.getElem_cons_zero]
              have HD2 := Lib.hid (show Below wr.heap.size wr _ from HV1.out.drew)
              refine wpAnyH_ready (rs := [8]) (by kernel_rfl) (by simp) ?_
              refine AllReadyH.cons (o := _) rfl (fun K hK => ?_) AllReadyH.nil
              go_simp
              go_at_call 44
              refine Calls.mono (C44.out _) ?_
              rintro e v2 ⟨rfl, hb⟩
              have HV2 := Lib.hid (show Below wr.heap.size wr v2 from HD2.out.trans (hb.mono HD2.out.size))
              clear hb
              clear hHeld
              refine hK.out _ _ (KW.out _ HV2.out) (fun hHeld => ?_)
              clear hK K
              try simp only [Act.put, List.setIfInBounds_toArray, List.set_cons_zero, List.set_cons_succ, List.getElem_toArray, List.getElem_cons_succ, List.getElem_cons_zero]
              refine wpAnyH_take (i := 9) (oi := _) (v := .tuple #[.int .i64 bij, .int .i64 0]) rfl (by kernel_rfl) (by kernel_rfl) (by kernel_rfl) (fun _ _ _ h => h) (Or.inl ⟨by rfl, fun w' hSw => ?_⟩) hHeld ?_
              · obtain ⟨t0, t1, t2, t3⟩ := hSw
                go_simp
                try simp [*]
                try (intro hh; exfalso; omega)
                try omega
              try simp only [Act.put, List.setIfInBounds_toArray, List.set_cons_zero, List.set_cons_succ, List.getElem_toArray, List.getElem_cons_succ, List.getElem_cons_zero]
              refine wpAnyH_take (i := 10) (oi := _) (v := .int .i64 bij) rfl (by kernel_rfl) (by kernel_rfl) (by kernel_rfl) (fun _ _ _ h => h) (Or.inl ⟨by rfl, fun w' hSw => ?_⟩) hHeld ?_
              · obtain ⟨t0, t1, t2, t3⟩ := hSw
                go_simp
                try simp [*]
                try (intro hh; exfalso; omega)
                try omega
              try simp only [Act.put, List.setIfInBounds_toArray, List.set_cons_zero, List.set_cons_succ, List.getElem_toArray, List.getElem_cons_succ, List.getElem_cons_zero]
              refine wpAnyH_take (i := 11) (oi := _) (v := .int .i64 0) rfl (by kernel_rfl) (by kernel_rfl) (by kernel_rfl) (fun _ _ _ h => h) (Or.inl ⟨by rfl, fun w' hSw => ?_⟩) hHeld ?_
              · obtain ⟨t0, t1, t2, t3⟩ := hSw
                go_simp
                try simp [*]
                try (intro hh; exfalso; omega)
                try omega
              try simp only [Act.put, List.setIfInBounds_toArray, List.set_cons_zero, List.set_cons_succ, List.getElem_toArray, List.getElem_cons_succ, List.getElem_cons_zero]
              refine wpAnyH_take (i := 12) (oi := _) (v := .int .i64 bij) rfl (by kernel_rfl) (by kernel_rfl) (by kernel_rfl) (fun _ _ _ h => h) (Or.inl ⟨by rfl, fun w' hSw => ?_⟩) hHeld ?_
              · obtain ⟨t0, t1, t2, t3⟩ := hSw
                go_simp
                try simp [*]
                try (intro hh; exfalso; omega)
                try omega
              try simp only [Act.put, List.setIfInBounds_toArray, List.set_cons_zero, List.set_cons_succ, List.getElem_toArray, List.getElem_cons_succ, List.getElem_cons_zero]
              refine wpAnyH_take (i := 13) (oi := _) (v := .int .i64 0) rfl (by kernel_rfl) (by kernel_rfl) (by kernel_rfl) (fun _ _ _ h => h) (Or.inl ⟨by rfl, fun w' hSw => ?_⟩) hHeld ?_
              · obtain ⟨t0, t1, t2, t3⟩ := hSw
                go_simp
                try simp [*]
                try (intro hh; exfalso; omega)
                try omega
              try simp only [Act.put, List.setIfInBounds_toArray, List.set_cons_zero, List.set_cons_succ, List.getElem_toArray, List.getElem_cons_succ, List.getElem_cons_zero]
              refine wpAnyH_done (by kernel_rfl) ?_ _
              clear hHeld
              clear m0 m1 n0 n1
              obtain ⟨m0, m1, n0, n1⟩ := KW.out _ HV2.out
              go_wp2_with fail
              by_cases g1 : bji = 2
              · have b1 : (bji == 2) = true := by rw [g1]; rfl
                have ha1 : rkA zs (sp zs i) (j + 1) = ra0 + 1 := by have q := HASj.out.1; rw [if_pos g1] at q; exact q
                have HRA := Lib.hid ha1
                clear g1 ha1
                by_cases g2 : bij = 2
                · have b2 : (bij == 2) = true := by rw [g2]; rfl
                  have hb1 : rkB zs (sp zs i) (j + 1) = rb0 + 1 := by have q := HASj.out.2; rw [if_pos g2] at q; exact q
                  have HRB := Lib.hid hb1
                  clear g2 hb1
                  refine wp_region_held_drew (S := fun w' => w'.cell? ⟨b, off + i * 2, none⟩ = some (.int .i64 f0) ∧ w'.cell? ⟨b, off + i * 2 + 1, none⟩ = some (.int .i64 f1) ∧ w'.cell? ⟨b, off + j * 2, none⟩ = some (.int .i64 e0) ∧ w'.cell? ⟨b, off + j * 2 + 1, none⟩ = some (.int .i64 e1)) (by kernel_rfl) ⟨by simpa [go_sem] using m0, by simpa [go_sem] using m1, by simpa [go_sem] using n0, by simpa [go_sem] using n1⟩ (fun hHeld => ?_)
                  refine wpAnyH_take (i := 0) (oi := _) (v := Value.slice (some ⟨b, off, none⟩) k cap) rfl (by kernel_rfl) (by kernel_rfl) (by kernel_rfl) (fun _ _ _ h => h) (Or.inl ⟨by rfl, fun w' hSw => ?_⟩) hHeld ?_
                  · obtain ⟨t0, t1, t2, t3⟩ := hSw
                    go_simp
                    try simp [*]
                    try (intro hh; exfalso; omega)
                    try omega
                  try simp only [Act.put, List.setIfInBounds_toArray, List.set_cons_zero, List.set_cons_succ, List.getElem_toArray, List.getElem_cons_succ, List.getElem_cons_zero]
                  refine wpAnyH_take (i := 1) (oi := _) (v := Value.int .i64 (j : Int)) rfl (by kernel_rfl) (by kernel_rfl) (by kernel_rfl) (fun _ _ _ h => h) (Or.inl ⟨by rfl, fun w' hSw => ?_⟩) hHeld ?_
                  · obtain ⟨t0, t1, t2, t3⟩ := hSw
                    go_simp
                    try simp [*]
                    try (intro hh; exfalso; omega)
                    try omega
                  try simp only [Act.put, List.setIfInBounds_toArray, List.set_cons_zero, List.set_cons_succ, List.getElem_toArray, List.getElem_cons_succ, List.getElem_cons_zero]
                  refine wpAnyH_take (i := 2) (oi := _) (v := Value.pointer (some ⟨b, off + j * 2, none⟩)) rfl (by kernel_rfl) (by kernel_rfl) (by kernel_rfl) (fun _ _ _ h => h) (Or.inl ⟨by rfl, fun w' hSw => ?_⟩) hHeld ?_
                  · obtain ⟨t0, t1, t2, t3⟩ := hSw
                    go_simp
                    try simp [*]
                    try (intro hh; exfalso; omega)
                    try omega
                  try simp only [Act.put, List.setIfInBounds_toArray, List.set_cons_zero, List.set_cons_succ, List.getElem_toArray, List.getElem_cons_succ, List.getElem_cons_zero]
                  refine wpAnyH_take (i := 3) (oi := _) (v := Value.agg #[Value.int .i64 e0, Value.int .i64 e1]) rfl (by kernel_rfl) (by kernel_rfl) (by kernel_rfl) (fun _ _ _ h => h) (Or.inl ⟨by rfl, fun w' hSw => ?_⟩) hHeld ?_
                  · obtain ⟨t0, t1, t2, t3⟩ := hSw
                    go_simp
                    try simp [*]
                    try (intro hh; exfalso; omega)
                    try omega
                  try simp only [Act.put, List.setIfInBounds_toArray, List.set_cons_zero, List.set_cons_succ, List.getElem_toArray, List.getElem_cons_succ, List.getElem_cons_zero]
                  refine wpAnyH_take (i := 4) (oi := _) (v := Value.slice (some ⟨b, off, none⟩) k cap) rfl (by kernel_rfl) (by kernel_rfl) (by kernel_rfl) (fun _ _ _ h => h) (Or.inl ⟨by rfl, fun w' hSw => ?_⟩) hHeld ?_
                  · obtain ⟨t0, t1, t2, t3⟩ := hSw
                    go_simp
                    try simp [*]
                    try (intro hh; exfalso; omega)
                    try omega
                  try simp only [Act.put, List.setIfInBounds_toArray, List.set_cons_zero, List.set_cons_succ, List.getElem_toArray, List.getElem_cons_succ, List.getElem_cons_zero]
                  refine wpAnyH_take (i := 5) (oi := _) (v := Value.int .i64 (i : Int)) rfl (by kernel_rfl) (by kernel_rfl) (by kernel_rfl) (fun _ _ _ h => h) (Or.inl ⟨by rfl, fun w' hSw => ?_⟩) hHeld ?_
                  · obtain ⟨t0, t1, t2, t3⟩ := hSw
                    go_simp
                    try simp [*]
                    try (intro hh; exfalso; omega)
                    try omega
                  try simp only [Act.put, List.setIfInBounds_toArray, List.set_cons_zero, List.set_cons_succ, List.getElem_toArray, List.getElem_cons_succ, List.getElem_cons_zero]
                  refine wpAnyH_take (i := 6) (oi := _) (v := Value.pointer (some ⟨b, off + i * 2, none⟩)) rfl (by kernel_rfl) (by kernel_rfl) (by kernel_rfl) (fun _ _ _ h => h) (Or.inl ⟨by rfl, fun w' hSw => ?_⟩) hHeld ?_
                  · obtain ⟨t0, t1, t2, t3⟩ := hSw
                    go_simp
                    try simp [*]
                    try (intro hh; exfalso; omega)
                    try omega
                  try simp only [Act.put, List.setIfInBounds_toArray, List.set_cons_zero, List.set_cons_succ, List.getElem_toArray, List.getElem_cons_succ, List.getElem_cons_zero]
                  refine wpAnyH_take (i := 7) (oi := _) (v := Value.agg #[Value.int .i64 f0, Value.int .i64 f1]) rfl (by kernel_rfl) (by kernel_rfl) (by kernel_rfl) (fun _ _ _ h => h) (Or.inl ⟨by rfl, fun w' hSw => ?_⟩) hHeld ?_
                  · obtain ⟨t0, t1, t2, t3⟩ := hSw
                    go_simp
                    try simp [*]
                    try (intro hh; exfalso; omega)
                    try omega
                  try simp only [Act.put, List.setIfInBounds_toArray, List.set_cons_zero, List.set_cons_succ, List.getElem_toArray, List.getElem_cons_succ, List.getElem_cons_zero]
                  have HD3 := Lib.hid (show Below wr.heap.size wr _ from HV2.out.drew)
                  refine wpAnyH_ready (rs := [8]) (by kernel_rfl) (by simp) ?_
                  refine AllReadyH.cons (o := _) rfl (fun K hK => ?_) AllReadyH.nil
                  go_simp
                  go_at_call 71
                  refine Calls.mono (C71b.out _) ?_
                  rintro e v3 ⟨rfl, hb⟩
                  have HV3 := Lib.hid (show Below wr.heap.size wr v3 from HD3.out.trans (hb.mono HD3.out.size))
                  clear hb
                  clear hHeld
                  refine hK.out _ _ (KW.out _ HV3.out) (fun hHeld => ?_)
                  clear hK K
                  try simp only [Act.put, List.setIfInBounds_toArray, List.set_cons_zero, List.set_cons_succ, List.getElem_toArray, List.getElem_cons_succ, List.getElem_cons_zero]
                  refine wpAnyH_take (i := 9) (oi := _) (v := .tuple #[.int .i64 bji, .int .i64 0]) rfl (by kernel_rfl) (by kernel_rfl) (by kernel_rfl) (fun _ _ _ h => h) (Or.inl ⟨by rfl, fun w' hSw => ?_⟩) hHeld ?_
                  · obtain ⟨t0, t1, t2, t3⟩ := hSw
                    go_simp
                    try simp [*]
                    try (intro hh; exfalso; omega)
                    try omega
                  try simp only [Act.put, List.setIfInBounds_toArray, List.set_cons_zero, List.set_cons_succ, List.getElem_toArray, List.getElem_cons_succ, List.getElem_cons_zero]
                  refine wpAnyH_take (i := 10) (oi := _) (v := .int .i64 bji) rfl (by kernel_rfl) (by kernel_rfl) (by kernel_rfl) (fun _ _ _ h => h) (Or.inl ⟨by rfl, fun w' hSw => ?_⟩) hHeld ?_
                  · obtain ⟨t0, t1, t2, t3⟩ := hSw
                    go_simp
                    try simp [*]
                    try (intro hh; exfalso; omega)
                    try omega
                  try simp only [Act.put, List.setIfInBounds_toArray, List.set_cons_zero, List.set_cons_succ, List.getElem_toArray, List.getElem_cons_succ, List.getElem_cons_zero]
                  refine wpAnyH_take (i := 11) (oi := _) (v := .int .i64 0) rfl (by kernel_rfl) (by kernel_rfl) (by kernel_rfl) (fun _ _ _ h => h) (Or.inl ⟨by rfl, fun w' hSw => ?_⟩) hHeld ?_
                  · obtain ⟨t0, t1, t2, t3⟩ := hSw
                    go_simp
                    try simp [*]
                    try (intro hh; exfalso; omega)
                    try omega
                  try simp only [Act.put, List.setIfInBounds_toArray, List.set_cons_zero, List.set_cons_succ, List.getElem_toArray, List.getElem_cons_succ, List.getElem_cons_zero]
                  refine wpAnyH_take (i := 12) (oi := _) (v := .int .i64 bji) rfl (by kernel_rfl) (by kernel_rfl) (by kernel_rfl) (fun _ _ _ h => h) (Or.inl ⟨by rfl, fun w' hSw => ?_⟩) hHeld ?_
                  · obtain ⟨t0, t1, t2, t3⟩ := hSw
                    go_simp
                    try simp [*]
                    try (intro hh; exfalso; omega)
                    try omega
                  try simp only [Act.put, List.setIfInBounds_toArray, List.set_cons_zero, List.set_cons_succ, List.getElem_toArray, List.getElem_cons_succ, List.getElem_cons_zero]
                  refine wpAnyH_take (i := 13) (oi := _) (v := .int .i64 0) rfl (by kernel_rfl) (by kernel_rfl) (by kernel_rfl) (fun _ _ _ h => h) (Or.inl ⟨by rfl, fun w' hSw => ?_⟩) hHeld ?_
                  · obtain ⟨t0, t1, t2, t3⟩ := hSw
                    go_simp
                    try simp [*]
                    try (intro hh; exfalso; omega)
                    try omega
                  try simp only [Act.put, List.setIfInBounds_toArray, List.set_cons_zero, List.set_cons_succ, List.getElem_toArray, List.getElem_cons_succ, List.getElem_cons_zero]
                  refine wpAnyH_done (by kernel_rfl) ?_ _
                  clear hHeld
                  clear m0 m1 n0 n1
                  obtain ⟨m0, m1, n0, n1⟩ := KW.out _ HV3.out
                  go_wp2_with fail
                  have HBN := Lib.hid (HBJ.out.trans (HV3.out.mono HBJ.out.size))
                  go_roundw
                  case rel => exact ⟨j + 1, by omega, by go_num, by rw [HRA.out]; go_num, by rw [HRB.out]; exact congrArg (Value.int IntKind.i64) (by push_cast; omega), HBN.out⟩
                  case measure => simp [intOf]; omega
                · have b2 : (bij == 2) = false := by simpa using g2
                  have hb1 : rkB zs (sp zs i) (j + 1) = rb0 := by have q := HASj.out.2; rw [if_neg g2] at q; exact q
                  have HRB := Lib.hid hb1
                  clear g2 hb1
                  refine wp_region_held_drew (S := fun w' => w'.cell? ⟨b, off + i * 2, none⟩ = some (.int .i64 f0) ∧ w'.cell? ⟨b, off + i * 2 + 1, none⟩ = some (.int .i64 f1) ∧ w'.cell? ⟨b, off + j * 2, none⟩ = some (.int .i64 e0) ∧ w'.cell? ⟨b, off + j * 2 + 1, none⟩ = some (.int .i64 e1)) (by kernel_rfl) ⟨by simpa [go_sem] using m0, by simpa [go_sem] using m1, by simpa [go_sem] using n0, by simpa [go_sem] using n1⟩ (fun hHeld => ?_)
                  refine wpAnyH_take (i := 0) (oi := _) (v := Value.slice (some ⟨b, off, none⟩) k cap) rfl (by kernel_rfl) (by kernel_rfl) (by kernel_rfl) (fun _ _ _ h => h) (Or.inl ⟨by rfl, fun w' hSw => ?_⟩) hHeld ?_
                  · obtain ⟨t0, t1, t2, t3⟩ := hSw
                    go_simp
                    try simp [*]
                    try (intro hh; exfalso; omega)
                    try omega
                  try simp only [Act.put, List.setIfInBounds_toArray, List.set_cons_zero, List.set_cons_succ, List.getElem_toArray, List.getElem_cons_succ, List.getElem_cons_zero]
                  refine wpAnyH_take (i := 1) (oi := _) (v := Value.int .i64 (j : Int)) rfl (by kernel_rfl) (by kernel_rfl) (by kernel_rfl) (fun _ _ _ h => h) (Or.inl ⟨by rfl, fun w' hSw => ?_⟩) hHeld ?_
                  · obtain ⟨t0, t1, t2, t3⟩ := hSw
                    go_simp
                    try simp [*]
                    try (intro hh; exfalso; omega)
                    try omega
                  try simp only [Act.put, List.setIfInBounds_toArray, List.set_cons_zero, List.set_cons_succ, List.getElem_toArray, List.getElem_cons_succ, List.getElem_cons_zero]
                  refine wpAnyH_take (i := 2) (oi := _) (v := Value.pointer (some ⟨b, off + j * 2, none⟩)) rfl (by kernel_rfl) (by kernel_rfl) (by kernel_rfl) (fun _ _ _ h => h) (Or.inl ⟨by rfl, fun w' hSw => ?_⟩) hHeld ?_
                  · obtain ⟨t0, t1, t2, t3⟩ := hSw
                    go_simp
                    try simp [*]
                    try (intro hh; exfalso; omega)
                    try omega
                  try simp only [Act.put, List.setIfInBounds_toArray, List.set_cons_zero, List.set_cons_succ, List.getElem_toArray, List.getElem_cons_succ, List.getElem_cons_zero]
                  refine wpAnyH_take (i := 3) (oi := _) (v := Value.agg #[Value.int .i64 e0, Value.int .i64 e1]) rfl (by kernel_rfl) (by kernel_rfl) (by kernel_rfl) (fun _ _ _ h => h) (Or.inl ⟨by rfl, fun w' hSw => ?_⟩) hHeld ?_
                  · obtain ⟨t0, t1, t2, t3⟩ := hSw
                    go_simp
                    try simp [*]
                    try (intro hh; exfalso; omega)
                    try omega
                  try simp only [Act.put, List.setIfInBounds_toArray, List.set_cons_zero, List.set_cons_succ, List.getElem_toArray, List.getElem_cons_succ, List.getElem_cons_zero]
                  refine wpAnyH_take (i := 4) (oi := _) (v := Value.slice (some ⟨b, off, none⟩) k cap) rfl (by kernel_rfl) (by kernel_rfl) (by kernel_rfl) (fun _ _ _ h => h) (Or.inl ⟨by rfl, fun w' hSw => ?_⟩) hHeld ?_
                  · obtain ⟨t0, t1, t2, t3⟩ := hSw
                    go_simp
                    try simp [*]
                    try (intro hh; exfalso; omega)
                    try omega
                  try simp only [Act.put, List.setIfInBounds_toArray, List.set_cons_zero, List.set_cons_succ, List.getElem_toArray, List.getElem_cons_succ, List.getElem_cons_zero]
                  refine wpAnyH_take (i := 5) (oi := _) (v := Value.int .i64 (i : Int)) rfl (by kernel_rfl) (by kernel_rfl) (by kernel_rfl) (fun _ _ _ h => h) (Or.inl ⟨by rfl, fun w' hSw => ?_⟩) hHeld ?_
                  · obtain ⟨t0, t1, t2, t3⟩ := hSw
                    go_simp
                    try simp [*]
                    try (intro hh; exfalso; omega)
                    try omega
                  try simp only [Act.put, List.setIfInBounds_toArray, List.set_cons_zero, List.set_cons_succ, List.getElem_toArray, List.getElem_cons_succ, List.getElem_cons_zero]
                  refine wpAnyH_take (i := 6) (oi := _) (v := Value.pointer (some ⟨b, off + i * 2, none⟩)) rfl (by kernel_rfl) (by kernel_rfl) (by kernel_rfl) (fun _ _ _ h => h) (Or.inl ⟨by rfl, fun w' hSw => ?_⟩) hHeld ?_
                  · obtain ⟨t0, t1, t2, t3⟩ := hSw
                    go_simp
                    try simp [*]
                    try (intro hh; exfalso; omega)
                    try omega
                  try simp only [Act.put, List.setIfInBounds_toArray, List.set_cons_zero, List.set_cons_succ, List.getElem_toArray, List.getElem_cons_succ, List.getElem_cons_zero]
                  refine wpAnyH_take (i := 7) (oi := _) (v := Value.agg #[Value.int .i64 f0, Value.int .i64 f1]) rfl (by kernel_rfl) (by kernel_rfl) (by kernel_rfl) (fun _ _ _ h => h) (Or.inl ⟨by rfl, fun w' hSw => ?_⟩) hHeld ?_
                  · obtain ⟨t0, t1, t2, t3⟩ := hSw
                    go_simp
                    try simp [*]
                    try (intro hh; exfalso; omega)
                    try omega
                  try simp only [Act.put, List.setIfInBounds_toArray, List.set_cons_zero, List.set_cons_succ, List.getElem_toArray, List.getElem_cons_succ, List.getElem_cons_zero]
                  have HD3 := Lib.hid (show Below wr.heap.size wr _ from HV2.out.drew)
                  refine wpAnyH_ready (rs := [8]) (by kernel_rfl) (by simp) ?_
                  refine AllReadyH.cons (o := _) rfl (fun K hK => ?_) AllReadyH.nil
                  go_simp
                  go_at_call 71
                  refine Calls.mono (C71b.out _) ?_
                  rintro e v3 ⟨rfl, hb⟩
                  have HV3 := Lib.hid (show Below wr.heap.size wr v3 from HD3.out.trans (hb.mono HD3.out.size))
                  clear hb
                  clear hHeld
                  refine hK.out _ _ (KW.out _ HV3.out) (fun hHeld => ?_)
                  clear hK K
                  try simp only [Act.put, List.setIfInBounds_toArray, List.set_cons_zero, List.set_cons_succ, List.getElem_toArray, List.getElem_cons_succ, List.getElem_cons_zero]
                  refine wpAnyH_take (i := 9) (oi := _) (v := .tuple #[.int .i64 bji, .int .i64 0]) rfl (by kernel_rfl) (by kernel_rfl) (by kernel_rfl) (fun _ _ _ h => h) (Or.inl ⟨by rfl, fun w' hSw => ?_⟩) hHeld ?_
                  · obtain ⟨t0, t1, t2, t3⟩ := hSw
                    go_simp
                    try simp [*]
                    try (intro hh; exfalso; omega)
                    try omega
                  try simp only [Act.put, List.setIfInBounds_toArray, List.set_cons_zero, List.set_cons_succ, List.getElem_toArray, List.getElem_cons_succ, List.getElem_cons_zero]
                  refine wpAnyH_take (i := 10) (oi := _) (v := .int .i64 bji) rfl (by kernel_rfl) (by kernel_rfl) (by kernel_rfl) (fun _ _ _ h => h) (Or.inl ⟨by rfl, fun w' hSw => ?_⟩) hHeld ?_
                  · obtain ⟨t0, t1, t2, t3⟩ := hSw
                    go_simp
                    try simp [*]
                    try (intro hh; exfalso; omega)
                    try omega
                  try simp only [Act.put, List.setIfInBounds_toArray, List.set_cons_zero, List.set_cons_succ, List.getElem_toArray, List.getElem_cons_succ, List.getElem_cons_zero]
                  refine wpAnyH_take (i := 11) (oi := _) (v := .int .i64 0) rfl (by kernel_rfl) (by kernel_rfl) (by kernel_rfl) (fun _ _ _ h => h) (Or.inl ⟨by rfl, fun w' hSw => ?_⟩) hHeld ?_
                  · obtain ⟨t0, t1, t2, t3⟩ := hSw
                    go_simp
                    try simp [*]
                    try (intro hh; exfalso; omega)
                    try omega
                  try simp only [Act.put, List.setIfInBounds_toArray, List.set_cons_zero, List.set_cons_succ, List.getElem_toArray, List.getElem_cons_succ, List.getElem_cons_zero]
                  refine wpAnyH_take (i := 12) (oi := _) (v := .int .i64 bji) rfl (by kernel_rfl) (by kernel_rfl) (by kernel_rfl) (fun _ _ _ h => h) (Or.inl ⟨by rfl, fun w' hSw => ?_⟩) hHeld ?_
                  · obtain ⟨t0, t1, t2, t3⟩ := hSw
                    go_simp
                    try simp [*]
                    try (intro hh; exfalso; omega)
                    try omega
                  try simp only [Act.put, List.setIfInBounds_toArray, List.set_cons_zero, List.set_cons_succ, List.getElem_toArray, List.getElem_cons_succ, List.getElem_cons_zero]
                  refine wpAnyH_take (i := 13) (oi := _) (v := .int .i64 0) rfl (by kernel_rfl) (by kernel_rfl) (by kernel_rfl) (fun _ _ _ h => h) (Or.inl ⟨by rfl, fun w' hSw => ?_⟩) hHeld ?_
                  · obtain ⟨t0, t1, t2, t3⟩ := hSw
                    go_simp
                    try simp [*]
                    try (intro hh; exfalso; omega)
                    try omega
                  try simp only [Act.put, List.setIfInBounds_toArray, List.set_cons_zero, List.set_cons_succ, List.getElem_toArray, List.getElem_cons_succ, List.getElem_cons_zero]
                  refine wpAnyH_done (by kernel_rfl) ?_ _
                  clear hHeld
                  clear m0 m1 n0 n1
                  obtain ⟨m0, m1, n0, n1⟩ := KW.out _ HV3.out
                  go_wp2_with fail
                  have HBN := Lib.hid (HBJ.out.trans (HV3.out.mono HBJ.out.size))
                  go_roundw
                  case rel => exact ⟨j + 1, by omega, by go_num, by rw [HRA.out]; go_num, by rw [HRB.out], HBN.out⟩
                  case measure => simp [intOf]; omega
              · have b1 : (bji == 2) = false := by simpa using g1
                have ha1 : rkA zs (sp zs i) (j + 1) = ra0 := by have q := HASj.out.1; rw [if_neg g1] at q; exact q
                have HRA := Lib.hid ha1
                clear g1 ha1
                by_cases g2 : bij = 2
                · have b2 : (bij == 2) = true := by rw [g2]; rfl
                  have hb1 : rkB zs (sp zs i) (j + 1) = rb0 + 1 := by have q := HASj.out.2; rw [if_pos g2] at q; exact q
                  have HRB := Lib.hid hb1
                  clear g2 hb1
                  refine wp_region_held_drew (S := fun w' => w'.cell? ⟨b, off + i * 2, none⟩ = some (.int .i64 f0) ∧ w'.cell? ⟨b, off + i * 2 + 1, none⟩ = some (.int .i64 f1) ∧ w'.cell? ⟨b, off + j * 2, none⟩ = some (.int .i64 e0) ∧ w'.cell? ⟨b, off + j * 2 + 1, none⟩ = some (.int .i64 e1)) (by kernel_rfl) ⟨by simpa [go_sem] using m0, by simpa [go_sem] using m1, by simpa [go_sem] using n0, by simpa [go_sem] using n1⟩ (fun hHeld => ?_)
                  refine wpAnyH_take (i := 0) (oi := _) (v := Value.slice (some ⟨b, off, none⟩) k cap) rfl (by kernel_rfl) (by kernel_rfl) (by kernel_rfl) (fun _ _ _ h => h) (Or.inl ⟨by rfl, fun w' hSw => ?_⟩) hHeld ?_
                  · obtain ⟨t0, t1, t2, t3⟩ := hSw
                    go_simp
                    try simp [*]
                    try (intro hh; exfalso; omega)
                    try omega
                  try simp only [Act.put, List.setIfInBounds_toArray, List.set_cons_zero, List.set_cons_succ, List.getElem_toArray, List.getElem_cons_succ, List.getElem_cons_zero]
                  refine wpAnyH_take (i := 1) (oi := _) (v := Value.int .i64 (j : Int)) rfl (by kernel_rfl) (by kernel_rfl) (by kernel_rfl) (fun _ _ _ h => h) (Or.inl ⟨by rfl, fun w' hSw => ?_⟩) hHeld ?_
                  · obtain ⟨t0, t1, t2, t3⟩ := hSw
                    go_simp
                    try simp [*]
                    try (intro hh; exfalso; omega)
                    try omega
                  try simp only [Act.put, List.setIfInBounds_toArray, List.set_cons_zero, List.set_cons_succ, List.getElem_toArray, List.getElem_cons_succ, List.getElem_cons_zero]
                  refine wpAnyH_take (i := 2) (oi := _) (v := Value.pointer (some ⟨b, off + j * 2, none⟩)) rfl (by kernel_rfl) (by kernel_rfl) (by kernel_rfl) (fun _ _ _ h => h) (Or.inl ⟨by rfl, fun w' hSw => ?_⟩) hHeld ?_
                  · obtain ⟨t0, t1, t2, t3⟩ := hSw
                    go_simp
                    try simp [*]
                    try (intro hh; exfalso; omega)
                    try omega
                  try simp only [Act.put, List.setIfInBounds_toArray, List.set_cons_zero, List.set_cons_succ, List.getElem_toArray, List.getElem_cons_succ, List.getElem_cons_zero]
                  refine wpAnyH_take (i := 3) (oi := _) (v := Value.agg #[Value.int .i64 e0, Value.int .i64 e1]) rfl (by kernel_rfl) (by kernel_rfl) (by kernel_rfl) (fun _ _ _ h => h) (Or.inl ⟨by rfl, fun w' hSw => ?_⟩) hHeld ?_
                  · obtain ⟨t0, t1, t2, t3⟩ := hSw
                    go_simp
                    try simp [*]
                    try (intro hh; exfalso; omega)
                    try omega
                  try simp only [Act.put, List.setIfInBounds_toArray, List.set_cons_zero, List.set_cons_succ, List.getElem_toArray, List.getElem_cons_succ, List.getElem_cons_zero]
                  refine wpAnyH_take (i := 4) (oi := _) (v := Value.slice (some ⟨b, off, none⟩) k cap) rfl (by kernel_rfl) (by kernel_rfl) (by kernel_rfl) (fun _ _ _ h => h) (Or.inl ⟨by rfl, fun w' hSw => ?_⟩) hHeld ?_
                  · obtain ⟨t0, t1, t2, t3⟩ := hSw
                    go_simp
                    try simp [*]
                    try (intro hh; exfalso; omega)
                    try omega
                  try simp only [Act.put, List.setIfInBounds_toArray, List.set_cons_zero, List.set_cons_succ, List.getElem_toArray, List.getElem_cons_succ, List.getElem_cons_zero]
                  refine wpAnyH_take (i := 5) (oi := _) (v := Value.int .i64 (i : Int)) rfl (by kernel_rfl) (by kernel_rfl) (by kernel_rfl) (fun _ _ _ h => h) (Or.inl ⟨by rfl, fun w' hSw => ?_⟩) hHeld ?_
                  · obtain ⟨t0, t1, t2, t3⟩ := hSw
                    go_simp
                    try simp [*]
                    try (intro hh; exfalso; omega)
                    try omega
                  try simp only [Act.put, List.setIfInBounds_toArray, List.set_cons_zero, List.set_cons_succ, List.getElem_toArray, List.getElem_cons_succ, List.getElem_cons_zero]
                  refine wpAnyH_take (i := 6) (oi := _) (v := Value.pointer (some ⟨b, off + i * 2, none⟩)) rfl (by kernel_rfl) (by kernel_rfl) (by kernel_rfl) (fun _ _ _ h => h) (Or.inl ⟨by rfl, fun w' hSw => ?_⟩) hHeld ?_
                  · obtain ⟨t0, t1, t2, t3⟩ := hSw
                    go_simp
                    try simp [*]
                    try (intro hh; exfalso; omega)
                    try omega
                  try simp only [Act.put, List.setIfInBounds_toArray, List.set_cons_zero, List.set_cons_succ, List.getElem_toArray, List.getElem_cons_succ, List.getElem_cons_zero]
                  refine wpAnyH_take (i := 7) (oi := _) (v := Value.agg #[Value.int .i64 f0, Value.int .i64 f1]) rfl (by kernel_rfl) (by kernel_rfl) (by kernel_rfl) (fun _ _ _ h => h) (Or.inl ⟨by rfl, fun w' hSw => ?_⟩) hHeld ?_
                  · obtain ⟨t0, t1, t2, t3⟩ := hSw
                    go_simp
                    try simp [*]
                    try (intro hh; exfalso; omega)
                    try omega
                  try simp only [Act.put, List.setIfInBounds_toArray, List.set_cons_zero, List.set_cons_succ, List.getElem_toArray, List.getElem_cons_succ, List.getElem_cons_zero]
                  have HD3 := Lib.hid (show Below wr.heap.size wr _ from HV2.out.drew)
                  refine wpAnyH_ready (rs := [8]) (by kernel_rfl) (by simp) ?_
                  refine AllReadyH.cons (o := _) rfl (fun K hK => ?_) AllReadyH.nil
                  go_simp
                  go_at_call 71
                  refine Calls.mono (C71b.out _) ?_
                  rintro e v3 ⟨rfl, hb⟩
                  have HV3 := Lib.hid (show Below wr.heap.size wr v3 from HD3.out.trans (hb.mono HD3.out.size))
                  clear hb
                  clear hHeld
                  refine hK.out _ _ (KW.out _ HV3.out) (fun hHeld => ?_)
                  clear hK K
                  try simp only [Act.put, List.setIfInBounds_toArray, List.set_cons_zero, List.set_cons_succ, List.getElem_toArray, List.getElem_cons_succ, List.getElem_cons_zero]
                  refine wpAnyH_take (i := 9) (oi := _) (v := .tuple #[.int .i64 bji, .int .i64 0]) rfl (by kernel_rfl) (by kernel_rfl) (by kernel_rfl) (fun _ _ _ h => h) (Or.inl ⟨by rfl, fun w' hSw => ?_⟩) hHeld ?_
                  · obtain ⟨t0, t1, t2, t3⟩ := hSw
                    go_simp
                    try simp [*]
                    try (intro hh; exfalso; omega)
                    try omega
                  try simp only [Act.put, List.setIfInBounds_toArray, List.set_cons_zero, List.set_cons_succ, List.getElem_toArray, List.getElem_cons_succ, List.getElem_cons_zero]
                  refine wpAnyH_take (i := 10) (oi := _) (v := .int .i64 bji) rfl (by kernel_rfl) (by kernel_rfl) (by kernel_rfl) (fun _ _ _ h => h) (Or.inl ⟨by rfl, fun w' hSw => ?_⟩) hHeld ?_
                  · obtain ⟨t0, t1, t2, t3⟩ := hSw
                    go_simp
                    try simp [*]
                    try (intro hh; exfalso; omega)
                    try omega
                  try simp only [Act.put, List.setIfInBounds_toArray, List.set_cons_zero, List.set_cons_succ, List.getElem_toArray, List.getElem_cons_succ, List.getElem_cons_zero]
                  refine wpAnyH_take (i := 11) (oi := _) (v := .int .i64 0) rfl (by kernel_rfl) (by kernel_rfl) (by kernel_rfl) (fun _ _ _ h => h) (Or.inl ⟨by rfl, fun w' hSw => ?_⟩) hHeld ?_
                  · obtain ⟨t0, t1, t2, t3⟩ := hSw
                    go_simp
                    try simp [*]
                    try (intro hh; exfalso; omega)
                    try omega
                  try simp only [Act.put, List.setIfInBounds_toArray, List.set_cons_zero, List.set_cons_succ, List.getElem_toArray, List.getElem_cons_succ, List.getElem_cons_zero]
                  refine wpAnyH_take (i := 12) (oi := _) (v := .int .i64 bji) rfl (by kernel_rfl) (by kernel_rfl) (by kernel_rfl) (fun _ _ _ h => h) (Or.inl ⟨by rfl, fun w' hSw => ?_⟩) hHeld ?_
                  · obtain ⟨t0, t1, t2, t3⟩ := hSw
                    go_simp
                    try simp [*]
                    try (intro hh; exfalso; omega)
                    try omega
                  try simp only [Act.put, List.setIfInBounds_toArray, List.set_cons_zero, List.set_cons_succ, List.getElem_toArray, List.getElem_cons_succ, List.getElem_cons_zero]
                  refine wpAnyH_take (i := 13) (oi := _) (v := .int .i64 0) rfl (by kernel_rfl) (by kernel_rfl) (by kernel_rfl) (fun _ _ _ h => h) (Or.inl ⟨by rfl, fun w' hSw => ?_⟩) hHeld ?_
                  · obtain ⟨t0, t1, t2, t3⟩ := hSw
                    go_simp
                    try simp [*]
                    try (intro hh; exfalso; omega)
                    try omega
                  try simp only [Act.put, List.setIfInBounds_toArray, List.set_cons_zero, List.set_cons_succ, List.getElem_toArray, List.getElem_cons_succ, List.getElem_cons_zero]
                  refine wpAnyH_done (by kernel_rfl) ?_ _
                  clear hHeld
                  clear m0 m1 n0 n1
                  obtain ⟨m0, m1, n0, n1⟩ := KW.out _ HV3.out
                  go_wp2_with fail
                  have HBN := Lib.hid (HBJ.out.trans (HV3.out.mono HBJ.out.size))
                  go_roundw
                  case rel => exact ⟨j + 1, by omega, by go_num, by rw [HRA.out], by rw [HRB.out]; exact congrArg (Value.int IntKind.i64) (by push_cast; omega), HBN.out⟩
                  case measure => simp [intOf]; omega
                · have b2 : (bij == 2) = false := by simpa using g2
                  have hb1 : rkB zs (sp zs i) (j + 1) = rb0 := by have q := HASj.out.2; rw [if_neg g2] at q; exact q
                  have HRB := Lib.hid hb1
                  clear g2 hb1
                  refine wp_region_held_drew (S := fun w' => w'.cell? ⟨b, off + i * 2, none⟩ = some (.int .i64 f0) ∧ w'.cell? ⟨b, off + i * 2 + 1, none⟩ = some (.int .i64 f1) ∧ w'.cell? ⟨b, off + j * 2, none⟩ = some (.int .i64 e0) ∧ w'.cell? ⟨b, off + j * 2 + 1, none⟩ = some (.int .i64 e1)) (by kernel_rfl) ⟨by simpa [go_sem] using m0, by simpa [go_sem] using m1, by simpa [go_sem] using n0, by simpa [go_sem] using n1⟩ (fun hHeld => ?_)
                  refine wpAnyH_take (i := 0) (oi := _) (v := Value.slice (some ⟨b, off, none⟩) k cap) rfl (by kernel_rfl) (by kernel_rfl) (by kernel_rfl) (fun _ _ _ h => h) (Or.inl ⟨by rfl, fun w' hSw => ?_⟩) hHeld ?_
                  · obtain ⟨t0, t1, t2, t3⟩ := hSw
                    go_simp
                    try simp [*]
                    try (intro hh; exfalso; omega)
                    try omega
                  try simp only [Act.put, List.setIfInBounds_toArray, List.set_cons_zero, List.set_cons_succ, List.getElem_toArray, List.getElem_cons_succ, List.getElem_cons_zero]
                  refine wpAnyH_take (i := 1) (oi := _) (v := Value.int .i64 (j : Int)) rfl (by kernel_rfl) (by kernel_rfl) (by kernel_rfl) (fun _ _ _ h => h) (Or.inl ⟨by rfl, fun w' hSw => ?_⟩) hHeld ?_
                  · obtain ⟨t0, t1, t2, t3⟩ := hSw
                    go_simp
                    try simp [*]
                    try (intro hh; exfalso; omega)
                    try omega
                  try simp only [Act.put, List.setIfInBounds_toArray, List.set_cons_zero, List.set_cons_succ, List.getElem_toArray, List.getElem_cons_succ, List.getElem_cons_zero]
                  refine wpAnyH_take (i := 2) (oi := _) (v := Value.pointer (some ⟨b, off + j * 2, none⟩)) rfl (by kernel_rfl) (by kernel_rfl) (by kernel_rfl) (fun _ _ _ h => h) (Or.inl ⟨by rfl, fun w' hSw => ?_⟩) hHeld ?_
                  · obtain ⟨t0, t1, t2, t3⟩ := hSw
                    go_simp
                    try simp [*]
                    try (intro hh; exfalso; omega)
                    try omega
                  try simp only [Act.put, List.setIfInBounds_toArray, List.set_cons_zero, List.set_cons_succ, List.getElem_toArray, List.getElem_cons_succ, List.getElem_cons_zero]
                  refine wpAnyH_take (i := 3) (oi := _) (v := Value.agg #[Value.int .i64 e0, Value.int .i64 e1]) rfl (by kernel_rfl) (by kernel_rfl) (by kernel_rfl) (fun _ _ _ h => h) (Or.inl ⟨by rfl, fun w' hSw => ?_⟩) hHeld ?_
                  · obtain ⟨t0, t1, t2, t3⟩ := hSw
                    go_simp
                    try simp [*]
                    try (intro hh; exfalso; omega)
                    try omega
                  try simp only [Act.put, List.setIfInBounds_toArray, List.set_cons_zero, List.set_cons_succ, List.getElem_toArray, List.getElem_cons_succ, List.getElem_cons_zero]
                  refine wpAnyH_take (i := 4) (oi := _) (v := Value.slice (some ⟨b, off, none⟩) k cap) rfl (by kernel_rfl) (by kernel_rfl) (by kernel_rfl) (fun _ _ _ h => h) (Or.inl ⟨by rfl, fun w' hSw => ?_⟩) hHeld ?_
                  · obtain ⟨t0, t1, t2, t3⟩ := hSw
                    go_simp
                    try simp [*]
                    try (intro hh; exfalso; omega)
                    try omega
                  try simp only [Act.put, List.setIfInBounds_toArray, List.set_cons_zero, List.set_cons_succ, List.getElem_toArray, List.getElem_cons_succ, List.getElem_cons_zero]
                  refine wpAnyH_take (i := 5) (oi := _) (v := Value.int .i64 (i : Int)) rfl (by kernel_rfl) (by kernel_rfl) (by kernel_rfl) (fun _ _ _ h => h) (Or.inl ⟨by rfl, fun w' hSw => ?_⟩) hHeld ?_
                  · obtain ⟨t0, t1, t2, t3⟩ := hSw
                    go_simp
                    try simp [*]
                    try (intro hh; exfalso; omega)
                    try omega
                  try simp only [Act.put, List.setIfInBounds_toArray, List.set_cons_zero, List.set_cons_succ, List.getElem_toArray, List.getElem_cons_succ, List.getElem_cons_zero]
                  refine wpAnyH_take (i := 6) (oi := _) (v := Value.pointer (some ⟨b, off + i * 2, none⟩)) rfl (by kernel_rfl) (by kernel_rfl) (by kernel_rfl) (fun _ _ _ h => h) (Or.inl ⟨by rfl, fun w' hSw => ?_⟩) hHeld ?_
                  · obtain ⟨t0, t1, t2, t3⟩ := hSw
                    go_simp
                    try simp [*]
                    try (intro hh; exfalso; omega)
                    try omega
                  try simp only [Act.put, List.setIfInBounds_toArray, List.set_cons_zero, List.set_cons_succ, List.getElem_toArray, List.getElem_cons_succ, List.getElem_cons_zero]
                  refine wpAnyH_take (i := 7) (oi := _) (v := Value.agg #[Value.int .i64 f0, Value.int .i64 f1]) rfl (by kernel_rfl) (by kernel_rfl) (by kernel_rfl) (fun _ _ _ h => h) (Or.inl ⟨by rfl, fun w' hSw => ?_⟩) hHeld ?_
                  · obtain ⟨t0, t1, t2, t3⟩ := hSw
                    go_simp
                    try simp [*]
                    try (intro hh; exfalso; omega)
                    try omega
                  try simp only [Act.put, List.setIfInBounds_toArray, List.set_cons_zero, List.set_cons_succ, List.getElem_toArray, List.getElem_cons_succ, List.getElem_cons_zero]
                  have HD3 := Lib.hid (show Below wr.heap.size wr _ from HV2.out.drew)
                  refine wpAnyH_ready (rs := [8]) (by kernel_rfl) (by simp) ?_
                  refine AllReadyH.cons (o := _) rfl (fun K hK => ?_) AllReadyH.nil
                  go_simp
                  go_at_call 71
                  refine Calls.mono (C71b.out _) ?_
                  rintro e v3 ⟨rfl, hb⟩
                  have HV3 := Lib.hid (show Below wr.heap.size wr v3 from HD3.out.trans (hb.mono HD3.out.size))
                  clear hb
                  clear hHeld
                  refine hK.out _ _ (KW.out _ HV3.out) (fun hHeld => ?_)
                  clear hK K
                  try simp only [Act.put, List.setIfInBounds_toArray, List.set_cons_zero, List.set_cons_succ, List.getElem_toArray, List.getElem_cons_succ, List.getElem_cons_zero]
                  refine wpAnyH_take (i := 9) (oi := _) (v := .tuple #[.int .i64 bji, .int .i64 0]) rfl (by kernel_rfl) (by kernel_rfl) (by kernel_rfl) (fun _ _ _ h => h) (Or.inl ⟨by rfl, fun w' hSw => ?_⟩) hHeld ?_
                  · obtain ⟨t0, t1, t2, t3⟩ := hSw
                    go_simp
                    try simp [*]
                    try (intro hh; exfalso; omega)
                    try omega
                  try simp only [Act.put, List.setIfInBounds_toArray, List.set_cons_zero, List.set_cons_succ, List.getElem_toArray, List.getElem_cons_succ, List.getElem_cons_zero]
                  refine wpAnyH_take (i := 10) (oi := _) (v := .int .i64 bji) rfl (by kernel_rfl) (by kernel_rfl) (by kernel_rfl) (fun _ _ _ h => h) (Or.inl ⟨by rfl, fun w' hSw => ?_⟩) hHeld ?_
                  · obtain ⟨t0, t1, t2, t3⟩ := hSw
                    go_simp
                    try simp [*]
                    try (intro hh; exfalso; omega)
                    try omega
                  try simp only [Act.put, List.setIfInBounds_toArray, List.set_cons_zero, List.set_cons_succ, List.getElem_toArray, List.getElem_cons_succ, List.getElem_cons_zero]
                  refine wpAnyH_take (i := 11) (oi := _) (v := .int .i64 0) rfl (by kernel_rfl) (by kernel_rfl) (by kernel_rfl) (fun _ _ _ h => h) (Or.inl ⟨by rfl, fun w' hSw => ?_⟩) hHeld ?_
                  · obtain ⟨t0, t1, t2, t3⟩ := hSw
                    go_simp
                    try simp [*]
                    try (intro hh; exfalso; omega)
                    try omega
                  try simp only [Act.put, List.setIfInBounds_toArray, List.set_cons_zero, List.set_cons_succ, List.getElem_toArray, List.getElem_cons_succ, List.getElem_cons_zero]
                  refine wpAnyH_take (i := 12) (oi := _) (v := .int .i64 bji) rfl (by kernel_rfl) (by kernel_rfl) (by kernel_rfl) (fun _ _ _ h => h) (Or.inl ⟨by rfl, fun w' hSw => ?_⟩) hHeld ?_
                  · obtain ⟨t0, t1, t2, t3⟩ := hSw
                    go_simp
                    try simp [*]
                    try (intro hh; exfalso; omega)
                    try omega
                  try simp only [Act.put, List.setIfInBounds_toArray, List.set_cons_zero, List.set_cons_succ, List.getElem_toArray, List.getElem_cons_succ, List.getElem_cons_zero]
                  refine wpAnyH_take (i := 13) (oi := _) (v := .int .i64 0) rfl (by kernel_rfl) (by kernel_rfl) (by kernel_rfl) (fun _ _ _ h => h) (Or.inl ⟨by rfl, fun w' hSw => ?_⟩) hHeld ?_
                  · obtain ⟨t0, t1, t2, t3⟩ := hSw
                    go_simp
                    try simp [*]
                    try (intro hh; exfalso; omega)
                    try omega
                  try simp only [Act.put, List.setIfInBounds_toArray, List.set_cons_zero, List.set_cons_succ, List.getElem_toArray, List.getElem_cons_succ, List.getElem_cons_zero]
                  refine wpAnyH_done (by kernel_rfl) ?_ _
                  clear hHeld
                  clear m0 m1 n0 n1
                  obtain ⟨m0, m1, n0, n1⟩ := KW.out _ HV3.out
                  go_wp2_with fail
                  have HBN := Lib.hid (HBJ.out.trans (HV3.out.mono HBJ.out.size))
                  go_roundw
                  case rel => exact ⟨j + 1, by omega, by go_num, by rw [HRA.out], by rw [HRB.out], HBN.out⟩
                  case measure => simp [intOf]; omega
            · obtain rfl : j = k := by omega
              obtain ⟨q0, q1⟩ := HRI.out _ HBJ.out
              have HIJ := Lib.hid hil
              clear hjk
              generalize ((rkA zs (sp zs i) j : Nat) : Int) = qa at *
              generalize ((rkB zs (sp zs i) j : Nat) : Int) = qb at *
              go_wp2_with fail
              go_roundw
              case rel => exact ⟨i + 1, by have := HIJ.out; omega, by go_num, HBJ.out⟩
              case measure => have := HIJ.out; simp [intOf]; omega
        · obtain rfl : i = k := by omega
          obtain ⟨q, hq⟩ : ∃ q, q = comR zs := ⟨_, rfl⟩
          have HBX := Lib.hid (HB2.out.trans (HBI.out.mono HB2.out.size))
          have c48b := c48.out _ HBX.out
          rw [← hq] at c48b
          have HQ := Lib.hid hq
          obtain ⟨q0, q1, qe⟩ := q
          unfold R3.out at c48b
          dsimp only at c48b
          have C48 := Lib.hid c48b
          clear hq c48b hlt HRC HRL
          go_wp2_with fail
          refine C48.out.mono ?_
          rintro e w3 ⟨rfl, hb⟩
          have HB3 := Lib.hid (HBX.out.trans (hb.mono HBX.out.size))
          clear hb C48
          go_upto_region 30 with fail
          obtain ⟨V, hV⟩ : ∃ V, V = w3.alloc (.cells #[.int .i64 q0, .int .i64 q1] 23) := ⟨_, rfl⟩
          try rw [← hV]
          have HXQ := Lib.hid (show Bx2 V w3.heap.size (.int .i64 q0) (.int .i64 q1) by rw [hV]; exact Bx2.new _ _ _)
          have HBV := Lib.hid (show Below w.heap.size w V by rw [hV]; exact HB3.out.alloc HB3.out.size _)
          clear hV
          by_cases hk0 : i = 0
          · have hz := HQ.out.trans (com_none (by rw [HN.out]; exact hk0) HEV.out)
            simp only [R3.mk.injEq] at hz
            obtain ⟨rfl, rfl, rfl⟩ := hz
            subst hk0
            go_wp2_with fail
            refine (c59 _).mono ?_
            rintro e wz ⟨rfl, hbz⟩
            have HBZ := Lib.hid (HBV.out.trans (hbz.mono HBV.out.size))
            clear hbz
            go_wp2_with fail
            go_ret
            exact ⟨rfl, HBZ.out⟩
          have hl0 : 0 < zs.length := by rw [HN.out]; omega
          obtain ⟨b, off, hab, hb0, z0, z1⟩ := HC.out _ 0 HBV.out (by omega)
          subst hab
          simp only [Nat.zero_mul, Nat.add_zero] at z0 z1
          have HONE := Lib.hid (acS_one hl0)
          have HALV := HAV.out
          have HST := Lib.hid (fun j (hj : j < i) (h : (acS zs j).1 ≤ (acS zs j).2) => acS_meet HALV (j := j) (by rw [HN.out]; exact hj) h)
          have HEMP := Lib.hid (fun j (h : (acS zs j).2 < (acS zs j).1) => HQ.out.trans (com_empty HEV.out (j := j) h))
          have HFUL := Lib.hid (fun (h : (acS zs i).1 ≤ (acS zs i).2) => HQ.out.trans (com_full HEV.out hl0 (by rw [HN.out]; exact h)))
          have H1V := Lib.hid (show (acS zs 1).1 ≤ (acS zs 1).2 from by rw [HONE.out]; exact ((vB_iff _ _).1 (HALV 0 hl0)).1)
          have HIN0 := Lib.hid (show ∀ j, j < i → ∀ W, Below w.heap.size w W → W.cell? ⟨b, off + j * 2, none⟩ = some (.int .i64 (sp zs j).1) ∧ W.cell? ⟨b, off + j * 2 + 1, none⟩ = some (.int .i64 (sp zs j).2) from fun j hj W h => by
            obtain ⟨b', off', hab, -, e0, e1⟩ := HC.out W j h hj
            simp only [Option.some.injEq, Addr.mk.injEq, and_true] at hab
            obtain ⟨rfl, rfl⟩ := hab
            exact ⟨e0, e1⟩)
          have HBV2 := Lib.hid (show Below V.heap.size V (V.alloc (.cells #[.int .i64 (acS zs 1).1, .int .i64 (acS zs 1).2] 23)) from (Below.refl _ _).alloc (Nat.le_refl _) _)
          have HXA := Lib.hid (Bx2.new V (.int .i64 (acS zs 1).1) (.int .i64 (acS zs 1).2))
          rw [← HONE.out] at z0 z1
          have hkk : ¬ i = 0 := hk0
          have hk1 : ((i : Int) == 0) = false := by simp; omega
          go_upto_region 33 with fail
          obtain ⟨V2, hV⟩ : ∃ W, W = V.alloc (.cells #[.int .i64 (acS zs 1).1, .int .i64 (acS zs 1).2] 23) := ⟨_, rfl⟩
          try rw [← hV]
          rw [← hV] at HBV2 HXA
          have HVL := Lib.hid HXQ.out.lt
          have HUV := Lib.hid (show ∀ W, Below V.heap.size V W → Below w.heap.size w W from fun W h => HBV.out.trans (h.mono HBV.out.size))
          clear hV z0 z1 hk1 hkk
          go_wp2_with fail
          go_loopw [18] (fun iv wr => ∃ j : Nat, 1 ≤ j ∧ j ≤ i ∧ iv = .int .i64 j ∧ Bx2 wr V.heap.size (.int .i64 (acS zs j).1) (.int .i64 (acS zs j).2) ∧ (acS zs j).1 ≤ (acS zs j).2 ∧ Below V.heap.size V wr) (fun iv _ => i - (intOf iv).toNat)
          case atStart => exact ⟨1, Nat.le_refl _, by omega, rfl, HXA.out, H1V.out, HBV2.out⟩
          case round =>
            obtain ⟨j, hj1, hj, rfl, hx, hle, hB⟩ := hrel
            have HX := Lib.hid hx
            have HBJ := Lib.hid hB
            clear hB
            by_cases hjk : j < i
            · have hjl : (j : Int) < (i : Int) := by omega
              obtain ⟨n0, n1⟩ := HIN0.out j hjk _ (HUV.out _ HBJ.out)
              have d0 := hx.c0
              have d1 := hx.c1
              have hst := HST.out j hjk hle
              have c68 := fun W => bmeet_any (acS zs j).1 (acS zs j).2 (sp zs j).1 (sp zs j).2 W
              rw [hst] at c68
              have hbw : b < wr.heap.size := Nat.lt_of_lt_of_le hb0 (HUV.out _ HBJ.out).size
              have hvw := hx.lt
              have HEMj := Lib.hid (HEMP.out (j + 1))
              clear hst hx
              generalize hu0 : (acS zs (j + 1)).1 = u0 at *
              generalize hu1 : (acS zs (j + 1)).2 = u1 at *
              have HU0 := Lib.hid hu0
              have HU1 := Lib.hid hu1
              clear hu0 hu1
              generalize (sp zs j).1 = e0 at *
              generalize (sp zs j).2 = e1 at *
              generalize (acS zs j).1 = a0 at *
              generalize (acS zs j).2 = a1 at *
              have KW := Lib.hid (show ∀ W, Below wr.heap.size wr W → W.cell? ⟨V.heap.size, 0, none⟩ = some (.int .i64 a0) ∧ W.cell? ⟨V.heap.size, 1, none⟩ = some (.int .i64 a1) ∧ W.cell? ⟨b, off + j * 2, none⟩ = some (.int .i64 e0) ∧ W.cell? ⟨b, off + j * 2 + 1, none⟩ = some (.int .i64 e1) from fun W h => ⟨(h.cell (p := ⟨V.heap.size, 0, none⟩) hvw).trans d0, (h.cell (p := ⟨V.heap.size, 1, none⟩) hvw).trans d1, (h.cell (p := ⟨b, _, none⟩) hbw).trans n0, (h.cell (p := ⟨b, _, none⟩) hbw).trans n1⟩)
              obtain ⟨m, hm⟩ : ∃ m : R3, m = (if u1 < u0 then ⟨0, 0, 5⟩ else ⟨u0, u1, 0⟩) := ⟨_, rfl⟩
              rw [← hm] at c68
              have HM := Lib.hid hm
              clear hm
              obtain ⟨m0, m1, me⟩ := m
              dsimp only at c68
              have C68 := Lib.hid c68
              clear c68
              go_upto_region 36 with fail
              go_cut [19, 20] from 156 to 164 (fun s19 s20 wc => ∃ B, s19 = Value.pointer (some ⟨B, 0, none⟩) ∧ s20 = Value.int .i64 me ∧ Bx2 wc B (.int .i64 m0) (.int .i64 m1) ∧ Below wr.heap.size wr wc ∧ wr.heap.size ≤ B)
              case first =>
                refine wp_region_held_drew (S := fun w' => w'.cell? ⟨V.heap.size, 0, none⟩ = some (.int .i64 a0) ∧ w'.cell? ⟨V.heap.size, 1, none⟩ = some (.int .i64 a1) ∧ w'.cell? ⟨b, off + j * 2, none⟩ = some (.int .i64 e0) ∧ w'.cell? ⟨b, off + j * 2 + 1, none⟩ = some (.int .i64 e1)) (by kernel_rfl) ⟨by simpa [go_sem] using d0, by simpa [go_sem] using d1, by simpa [go_sem] using n0, by simpa [go_sem] using n1⟩ (fun hHeld => ?_)
                refine wpAnyH_take (i := 0) (oi := _) (v := Value.agg #[Value.int .i64 a0, Value.int .i64 a1]) rfl (by kernel_rfl) (by kernel_rfl) (by kernel_rfl) (fun _ _ _ h => h) (Or.inl ⟨by rfl, fun w' hSw => ?_⟩) hHeld ?_
                · obtain ⟨t0, t1, t2, t3⟩ := hSw
                  go_simp
                  try simp [*]
                  try (intro hh; exfalso; omega)
                  try omega
                try simp only [Act.put, List.setIfInBounds_toArray, List.set_cons_zero, List.set_cons_succ, List.getElem_toArray, List.getElem_cons_succ, List.getElem_cons_zero]
                refine wpAnyH_take (i := 1) (oi := _) (v := Value.slice (some ⟨b, off, none⟩) i cap) rfl (by kernel_rfl) (by kernel_rfl) (by kernel_rfl) (fun _ _ _ h => h) (Or.inl ⟨by rfl, fun w' hSw => ?_⟩) hHeld ?_
                · obtain ⟨t0, t1, t2, t3⟩ := hSw
                  go_simp
                  try simp [*]
                  try (intro hh; exfalso; omega)
                  try omega
                try simp only [Act.put, List.setIfInBounds_toArray, List.set_cons_zero, List.set_cons_succ, List.getElem_toArray, List.getElem_cons_succ, List.getElem_cons_zero]
                refine wpAnyH_take (i := 2) (oi := _) (v := Value.int .i64 (j : Int)) rfl (by kernel_rfl) (by kernel_rfl) (by kernel_rfl) (fun _ _ _ h => h) (Or.inl ⟨by rfl, fun w' hSw => ?_⟩) hHeld ?_
                · obtain ⟨t0, t1, t2, t3⟩ := hSw
                  go_simp
                  try simp [*]
                  try (intro hh; exfalso; omega)
                  try omega
                try simp only [Act.put, List.setIfInBounds_toArray, List.set_cons_zero, List.set_cons_succ, List.getElem_toArray, List.getElem_cons_succ, List.getElem_cons_zero]
                refine wpAnyH_take (i := 3) (oi := _) (v := Value.pointer (some ⟨b, off + j * 2, none⟩)) rfl (by kernel_rfl) (by kernel_rfl) (by kernel_rfl) (fun _ _ _ h => h) (Or.inl ⟨by rfl, fun w' hSw => ?_⟩) hHeld ?_
                · obtain ⟨t0, t1, t2, t3⟩ := hSw
                  go_simp
                  try simp [*]
                  try (intro hh; exfalso; omega)
                  try omega
                try simp only [Act.put, List.setIfInBounds_toArray, List.set_cons_zero, List.set_cons_succ, List.getElem_toArray, List.getElem_cons_succ, List.getElem_cons_zero]
                refine wpAnyH_take (i := 4) (oi := _) (v := Value.agg #[Value.int .i64 e0, Value.int .i64 e1]) rfl (by kernel_rfl) (by kernel_rfl) (by kernel_rfl) (fun _ _ _ h => h) (Or.inl ⟨by rfl, fun w' hSw => ?_⟩) hHeld ?_
                · obtain ⟨t0, t1, t2, t3⟩ := hSw
                  go_simp
                  try simp [*]
                  try (intro hh; exfalso; omega)
                  try omega
                try simp only [Act.put, List.setIfInBounds_toArray, List.set_cons_zero, List.set_cons_succ, List.getElem_toArray, List.getElem_cons_succ, List.getElem_cons_zero]
                have HD0 := Lib.hid (show Below wr.heap.size wr wr.drew from (Below.refl _ _).drew)
                refine wpAnyH_ready (rs := [5, 9]) (by kernel_rfl) (by simp) ?_
                refine AllReadyH.cons (o := _) rfl (fun K hK => ?_) (AllReadyH.cons (o := _) rfl (fun K hK => ?_) (AllReadyH.nil))
                · go_simp
                  go_at_call 68
                  refine Calls.mono (C68.out _) ?_
                  rintro e v1 ⟨rfl, hb9⟩
                  have HV1 := Lib.hid (show Below wr.heap.size wr v1 from Below.trans HD0.out (hb9.mono (Below.size HD0.out)))
                  clear hb9
                  clear hHeld
                  refine hK.out _ _ (KW.out _ HV1.out) (fun hHeld => ?_)
                  clear hK K
                  try simp only [Act.put, List.setIfInBounds_toArray, List.set_cons_zero, List.set_cons_succ, List.getElem_toArray, List.getElem_cons_succ, List.getElem_cons_zero]
                  refine wpAnyH_take (i := 6) (oi := _) (v := Value.tuple #[Value.agg #[Value.int .i64 m0, Value.int .i64 m1], Value.int .i64 me]) rfl (by kernel_rfl) (by kernel_rfl) (by kernel_rfl) (fun _ _ _ h => h) (Or.inl ⟨by rfl, fun w' hSw => ?_⟩) hHeld ?_
                  · obtain ⟨t0, t1, t2, t3⟩ := hSw
                    go_simp
                    try simp [*]
                    try (intro hh; exfalso; omega)
                    try omega
                  try simp only [Act.put, List.setIfInBounds_toArray, List.set_cons_zero, List.set_cons_succ, List.getElem_toArray, List.getElem_cons_succ, List.getElem_cons_zero]
                  refine wpAnyH_take (i := 7) (oi := _) (v := Value.agg #[Value.int .i64 m0, Value.int .i64 m1]) rfl (by kernel_rfl) (by kernel_rfl) (by kernel_rfl) (fun _ _ _ h => h) (Or.inl ⟨by rfl, fun w' hSw => ?_⟩) hHeld ?_
                  · obtain ⟨t0, t1, t2, t3⟩ := hSw
                    go_simp
                    try simp [*]
                    try (intro hh; exfalso; omega)
                    try omega
                  try simp only [Act.put, List.setIfInBounds_toArray, List.set_cons_zero, List.set_cons_succ, List.getElem_toArray, List.getElem_cons_succ, List.getElem_cons_zero]
                  refine wpAnyH_take (i := 8) (oi := _) (v := Value.int .i64 me) rfl (by kernel_rfl) (by kernel_rfl) (by kernel_rfl) (fun _ _ _ h => h) (Or.inl ⟨by rfl, fun w' hSw => ?_⟩) hHeld ?_
                  · obtain ⟨t0, t1, t2, t3⟩ := hSw
                    go_simp
                    try simp [*]
                    try (intro hh; exfalso; omega)
                    try omega
                  try simp only [Act.put, List.setIfInBounds_toArray, List.set_cons_zero, List.set_cons_succ, List.getElem_toArray, List.getElem_cons_succ, List.getElem_cons_zero]
                  refine wpAnyH_ready (rs := [9]) (by kernel_rfl) (by simp) ?_
                  refine AllReadyH.cons (o := _) rfl (fun K hK => ?_) AllReadyH.nil
                  go_simp
                  have HVa := Lib.hid (show Below wr.heap.size wr (v1.alloc (.cells #[.int .i64 0, .int .i64 0] 23)) from HV1.out.alloc HV1.out.size _)
                  clear hHeld
                  refine hK.out _ _ (KW.out _ HVa.out) (fun hHeld => ?_)
                  clear hK K
                  try simp only [Act.put, List.setIfInBounds_toArray, List.set_cons_zero, List.set_cons_succ, List.getElem_toArray, List.getElem_cons_succ, List.getElem_cons_zero]
                  obtain ⟨Z, hZe⟩ : ∃ Z, Z = v1.alloc (.cells #[.int .i64 m0, .int .i64 m1] 23) := ⟨_, rfl⟩
                  have hZ : Bx2 Z v1.heap.size (.int .i64 m0) (.int .i64 m1) := by rw [hZe]; exact Bx2.new _ _ _
                  have hBZ : Below wr.heap.size wr Z := by rw [hZe]; exact HV1.out.alloc HV1.out.size _
                  refine wpAnyH_ready (rs := [10]) (by kernel_rfl) (by simp) ?_
                  refine AllReadyH.cons (o := _) rfl (fun K hK => ?_) AllReadyH.nil
                  go_simp
                  try rw [← hZe]
                  clear hHeld
                  refine hK.out _ _ (KW.out _ hBZ) (fun hHeld => ?_)
                  clear hK K
                  try simp only [Act.put, List.setIfInBounds_toArray, List.set_cons_zero, List.set_cons_succ, List.getElem_toArray, List.getElem_cons_succ, List.getElem_cons_zero]
                  clear hZe
                  refine wpAnyH_take (i := 11) (oi := _) (v := Value.int .i64 me) rfl (by kernel_rfl) (by kernel_rfl) (by kernel_rfl) (fun _ _ _ h => h) (Or.inl ⟨by rfl, fun w' hSw => ?_⟩) hHeld ?_
                  · obtain ⟨t0, t1, t2, t3⟩ := hSw
                    go_simp
                    try simp [*]
                    try (intro hh; exfalso; omega)
                    try omega
                  try simp only [Act.put, List.setIfInBounds_toArray, List.set_cons_zero, List.set_cons_succ, List.getElem_toArray, List.getElem_cons_succ, List.getElem_cons_zero]
                  refine wpAnyH_done (by kernel_rfl) ?_ _
                  clear hHeld
                  go_wp2_with fail
                  go_meet
                  case rel => exact ⟨_, rfl, by first | rfl | trivial, hZ, hBZ, by first | exact Nat.le_refl _ | exact HV1.out.size⟩
                · go_simp
                  have HVa := Lib.hid (show Below wr.heap.size wr (wr.drew.alloc (.cells #[.int .i64 0, .int .i64 0] 23)) from ((Below.refl _ _).drew).alloc (Nat.le_refl _) _)
                  have HX0 := Lib.hid (show Bx2 (wr.drew.alloc (.cells #[.int .i64 0, .int .i64 0] 23)) wr.heap.size (.int .i64 0) (.int .i64 0) from Bx2.new _ _ _)
                  clear hHeld
                  refine hK.out _ _ (KW.out _ HVa.out) (fun hHeld => ?_)
                  clear hK K
                  try simp only [Act.put, List.setIfInBounds_toArray, List.set_cons_zero, List.set_cons_succ, List.getElem_toArray, List.getElem_cons_succ, List.getElem_cons_zero]
                  refine wpAnyH_ready (rs := [5]) (by kernel_rfl) (by simp) ?_
                  refine AllReadyH.cons (o := _) rfl (fun K hK => ?_) AllReadyH.nil
                  go_simp
                  go_at_call 68
                  refine Calls.mono (C68.out _) ?_
                  rintro e v1 ⟨rfl, hb9⟩
                  have HV1 := Lib.hid (show Below wr.heap.size wr v1 from Below.trans HVa.out (hb9.mono (Below.size HVa.out)))
                  have HXZ := Lib.hid (HX0.out.keep hb9)
                  clear hb9
                  clear hHeld
                  refine hK.out _ _ (KW.out _ HV1.out) (fun hHeld => ?_)
                  clear hK K
                  try simp only [Act.put, List.setIfInBounds_toArray, List.set_cons_zero, List.set_cons_succ, List.getElem_toArray, List.getElem_cons_succ, List.getElem_cons_zero]
                  refine wpAnyH_take (i := 6) (oi := _) (v := Value.tuple #[Value.agg #[Value.int .i64 m0, Value.int .i64 m1], Value.int .i64 me]) rfl (by kernel_rfl) (by kernel_rfl) (by kernel_rfl) (fun _ _ _ h => h) (Or.inl ⟨by rfl, fun w' hSw => ?_⟩) hHeld ?_
                  · obtain ⟨t0, t1, t2, t3⟩ := hSw
                    go_simp
                    try simp [*]
                    try (intro hh; exfalso; omega)
                    try omega
                  try simp only [Act.put, List.setIfInBounds_toArray, List.set_cons_zero, List.set_cons_succ, List.getElem_toArray, List.getElem_cons_succ, List.getElem_cons_zero]
                  refine wpAnyH_take (i := 7) (oi := _) (v := Value.agg #[Value.int .i64 m0, Value.int .i64 m1]) rfl (by kernel_rfl) (by kernel_rfl) (by kernel_rfl) (fun _ _ _ h => h) (Or.inl ⟨by rfl, fun w' hSw => ?_⟩) hHeld ?_
                  · obtain ⟨t0, t1, t2, t3⟩ := hSw
                    go_simp
                    try simp [*]
                    try (intro hh; exfalso; omega)
                    try omega
                  try simp only [Act.put, List.setIfInBounds_toArray, List.set_cons_zero, List.set_cons_succ, List.getElem_toArray, List.getElem_cons_succ, List.getElem_cons_zero]
                  refine wpAnyH_take (i := 8) (oi := _) (v := Value.int .i64 me) rfl (by kernel_rfl) (by kernel_rfl) (by kernel_rfl) (fun _ _ _ h => h) (Or.inl ⟨by rfl, fun w' hSw => ?_⟩) hHeld ?_
                  · obtain ⟨t0, t1, t2, t3⟩ := hSw
                    go_simp
                    try simp [*]
                    try (intro hh; exfalso; omega)
                    try omega
                  try simp only [Act.put, List.setIfInBounds_toArray, List.set_cons_zero, List.set_cons_succ, List.getElem_toArray, List.getElem_cons_succ, List.getElem_cons_zero]
                  have r0 := HXZ.out.c0
                  have r1 := HXZ.out.c1
                  have rf0 := HXZ.out.f0 0
                  have rf1 := HXZ.out.f0 1
                  obtain ⟨Z, hZe⟩ : ∃ Z, Z = (v1.setCell ⟨wr.heap.size, 0, none⟩ (.int .i64 m0)).setCell ⟨wr.heap.size, 1, none⟩ (.int .i64 m1) := ⟨_, rfl⟩
                  have hZ : Bx2 Z (wr.heap.size) (.int .i64 m0) (.int .i64 m1) := by rw [hZe]; exact HXZ.out.set _ _
                  have hBZ : Below wr.heap.size wr Z := by rw [hZe]; exact (HV1.out.setCell (p := ⟨wr.heap.size, 0, none⟩) (Nat.le_refl _) _).setCell (p := ⟨wr.heap.size, 1, none⟩) (Nat.le_refl _) _
                  refine wpAnyH_ready (rs := [10]) (by kernel_rfl) (by simp) ?_
                  refine AllReadyH.cons (o := _) rfl (fun K hK => ?_) AllReadyH.nil
                  go_simp
                  try rw [← hZe]
                  clear hHeld
                  refine hK.out _ _ (KW.out _ hBZ) (fun hHeld => ?_)
                  clear hK K
                  try simp only [Act.put, List.setIfInBounds_toArray, List.set_cons_zero, List.set_cons_succ, List.getElem_toArray, List.getElem_cons_succ, List.getElem_cons_zero]
                  clear hZe r0 r1 rf0 rf1
                  refine wpAnyH_take (i := 11) (oi := _) (v := Value.int .i64 me) rfl (by kernel_rfl) (by kernel_rfl) (by kernel_rfl) (fun _ _ _ h => h) (Or.inl ⟨by rfl, fun w' hSw => ?_⟩) hHeld ?_
                  · obtain ⟨t0, t1, t2, t3⟩ := hSw
                    go_simp
                    try simp [*]
                    try (intro hh; exfalso; omega)
                    try omega
                  try simp only [Act.put, List.setIfInBounds_toArray, List.set_cons_zero, List.set_cons_succ, List.getElem_toArray, List.getElem_cons_succ, List.getElem_cons_zero]
                  refine wpAnyH_done (by kernel_rfl) ?_ _
                  clear hHeld
                  go_wp2_with fail
                  go_meet
                  case rel => exact ⟨_, rfl, by first | rfl | trivial, hZ, hBZ, by first | exact Nat.le_refl _ | exact HV1.out.size⟩
              case rest =>
                obtain ⟨B, h19, h20, hbx, hbc, hge⟩ := hcut
                subst h19
                subst h20
                have HBX2 := Lib.hid hbx
                have HBC := Lib.hid (HBJ.out.trans (hbc.mono HBJ.out.size))
                have HXW := Lib.hid (HX.out.keep hbc)
                have HXQ2 := Lib.hid ((HXQ.out.keep (HBJ.out)).keep hbc)
                clear hbx hbc d0 d1 n0 n1
                by_cases hem : u1 < u0
                · have hz := HM.out
                  rw [if_pos hem] at hz
                  simp only [R3.mk.injEq] at hz
                  obtain ⟨rfl, rfl, rfl⟩ := hz
                  have hz := HEMj.out hem
                  simp only [R3.mk.injEq] at hz
                  obtain ⟨rfl, rfl, rfl⟩ := hz
                  have t0 := HXQ2.out.c0
                  have t1 := HXQ2.out.c1
                  go_wp2_with fail
                  refine (c59 _).mono ?_
                  rintro e wz ⟨rfl, hbz⟩
                  have HBZ := Lib.hid (HBC.out.trans (hbz.mono HBC.out.size))
                  clear hbz
                  go_wp2_with fail
                  go_ret
                  exact ⟨rfl, HUV.out _ HBZ.out⟩
                · have hz := HM.out
                  rw [if_neg hem] at hz
                  simp only [R3.mk.injEq] at hz
                  obtain ⟨rfl, rfl, rfl⟩ := hz
                  have t0 := HBX2.out.c0
                  have t1 := HBX2.out.c1
                  have d0 := HXW.out.c0
                  have d1 := HXW.out.c1
                  have f0 := HXW.out.f0 0
                  have f1 := HXW.out.f0 1
                  have HLE := Lib.hid hem
                  have HJL := Lib.hid hjk
                  go_upto_region 35 with fail
                  obtain ⟨V3, hV⟩ : ∃ W, W = (wc.setCell ⟨V.heap.size, 0, none⟩ (.int .i64 m0)).setCell ⟨V.heap.size, 1, none⟩ (.int .i64 m1) := ⟨_, rfl⟩
                  try rw [← hV]
                  have HX3 := Lib.hid (show Bx2 V3 V.heap.size (.int .i64 m0) (.int .i64 m1) by rw [hV]; exact HXW.out.set _ _)
                  have HB3' := Lib.hid (show Below V.heap.size V V3 by rw [hV]; exact (HBC.out.setCell (p := ⟨V.heap.size, 0, none⟩) (Nat.le_refl _) _).setCell (p := ⟨V.heap.size, 1, none⟩) (Nat.le_refl _) _)
                  clear hV t0 t1 d0 d1 f0 f1 hem
                  go_wp2_with fail
                  go_roundw
                  case rel => exact ⟨j + 1, by omega, by have := HJL.out; omega, by go_num, by rw [HU0.out, HU1.out]; exact HX3.out, by rw [HU0.out, HU1.out]; have := HLE.out; omega, HB3'.out⟩
                  case measure => have := HJL.out; simp [intOf]; omega
            · obtain rfl : j = i := by omega
              have hz := HFUL.out hle
              rw [HN.out] at hz
              simp only [R3.mk.injEq] at hz
              obtain ⟨hz0, hz1, rfl⟩ := hz
              have hq2 := HXQ.out.keep HBJ.out
              rw [hz0, hz1] at hq2
              have t0 := hq2.c0
              have t1 := hq2.c1
              have d0 := hx.c0
              have d1 := hx.c1
              clear hq2 hz0 hz1 hx
              go_wp2_with fail
              refine (c59 _).mono ?_
              rintro e wz ⟨rfl, hbz⟩
              have HBZ := Lib.hid (HBJ.out.trans (hbz.mono HBJ.out.size))
              clear hbz
              go_wp2_with fail
              go_ret
              exact ⟨rfl, HUV.out _ HBZ.out⟩
end Go.Proofs.Ytcchmjbedppfnaa

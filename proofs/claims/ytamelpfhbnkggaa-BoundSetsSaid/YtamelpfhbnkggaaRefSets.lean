/-
  The reference's many, both, IsIn, Has, Count.
-/
import Derived.Test.YtamelpfhbnkggaaSetAny
import Derived.Test.YtamelpfhbnkggaaSetHas
import Derived.Test.YtamelpfhbnkggaaRefCheck
import Derived.Deep.RegionHeld3
namespace Go.Proofs.Ytamelpfhbnkggaa
open Go.RowKit Go.Shelf
set_option linter.unusedSimpArgs false
set_option maxHeartbeats 1000000 in
theorem many_any (sv : Value) (zs : List (Int × Int)) (n₀ : Nat) (w : World) (hI : Spans n₀ w sv zs) :
    Calls Try.prog 107 #[sv] w fun e w' => ∃ v, e = .returned (.tuple #[v, .int .i64 (fewE zs)]) ∧ Spans n₀ w v (fewL zs) ∧ w' = w := by
  have hI' := hI
  obtain ⟨a, cap, rfl, -⟩ := hI.slice
  by_cases h : 256 < zs.length
  · rw [show fewE zs = 6 from if_pos h, show fewL zs = [] from if_pos h]
    clear hI hI'
    generalize zs.length = len at h
    go_enter Try.func107, Try.ntmps107
    go_wp2_with fail
    go_ret2
    exact ⟨_, rfl, .inl ⟨rfl, rfl⟩, rfl⟩
  · rw [show fewE zs = 0 from if_neg h, show fewL zs = zs from if_neg h]
    have HI := Lib.hid hI'
    clear hI hI'
    generalize hL : zs.length = len at h HI ⊢
    clear hL
    go_enter Try.func107, Try.ntmps107
    go_wp2_with fail
    go_ret2
    exact ⟨_, rfl, HI.out, rfl⟩
set_option maxHeartbeats 1000000 in
theorem both_any (sv tv : Value) (s t : List (Int × Int)) (w : World) (hS : Spans w.heap.size w sv s) (hT : Spans w.heap.size w tv t) :
    Calls Try.prog 106 #[sv, tv] w fun e w' => e = .returned (.int .i64 (bothE s t)) ∧ Below w.heap.size w w' := by
  have c1 := fun w' (hb : Below w.heap.size w w') => rcheckSet_any sv s w' (hS.at hb)
  have c2 := fun w' (hb : Below w.heap.size w w') => rcheckSet_any tv t w' (hT.at hb)
  obtain ⟨a1, cap1, rfl, -⟩ := hS.slice
  obtain ⟨a2, cap2, rfl, -⟩ := hT.slice
  clear hS hT
  by_cases h : setE s = 0
  · rw [show bothE s t = setE t from if_pos h]
    rw [h] at c1
    clear h
    generalize setE t = r at c2 ⊢
    generalize s.length = ls at c1 ⊢
    generalize t.length = lt at c2 ⊢
    go_enter Try.func106, Try.ntmps106
    go_wp2_with fail
    refine (c1 _ (Below.refl _ _)).mono ?_
    rintro e w1 ⟨rfl, hb⟩
    go_wp2_with fail
    refine (c2 _ hb).mono ?_
    rintro e w2 ⟨rfl, hb2⟩
    go_wp2_with fail
    go_ret
    exact ⟨rfl, hb.trans (hb2.mono hb.size)⟩
  · rw [show bothE s t = setE s from if_neg h]
    clear c2
    generalize setE s = r at c1 h ⊢
    have hb0 : (r != 0) = true := by simpa using h
    generalize s.length = ls at c1 ⊢
    generalize t.length = lt
    go_enter Try.func106, Try.ntmps106
    go_wp2_with fail
    refine (c1 _ (Below.refl _ _)).mono ?_
    rintro e w1 ⟨rfl, hb⟩
    go_wp2_with fail
    refine (c1 _ hb).mono ?_
    rintro e w2 ⟨rfl, hb2⟩
    go_wp2_with fail
    go_ret
    exact ⟨rfl, hb.trans (hb2.mono hb.size)⟩
set_option maxRecDepth 10000 in
set_option maxHeartbeats 4000000 in
theorem isIn_any (sv : Value) (zs : List (Int × Int)) (hlen : zs.length ≤ 1000) (x : Int) (w : World) (hI : Spans w.heap.size w sv zs) :
    Calls Try.prog 108 #[sv, .int .i64 x] w fun e w' => e = .returned (.bool (hasB zs x)) ∧ Below w.heap.size w w' := by
  have HY := Lib.hid (fun k hk h => hasB_yes (zs := zs) (x := x) (k := k) hk h)
  have HN := Lib.hid (fun h => hasB_no (zs := zs) (x := x) h)
  obtain ⟨a, cap, rfl, hcell⟩ := hI.slice
  have HC := Lib.hid hcell
  have HG := Lib.hid (show ∀ k, zs[k]?.getD (0, 0) = gt zs k from fun _ => rfl)
  clear hI hcell
  generalize hasB zs x = r at HY HN ⊢
  generalize hL : zs.length = len at *
  clear hL
  go_enter Try.func108, Try.ntmps108
  go_wp2_with fail
  go_loopw [5] (fun i wr => ∃ k : Nat, k ≤ len ∧ i = .int .i64 k ∧ (∀ j, j < k → ¬ ((gt zs j).1 ≤ x ∧ x ≤ (gt zs j).2)) ∧ Below w.heap.size w wr) (fun i _ => len - (intOf i).toNat)
  case atStart => exact ⟨0, Nat.zero_le _, rfl, fun j hj => absurd hj (Nat.not_lt_zero j), Below.refl _ _⟩
  case round =>
    obtain ⟨k, hk, rfl, hno, hB⟩ := hrel
    have HNO := Lib.hid hno
    clear hno
    by_cases hlt : k < len
    · obtain ⟨b, off, rfl, hbb, c0, c1⟩ := HC.out k hlt
      rw [HG.out] at c0 c1
      have HYk := Lib.hid (HY.out k hlt)
      generalize hz : gt zs k = z at c0 c1 HYk
      have HZ := Lib.hid hz
      clear hz
      obtain ⟨zl, zh⟩ := z
      dsimp only at c0 c1 HYk
      have c0' := (hB.cell (p := ⟨b, off + k * 2, none⟩) hbb).trans c0
      have c1' := (hB.cell (p := ⟨b, off + k * 2 + 1, none⟩) hbb).trans c1
      have cw := fun w => within_any x zl zh w
      by_cases hin : zl ≤ x ∧ x ≤ zh
      · have hd : (decide (zl ≤ x) && decide (x ≤ zh)) = true := by simp [hin]
        rw [hd] at cw
        have hr := HYk.out hin
        clear HY HN HYk
        subst hr
        go_wp2_with fail
        refine wp_region_held_drew (S := fun w' => w'.cell? ⟨b, off + k * 2, none⟩ = some (.int .i64 zl) ∧ w'.cell? ⟨b, off + k * 2 + 1, none⟩ = some (.int .i64 zh)) (by kernel_rfl) ⟨c0', c1'⟩ (fun hHeld => ?_)
        refine wpAnyH_take (i := 0) (oi := _) (v := .int .i64 x) rfl (by kernel_rfl) (by kernel_rfl) (by kernel_rfl) (fun _ _ _ h => h) (Or.inl ⟨by rfl, fun w' hSw => ?_⟩) hHeld ?_
        · obtain ⟨s1, s2⟩ := hSw
          go_simp
          try (intro hh; exfalso; omega)
          try omega
        try simp only [Act.put, List.setIfInBounds_toArray, List.set_cons_zero, List.set_cons_succ, List.getElem_toArray, List.getElem_cons_succ, List.getElem_cons_zero]
        refine wpAnyH_take (i := 1) (oi := _) (v := .slice (some ⟨b, off, none⟩) len cap) rfl (by kernel_rfl) (by kernel_rfl) (by kernel_rfl) (fun _ _ _ h => h) (Or.inl ⟨by rfl, fun w' hSw => ?_⟩) hHeld ?_
        · obtain ⟨s1, s2⟩ := hSw
          go_simp
          try (intro hh; exfalso; omega)
          try omega
        try simp only [Act.put, List.setIfInBounds_toArray, List.set_cons_zero, List.set_cons_succ, List.getElem_toArray, List.getElem_cons_succ, List.getElem_cons_zero]
        refine wpAnyH_take (i := 2) (oi := _) (v := .int .i64 k) rfl (by kernel_rfl) (by kernel_rfl) (by kernel_rfl) (fun _ _ _ h => h) (Or.inl ⟨by rfl, fun w' hSw => ?_⟩) hHeld ?_
        · obtain ⟨s1, s2⟩ := hSw
          go_simp
          try (intro hh; exfalso; omega)
          try omega
        try simp only [Act.put, List.setIfInBounds_toArray, List.set_cons_zero, List.set_cons_succ, List.getElem_toArray, List.getElem_cons_succ, List.getElem_cons_zero]
        refine wpAnyH_take (i := 3) (oi := _) (v := .pointer (some ⟨b, off + k * 2, none⟩)) rfl (by kernel_rfl) (by kernel_rfl) (by kernel_rfl) (fun _ _ _ h => h) (Or.inl ⟨by rfl, fun w' hSw => ?_⟩) hHeld ?_
        · obtain ⟨s1, s2⟩ := hSw
          go_simp
          try (intro hh; exfalso; omega)
          try omega
        try simp only [Act.put, List.setIfInBounds_toArray, List.set_cons_zero, List.set_cons_succ, List.getElem_toArray, List.getElem_cons_succ, List.getElem_cons_zero]
        refine wpAnyH_take (i := 4) (oi := _) (v := .pointer (some ⟨b, off + k * 2, none⟩)) rfl (by kernel_rfl) (by kernel_rfl) (by kernel_rfl) (fun _ _ _ h => h) (Or.inl ⟨by rfl, fun w' hSw => ?_⟩) hHeld ?_
        · obtain ⟨s1, s2⟩ := hSw
          go_simp
          try (intro hh; exfalso; omega)
          try omega
        try simp only [Act.put, List.setIfInBounds_toArray, List.set_cons_zero, List.set_cons_succ, List.getElem_toArray, List.getElem_cons_succ, List.getElem_cons_zero]
        refine wpAnyH_take (i := 5) (oi := _) (v := .int .i64 zl) rfl (by kernel_rfl) (by kernel_rfl) (by kernel_rfl) (fun _ _ _ h => h) (Or.inl ⟨by rfl, fun w' hSw => ?_⟩) hHeld ?_
        · obtain ⟨s1, s2⟩ := hSw
          go_simp
          try (intro hh; exfalso; omega)
          try omega
        try simp only [Act.put, List.setIfInBounds_toArray, List.set_cons_zero, List.set_cons_succ, List.getElem_toArray, List.getElem_cons_succ, List.getElem_cons_zero]
        refine wpAnyH_take (i := 6) (oi := _) (v := .slice (some ⟨b, off, none⟩) len cap) rfl (by kernel_rfl) (by kernel_rfl) (by kernel_rfl) (fun _ _ _ h => h) (Or.inl ⟨by rfl, fun w' hSw => ?_⟩) hHeld ?_
        · obtain ⟨s1, s2⟩ := hSw
          go_simp
          try (intro hh; exfalso; omega)
          try omega
        try simp only [Act.put, List.setIfInBounds_toArray, List.set_cons_zero, List.set_cons_succ, List.getElem_toArray, List.getElem_cons_succ, List.getElem_cons_zero]
        refine wpAnyH_take (i := 7) (oi := _) (v := .int .i64 k) rfl (by kernel_rfl) (by kernel_rfl) (by kernel_rfl) (fun _ _ _ h => h) (Or.inl ⟨by rfl, fun w' hSw => ?_⟩) hHeld ?_
        · obtain ⟨s1, s2⟩ := hSw
          go_simp
          try (intro hh; exfalso; omega)
          try omega
        try simp only [Act.put, List.setIfInBounds_toArray, List.set_cons_zero, List.set_cons_succ, List.getElem_toArray, List.getElem_cons_succ, List.getElem_cons_zero]
        refine wpAnyH_take (i := 8) (oi := _) (v := .pointer (some ⟨b, off + k * 2, none⟩)) rfl (by kernel_rfl) (by kernel_rfl) (by kernel_rfl) (fun _ _ _ h => h) (Or.inl ⟨by rfl, fun w' hSw => ?_⟩) hHeld ?_
        · obtain ⟨s1, s2⟩ := hSw
          go_simp
          try (intro hh; exfalso; omega)
          try omega
        try simp only [Act.put, List.setIfInBounds_toArray, List.set_cons_zero, List.set_cons_succ, List.getElem_toArray, List.getElem_cons_succ, List.getElem_cons_zero]
        refine wpAnyH_take (i := 9) (oi := _) (v := .pointer (some ⟨b, off + k * 2 + 1, none⟩)) rfl (by kernel_rfl) (by kernel_rfl) (by kernel_rfl) (fun _ _ _ h => h) (Or.inl ⟨by rfl, fun w' hSw => ?_⟩) hHeld ?_
        · obtain ⟨s1, s2⟩ := hSw
          go_simp
          try (intro hh; exfalso; omega)
          try omega
        try simp only [Act.put, List.setIfInBounds_toArray, List.set_cons_zero, List.set_cons_succ, List.getElem_toArray, List.getElem_cons_succ, List.getElem_cons_zero]
        refine wpAnyH_take (i := 10) (oi := _) (v := .int .i64 zh) rfl (by kernel_rfl) (by kernel_rfl) (by kernel_rfl) (fun _ _ _ h => h) (Or.inl ⟨by rfl, fun w' hSw => ?_⟩) hHeld ?_
        · obtain ⟨s1, s2⟩ := hSw
          go_simp
          try (intro hh; exfalso; omega)
          try omega
        try simp only [Act.put, List.setIfInBounds_toArray, List.set_cons_zero, List.set_cons_succ, List.getElem_toArray, List.getElem_cons_succ, List.getElem_cons_zero]
        refine wpAnyH_ready (rs := [11]) (by kernel_rfl) (by simp) ?_
        refine AllReadyH.cons (o := _) rfl (fun K hK => ?_) AllReadyH.nil
        go_simp
        refine (cw _).mono ?_
        rintro e w1 ⟨rfl, hw1⟩
        have hB1 : Below w.heap.size w w1 := by rw [hw1]; exact hB.drew
        clear hHeld
        refine hK.out _ _ ⟨by rw [hw1]; exact c0', by rw [hw1]; exact c1'⟩ (fun hHeld => ?_)
        clear hK K
        try simp only [Act.put, List.setIfInBounds_toArray, List.set_cons_zero, List.set_cons_succ, List.getElem_toArray, List.getElem_cons_succ, List.getElem_cons_zero]
        refine wpAnyH_done (by kernel_rfl) ?_ _
        clear hHeld
        go_wp2_with fail
        go_ret
        exact ⟨rfl, by first | exact hB1 | exact hB.drew⟩
      · have hd : (decide (zl ≤ x) && decide (x ≤ zh)) = false := by
          rw [← Bool.not_eq_true]; simp only [Bool.and_eq_true, decide_eq_true_eq]; exact hin
        rw [hd] at cw
        go_wp2_with fail
        refine wp_region_held_drew (S := fun w' => w'.cell? ⟨b, off + k * 2, none⟩ = some (.int .i64 zl) ∧ w'.cell? ⟨b, off + k * 2 + 1, none⟩ = some (.int .i64 zh)) (by kernel_rfl) ⟨c0', c1'⟩ (fun hHeld => ?_)
        refine wpAnyH_take (i := 0) (oi := _) (v := .int .i64 x) rfl (by kernel_rfl) (by kernel_rfl) (by kernel_rfl) (fun _ _ _ h => h) (Or.inl ⟨by rfl, fun w' hSw => ?_⟩) hHeld ?_
        · obtain ⟨s1, s2⟩ := hSw
          go_simp
          try (intro hh; exfalso; omega)
          try omega
        try simp only [Act.put, List.setIfInBounds_toArray, List.set_cons_zero, List.set_cons_succ, List.getElem_toArray, List.getElem_cons_succ, List.getElem_cons_zero]
        refine wpAnyH_take (i := 1) (oi := _) (v := .slice (some ⟨b, off, none⟩) len cap) rfl (by kernel_rfl) (by kernel_rfl) (by kernel_rfl) (fun _ _ _ h => h) (Or.inl ⟨by rfl, fun w' hSw => ?_⟩) hHeld ?_
        · obtain ⟨s1, s2⟩ := hSw
          go_simp
          try (intro hh; exfalso; omega)
          try omega
        try simp only [Act.put, List.setIfInBounds_toArray, List.set_cons_zero, List.set_cons_succ, List.getElem_toArray, List.getElem_cons_succ, List.getElem_cons_zero]
        refine wpAnyH_take (i := 2) (oi := _) (v := .int .i64 k) rfl (by kernel_rfl) (by kernel_rfl) (by kernel_rfl) (fun _ _ _ h => h) (Or.inl ⟨by rfl, fun w' hSw => ?_⟩) hHeld ?_
        · obtain ⟨s1, s2⟩ := hSw
          go_simp
          try (intro hh; exfalso; omega)
          try omega
        try simp only [Act.put, List.setIfInBounds_toArray, List.set_cons_zero, List.set_cons_succ, List.getElem_toArray, List.getElem_cons_succ, List.getElem_cons_zero]
        refine wpAnyH_take (i := 3) (oi := _) (v := .pointer (some ⟨b, off + k * 2, none⟩)) rfl (by kernel_rfl) (by kernel_rfl) (by kernel_rfl) (fun _ _ _ h => h) (Or.inl ⟨by rfl, fun w' hSw => ?_⟩) hHeld ?_
        · obtain ⟨s1, s2⟩ := hSw
          go_simp
          try (intro hh; exfalso; omega)
          try omega
        try simp only [Act.put, List.setIfInBounds_toArray, List.set_cons_zero, List.set_cons_succ, List.getElem_toArray, List.getElem_cons_succ, List.getElem_cons_zero]
        refine wpAnyH_take (i := 4) (oi := _) (v := .pointer (some ⟨b, off + k * 2, none⟩)) rfl (by kernel_rfl) (by kernel_rfl) (by kernel_rfl) (fun _ _ _ h => h) (Or.inl ⟨by rfl, fun w' hSw => ?_⟩) hHeld ?_
        · obtain ⟨s1, s2⟩ := hSw
          go_simp
          try (intro hh; exfalso; omega)
          try omega
        try simp only [Act.put, List.setIfInBounds_toArray, List.set_cons_zero, List.set_cons_succ, List.getElem_toArray, List.getElem_cons_succ, List.getElem_cons_zero]
        refine wpAnyH_take (i := 5) (oi := _) (v := .int .i64 zl) rfl (by kernel_rfl) (by kernel_rfl) (by kernel_rfl) (fun _ _ _ h => h) (Or.inl ⟨by rfl, fun w' hSw => ?_⟩) hHeld ?_
        · obtain ⟨s1, s2⟩ := hSw
          go_simp
          try (intro hh; exfalso; omega)
          try omega
        try simp only [Act.put, List.setIfInBounds_toArray, List.set_cons_zero, List.set_cons_succ, List.getElem_toArray, List.getElem_cons_succ, List.getElem_cons_zero]
        refine wpAnyH_take (i := 6) (oi := _) (v := .slice (some ⟨b, off, none⟩) len cap) rfl (by kernel_rfl) (by kernel_rfl) (by kernel_rfl) (fun _ _ _ h => h) (Or.inl ⟨by rfl, fun w' hSw => ?_⟩) hHeld ?_
        · obtain ⟨s1, s2⟩ := hSw
          go_simp
          try (intro hh; exfalso; omega)
          try omega
        try simp only [Act.put, List.setIfInBounds_toArray, List.set_cons_zero, List.set_cons_succ, List.getElem_toArray, List.getElem_cons_succ, List.getElem_cons_zero]
        refine wpAnyH_take (i := 7) (oi := _) (v := .int .i64 k) rfl (by kernel_rfl) (by kernel_rfl) (by kernel_rfl) (fun _ _ _ h => h) (Or.inl ⟨by rfl, fun w' hSw => ?_⟩) hHeld ?_
        · obtain ⟨s1, s2⟩ := hSw
          go_simp
          try (intro hh; exfalso; omega)
          try omega
        try simp only [Act.put, List.setIfInBounds_toArray, List.set_cons_zero, List.set_cons_succ, List.getElem_toArray, List.getElem_cons_succ, List.getElem_cons_zero]
        refine wpAnyH_take (i := 8) (oi := _) (v := .pointer (some ⟨b, off + k * 2, none⟩)) rfl (by kernel_rfl) (by kernel_rfl) (by kernel_rfl) (fun _ _ _ h => h) (Or.inl ⟨by rfl, fun w' hSw => ?_⟩) hHeld ?_
        · obtain ⟨s1, s2⟩ := hSw
          go_simp
          try (intro hh; exfalso; omega)
          try omega
        try simp only [Act.put, List.setIfInBounds_toArray, List.set_cons_zero, List.set_cons_succ, List.getElem_toArray, List.getElem_cons_succ, List.getElem_cons_zero]
        refine wpAnyH_take (i := 9) (oi := _) (v := .pointer (some ⟨b, off + k * 2 + 1, none⟩)) rfl (by kernel_rfl) (by kernel_rfl) (by kernel_rfl) (fun _ _ _ h => h) (Or.inl ⟨by rfl, fun w' hSw => ?_⟩) hHeld ?_
        · obtain ⟨s1, s2⟩ := hSw
          go_simp
          try (intro hh; exfalso; omega)
          try omega
        try simp only [Act.put, List.setIfInBounds_toArray, List.set_cons_zero, List.set_cons_succ, List.getElem_toArray, List.getElem_cons_succ, List.getElem_cons_zero]
        refine wpAnyH_take (i := 10) (oi := _) (v := .int .i64 zh) rfl (by kernel_rfl) (by kernel_rfl) (by kernel_rfl) (fun _ _ _ h => h) (Or.inl ⟨by rfl, fun w' hSw => ?_⟩) hHeld ?_
        · obtain ⟨s1, s2⟩ := hSw
          go_simp
          try (intro hh; exfalso; omega)
          try omega
        try simp only [Act.put, List.setIfInBounds_toArray, List.set_cons_zero, List.set_cons_succ, List.getElem_toArray, List.getElem_cons_succ, List.getElem_cons_zero]
        refine wpAnyH_ready (rs := [11]) (by kernel_rfl) (by simp) ?_
        refine AllReadyH.cons (o := _) rfl (fun K hK => ?_) AllReadyH.nil
        go_simp
        refine (cw _).mono ?_
        rintro e w1 ⟨rfl, hw1⟩
        have hB1 : Below w.heap.size w w1 := by rw [hw1]; exact hB.drew
        clear hHeld
        refine hK.out _ _ ⟨by rw [hw1]; exact c0', by rw [hw1]; exact c1'⟩ (fun hHeld => ?_)
        clear hK K
        try simp only [Act.put, List.setIfInBounds_toArray, List.set_cons_zero, List.set_cons_succ, List.getElem_toArray, List.getElem_cons_succ, List.getElem_cons_zero]
        refine wpAnyH_done (by kernel_rfl) ?_ _
        clear hHeld
        go_wp2_with fail
        go_roundw
        case rel =>
          refine ⟨k + 1, by omega, by go_num, fun j hj => ?_, by first | exact hB1 | exact hB.drew⟩
          rcases Nat.lt_or_ge j k with h | h
          · exact HNO.out j h
          · obtain rfl : j = k := by omega
            rw [HZ.out]; exact hin
        case measure => simp [intOf]; omega
    · obtain rfl : k = len := by omega
      have hr := HN.out HNO.out
      clear HY HN hlt
      subst hr
      go_wp2_with fail
      go_ret
      exact ⟨rfl, hB⟩
set_option maxHeartbeats 1000000 in
theorem rhas_any (sv : Value) (zs : List (Int × Int)) (x : Int) (w : World) (hI : Spans w.heap.size w sv zs) :
    Calls Try.prog 50 #[sv, .int .i64 x] w fun e w' => e = .returned (.tuple #[.bool (hasV zs x), .int .i64 (setE zs)]) ∧ Below w.heap.size w w' := by
  have c1 := fun w' (hb : Below w.heap.size w w') => rcheckSet_any sv zs w' (hI.at hb)
  have c2 := fun hl w' (hb : Below w.heap.size w w') => isIn_any sv zs hl x w' (hI.at hb)
  obtain ⟨a, cap, rfl, -⟩ := hI.slice
  clear hI
  by_cases he : setE zs = 0
  · rw [show hasV zs x = hasB zs x from if_pos he]
    have c3 := c2 (by have := (setE_zero he).1; omega)
    rw [he] at c1 ⊢
    clear c2 he
    generalize hasB zs x = r at *
    generalize zs.length = len at *
    go_enter Try.func50, Try.ntmps50
    go_wp2_with fail
    refine (c1 _ (Below.refl _ _)).mono ?_
    rintro e w1 ⟨rfl, hb⟩
    go_wp2_with fail
    refine (c3 _ hb).mono ?_
    rintro e w2 ⟨rfl, hb2⟩
    go_wp2_with fail
    go_ret2
    exact ⟨rfl, hb.trans (hb2.mono hb.size)⟩
  · rw [show hasV zs x = false from if_neg he]
    clear c2
    generalize setE zs = r at c1 he ⊢
    have hb0 : (r != 0) = true := by simpa using he
    generalize zs.length = len at *
    go_enter Try.func50, Try.ntmps50
    go_wp2_with fail
    refine (c1 _ (Below.refl _ _)).mono ?_
    rintro e w1 ⟨rfl, hb⟩
    go_wp2_with fail
    refine (c1 _ hb).mono ?_
    rintro e w2 ⟨rfl, hb2⟩
    go_wp2_with fail
    go_ret2
    exact ⟨rfl, hb.trans (hb2.mono hb.size)⟩
set_option maxHeartbeats 4000000 in
theorem rcount_any (sv : Value) (zs : List (Int × Int)) (w : World) (hI : Spans w.heap.size w sv zs) :
    Calls Try.prog 52 #[sv] w fun e w' => e = .returned (.tuple #[.int .i64 (countV zs), .int .i64 (setE zs)]) ∧ Below w.heap.size w w' := by
  have c1 := fun w' (hb : Below w.heap.size w w') => rcheckSet_any sv zs w' (hI.at hb)
  obtain ⟨a, cap, rfl, hcell⟩ := hI.slice
  by_cases he : setE zs = 0
  · obtain ⟨hl, hn⟩ := setE_zero he
    have HC := Lib.hid hcell
    have HN := Lib.hid hn
    have HA := Lib.hid (adj_of_nrm hn)
    rw [show countV zs = cnt zs from if_pos he]
    rw [he] at c1 ⊢
    have HR := Lib.hid (show cnt zs = cntTo zs zs.length from rfl)
    generalize cnt zs = r at HR ⊢
    clear hI hcell hn he
    generalize hL : zs.length = len at c1 HC HA HR hl ⊢
    have HL := Lib.hid hL
    clear hL
    go_enter Try.func52, Try.ntmps52
    go_wp2_with fail
    refine (c1 _ (Below.refl _ _)).mono ?_
    rintro e w1 ⟨rfl, hb⟩
    clear c1
    go_wp2_with fail
    go_loopw [4, 5] (fun n i wr => ∃ k : Nat, k ≤ len ∧ i = .int .i64 k ∧ n = .int .i64 (cntTo zs k) ∧ Below w.heap.size w wr) (fun _ i _ => len - (intOf i).toNat)
    case atStart => exact ⟨0, Nat.zero_le _, rfl, rfl, hb⟩
    case round =>
      obtain ⟨k, hk, rfl, rfl, hB⟩ := hrel
      have hsz := hB.size
      by_cases hlt : k < len
      · obtain ⟨b, off, rfl, hbb, c0, c1⟩ := HC.out k hlt
        have c0' := (hB.cell (p := ⟨b, off + k * 2, none⟩) hbb).trans c0
        have c1' := (hB.cell (p := ⟨b, off + k * 2 + 1, none⟩) hbb).trans c1
        obtain ⟨⟨o1, o2, o3⟩, -⟩ := HA.out k hlt
        have hbd := cntTo_bd HN.out k (by rw [HL.out]; exact hk)
        have hst : cntTo zs (k + 1) = cntTo zs k + ((gt zs k).2 - (gt zs k).1 + 1) := rfl
        unfold gt at o1 o2 o3 hst
        clear c0 c1
        generalize zs[k]?.getD (0, 0) = z at c0' c1' o1 o2 o3 hst
        have HS := Lib.hid hst
        clear hst
        obtain ⟨zl, zh⟩ := z
        dsimp only at c0' c1' o1 o2 o3 HS
        generalize cntTo zs k = m at hbd HS ⊢
        have hW1 : IntKind.i64.wrap (zh - zl) = zh - zl := by rw [IntKind.wrap_i64]; omega
        have hW2 : IntKind.i64.wrap (zh - zl + 1) = zh - zl + 1 := by rw [IntKind.wrap_i64]; omega
        have hW3 : IntKind.i64.wrap (m + (zh - zl + 1)) = m + (zh - zl + 1) := by rw [IntKind.wrap_i64]; omega
        go_wp2_with fail
        go_quiet (fail)
        go_wp2_with fail
        go_roundw
        case rel => exact ⟨k + 1, by omega, by go_num, by rw [HS.out], by repeat (first | exact hB | refine Below.drew ?_ | refine below_drewN ?_ _)⟩
        case measure => simp [intOf]; omega
      · obtain rfl : k = len := by omega
        have hr := HR.out
        clear HR hlt
        subst hr
        go_wp2_with fail
        go_ret2
        exact ⟨rfl, hB⟩
  · rw [show countV zs = 0 from if_neg he]
    generalize setE zs = r at c1 he ⊢
    have hb0 : (r != 0) = true := by simpa using he
    clear hI hcell
    generalize zs.length = len at c1
    go_enter Try.func52, Try.ntmps52
    go_wp2_with fail
    refine (c1 _ (Below.refl _ _)).mono ?_
    rintro e w1 ⟨rfl, hb⟩
    go_wp2_with fail
    refine (c1 _ hb).mono ?_
    rintro e w2 ⟨rfl, hb2⟩
    go_wp2_with fail
    go_ret2
    exact ⟨rfl, hb.trans (hb2.mono hb.size)⟩
end Go.Proofs.Ytamelpfhbnkggaa

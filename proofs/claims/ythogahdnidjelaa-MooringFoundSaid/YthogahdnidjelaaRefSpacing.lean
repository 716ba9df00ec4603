/-
  The reference's codes and Spacing.
-/
import Derived.Test.YthogahdnidjelaaSpacing
import Derived.Deep.RegionHeld3
namespace Go.Proofs.Ythogahdnidjelaa
open Go.RowKit Go.Shelf
set_option linter.unusedSimpArgs false
set_option maxHeartbeats 400000 in
theorem rcode_any (x : Int) (w : World) : Calls Try.prog 81 #[.int .i64 x] w fun e w' => e = .returned (.bool (isC x)) ∧ w' = w := by
  have hI : isC x = (decide (0 ≤ x) && decide (x ≤ 65535)) := rfl
  rw [hI]
  clear hI
  go_enter Try.func81, Try.ntmps81
  go_wp2
  all_goals
    go_ret
    exact ⟨ret_bool (by first | rfl | (simp <;> omega) | (cases h1 : decide (0 ≤ x) <;> cases h2 : decide (x ≤ 65535) <;> simp_all <;> omega)), rfl⟩
set_option maxHeartbeats 1000000 in
theorem rcodes_any (sv : Value) (zs : List Int) (w : World) (hI : Nums w.heap.size w sv zs) :
    Calls Try.prog 78 #[sv] w fun e w' => e = .returned (.int .i64 (codE zs)) ∧ w' = w := by
  obtain ⟨a, cap, rfl, -, hcell⟩ := hI
  by_cases hl : 64 < zs.length
  · rw [show codE zs = 6 from if_pos hl]
    clear hcell
    generalize zs.length = len at hl
    go_enter Try.func78, Try.ntmps78
    go_wp2_with fail
    go_ret
    exact ⟨rfl, rfl⟩
  · have HB := Lib.hid (fun k hk h => codE_bad (zs := zs) hl (k := k) hk h)
    have HO := Lib.hid (fun h => codE_ok (zs := zs) hl h)
    have HC := Lib.hid hcell
    clear hcell
    generalize codE zs = r at HB HO ⊢
    generalize zs.length = len at *
    go_enter Try.func78, Try.ntmps78
    go_wp2_with fail
    go_loopw [3] (fun i wr => ∃ k : Nat, k ≤ len ∧ i = .int .i64 k ∧ (∀ j, j < k → isC (zs[j]?.getD 0) = true) ∧ wr = w) (fun i _ => len - (intOf i).toNat)
    case atStart => exact ⟨0, Nat.zero_le _, rfl, fun j hj => absurd hj (Nat.not_lt_zero j), rfl⟩
    case round =>
      obtain ⟨k, hk, rfl, hall, rfl⟩ := hrel
      have HALL := Lib.hid hall
      clear hall
      by_cases hlt : k < len
      · obtain ⟨b, off, rfl, hb, c0⟩ := HC.out k hlt
        have HBk := Lib.hid (HB.out k hlt)
        generalize hx : zs[k]?.getD 0 = x at c0 HBk
        have HX := Lib.hid hx
        clear hx
        have cc := fun w => rcode_any x w
        by_cases hi : isC x = true
        · rw [hi] at cc
          have HI := Lib.hid hi
          clear hi
          go_wp2_with fail
          refine (cc _).mono ?_
          rintro e w1 ⟨rfl, rfl⟩
          go_wp2_with fail
          go_roundw
          case rel =>
            refine ⟨k + 1, by omega, by go_num, fun j hj => ?_, by first | rfl | trivial⟩
            rcases Nat.lt_or_ge j k with h | h
            · exact HALL.out j h
            · obtain rfl : j = k := by omega
              rw [HX.out]; exact HI.out
          case measure => simp [intOf]; omega
        · rw [Bool.not_eq_true] at hi
          have hr := HBk.out hi
          rw [hi] at cc
          clear HB HBk HO hi
          subst hr
          go_wp2_with fail
          refine (cc _).mono ?_
          rintro e w1 ⟨rfl, rfl⟩
          go_wp2_with fail
          go_ret
          exact ⟨rfl, rfl⟩
      · obtain rfl : k = len := by omega
        have hr := HO.out HALL.out
        clear HB HO hlt
        subst hr
        go_wp2_with fail
        go_ret
        exact ⟨rfl, rfl⟩
set_option maxHeartbeats 2000000 in
theorem rspacing_any (sv : Value) (zs : List Int) (w : World) (hI : Nums w.heap.size w sv zs) :
    Calls Try.prog 36 #[sv] w fun e w' => e = .returned (.tuple #[.int .i64 (spcV zs), .int .i64 (spcE zs)]) ∧ Below w.heap.size w w' := by
  have c1 := rcodes_any sv zs w hI
  obtain ⟨a, cap, rfl, hcap, hcell⟩ := hI
  by_cases he : codE zs = 0
  rotate_left
  · rw [show spcV zs = 0 from if_neg he, show spcE zs = codE zs from if_neg he]
    generalize codE zs = r at c1 he ⊢
    have hb : (r != 0) = true := by simpa using he
    clear hcell
    generalize zs.length = len at *
    go_enter Try.func36, Try.ntmps36
    go_wp2_with fail
    refine c1.mono ?_
    rintro e w1 ⟨rfl, rfl⟩
    go_wp2_with fail
    go_ret2
    exact ⟨rfl, Below.refl _ _⟩
  · obtain ⟨hl, hall⟩ := codE_zero he
    rw [he] at c1
    by_cases h2 : zs.length < 2
    · rw [show spcV zs = 0 by unfold spcV; rw [if_pos he, if_pos h2], show spcE zs = 5 by unfold spcE; rw [if_pos he, if_pos h2]]
      clear hcell hall he
      generalize zs.length = len at *
      go_enter Try.func36, Try.ntmps36
      go_wp2_with fail
      refine c1.mono ?_
      rintro e w1 ⟨rfl, rfl⟩
      go_wp2_with fail
      go_ret2
      exact ⟨rfl, Below.refl _ _⟩
    · have EV := Lib.hid (show spcV zs = spc zs zs.length by unfold spcV; rw [if_pos he, if_neg h2])
      rw [show spcE zs = 0 by unfold spcE; rw [if_pos he, if_neg h2]]
      have HC := Lib.hid (show ∀ k, k < zs.length → ∃ b off, a = some ⟨b, off, none⟩ ∧ b < w.heap.size ∧ w.cell? ⟨b, off + k, none⟩ = some (.int .i64 (cd zs k)) ∧ cd zs k < 65536 from fun k hk => by
        obtain ⟨b, off, h1, h2, h3⟩ := hcell k hk
        have hz := hall (zs[k]?.getD 0) (by rw [List.getElem?_eq_getElem hk, Option.getD_some]; exact List.getElem_mem hk)
        refine ⟨b, off, h1, h2, ?_, ?_⟩
        · rw [h3]; unfold cd; rw [Int.toNat_of_nonneg hz.1]
        · unfold cd; omega)
      clear hcell hall he
      generalize spcV zs = r at EV ⊢
      generalize zs.length = len at *
      go_enter Try.func36, Try.ntmps36
      go_wp2_with fail
      refine c1.mono ?_
      rintro e w1 ⟨rfl, rfl⟩
      clear c1
      go_wp2_with fail
      go_loopw [5, 6] (fun m i wr => ∃ k : Nat, k ≤ len ∧ i = .int .i64 k ∧ m = .int .i64 (spc zs k) ∧ Below w1.heap.size w1 wr) (fun _ i _ => len - (intOf i).toNat)
      case atStart => exact ⟨0, Nat.zero_le _, rfl, rfl, Below.refl _ _⟩
      case round =>
        obtain ⟨k, hk, rfl, rfl, hB⟩ := hrel
        by_cases hlt : k < len
        · obtain ⟨b, off, rfl, hb, c0, hx⟩ := HC.out k hlt
          have hm := spc_le zs k
          have HRk := Lib.hid (show ∀ q, rowS zs k (spc zs k) (q + 1) = min (rowS zs k (spc zs k) q) (apart (cd zs k) (cd zs q) 16) from fun _ => rfl)
          have HR0 := Lib.hid (show rowS zs k (spc zs k) 0 = spc zs k from rfl)
          have HRe := Lib.hid (show spc zs (k + 1) = rowS zs k (spc zs k) k from rfl)
          have HRl := Lib.hid (fun q => rowS_le zs k (spc zs k) q)
          generalize spc zs k = s0 at *
          generalize cd zs k = x at *
          go_wp2_with fail
          go_loopw [5, 7] (fun m j wi => ∃ q : Nat, q ≤ k ∧ j = .int .i64 q ∧ m = .int .i64 (rowS zs k s0 q) ∧ Below w1.heap.size w1 wi) (fun _ j _ => k - (intOf j).toNat)
          case atStart => exact ⟨0, Nat.zero_le _, rfl, by rw [HR0.out], hB⟩
          case round =>
            obtain ⟨q, hq, rfl, rfl, hBi⟩ := hrel
            by_cases hqt : q < k
            · obtain ⟨b2, off2, e2, hb2, d0, hy⟩ := HC.out q (by omega)
              simp at e2
              obtain ⟨rfl, rfl⟩ := e2
              have HRq := Lib.hid (HRk.out q)
              have hlq := HRl.out q
              generalize cd zs q = y at *
              have cc := fun w => rapart_any x y hx hy w
              have hap := apart_le x y 16
              generalize apart x y 16 = d at *
              generalize rowS zs k s0 q = m at *
              have c0i := (hBi.cell (p := ⟨b, off + k, none⟩) hb).trans c0
              have d0i := (hBi.cell (p := ⟨b, off + q, none⟩) hb).trans d0
              go_wp2_with fail
              refine wp_region_held_drew (S := fun w' => w'.cell? ⟨b, off + k, none⟩ = some (.int .i64 x) ∧ w'.cell? ⟨b, off + q, none⟩ = some (.int .i64 y)) (by kernel_rfl) ⟨c0i, d0i⟩ (fun hHeld => ?_)
              refine wpAnyH_take (i := 0) (oi := _) (v := .int .i64 m) rfl (by kernel_rfl) (by kernel_rfl) (by kernel_rfl) (fun _ _ _ h => h) (Or.inl ⟨by rfl, fun w' hSw => ?_⟩) hHeld ?_
              · obtain ⟨s1, s2⟩ := hSw
                go_simp
                try (intro hh; exfalso; omega)
                try omega
              try simp only [Act.put, List.setIfInBounds_toArray, List.set_cons_zero, List.set_cons_succ, List.getElem_toArray, List.getElem_cons_succ, List.getElem_cons_zero]
              refine wpAnyH_take (i := 1) (oi := _) (v := .slice (some ⟨b, off, none⟩) len cap) rfl (by kernel_rfl) (by kernel_rfl) (by kernel_rfl) (fun _ _ _ h => h) (Or.inl ⟨by rfl, fun w' hSw => ?_⟩) hHeld ?_
              · obtain ⟨s1, s2⟩ := hSw
                go_simp
                try (intro hh; exfalso; omega)
                try omega
              try simp only [Act.put, List.setIfInBounds_toArray, List.set_cons_zero, List.set_cons_succ, List.getElem_toArray, List.getElem_cons_succ, List.getElem_cons_zero]
              refine wpAnyH_take (i := 2) (oi := _) (v := .int .i64 k) rfl (by kernel_rfl) (by kernel_rfl) (by kernel_rfl) (fun _ _ _ h => h) (Or.inl ⟨by rfl, fun w' hSw => ?_⟩) hHeld ?_
              · obtain ⟨s1, s2⟩ := hSw
                go_simp
                try (intro hh; exfalso; omega)
                try omega
              try simp only [Act.put, List.setIfInBounds_toArray, List.set_cons_zero, List.set_cons_succ, List.getElem_toArray, List.getElem_cons_succ, List.getElem_cons_zero]
              refine wpAnyH_take (i := 3) (oi := _) (v := .pointer (some ⟨b, off + k, none⟩)) rfl (by kernel_rfl) (by kernel_rfl) (by kernel_rfl) (fun _ _ _ h => h) (Or.inl ⟨by rfl, fun w' hSw => ?_⟩) hHeld ?_
              · obtain ⟨s1, s2⟩ := hSw
                go_simp
                try (intro hh; exfalso; omega)
                try omega
              try simp only [Act.put, List.setIfInBounds_toArray, List.set_cons_zero, List.set_cons_succ, List.getElem_toArray, List.getElem_cons_succ, List.getElem_cons_zero]
              refine wpAnyH_take (i := 4) (oi := _) (v := .int .i64 x) rfl (by kernel_rfl) (by kernel_rfl) (by kernel_rfl) (fun _ _ _ h => h) (Or.inl ⟨by rfl, fun w' hSw => ?_⟩) hHeld ?_
              · obtain ⟨s1, s2⟩ := hSw
                go_simp
                try (intro hh; exfalso; omega)
                try omega
              try simp only [Act.put, List.setIfInBounds_toArray, List.set_cons_zero, List.set_cons_succ, List.getElem_toArray, List.getElem_cons_succ, List.getElem_cons_zero]
              refine wpAnyH_take (i := 5) (oi := _) (v := .slice (some ⟨b, off, none⟩) len cap) rfl (by kernel_rfl) (by kernel_rfl) (by kernel_rfl) (fun _ _ _ h => h) (Or.inl ⟨by rfl, fun w' hSw => ?_⟩) hHeld ?_
              · obtain ⟨s1, s2⟩ := hSw
                go_simp
                try (intro hh; exfalso; omega)
                try omega
              try simp only [Act.put, List.setIfInBounds_toArray, List.set_cons_zero, List.set_cons_succ, List.getElem_toArray, List.getElem_cons_succ, List.getElem_cons_zero]
              refine wpAnyH_take (i := 6) (oi := _) (v := .int .i64 q) rfl (by kernel_rfl) (by kernel_rfl) (by kernel_rfl) (fun _ _ _ h => h) (Or.inl ⟨by rfl, fun w' hSw => ?_⟩) hHeld ?_
              · obtain ⟨s1, s2⟩ := hSw
                go_simp
                try (intro hh; exfalso; omega)
                try omega
              try simp only [Act.put, List.setIfInBounds_toArray, List.set_cons_zero, List.set_cons_succ, List.getElem_toArray, List.getElem_cons_succ, List.getElem_cons_zero]
              refine wpAnyH_take (i := 7) (oi := _) (v := .pointer (some ⟨b, off + q, none⟩)) rfl (by kernel_rfl) (by kernel_rfl) (by kernel_rfl) (fun _ _ _ h => h) (Or.inl ⟨by rfl, fun w' hSw => ?_⟩) hHeld ?_
              · obtain ⟨s1, s2⟩ := hSw
                go_simp
                try (intro hh; exfalso; omega)
                try omega
              try simp only [Act.put, List.setIfInBounds_toArray, List.set_cons_zero, List.set_cons_succ, List.getElem_toArray, List.getElem_cons_succ, List.getElem_cons_zero]
              refine wpAnyH_take (i := 8) (oi := _) (v := .int .i64 y) rfl (by kernel_rfl) (by kernel_rfl) (by kernel_rfl) (fun _ _ _ h => h) (Or.inl ⟨by rfl, fun w' hSw => ?_⟩) hHeld ?_
              · obtain ⟨s1, s2⟩ := hSw
                go_simp
                try (intro hh; exfalso; omega)
                try omega
              try simp only [Act.put, List.setIfInBounds_toArray, List.set_cons_zero, List.set_cons_succ, List.getElem_toArray, List.getElem_cons_succ, List.getElem_cons_zero]
              refine wpAnyH_ready (rs := [9]) (by kernel_rfl) (by simp) ?_
              refine AllReadyH.cons (o := _) rfl (fun K hK => ?_) AllReadyH.nil
              go_simp
              refine (cc _).mono ?_
              rintro e w2 ⟨rfl, rfl⟩
              clear hHeld
              refine hK.out _ _ ⟨c0i, d0i⟩ (fun hHeld => ?_)
              clear hK K
              try simp only [Act.put, List.setIfInBounds_toArray, List.set_cons_zero, List.set_cons_succ, List.getElem_toArray, List.getElem_cons_succ, List.getElem_cons_zero]
              refine wpAnyH_take (i := 10) (oi := _) (v := .int .i64 (min (m : Int) (d : Int))) rfl (by kernel_rfl) (by kernel_rfl) (by kernel_rfl) (fun _ _ _ h => h) (Or.inl ⟨by rfl, fun w' hSw => ?_⟩) hHeld ?_
              · obtain ⟨s1, s2⟩ := hSw
                go_simp
                try (intro hh; exfalso; omega)
                try omega
              try simp only [Act.put, List.setIfInBounds_toArray, List.set_cons_zero, List.set_cons_succ, List.getElem_toArray, List.getElem_cons_succ, List.getElem_cons_zero]
              refine wpAnyH_take (i := 11) (oi := _) (v := .int .i64 (min (m : Int) (d : Int))) rfl (by kernel_rfl) (by kernel_rfl) (by kernel_rfl) (fun _ _ _ h => h) (Or.inl ⟨by rfl, fun w' hSw => ?_⟩) hHeld ?_
              · obtain ⟨s1, s2⟩ := hSw
                go_simp
                try (intro hh; exfalso; omega)
                try omega
              try simp only [Act.put, List.setIfInBounds_toArray, List.set_cons_zero, List.set_cons_succ, List.getElem_toArray, List.getElem_cons_succ, List.getElem_cons_zero]
              refine wpAnyH_done (by kernel_rfl) ?_ _
              clear hHeld
              go_wp2_with fail
              go_roundw
              case rel => exact ⟨q + 1, by omega, by go_num, by rw [HRq.out]; congr 1; omega, hBi.drew⟩
              case measure => simp [intOf]; omega
            · obtain rfl : q = k := by omega
              go_wp2_with fail
              go_roundw
              case rel => exact ⟨q + 1, by omega, by go_num, by rw [HRe.out], hBi⟩
              case measure => simp [intOf]; omega
        · obtain rfl : k = len := by omega
          have hr := EV.out
          clear EV hlt
          subst hr
          go_wp2_with fail
          go_ret2
          exact ⟨rfl, hB⟩
end Go.Proofs.Ythogahdnidjelaa

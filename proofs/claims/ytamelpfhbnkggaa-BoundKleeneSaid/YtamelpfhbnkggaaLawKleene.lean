/-
  BoundKleene: the walk.
-/
import Derived.Test.YtamelpfhbnkggaaKleeneMath
import Derived.Test.YtamelpfhbnkggaaLawAnswers
import Derived.Test.YtamelpfhbnkggaaWorks
import Derived.Lib.Hide
import Derived.WalkKit
namespace Go.Proofs.Ytamelpfhbnkggaa
open Go.RowKit Go.Shelf
theorem info37 : (Try.prog.info? 37).map (fun i => (i.zero, i.size, i.bytes)) = some (some (.int .i64 0), 1, 8) := by kernel_rfl
theorem not_good {z : Int} (h : 0 ≤ z ∧ z ≤ 2) (w : World) : Calls Try.prog 39 #[.int .i64 z] w fun e w' => e = .returned (.tuple #[.int .i64 (2 - z), .int .i64 0]) ∧ w' = w := by
  have c := not_any z w
  rwa [show notS z = ⟨2 - z, 0⟩ from if_pos h] at c
theorem not_bad {z : Int} (h : ¬ (0 ≤ z ∧ z ≤ 2)) (w : World) : Calls Try.prog 39 #[.int .i64 z] w fun e w' => e = .returned (.tuple #[.int .i64 0, .int .i64 2]) ∧ w' = w := by
  have c := not_any z w
  rwa [show notS z = ⟨0, 2⟩ from if_neg h] at c
/-- the relation behind an element -/
theorem kl_step {w wr w1 : World} {k len : Nat} {zs : List Int} {z y : Int} {m v' : Value} {o : Obj} (hL : zs.length = len) (hk : k < len) (hz : zs[k]?.getD 0 = z) (hy : 2 - z = y)
    (hrow : wr.ownsRow w.heap.size 37 1 m k ((zs.take k).map fun z => Value.int .i64 (2 - z))) (hok : ∀ z ∈ zs.take k, 0 ≤ z ∧ z ≤ 2) (hzo : 0 ≤ z ∧ z ≤ 2) (hB : Below w.heap.size w wr)
    (hrow' : w1.ownsRow w.heap.size 37 1 v' (k + 1) (((zs.take k).map fun z => Value.int .i64 (2 - z)) ++ [.int .i64 y])) (hgrow : (wr.alloc o).grownBy w1 m.ownBlock) :
    w1.ownsRow w.heap.size 37 1 v' (k + 1) ((zs.take (k + 1)).map fun z => Value.int .i64 (2 - z)) ∧ (∀ z ∈ zs.take (k + 1), 0 ≤ z ∧ z ≤ 2) ∧ Below w.heap.size w w1 := by
  have hs := hB.size
  refine ⟨?_, ?_, (hB.alloc (by omega) o).grown hgrow (by simp; omega) (fun j hj => (hrow.lt j hj).1)⟩
  · rw [take_get zs k (by omega), List.map_append, hz]
    simpa [hy] using hrow'
  · intro x hx
    rw [take_get zs k (by omega), hz, List.mem_append] at hx
    rcases hx with hx | hx
    · exact hok x hx
    · simp at hx; subst hx; exact hzo
set_option maxRecDepth 100000 in
set_option maxHeartbeats 4000000 in
theorem law_kleene (v : Value) (zs : List Int) (w : World) (hv : SlA w v zs) :
    Calls Try.prog 12 #[v] w fun e w' => e = .returned (.bool true) ∧ Below w.heap.size w w' := by
  have cW := fun w => works_any w
  obtain ⟨ad, cap, rfl, hmx, hat⟩ := hv.view
  by_cases h12 : 12 < zs.length
  · clear hat hv
    generalize zs.length = len at *
    go_enter Try.func12, Try.ntmps12
    go_wp2_with fail
    refine (cW _).mono ?_
    rintro e w1 ⟨rfl, hb⟩
    go_wp2_with fail
    go_ret
    exact ⟨rfl, hb⟩
  · have HV := Lib.hid hv
    have HA := Lib.hid hat
    clear hv hat hmx
    obtain ⟨i0, hi, hz0, hz1, hz2⟩ := info_parts info37
    generalize hL : zs.length = len at *
    have HL := Lib.hid hL
    clear hL
    go_enter Try.func12, Try.ntmps12
    go_wp2_with fail
    go_loopw [3, 4, 5] (fun m o i wr => ∃ k : Nat, k ≤ len ∧ i = .int .i64 k ∧ o = .int .i64 ((ones (zs.take k) : Nat) : Int) ∧ wr.ownsRow w.heap.size 37 1 m k ((zs.take k).map fun z => Value.int .i64 (2 - z)) ∧ (∀ z ∈ zs.take k, 0 ≤ z ∧ z ≤ 2) ∧ Below w.heap.size w wr)
      (fun _ _ i _ => len - (intOf i).toNat)
    case atStart => exact ⟨0, Nat.zero_le _, rfl, rfl, World.ownsRow_nil _ _ _ _, by simp, Below.refl _ _⟩
    case round =>
      obtain ⟨k, hk, rfl, rfl, hrow, hok, hB⟩ := hrel
      by_cases hlt : k < len
      · obtain ⟨b, off, rfl, hbw, hcell⟩ := HA.out k hlt
        obtain ⟨z, hz⟩ : ∃ z, zs[k]?.getD 0 = z := ⟨_, rfl⟩
        rw [hz] at hcell
        have hck : wr.cell? ⟨b, off + k, none⟩ = some (.int .i64 z) := (hB.cell (p := ⟨b, off + k, none⟩) hbw).trans hcell
        by_cases hzo : 0 ≤ z ∧ z ≤ 2
        · obtain ⟨y, hy⟩ : ∃ y, 2 - z = y := ⟨_, rfl⟩
          have c1 := fun w => not_good hzo w
          have c2 := fun w => not_good (z := y) (by omega) w
          rw [show 2 - y = z by omega] at c2
          rw [hy] at c1
          have ho : ones (zs.take (k + 1)) = ones (zs.take k) + (if z = 1 then 1 else 0) := by
            have := HL.out
            rw [take_get zs k (by omega), ones_app, hz]
            congr 1
            by_cases h1 : z = 1
            · subst h1; rfl
            · rw [if_neg h1]; simp [ones, h1]
          have hoc : ones (zs.take k) ≤ k := by have := ones_le (zs.take k); rw [List.length_take] at this; omega
          have STEP := Lib.hid (fun (w1 : World) (v' m : Value) (o : Obj) h1 h2 h3 => kl_step (w := w) (wr := wr) (w1 := w1) (m := m) (v' := v') (o := o) HL.out hlt hz hy h1 hok hzo hB h2 h3)
          have HO := Lib.hid ho
          have HY := Lib.hid hy
          have HZ := Lib.hid hz
          have HOK := Lib.hid hok
          clear ho hy hz hok
          generalize ones (zs.take k) = oc at *
          rcases Decidable.em (z = 1) with rfl | h1
          all_goals
            go_wp2_with fail
            refine (c1 _).mono ?_
            rintro e w2 ⟨rfl, rfl⟩
            go_wp2_with fail
            refine (c2 _).mono ?_
            rintro e w3 ⟨rfl, rfl⟩
            go_wp2_with (at_builtin; refine wpList_append_own _ rfl _ _ 36 rfl w.heap.size 37 i0 (.int .i64 0) 1 8 Try.underlying36 hi hz0 hz1 hz2 rfl (by decide) _ _ _ rfl (hrow.alloc _) ⟨w3.heap.size, 0, none⟩ 1 1 [.int .i64 y] rfl rfl (fun j u hj => by match j, hj with | 0, hj => simp at hj; subst hj; simp [Addr.add]) (by simp [Value.oneCell']) (by unfold maxLen; omega) (by omega) (by have := hB.size; simp; omega) ?_; intro v' w4 hrow' hgrow _; have R := STEP.out _ _ _ _ hrow hrow' hgrow; have hck4 := (R.2.2.cell (p := ⟨b, off + k, none⟩) hbw).trans hcell)
            go_roundw
            case rel => exact ⟨k + 1, by omega, by go_num, by rw [HO.out]; simp [*], R.1, R.2.1, R.2.2⟩
            case measure => simp [intOf]; omega
        · have c1 := fun w => not_bad hzo w
          have c2 := fun w => not_good (z := 0) (by omega) w
          rw [show (2 : Int) - 0 = 2 from rfl] at c2
          clear hok hrow hz
          by_cases h0 : z < 0
          · go_wp2_with fail
            refine (c1 _).mono ?_
            rintro e w2 ⟨rfl, rfl⟩
            go_wp2_with fail
            refine (c2 _).mono ?_
            rintro e w3 ⟨rfl, rfl⟩
            go_wp2_with fail
            refine (cW _).mono ?_
            rintro e w4 ⟨rfl, hb⟩
            go_wp2_with fail
            go_ret
            exact ⟨rfl, hB.trans (hb.mono hB.size)⟩
          · have h2 : 2 < z := by omega
            go_wp2_with fail
            refine (c1 _).mono ?_
            rintro e w2 ⟨rfl, rfl⟩
            go_wp2_with fail
            refine (c2 _).mono ?_
            rintro e w3 ⟨rfl, rfl⟩
            go_wp2_with fail
            refine (cW _).mono ?_
            rintro e w4 ⟨rfl, hb⟩
            go_wp2_with fail
            go_ret
            exact ⟨rfl, hB.trans (hb.mono hB.size)⟩
      · obtain rfl : k = len := by omega
        have hLz := HL.out
        rw [List.take_of_length_le (by omega)] at hrow hok ⊢
        obtain ⟨b1, b2⟩ := fold_bd zs hok
        have c3 := all_any zs _ wr (HV.out.mono hB)
        rw [show allS zs = ⟨zs.foldl min 2, 0⟩ from if_pos (ansL_okL (by omega) hok)] at c3
        have hm := SlA_of_owns (w := wr) (B := w.heap.size) (zs := zs.map fun z => 2 - z) (by rw [List.length_map]; omega) (by rw [List.length_map, hLz, List.map_map]; exact hrow)
        have c4 := any_any _ _ wr hm
        rw [show anyS (zs.map fun z => 2 - z) = ⟨(zs.map fun z => 2 - z).foldl max 0, 0⟩ from if_pos (ansL_okL (by rw [List.length_map]; omega) (fun y hy => by
          obtain ⟨x, hx, rfl⟩ := List.mem_map.1 hy
          have := hok x hx
          omega)), show (0 : Int) = 2 - 2 from rfl, fold_opp zs 2] at c4
        have KY := Lib.hid (kleene_yes zs hok)
        have KN := Lib.hid (kleene_no zs hok)
        have HOK := Lib.hid hok
        have hoc : ones zs ≤ 12 := by have := ones_le zs; omega
        dsimp only at c3 c4
        generalize zs.foldl min 2 = A at *
        obtain ⟨S, hS⟩ : ∃ S, 2 - A = S := ⟨_, rfl⟩
        rw [hS] at c4
        have hS2 : 2 - S = A := by omega
        have hWA : IntKind.i64.wrap A = A := by rw [IntKind.wrap_i64]; omega
        clear hS hm hrow hok hLz hlt
        generalize ones zs = oc at *
        obtain ⟨P, hP⟩ : ∃ P : Nat, 2 ^ oc = P := ⟨_, rfl⟩
        have hP1 : P ≤ 4096 := by
          have := Nat.pow_le_pow_right (n := 2) (by decide) hoc
          omega
        have hPW : wrap64 ((2 : Int) ^ oc) = (P : Int) := by
          have e : (2 : Int) ^ oc = (P : Int) := by rw [← hP]; simp
          rw [e]
          unfold wrap64; omega
        rw [hP] at KY KN
        clear hP
        go_wp2_with fail
        refine c3.mono ?_
        rintro e w2 ⟨rfl, rfl⟩
        clear c3
        go_wp2_with fail
        refine c4.mono ?_
        rintro e w3 ⟨rfl, rfl⟩
        clear c4
        go_wp2_with fail
        go_loop [14, 15, 16] (fun y n i => ∃ j : Nat, j ≤ P ∧ i = .int .i64 j ∧ y = .bool (Yw zs j) ∧ n = .bool (Nw zs j)) (fun _ _ i => P - (intOf i).toNat)
        case atStart => exact ⟨0, Nat.zero_le _, rfl, rfl, rfl⟩
        case round =>
          obtain ⟨j, hj, rfl, rfl, rfl⟩ := hrel
          by_cases hjP : j < P
          · have HYS := Lib.hid (Yw_succ zs j)
            have HNS := Lib.hid (Nw_succ zs j)
            generalize Yw zs j = yb at *
            generalize Nw zs j = nb at *
            clear KY KN
            go_wp2_with fail
            go_loop [17, 18, 19] (fun b u i => ∃ (k2 : Nat) (bt : Int) (ub : Bool), k2 ≤ k ∧ i = .int .i64 k2 ∧ b = .int .i64 bt ∧ 0 ≤ bt ∧ bt ≤ 4096 ∧ u = .bool ub ∧ (ub && Wy (zs.drop k2) bt) = Wy zs j) (fun _ _ i => k - (intOf i).toNat)
            case atStart => exact ⟨0, j, true, Nat.zero_le _, rfl, rfl, by omega, by omega, rfl, by simp⟩
            case round =>
              obtain ⟨k2, bt, ub, hk2, rfl, rfl, hb0, hb1, rfl, hW⟩ := hrel
              by_cases hlt : k2 < k
              · obtain ⟨b, off, rfl, hbw, hcell⟩ := HA.out k2 hlt
                have hdr := drop_get zs k2 (by have := HL.out; omega)
                have hzo := HOK.out (zs[k2]?.getD 0) (by rw [List.getElem?_eq_getElem (by have := HL.out; omega), Option.getD_some]; exact List.getElem_mem _)
                have hck := (hB.cell (p := ⟨b, off + k2, none⟩) hbw).trans hcell
                clear hcell
                generalize zs[k2]?.getD 0 = z at hdr hzo hck
                rw [hdr] at hW
                clear hdr
                have d0 : 0 ≤ bt.tdiv 2 := by rw [Int.tdiv_eq_ediv_of_nonneg hb0]; omega
                have d1 : bt.tdiv 2 ≤ 4096 := by rw [Int.tdiv_eq_ediv_of_nonneg hb0]; omega
                have hz3 : z = 0 ∨ z = 1 ∨ z = 2 := by omega
                clear hzo
                rcases hz3 with rfl | rfl | rfl
                · rw [Wy_other _ _ (by decide)] at hW
                  have HW := Lib.hid hW
                  clear hW
                  cases ub
                  all_goals
                    go_wp2_with fail
                    refine ⟨⟨k2 + 1, bt, false, by omega, by go_num, rfl, hb0, hb1, rfl, by rw [← HW.out]; simp⟩, by simp [intOf]; omega⟩
                · rw [Wy_one, Int.tmod_eq_emod_of_nonneg hb0] at hW
                  by_cases hbt : bt % 2 = 1
                  · rw [decide_eq_true hbt] at hW
                    have HW := Lib.hid hW
                    clear hW
                    cases ub
                    · go_wp2_with fail
                      refine ⟨⟨k2 + 1, bt.tdiv 2, false, by omega, by go_num, rfl, d0, d1, rfl, by rw [← HW.out]; simp⟩, by simp [intOf]; omega⟩
                    · go_wp2_with fail
                      refine ⟨⟨k2 + 1, bt.tdiv 2, true, by omega, by go_num, rfl, d0, d1, rfl, by rw [← HW.out]; simp⟩, by simp [intOf]; omega⟩
                  · rw [decide_eq_false hbt] at hW
                    have HW := Lib.hid hW
                    clear hW
                    cases ub
                    all_goals
                      go_wp2_with fail
                      refine ⟨⟨k2 + 1, bt.tdiv 2, false, by omega, by go_num, rfl, d0, d1, by first | rfl | simp [hbt], by rw [← HW.out]; simp⟩, by simp [intOf]; omega⟩
                · rw [Wy_other _ _ (by decide)] at hW
                  have HW := Lib.hid hW
                  clear hW
                  cases ub
                  · go_wp2_with fail
                    refine ⟨⟨k2 + 1, bt, false, by omega, by go_num, rfl, hb0, hb1, rfl, by rw [← HW.out]; simp⟩, by simp [intOf]; omega⟩
                  · go_wp2_with fail
                    refine ⟨⟨k2 + 1, bt, true, by omega, by go_num, rfl, hb0, hb1, rfl, by rw [← HW.out]; simp⟩, by simp [intOf]; omega⟩
              · obtain rfl : k2 = k := by omega
                have hub : ub = Wy zs j := by
                  rw [← hW, List.drop_of_length_le (by have := HL.out; omega)]
                  simp [Wy]
                have HUB := Lib.hid hub
                clear hW hub hlt
                cases ub <;> cases yb <;> cases nb
                all_goals
                  go_wp2_with fail
                  refine ⟨⟨j + 1, by omega, by go_num, by rw [HYS.out, ← HUB.out]; rfl, by rw [HNS.out, ← HUB.out]; rfl⟩, by simp [intOf]; omega⟩
          · obtain rfl : j = P := by omega
            have hy := KY.out
            have hn := KN.out
            generalize Yw zs j = yb at *
            generalize Nw zs j = nb at *
            subst hy hn
            have hA3 : A = 0 ∨ A = 1 ∨ A = 2 := by omega
            clear hWA hS2 b1 b2 KY KN
            rcases hA3 with rfl | rfl | rfl
            all_goals
              go_wp2_with fail
              refine (cW _).mono ?_
              rintro e w4 ⟨rfl, hb⟩
              go_wp2_with fail
              go_ret
              exact ⟨rfl, hB.trans (hb.mono hB.size)⟩
end Go.Proofs.Ytamelpfhbnkggaa

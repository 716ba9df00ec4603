/-
  The reference's Outside.
-/
import Derived.Test.YtamelpfhbnkggaaRefCover
import Derived.Deep.RegionHeld3
import Derived.Deep.AppendLies
namespace Go.Proofs.Ytamelpfhbnkggaa
open Go.RowKit Go.Shelf
set_option linter.unusedSimpArgs false
theorem own_slice {W : World} {base : Nat} {e : TypeId} {size n : Nat} {v : Value} {xs : List Value} (h : W.ownsRow base e size v n xs) : ∃ a cap, v = .slice a n cap := by
  rcases h.2 with ⟨h0, h1⟩ | ⟨g, cp, cur, h0, -⟩
  · exact ⟨none, 0, by rw [h0, h1]⟩
  · exact ⟨_, _, h0⟩
set_option maxRecDepth 10000 in
set_option maxHeartbeats 8000000 in
theorem routside_any (sv : Value) (zs : List (Int × Int)) (lo hi : Int) (w : World) (hI : Spans w.heap.size w sv zs) :
    Calls Try.prog 48 #[sv, .agg #[.int .i64 lo, .int .i64 hi]] w fun e w' => ∃ v, e = .returned (.tuple #[v, .int .i64 (outE zs lo hi)]) ∧ Spans w'.heap.size w' v (outV zs lo hi) ∧ Below w.heap.size w w' := by
  obtain ⟨A, hA⟩ : ∃ A, A = w.alloc (.cells #[.int .i64 lo, .int .i64 hi] 23) := ⟨_, rfl⟩
  have hwA : Below w.heap.size w A := by rw [hA]; exact (Below.refl _ _).alloc (Nat.le_refl _) _
  have hwl : w.heap.size < A.heap.size := by rw [hA]; simp
  have zl0 : A.cell? ⟨w.heap.size, 0, none⟩ = some (.int .i64 lo) := by rw [hA]; exact (Boxed2.new w 23 _ _).c0
  have zl1 : A.cell? ⟨w.heap.size, 1, none⟩ = some (.int .i64 hi) := by rw [hA]; exact (Boxed2.new w 23 _ _).c1
  have hIA := hI.at hwA
  clear hI
  have r1 := fun w' (hb : Below A.heap.size A w') => rcheckSet_any sv zs w' (hIA.at hb)
  obtain ⟨a, cap, rfl, hcell⟩ := hIA.slice
  by_cases he : setE zs = 0
  rotate_left
  · rw [show outE zs lo hi = setE zs from if_neg he, show outV zs lo hi = [] from if_neg he]
    generalize setE zs = r at r1 he ⊢
    have hb0 : (r != 0) = true := by simpa using he
    clear hIA hcell
    generalize zs.length = len at r1
    go_enter Try.func48, Try.ntmps48
    go_wp2_with fail
    rw [← hA]
    refine (r1 _ (Below.refl _ _)).mono ?_
    rintro e w1 ⟨rfl, hb⟩
    go_wp2_with fail
    refine (r1 _ hb).mono ?_
    rintro e w2 ⟨rfl, hb2⟩
    go_wp2_with fail
    go_ret2
    exact ⟨_, rfl, .inl ⟨rfl, rfl⟩, hwA.trans ((hb.trans (hb2.mono hb.size)).mono hwA.size)⟩
  by_cases hv : vB lo hi = true
  rotate_left
  · rw [show outE zs lo hi = 2 by unfold outE; rw [if_pos he, if_neg hv], show outV zs lo hi = [] by unfold outV; rw [if_pos he, if_neg hv]]
    rw [he] at r1
    have c2 := fun w => valid_no lo hi hv w
    clear hIA hcell he hv
    generalize zs.length = len at r1
    go_enter Try.func48, Try.ntmps48
    go_wp2_with fail
    rw [← hA]
    refine (r1 _ (Below.refl _ _)).mono ?_
    rintro e w1 ⟨rfl, hb⟩
    have k0 := (hb.cell (p := ⟨w.heap.size, 0, none⟩) hwl).trans zl0
    have k1 := (hb.cell (p := ⟨w.heap.size, 1, none⟩) hwl).trans zl1
    go_wp2_with fail
    refine (c2 _).mono ?_
    rintro e w2 ⟨rfl, hb2⟩
    go_wp2_with fail
    go_ret2
    exact ⟨_, rfl, .inl ⟨rfl, rfl⟩, hwA.trans ((hb.trans (hb2.mono hb.size)).mono hwA.size)⟩
  have c2 := fun w => valid_yes lo hi hv w
  obtain ⟨v1, v2, v3⟩ := (vB_iff _ _).1 hv
  obtain ⟨hl, hn⟩ := setE_zero he
  have EQ1 := Lib.hid (show outE zs lo hi = fewE (outL zs lo hi) by unfold outE; rw [if_pos he, if_pos hv])
  have EQ2 := Lib.hid (show outV zs lo hi = fewL (outL zs lo hi) by unfold outV; rw [if_pos he, if_pos hv])
  have HC := Lib.hid hcell
  have HA := Lib.hid (adj_of_nrm hn)
  have ST := Lib.hid (out_start zs hv)
  have SY := Lib.hid (fun k l fr (hk : k < zs.length) => out_yes (l := l) (fr := fr) hn hk hv)
  have SN := Lib.hid (fun k l fr (hk : k < zs.length) => out_no (lo := lo) (hi := hi) (l := l) (fr := fr) hn hk)
  have EY := Lib.hid (fun l fr => out_end_yes (zs := zs) (l := l) (fr := fr) hv)
  have EN := Lib.hid (fun l fr => out_end_no (zs := zs) (lo := lo) (hi := hi) (l := l) (fr := fr))
  have HG := Lib.hid (show ∀ k, zs[k]?.getD (0, 0) = gt zs k from fun _ => rfl)
  obtain ⟨i0, hi0, hz0, hz1, hz2⟩ := info_parts infoSp
  rw [he] at r1
  clear hIA hcell he hn hv
  generalize outE zs lo hi = uE at *
  generalize outV zs lo hi = uV at *
  generalize zs.length = len at *
  go_enter Try.func48, Try.ntmps48
  go_wp2_with fail
  rw [← hA]
  refine (r1 _ (Below.refl _ _)).mono ?_
  rintro e w1 ⟨rfl, hB1⟩
  have k0 := (hB1.cell (p := ⟨w.heap.size, 0, none⟩) hwl).trans zl0
  have k1 := (hB1.cell (p := ⟨w.heap.size, 1, none⟩) hwl).trans zl1
  go_wp2_with fail
  refine (c2 _).mono ?_
  rintro e w2 ⟨rfl, hb⟩
  have hB2 := hB1.trans (hb.mono hB1.size)
  clear c2 r1 k0 k1 hb hB1 hA
  have l0 := (hB2.cell (p := ⟨w.heap.size, 0, none⟩) hwl).trans zl0
  have l1 := (hB2.cell (p := ⟨w.heap.size, 1, none⟩) hwl).trans zl1
  go_wp2_with fail
  go_loopw [6, 7, 8] (fun v f i wr => ∃ (k : Nat) (l : List (Int × Int)) (fr : Int), k ≤ len ∧ i = .int .i64 k ∧ f = .int .i64 fr ∧ wr.ownsRow A.heap.size 23 2 v l.length (flat l) ∧ OutP zs lo hi k l fr ∧ Below A.heap.size A wr) (fun _ _ i _ => len - (intOf i).toNat)
  case atStart => exact ⟨0, [], lo, Nat.zero_le _, rfl, rfl, World.ownsRow_nil _ _ _ _, ST.out, hB2⟩
  case round =>
    clear l0 l1 hB2
    obtain ⟨k, l, fr, hk, rfl, rfl, hrow, hP, hB⟩ := hrel
    have hsz := hB.size
    have b0 := (hB.cell (p := ⟨w.heap.size, 0, none⟩) hwl).trans zl0
    have b1 := (hB.cell (p := ⟨w.heap.size, 1, none⟩) hwl).trans zl1
    by_cases hlt : k < len
    · obtain ⟨b, off, rfl, hbb, c0, c1⟩ := HC.out k hlt
      rw [HG.out] at c0 c1
      obtain ⟨⟨o1, o2, o3⟩, -⟩ := HA.out k hlt
      have hP1 := hP.len
      have hP2 := hP.low
      have hP3 := hP.upp
      have HS1 := Lib.hid (fun h => SY.out k l fr hlt hP h)
      have HS2 := Lib.hid (fun h => SN.out k l fr hlt hP h)
      clear hP SY SN EY EN ST
      generalize gt zs k = z at c0 c1 o1 o2 o3 HS1 HS2
      obtain ⟨zl, zh⟩ := z
      dsimp only at c0 c1 o1 o2 o3 HS1 HS2
      have c0' := (hB.cell (p := ⟨b, off + k * 2, none⟩) hbb).trans c0
      have c1' := (hB.cell (p := ⟨b, off + k * 2 + 1, none⟩) hbb).trans c1
      have hW1 : IntKind.i64.wrap (zl - 1) = zl - 1 := by rw [IntKind.wrap_i64]; omega
      obtain ⟨va, vcap, hve⟩ := own_slice hrow
      generalize hfl : flat l = fl at hrow
      have HFL := Lib.hid hfl
      generalize hnl : l.length = nl at hrow hP1 hve
      have HNL := Lib.hid hnl
      clear hfl hnl
      subst hve
      by_cases t1 : fr < zl
      · by_cases t2 : fr ≤ hi
        · have hP' := Lib.hid (HS1.out (by omega))
          clear HS1 HS2
          go_wp2_with fail
          have keep : ∀ W', Below A.heap.size A W' → W'.cell? ⟨b, off + k * 2, none⟩ = some (.int .i64 zl) ∧ W'.cell? ⟨w.heap.size, 1, none⟩ = some (.int .i64 hi) := fun W' h => ⟨(h.cell (p := ⟨b, off + k * 2, none⟩) hbb).trans c0, (h.cell (p := ⟨w.heap.size, 1, none⟩) hwl).trans zl1⟩
          refine wp_region_held_drew (S := fun w' => w'.cell? ⟨b, off + k * 2, none⟩ = some (.int .i64 zl) ∧ w'.cell? ⟨w.heap.size, 1, none⟩ = some (.int .i64 hi)) (by kernel_rfl) ⟨c0', b1⟩ (fun hHeld => ?_)
          refine wpAnyH_take (i := 0) (oi := _) (v := .slice va nl vcap) rfl (by kernel_rfl) (by kernel_rfl) (by kernel_rfl) (fun _ _ _ h => h) (Or.inl ⟨by rfl, fun w' hSw => ?_⟩) hHeld ?_
          · obtain ⟨s1, s2⟩ := hSw
            go_simp
            try (intro hh; exfalso; omega)
            try omega
          try simp only [Act.put, List.setIfInBounds_toArray, List.set_cons_zero, List.set_cons_succ, List.getElem_toArray, List.getElem_cons_succ, List.getElem_cons_zero]
          refine wpAnyH_take (i := 1) (oi := _) (v := .int .i64 fr) rfl (by kernel_rfl) (by kernel_rfl) (by kernel_rfl) (fun _ _ _ h => h) (Or.inl ⟨by rfl, fun w' hSw => ?_⟩) hHeld ?_
          · obtain ⟨s1, s2⟩ := hSw
            go_simp
            try (intro hh; exfalso; omega)
            try omega
          try simp only [Act.put, List.setIfInBounds_toArray, List.set_cons_zero, List.set_cons_succ, List.getElem_toArray, List.getElem_cons_succ, List.getElem_cons_zero]
          refine wpAnyH_take (i := 2) (oi := _) (v := .slice (some ⟨b, off, none⟩) len cap) rfl (by kernel_rfl) (by kernel_rfl) (by kernel_rfl) (fun _ _ _ h => h) (Or.inl ⟨by rfl, fun w' hSw => ?_⟩) hHeld ?_
          · obtain ⟨s1, s2⟩ := hSw
            go_simp
            try (intro hh; exfalso; omega)
            try omega
          try simp only [Act.put, List.setIfInBounds_toArray, List.set_cons_zero, List.set_cons_succ, List.getElem_toArray, List.getElem_cons_succ, List.getElem_cons_zero]
          refine wpAnyH_take (i := 3) (oi := _) (v := .int .i64 k) rfl (by kernel_rfl) (by kernel_rfl) (by kernel_rfl) (fun _ _ _ h => h) (Or.inl ⟨by rfl, fun w' hSw => ?_⟩) hHeld ?_
          · obtain ⟨s1, s2⟩ := hSw
            go_simp
            try (intro hh; exfalso; omega)
            try omega
          try simp only [Act.put, List.setIfInBounds_toArray, List.set_cons_zero, List.set_cons_succ, List.getElem_toArray, List.getElem_cons_succ, List.getElem_cons_zero]
          refine wpAnyH_take (i := 4) (oi := _) (v := .pointer (some ⟨b, off + k * 2, none⟩)) rfl (by kernel_rfl) (by kernel_rfl) (by kernel_rfl) (fun _ _ _ h => h) (Or.inl ⟨by rfl, fun w' hSw => ?_⟩) hHeld ?_
          · obtain ⟨s1, s2⟩ := hSw
            go_simp
            try (intro hh; exfalso; omega)
            try omega
          try simp only [Act.put, List.setIfInBounds_toArray, List.set_cons_zero, List.set_cons_succ, List.getElem_toArray, List.getElem_cons_succ, List.getElem_cons_zero]
          refine wpAnyH_take (i := 5) (oi := _) (v := .pointer (some ⟨b, off + k * 2, none⟩)) rfl (by kernel_rfl) (by kernel_rfl) (by kernel_rfl) (fun _ _ _ h => h) (Or.inl ⟨by rfl, fun w' hSw => ?_⟩) hHeld ?_
          · obtain ⟨s1, s2⟩ := hSw
            go_simp
            try (intro hh; exfalso; omega)
            try omega
          try simp only [Act.put, List.setIfInBounds_toArray, List.set_cons_zero, List.set_cons_succ, List.getElem_toArray, List.getElem_cons_succ, List.getElem_cons_zero]
          refine wpAnyH_take (i := 6) (oi := _) (v := .int .i64 zl) rfl (by kernel_rfl) (by kernel_rfl) (by kernel_rfl) (fun _ _ _ h => h) (Or.inl ⟨by rfl, fun w' hSw => ?_⟩) hHeld ?_
          · obtain ⟨s1, s2⟩ := hSw
            go_simp
            try (intro hh; exfalso; omega)
            try omega
          try simp only [Act.put, List.setIfInBounds_toArray, List.set_cons_zero, List.set_cons_succ, List.getElem_toArray, List.getElem_cons_succ, List.getElem_cons_zero]
          refine wpAnyH_take (i := 7) (oi := _) (v := .int .i64 (zl - 1)) rfl (by kernel_rfl) (by kernel_rfl) (by kernel_rfl) (fun _ _ _ h => h) (Or.inl ⟨by rfl, fun w' hSw => ?_⟩) hHeld ?_
          · obtain ⟨s1, s2⟩ := hSw
            go_simp
            try (intro hh; exfalso; omega)
            try omega
          try simp only [Act.put, List.setIfInBounds_toArray, List.set_cons_zero, List.set_cons_succ, List.getElem_toArray, List.getElem_cons_succ, List.getElem_cons_zero]
          refine wpAnyH_take (i := 8) (oi := _) (v := .pointer (some ⟨w.heap.size, 1, none⟩)) rfl (by kernel_rfl) (by kernel_rfl) (by kernel_rfl) (fun _ _ _ h => h) (Or.inl ⟨by rfl, fun w' hSw => ?_⟩) hHeld ?_
          · obtain ⟨s1, s2⟩ := hSw
            go_simp
            try (intro hh; exfalso; omega)
            try omega
          try simp only [Act.put, List.setIfInBounds_toArray, List.set_cons_zero, List.set_cons_succ, List.getElem_toArray, List.getElem_cons_succ, List.getElem_cons_zero]
          refine wpAnyH_take (i := 9) (oi := _) (v := .int .i64 hi) rfl (by kernel_rfl) (by kernel_rfl) (by kernel_rfl) (fun _ _ _ h => h) (Or.inl ⟨by rfl, fun w' hSw => ?_⟩) hHeld ?_
          · obtain ⟨s1, s2⟩ := hSw
            go_simp
            try (intro hh; exfalso; omega)
            try omega
          try simp only [Act.put, List.setIfInBounds_toArray, List.set_cons_zero, List.set_cons_succ, List.getElem_toArray, List.getElem_cons_succ, List.getElem_cons_zero]
          refine wpAnyH_take (i := 10) (oi := _) (v := .int .i64 (min (zl - 1) hi)) rfl (by kernel_rfl) (by kernel_rfl) (by kernel_rfl) (fun _ _ _ h => h) (Or.inl ⟨by rfl, fun w' hSw => ?_⟩) hHeld ?_
          · obtain ⟨s1, s2⟩ := hSw
            go_simp
            try (intro hh; exfalso; omega)
            try omega
          try simp only [Act.put, List.setIfInBounds_toArray, List.set_cons_zero, List.set_cons_succ, List.getElem_toArray, List.getElem_cons_succ, List.getElem_cons_zero]
          refine wpAnyH_take (i := 11) (oi := _) (v := .agg #[.int .i64 fr, .int .i64 (min (zl - 1) hi)]) rfl (by kernel_rfl) (by kernel_rfl) (by kernel_rfl) (fun _ _ _ h => h) (Or.inl ⟨by rfl, fun w' hSw => ?_⟩) hHeld ?_
          · obtain ⟨s1, s2⟩ := hSw
            go_simp
            try (intro hh; exfalso; omega)
            try omega
          try simp only [Act.put, List.setIfInBounds_toArray, List.set_cons_zero, List.set_cons_succ, List.getElem_toArray, List.getElem_cons_succ, List.getElem_cons_zero]
          refine wpAnyH_ready (rs := [12]) (by kernel_rfl) (by simp) ?_
          refine AllReadyH.cons (o := _) rfl (fun K hK => ?_) AllReadyH.nil
          go_simp
          clear hHeld
          refine hK.out _ _ (keep _ (hB.drew.alloc hsz _)) (fun hHeld => ?_)
          clear hK K
          try simp only [Act.put, List.setIfInBounds_toArray, List.set_cons_zero, List.set_cons_succ, List.getElem_toArray, List.getElem_cons_succ, List.getElem_cons_zero]
          refine wpAnyH_ready (rs := [13]) (by kernel_rfl) (by simp) ?_
          refine AllReadyH.cons (o := _) rfl (fun K hK => ?_) AllReadyH.nil
          refine step_append_lies _ rfl _ _ 43 rfl A.heap.size 23 i0 (.agg #[.int .i64 0, .int .i64 0]) 2 16 Try.underlying43 hi0 hz0 hz1 hz2 rfl (by decide) _ nl fl rfl ((owns_below hrow ((Below.refl _ _).drew)).alloc _) ⟨wr.drew.heap.size, 0, none⟩ 1 1 [.int .i64 fr, .int .i64 (min (zl - 1) hi)] rfl rfl (two_new _ _ _) (by simp [Value.oneCell']) (by decide) (by unfold maxLen; omega) (by omega) (by simp; omega) _ rfl ?_
          intro g cap' w4 hrow' hgrow _ _
          have hB4 : Below A.heap.size A w4 := (hB.drew.alloc hsz _).grown hgrow (by simp; omega) (fun j hj => (hrow.lt j hj).1)
          clear hHeld
          refine hK.out _ _ (keep _ hB4) (fun hHeld => ?_)
          clear hK K
          try simp only [Act.put, List.setIfInBounds_toArray, List.set_cons_zero, List.set_cons_succ, List.getElem_toArray, List.getElem_cons_succ, List.getElem_cons_zero]
          refine wpAnyH_take (i := 14) (oi := _) (v := .slice (some ⟨g, 0, none⟩) (nl + 1) cap') rfl (by kernel_rfl) (by kernel_rfl) (by kernel_rfl) (fun _ _ _ h => h) (Or.inl ⟨by rfl, fun w' hSw => ?_⟩) hHeld ?_
          · obtain ⟨s1, s2⟩ := hSw
            go_simp
            try (intro hh; exfalso; omega)
            try omega
          try simp only [Act.put, List.setIfInBounds_toArray, List.set_cons_zero, List.set_cons_succ, List.getElem_toArray, List.getElem_cons_succ, List.getElem_cons_zero]
          refine wpAnyH_done (by kernel_rfl) ?_ _
          clear hHeld
          have d1 := (hB4.cell (p := ⟨b, off + k * 2 + 1, none⟩) hbb).trans c1
          clear keep c0' c1' b0 b1
          go_wp2_with fail
          go_roundw
          case rel => exact ⟨k + 1, l ++ [(fr, min (zl - 1) hi)], _, by omega, by go_num, rfl, by rw [flat_app, flat_one, HFL.out, List.length_append, HNL.out]; exact hrow', hP'.out, hB4⟩
          case measure => simp [intOf]; omega
        · have hP' := Lib.hid (HS2.out (by omega))
          clear HS1 HS2
          go_wp2_with fail
          go_roundw
          case rel => exact ⟨k + 1, l, _, by omega, by go_num, rfl, by rw [HFL.out, HNL.out]; exact hrow, hP'.out, hB⟩
          case measure => simp [intOf]; omega
      · have hP' := Lib.hid (HS2.out (by omega))
        clear HS1 HS2
        go_wp2_with fail
        go_roundw
        case rel => exact ⟨k + 1, l, _, by omega, by go_num, rfl, by rw [HFL.out, HNL.out]; exact hrow, hP'.out, hB⟩
        case measure => simp [intOf]; omega
    · obtain rfl : k = len := by omega
      have hP1 := hP.len
      have hP2 := hP.low
      have hP3 := hP.upp
      by_cases ht : fr ≤ hi
      · have hR := Lib.hid (show outL zs lo hi = l ++ [(fr, hi)] from EY.out l fr hP ht)
        clear hP EY EN SY SN ST hlt
        generalize hfl : flat l = fl at hrow
        have HFL := Lib.hid hfl
        clear hfl
        go_wp2_with (at_builtin; refine wpList_append_own _ rfl _ _ 43 rfl A.heap.size 23 i0 (.agg #[.int .i64 0, .int .i64 0]) 2 16 Try.underlying43 hi0 hz0 hz1 hz2 rfl (by decide) _ _ _ rfl (hrow.alloc _) ⟨wr.heap.size, 0, none⟩ 1 1 [.int .i64 fr, .int .i64 hi] rfl rfl (two_new _ _ _) (by simp [Value.oneCell']) (by unfold maxLen; omega) (by omega) (by simp; omega) ?_; intro v' w4 hrow' hgrow _)
        have hB4 : Below A.heap.size A w4 := (hB.alloc (by omega) _).grown hgrow (by simp; omega) (fun j hj => by have := (hrow.lt j hj).1; omega)
        have cF := many_any _ (l ++ [(fr, hi)]) w4.heap.size w4 (spans_of_owns (base := A.heap.size) (by rw [flat_app, flat_one, HFL.out, List.length_append]; exact hrow'))
        refine cF.mono ?_
        rintro e w5 ⟨v5, rfl, hI5, rfl⟩
        go_wp2_with fail
        go_ret2
        exact ⟨v5, by rw [EQ1.out, hR.out]; rfl, by rw [EQ2.out, hR.out]; exact hI5, hwA.trans (hB4.mono hwA.size)⟩
      · have hR := Lib.hid (show outL zs lo hi = l from EN.out l fr hP (by omega))
        clear hP EY EN SY SN ST hlt
        have cF := many_any _ l wr.heap.size wr (spans_of_owns (base := A.heap.size) hrow)
        go_wp2_with fail
        refine cF.mono ?_
        rintro e w5 ⟨v5, rfl, hI5, rfl⟩
        go_wp2_with fail
        go_ret2
        exact ⟨v5, by rw [EQ1.out, hR.out]; rfl, by rw [EQ2.out, hR.out]; exact hI5, hwA.trans (hB.mono hwA.size)⟩
end Go.Proofs.Ytamelpfhbnkggaa

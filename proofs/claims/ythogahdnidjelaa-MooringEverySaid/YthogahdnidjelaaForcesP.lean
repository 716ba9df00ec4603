/-
  mooring.Forces.
-/
import Derived.Test.YthogahdnidjelaaBelowP
import Derived.Test.YthogahdnidjelaaCur
import Derived.Deep.AppendLies
namespace Go.Proofs.Ythogahdnidjelaa
open Go.RowKit Go.Shelf
set_option linter.unusedSimpArgs false
def forG (zs : List El) (cs : List Pr) : Nat → Pr
  | 0 => ⟨0, 0⟩
  | k + 1 => ⟨fLo (el zs k) (pr cs k), fHi (el zs k) (pr cs k)⟩
def forV (d : Int) (zs : List El) (an fr : Int) (cs : List Pr) : List Pr := if curE d zs an fr cs = 0 then rowL (forG zs cs) zs.length else []
theorem prs_nil (n₀ : Nat) (W : World) : Prs n₀ W (.slice none 0 0) [] := ⟨none, 0, rfl, Nat.le_refl _, fun k hk => by simp at hk⟩
set_option maxRecDepth 100000 in
set_option maxHeartbeats 8000000 in
theorem forces_any (d an fr : Int) (sv cv : Value) (zs : List El) (cs : List Pr) (w : World) (hI : Els w.heap.size w sv zs) (hC : Prs w.heap.size w cv cs) :
    Calls Try.prog 20 #[.agg #[.int .i64 d, sv, .int .i64 an, .int .i64 fr], cv] w fun e w' => ∃ v, e = .returned (.tuple #[v, .int .i64 (curE d zs an fr cs)]) ∧ Prs w'.heap.size w' v (forV d zs an fr cs) ∧ Below w.heap.size w w' := by
  have c1 := fun w' (hb : Below w.heap.size w w') => checkCurrents_any d an fr sv cv zs cs w' (hI.at hb) (hC.at hb)
  have HV := Lib.hid (show forV d zs an fr cs = if curE d zs an fr cs = 0 then rowL (forG zs cs) zs.length else [] from rfl)
  have HOK := Lib.hid (fun (h : curE d zs an fr cs = 0) => (curE_ok h).1)
  obtain ⟨a, cap, rfl, -, hcell⟩ := hI
  obtain ⟨c, cap2, rfl, -, hcur⟩ := hC
  have HC := Lib.hid hcell
  have HU := Lib.hid hcur
  clear hcell hcur
  generalize forV d zs an fr cs = V at *
  generalize curE d zs an fr cs = E at *
  have HA := Lib.hid (show Below w.heap.size w (w.alloc (.cells #[.int .i64 d, .slice a zs.length cap, .int .i64 an, .int .i64 fr] 24)) from (Below.refl _ _).alloc (Nat.le_refl _) _)
  by_cases hE : E = 0
  rotate_left
  · have hV : V = [] := by rw [HV.out, if_neg hE]
    subst hV
    have hb : (E != 0) = true := by simpa using hE
    clear HV HOK HC HU hE
    generalize zs.length = len at *
    generalize cs.length = len2 at *
    go_enter Try.func20, Try.ntmps20
    go_wp2_with fail
    refine (c1 _ HA.out).mono ?_
    rintro e w1 ⟨rfl, hb1⟩
    have hB1 := Lib.hid (HA.out.trans (hb1.mono (by simp)))
    clear hb1 c1
    go_wp2_with fail
    go_ret2
    exact ⟨_, rfl, prs_nil _ _, hB1.out⟩
  subst hE
  have hrig := HOK.out rfl
  have hV : V = rowL (forG zs cs) zs.length := by rw [HV.out, if_pos rfl]
  subst hV
  have hl := hrig.most
  have hcl := hrig.same
  have CF := Lib.hid (fun k hk W => force_any (el zs k) (pr cs k) (hrig.els k hk) (hrig.cur k hk) W)
  clear HV HOK hrig
  rw [hcl] at HU
  obtain ⟨i0, hi0, hz0, hz1, hz2⟩ := info_parts infoSp
  generalize hLen : zs.length = len at *
  generalize cs.length = len2 at *
  subst hcl
  have hb16 : i0.bytes * len2 ≤ 281474976710656 := by rw [hz2]; omega
  go_enter Try.func20, Try.ntmps20
  go_wp2_with fail
  refine (c1 _ HA.out).mono ?_
  rintro e w1 ⟨rfl, hb1⟩
  have hB1 := HA.out.trans (hb1.mono (by simp))
  have hsl : w1.cell? ⟨w.heap.size, 1, none⟩ = some (.slice a len2 cap) := (hb1.cell (p := ⟨w.heap.size, 1, none⟩) (by simp)).trans (by simp [go_sem])
  have z1 : w.heap.size < w1.heap.size := by have := hb1.size; simp at this; omega
  have HB1 := Lib.hid hB1
  clear hb1 c1 hB1
  go_wp2_with (at_make; (refine wpList_make_own _ rfl _ _ 25 rfl w1.heap.size 41 i0 (.agg #[.int .i64 0, .int .i64 0]) 2 Try.underlying25 hi0 hz0 hz1 _ _ _ len2 rfl rfl rfl hb16 (by unfold maxLen; omega) (by simp) ?_); intro w2 hown1 hgrow1; have hB2 := Lib.hid (HB1.out.trans (((Below.refl _ _).grown hgrow1 (Nat.le_refl _) (fun j hj => by cases hj)).mono (Nat.le_of_lt z1))); have hsl2 : w2.cell? ⟨w.heap.size, 1, none⟩ = some (.slice a len2 cap) := hgrow1.cell hsl (by simp))
  go_loopw [7, 22] (fun v i wr => ∃ k : Nat, k ≤ len2 ∧ i = .int .i64 k ∧ wr.ownsRow w1.heap.size 41 2 v k (flatP (rowL (forG zs cs) k)) ∧ w1.heap.size ≤ wr.heap.size ∧ Below w.heap.size w wr) (fun _ i _ => len2 - (intOf i).toNat)
  case atStart => exact ⟨0, Nat.zero_le _, rfl, by simpa [rowL, flatP] using hown1, hgrow1.size, hB2.out⟩
  case round =>
    obtain ⟨k, hk, rfl, hrow, hw1, hB⟩ := hrel
    have hsz := hB.size
    by_cases hlt : k < len2
    · obtain ⟨b, off, rfl, hb, e0, e1, e2, e3⟩ := HC.out k hlt
      obtain ⟨b2, off2, rfl, hb2, u0, u1⟩ := HU.out k hlt
      have cF := CF.out k hlt
      have HT := Lib.hid (show rowL (forG zs cs) (k + 1) = rowL (forG zs cs) k ++ [⟨fLo (el zs k) (pr cs k), fHi (el zs k) (pr cs k)⟩] from rfl)
      unfold elv prv at cF
      dsimp only at cF
      generalize fLo (el zs k) (pr cs k) = g0 at *
      generalize fHi (el zs k) (pr cs k) = g1 at *
      generalize el zs k = x at *
      generalize pr cs k = y at *
      obtain ⟨x0, x1, x2, x3⟩ := x
      obtain ⟨y0, y1⟩ := y
      dsimp only at *
      have m0 := (hB.cell (p := ⟨b, off + k * 4, none⟩) hb).trans e0
      have m1 := (hB.cell (p := ⟨b, off + k * 4 + 1, none⟩) hb).trans e1
      have m2 := (hB.cell (p := ⟨b, off + k * 4 + 2, none⟩) hb).trans e2
      have m3 := (hB.cell (p := ⟨b, off + k * 4 + 3, none⟩) hb).trans e3
      have n0 := (hB.cell (p := ⟨b2, off2 + k * 2, none⟩) hb2).trans u0
      have n1 := (hB.cell (p := ⟨b2, off2 + k * 2 + 1, none⟩) hb2).trans u1
      clear e0 e1 e2 e3 u0 u1
      have q3 : b2 < wr.heap.size := by omega
      have HRow := Lib.hid hrow
      have HBr := Lib.hid hB
      generalize hnl : flatP (rowL (forG zs cs) k) = nl at HRow
      have HNL := Lib.hid hnl
      clear hrow hB hnl
      go_wp2_with fail
      obtain ⟨W0, hW0⟩ : ∃ W0, W0 = wr.alloc (.cells #[.int .i64 x0, .int .i64 x1, .int .i64 x2, .int .i64 x3] 71) := ⟨_, rfl⟩
      rw [← hW0]
      have t0 : W0.cell? ⟨wr.heap.size, 0, none⟩ = some (.int .i64 x0) := by rw [hW0]; simp [go_sem]
      have t1 : W0.cell? ⟨wr.heap.size, 1, none⟩ = some (.int .i64 x1) := by rw [hW0]; simp [go_sem]
      have t2 : W0.cell? ⟨wr.heap.size, 2, none⟩ = some (.int .i64 x2) := by rw [hW0]; simp [go_sem]
      have t3 : W0.cell? ⟨wr.heap.size, 3, none⟩ = some (.int .i64 x3) := by rw [hW0]; simp [go_sem]
      have t4 : W0.cell? ⟨b2, off2 + k * 2, none⟩ = some (.int .i64 y0) := by rw [hW0]; simp [go_sem, *]
      have t5 : W0.cell? ⟨b2, off2 + k * 2 + 1, none⟩ = some (.int .i64 y1) := by rw [hW0]; simp [go_sem, *]
      have zW : W0.heap.size = wr.heap.size + 1 := by rw [hW0]; simp
      have HRw := Lib.hid (show W0.ownsRow w1.heap.size 41 2 u7 k nl by rw [hW0]; exact HRow.out.alloc _)
      have HBw := Lib.hid (show Below w.heap.size w W0 by rw [hW0]; exact HBr.out.alloc hsz _)
      have NO := Lib.hid (fun j (hj : u7.ownBlock = some j) => HRow.out.lt j hj)
      clear hW0 m0 m1 m2 m3 n0 n1 HRow HBr
      refine wp_region_held_drew (S := fun w' => w'.cell? ⟨wr.heap.size, 0, none⟩ = some (.int .i64 x0) ∧ w'.cell? ⟨wr.heap.size, 1, none⟩ = some (.int .i64 x1) ∧ w'.cell? ⟨wr.heap.size, 2, none⟩ = some (.int .i64 x2) ∧ w'.cell? ⟨wr.heap.size, 3, none⟩ = some (.int .i64 x3) ∧ w'.cell? ⟨b2, off2 + k * 2, none⟩ = some (.int .i64 y0) ∧ w'.cell? ⟨b2, off2 + k * 2 + 1, none⟩ = some (.int .i64 y1)) (by kernel_rfl) ⟨by simpa [go_sem] using t0, by simpa [go_sem] using t1, by simpa [go_sem] using t2, by simpa [go_sem] using t3, by simpa [go_sem] using t4, by simpa [go_sem] using t5⟩ (fun hHeld => ?_)
      refine wpAnyH_take (i := 0) (oi := _) (v := u7) rfl (by kernel_rfl) (by kernel_rfl) (by kernel_rfl) (fun _ _ _ h => h) (Or.inl ⟨by rfl, fun w' hSw => ?_⟩) hHeld ?_
      · obtain ⟨s0, s1, s2, s3, s4, s5⟩ := hSw
        go_simp
        try (intro hh; exfalso; omega)
        try omega
      try simp only [Act.put, List.setIfInBounds_toArray, List.set_cons_zero, List.set_cons_succ, List.getElem_toArray, List.getElem_cons_succ, List.getElem_cons_zero]
      refine wpAnyH_take (i := 1) (oi := _) (v := Value.agg #[.int .i64 x0, .int .i64 x1, .int .i64 x2, .int .i64 x3]) rfl (by kernel_rfl) (by kernel_rfl) (by kernel_rfl) (fun _ _ _ h => h) (Or.inl ⟨by rfl, fun w' hSw => ?_⟩) hHeld ?_
      · obtain ⟨s0, s1, s2, s3, s4, s5⟩ := hSw
        go_simp
        try (intro hh; exfalso; omega)
        try omega
      try simp only [Act.put, List.setIfInBounds_toArray, List.set_cons_zero, List.set_cons_succ, List.getElem_toArray, List.getElem_cons_succ, List.getElem_cons_zero]
      refine wpAnyH_take (i := 2) (oi := _) (v := Value.slice (some ⟨b2, off2, none⟩) len2 cap2) rfl (by kernel_rfl) (by kernel_rfl) (by kernel_rfl) (fun _ _ _ h => h) (Or.inl ⟨by rfl, fun w' hSw => ?_⟩) hHeld ?_
      · obtain ⟨s0, s1, s2, s3, s4, s5⟩ := hSw
        go_simp
        try (intro hh; exfalso; omega)
        try omega
      try simp only [Act.put, List.setIfInBounds_toArray, List.set_cons_zero, List.set_cons_succ, List.getElem_toArray, List.getElem_cons_succ, List.getElem_cons_zero]
      refine wpAnyH_take (i := 3) (oi := _) (v := Value.int .i64 k) rfl (by kernel_rfl) (by kernel_rfl) (by kernel_rfl) (fun _ _ _ h => h) (Or.inl ⟨by rfl, fun w' hSw => ?_⟩) hHeld ?_
      · obtain ⟨s0, s1, s2, s3, s4, s5⟩ := hSw
        go_simp
        try (intro hh; exfalso; omega)
        try omega
      try simp only [Act.put, List.setIfInBounds_toArray, List.set_cons_zero, List.set_cons_succ, List.getElem_toArray, List.getElem_cons_succ, List.getElem_cons_zero]
      refine wpAnyH_take (i := 4) (oi := _) (v := Value.pointer (some ⟨b2, off2 + k * 2, none⟩)) rfl (by kernel_rfl) (by kernel_rfl) (by kernel_rfl) (fun _ _ _ h => h) (Or.inl ⟨by rfl, fun w' hSw => ?_⟩) hHeld ?_
      · obtain ⟨s0, s1, s2, s3, s4, s5⟩ := hSw
        go_simp
        try (intro hh; exfalso; omega)
        try omega
      try simp only [Act.put, List.setIfInBounds_toArray, List.set_cons_zero, List.set_cons_succ, List.getElem_toArray, List.getElem_cons_succ, List.getElem_cons_zero]
      refine wpAnyH_take (i := 5) (oi := _) (v := Value.agg #[.int .i64 y0, .int .i64 y1]) rfl (by kernel_rfl) (by kernel_rfl) (by kernel_rfl) (fun _ _ _ h => h) (Or.inl ⟨by rfl, fun w' hSw => ?_⟩) hHeld ?_
      · obtain ⟨s0, s1, s2, s3, s4, s5⟩ := hSw
        go_simp
        try (intro hh; exfalso; omega)
        try omega
      try simp only [Act.put, List.setIfInBounds_toArray, List.set_cons_zero, List.set_cons_succ, List.getElem_toArray, List.getElem_cons_succ, List.getElem_cons_zero]
      refine wpAnyH_ready (rs := [6]) (by kernel_rfl) (by simp) ?_
      refine AllReadyH.cons (o := _) rfl (fun K hK => ?_) (AllReadyH.nil)
      go_simp
      go_at_call 58
      refine Calls.mono (cF _) ?_
      rintro e wa ⟨rfl, hba⟩
      have hza := hba.size
      simp only [World.size_drew] at hza
      have hcc := Lib.hid (fun b o (h : b < _) => hba.cell (p := ⟨b, o, none⟩) h)
      have ea0 := (hcc.out (wr.heap.size) (0) (by simp; omega)).trans (show _ = some (.int .i64 x0) by simpa [go_sem] using t0)
      have ea1 := (hcc.out (wr.heap.size) (1) (by simp; omega)).trans (show _ = some (.int .i64 x1) by simpa [go_sem] using t1)
      have ea2 := (hcc.out (wr.heap.size) (2) (by simp; omega)).trans (show _ = some (.int .i64 x2) by simpa [go_sem] using t2)
      have ea3 := (hcc.out (wr.heap.size) (3) (by simp; omega)).trans (show _ = some (.int .i64 x3) by simpa [go_sem] using t3)
      have ea4 := (hcc.out (b2) (off2 + k * 2) (by simp; omega)).trans (show _ = some (.int .i64 y0) by simpa [go_sem] using t4)
      have ea5 := (hcc.out (b2) (off2 + k * 2 + 1) (by simp; omega)).trans (show _ = some (.int .i64 y1) by simpa [go_sem] using t5)
      have ROWA := Lib.hid (own_below HRw.out ((Below.drew (Below.refl _ _)).trans hba))
      have HBa := Lib.hid (HBw.out.trans (((Below.drew (Below.refl _ _)).trans hba).mono (by first | omega | (simp only [World.size_drew]; omega))))
      have za1 : wr.heap.size < wa.heap.size := by omega
      have za2 : b2 < wa.heap.size := by omega
      clear hba hcc
      clear hHeld
      refine hK.out _ _ ⟨ea0, ea1, ea2, ea3, ea4, ea5⟩ (fun hHeld => ?_)
      clear hK K
      try simp only [Act.put, List.setIfInBounds_toArray, List.set_cons_zero, List.set_cons_succ, List.getElem_toArray, List.getElem_cons_succ, List.getElem_cons_zero]
      refine wpAnyH_ready (rs := [7]) (by kernel_rfl) (by simp) ?_
      refine AllReadyH.cons (o := _) rfl (fun K hK => ?_) (AllReadyH.nil)
      go_simp
      clear hHeld
      refine hK.out _ _ ⟨by simp [go_sem, *], by simp [go_sem, *], by simp [go_sem, *], by simp [go_sem, *], by simp [go_sem, *], by simp [go_sem, *]⟩ (fun hHeld => ?_)
      clear hK K
      try simp only [Act.put, List.setIfInBounds_toArray, List.set_cons_zero, List.set_cons_succ, List.getElem_toArray, List.getElem_cons_succ, List.getElem_cons_zero]
      refine wpAnyH_ready (rs := [8]) (by kernel_rfl) (by simp) ?_
      refine AllReadyH.cons (o := _) rfl (fun K hK => ?_) (AllReadyH.nil)
      refine step_append_lies _ rfl (.tmp 27) (.tmp 34) 25 rfl w1.heap.size 41 i0 (.agg #[.int .i64 0, .int .i64 0]) 2 16 Try.underlying25 hi0 hz0 hz1 hz2 rfl (by decide) u7 k _ (by simp [Act.eval, Act.put]) (ROWA.out.alloc _) ⟨wa.heap.size, 0, none⟩ 1 1 [.int .i64 g0, .int .i64 g1] (by simp [Act.eval, Act.put]) rfl (two_new _ _ _) (by simp [Value.oneCell']) (by decide) (by unfold maxLen; omega) (by omega) (by simp; omega) _ rfl ?_
      intro g cap3 w3 hown hgrow hat hgl
      have en : ∀ q, q < wa.heap.size → (∀ j, u7.ownBlock = some j → j ≠ q) → w3.heap[q]? = wa.heap[q]? := fun q h1 h4 => (hgrow.block q (by simp; omega) (fun e => h4 q e.symm rfl)).trans (Below.heap_alloc _ _ _ h1)
      have hx1 : w3.heap[wr.heap.size]? = wa.heap[wr.heap.size]? := en _ (by omega) (fun j hj => by have := (NO.out j hj).2; omega)
      have hx2 : w3.heap[b2]? = wa.heap[b2]? := en _ (by omega) (fun j hj => by have := (NO.out j hj).1; omega)
      have ew0 := (show w3.cell? ⟨wr.heap.size, 0, none⟩ = wa.cell? ⟨wr.heap.size, 0, none⟩ by simp only [World.cell?, hx1]).trans ea0
      have ew1 := (show w3.cell? ⟨wr.heap.size, 1, none⟩ = wa.cell? ⟨wr.heap.size, 1, none⟩ by simp only [World.cell?, hx1]).trans ea1
      have ew2 := (show w3.cell? ⟨wr.heap.size, 2, none⟩ = wa.cell? ⟨wr.heap.size, 2, none⟩ by simp only [World.cell?, hx1]).trans ea2
      have ew3 := (show w3.cell? ⟨wr.heap.size, 3, none⟩ = wa.cell? ⟨wr.heap.size, 3, none⟩ by simp only [World.cell?, hx1]).trans ea3
      have ew4 := (show w3.cell? ⟨b2, off2 + k * 2, none⟩ = wa.cell? ⟨b2, off2 + k * 2, none⟩ by simp only [World.cell?, hx2]).trans ea4
      have ew5 := (show w3.cell? ⟨b2, off2 + k * 2 + 1, none⟩ = wa.cell? ⟨b2, off2 + k * 2 + 1, none⟩ by simp only [World.cell?, hx2]).trans ea5
      have HO3 := Lib.hid hown
      have HB3 := Lib.hid ((HBa.out.alloc (by omega) _).grown hgrow (by simp; omega) (fun j hj => by have := (NO.out j hj).1; omega))
      have hz3 : w1.heap.size ≤ w3.heap.size := by have := hgrow.size; simp only [World.size_alloc] at this; omega
      clear hown hgrow
      clear hHeld
      refine hK.out _ _ ⟨ew0, ew1, ew2, ew3, ew4, ew5⟩ (fun hHeld => ?_)
      clear hK K
      try simp only [Act.put, List.setIfInBounds_toArray, List.set_cons_zero, List.set_cons_succ, List.getElem_toArray, List.getElem_cons_succ, List.getElem_cons_zero]
      refine wpAnyH_take (i := 9) (oi := _) (v := Value.slice (some ⟨g, 0, none⟩) (k + 1) cap3) rfl (by kernel_rfl) (by kernel_rfl) (by kernel_rfl) (fun _ _ _ h => h) (Or.inl ⟨by rfl, fun w' hSw => ?_⟩) hHeld ?_
      · obtain ⟨s0, s1, s2, s3, s4, s5⟩ := hSw
        go_simp
        try (intro hh; exfalso; omega)
        try omega
      try simp only [Act.put, List.setIfInBounds_toArray, List.set_cons_zero, List.set_cons_succ, List.getElem_toArray, List.getElem_cons_succ, List.getElem_cons_zero]
      refine wpAnyH_done (by kernel_rfl) ?_ _
      clear hHeld
      go_wp2_with fail
      go_roundw
      case rel => exact ⟨k + 1, by omega, by go_num, by rw [HT.out, flatP_snoc, HNL.out]; exact HO3.out, hz3, HB3.out⟩
      case measure => simp [intOf]; omega
    · obtain rfl : k = len2 := by omega
      have hn := prs_of_owns (cs := rowL (forG zs cs) k) (by rw [rowL_len]; exact hrow)
      have HN := Lib.hid hn
      have HBf := Lib.hid hB
      clear hn hrow hB
      go_wp2_with fail
      go_ret2
      exact ⟨_, rfl, HN.out, HBf.out⟩
end Go.Proofs.Ythogahdnidjelaa

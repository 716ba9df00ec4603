/-
  The reference's pulls.
-/
import Derived.Test.YtmodplodnimmkaaDoorRefForces
import Derived.BigRegion
namespace Go.Proofs.YtmodplodnimmkaaDoor
open Go.RowKit Go.Shelf
set_option linter.unusedSimpArgs false
theorem two_new1 (W : World) (o : Obj) (x y : Value) : ∀ (j : Nat) (u : Value), [x, y][j]? = some u → ((W.alloc o).alloc (.cells #[x, y] 52)).cell? ((⟨W.heap.size + 1, 0, none⟩ : Addr).add j) = some u := by
  have h := two_new (W.alloc o) x y
  rw [World.size_alloc] at h
  exact h
set_option maxRecDepth 100000 in
set_option maxHeartbeats 8000000 in
theorem rpulls_any (d an fr : Int) (sv cv : Value) (zs : List El) (cs : List Pr) (free : Bool) (hrig : Rig zs cs) (w : World) (hI : Els w.heap.size w sv zs) (hC : Prs w.heap.size w cv cs) :
    Calls Tryd.prog 36 #[.agg #[.int .i64 d, sv, .int .i64 an, .int .i64 fr], cv, .bool free] w fun e w' => ∃ v, e = .returned v ∧ Prs w'.heap.size w' v (rowL (pulG free zs cs) zs.length) ∧ Below w.heap.size w w' := by
  have c1 := fun w' (hb : Below w.heap.size w w') => rforces_any d an fr sv cv zs cs hrig w' (hI.at hb) (hC.at hb)
  obtain ⟨a, cap, rfl, -, -⟩ := hI
  obtain ⟨c, cap2, rfl, -, -⟩ := hC
  have hl := hrig.most
  have HD := Lib.hid (fun k hk => sums_bd hrig k hk)
  have HFB := Lib.hid (fun k hk => force_bd (hrig.els k hk) (hrig.cur k hk))
  have HG := Lib.hid (fun k (hk : k < zs.length) => rowL_get (forG zs cs) zs.length k hk)
  have HFL := rowL_len (forG zs cs) zs.length
  generalize rowL (forG zs cs) zs.length = F at *
  clear hrig
  have HA := Lib.hid (show Below w.heap.size w (w.alloc (.cells #[.int .i64 d, .slice a zs.length cap, .int .i64 an, .int .i64 fr] 24)) from (Below.refl _ _).alloc (Nat.le_refl _) _)
  obtain ⟨i0, hi0, hz0, hz1, hz2⟩ := info_parts infoSp
  generalize zs.length = len at *
  generalize cs.length = len2 at *
  go_enter Tryd.func36, Tryd.ntmps36
  go_wp2_with fail
  refine (c1 _ HA.out).mono ?_
  rintro e w1 ⟨v, rfl, hF, hb1⟩
  have hB1 := HA.out.trans (hb1.mono (by simp))
  have HB1 := Lib.hid hB1
  obtain ⟨af, cf, rfl, -, hfc⟩ := hF
  rw [HFL] at hfc
  have HF := Lib.hid (show ∀ t, t < len → ∃ b off, af = some ⟨b, off, none⟩ ∧ b < w1.heap.size ∧ w1.cell? ⟨b, off + t * 2, none⟩ = some (.int .i64 (fLo (el zs t) (pr cs t))) ∧ w1.cell? ⟨b, off + t * 2 + 1, none⟩ = some (.int .i64 (fHi (el zs t) (pr cs t))) from fun t ht => by
    have h := hfc t ht
    rw [HG.out t ht] at h
    exact h)
  clear hfc hb1 hB1 c1 HG
  rw [HFL]
  clear HFL
  have z0 : w.heap.size ≤ w1.heap.size := HB1.out.size
  go_wp2_with fail
  go_loopw [8, 9, 10, 11] (fun v lo hi i wr => ∃ k : Nat, k ≤ len ∧ i = .int .i64 k ∧ lo = .int .i64 (sLo zs cs k) ∧ hi = .int .i64 (sHi zs cs k) ∧ wr.ownsRow w1.heap.size 52 2 v k (flatP (rowL (pulG free zs cs) k)) ∧ Below w1.heap.size w1 wr) (fun _ _ _ i _ => len - (intOf i).toNat)
  case atStart => exact ⟨0, Nat.zero_le _, rfl, rfl, rfl, World.ownsRow_nil _ _ _ _, Below.refl _ _⟩
  case round =>
    obtain ⟨k, hk, rfl, rfl, rfl, hrow, hB⟩ := hrel
    have hsz := hB.size
    by_cases hlt : k < len
    · obtain ⟨b, off, rfl, hb, e0, e1⟩ := HF.out k hlt
      have s1 := HD.out k (by omega)
      have s2 := HD.out (k + 1) (by omega)
      have hfb := HFB.out k hlt
      have ES := Lib.hid (show sLo zs cs (k + 1) = sLo zs cs k + fLo (el zs k) (pr cs k) ∧ sHi zs cs (k + 1) = sHi zs cs k + fHi (el zs k) (pr cs k) from ⟨rfl, rfl⟩)
      have HT := Lib.hid (show rowL (pulG free zs cs) (k + 1) = rowL (pulG free zs cs) k ++ [⟨hLo free zs cs (k + 1), sHi zs cs (k + 1)⟩] from rfl)
      have n0 := (hB.cell (p := ⟨b, off + k * 2, none⟩) hb).trans e0
      have n1 := (hB.cell (p := ⟨b, off + k * 2 + 1, none⟩) hb).trans e1
      clear e0 e1
      have eS1 := ES.out.1
      have eS2 := ES.out.2
      generalize fLo (el zs k) (pr cs k) = g0 at *
      generalize fHi (el zs k) (pr cs k) = g1 at *
      generalize hlo : sLo zs cs k = lo at *
      generalize hhi : sHi zs cs k = hi at *
      generalize hlo' : sLo zs cs (k + 1) = lo' at *
      generalize hhi' : sHi zs cs (k + 1) = hi' at *
      subst eS1
      subst eS2
      clear hlo hhi
      have W1 : IntKind.i64.wrap (lo + g0) = lo + g0 := by rw [IntKind.wrap_i64]; omega
      have W2 : IntKind.i64.wrap (hi + g1) = hi + g1 := by rw [IntKind.wrap_i64]; omega
      generalize hnl : flatP (rowL (pulG free zs cs) k) = nl at hrow
      have HNL := Lib.hid hnl
      have zb : b < wr.heap.size := by omega
      have HLo := Lib.hid (show sLo zs cs (k + 1) = lo + g0 from hlo')
      have HHi := Lib.hid (show sHi zs cs (k + 1) = hi + g1 from hhi')
      have HRow := Lib.hid hrow
      have HBr := Lib.hid hB
      clear hnl hrow hB hlo' hhi' ES
      cases free
      · have hlo2 : hLo false zs cs (k + 1) = lo + g0 := by show sLo zs cs (k + 1) = _; exact HLo.out
        rw [hlo2] at HT
        clear hlo2
        go_wp2_with (at_builtin; refine wpList_append_own _ rfl _ _ 25 rfl w1.heap.size 52 i0 (.agg #[.int .i64 0, .int .i64 0]) 2 16 Tryd.underlying25 hi0 hz0 hz1 hz2 rfl (by decide) _ _ _ rfl ((HRow.out.alloc _).alloc _) ⟨wr.heap.size + 1, 0, none⟩ 1 1 [.int .i64 (lo + g0), .int .i64 (hi + g1)] rfl rfl (two_new1 _ _ _ _) (by simp [Value.oneCell']) (by unfold maxLen; omega) (by omega) (by simp; omega) ?_; intro v' w5 hrow' hgrow _)
        have hB5 : Below w1.heap.size w1 w5 := ((HBr.out.alloc hsz _).alloc (by simp; omega) _).grown hgrow (by simp; omega) (fun j hj => (HRow.out.lt j hj).1)
        go_roundw
        case rel => exact ⟨k + 1, by omega, by go_num, by rw [HLo.out], by rw [HHi.out], by rw [HT.out, flatP_snoc, HNL.out]; exact hrow', hB5⟩
        case measure => simp [intOf]; omega
      · have hlo2 : hLo true zs cs (k + 1) = max 0 (wid zs cs (k + 1) - (hi + g1)) := by
          rw [← HHi.out]
          rfl
        rw [hlo2] at HT
        clear hlo2
        go_wp2_with fail
        go_loopw [13] (fun i wr2 => ∃ j : Nat, j ≤ k + 1 ∧ i = .int .i64 j ∧ wr2.cell? ⟨wr.heap.size, 0, none⟩ = some (.int .i64 (max 0 (wid zs cs j - (hi + g1)))) ∧ wr2.cell? ⟨wr.heap.size, 1, none⟩ = some (.int .i64 (hi + g1)) ∧ wr2.frozen? ⟨wr.heap.size, 0, none⟩ = false ∧ wr.heap.size < wr2.heap.size ∧ Below wr.heap.size wr wr2) (fun i _ => k + 1 - (intOf i).toNat)
        case atStart => exact ⟨0, Nat.zero_le _, rfl, by rw [show max 0 (wid zs cs 0 - (hi + g1)) = 0 by show max 0 (0 - _) = 0; omega]; simp [go_sem], by simp [go_sem], by simp [go_sem], by simp, by repeat (first | exact Below.refl _ _ | refine Below.setCell ?_ (by simp) _ | refine Below.alloc ?_ (Nat.le_refl _) _)⟩
        case round =>
          obtain ⟨j, hj, rfl, p0, p1, pf, zp, hB2⟩ := hrel
          by_cases hjl : j < k + 1
          · obtain ⟨b', off', he, hb', e0, e1⟩ := HF.out j (by omega)
            simp only [Option.some.injEq, Addr.mk.injEq, and_true] at he
            obtain ⟨rfl, rfl⟩ := he
            have t1 := HD.out j (by omega)
            have t2 := HFB.out j (by omega)
            have HW := Lib.hid (show wid zs cs (j + 1) = max (wid zs cs j) (fLo (el zs j) (pr cs j) + fHi (el zs j) (pr cs j)) from rfl)
            have y0 := (hB2.cell (p := ⟨b, off + j * 2, none⟩) zb).trans ((HBr.out.cell (p := ⟨b, off + j * 2, none⟩) hb').trans e0)
            have y1 := (hB2.cell (p := ⟨b, off + j * 2 + 1, none⟩) zb).trans ((HBr.out.cell (p := ⟨b, off + j * 2 + 1, none⟩) hb').trans e1)
            clear e0 e1
            generalize fLo (el zs j) (pr cs j) = f0 at *
            generalize fHi (el zs j) (pr cs j) = f1 at *
            generalize wid zs cs j = wj at *
            generalize hmx : max 0 (wj - (hi + g1)) = mx at *
            have HS := Lib.hid (show max 0 (wid zs cs (j + 1) - (hi + g1)) = max mx (f0 - (hi + g1 - f1)) by rw [HW.out]; omega)
            have V1 : IntKind.i64.wrap (hi + g1 - f1) = hi + g1 - f1 := by rw [IntKind.wrap_i64]; omega
            have V2 : IntKind.i64.wrap (f0 - (hi + g1 - f1)) = f0 - (hi + g1 - f1) := by rw [IntKind.wrap_i64]; omega
            have d1 : ¬ wr.heap.size = b := by omega
            have d2 : ¬ b = wr.heap.size := by omega
            have HB2 := Lib.hid hB2
            have HJ := Lib.hid (show j + 1 ≤ k + 1 by omega)
            have hli : (j : Int) < (len : Int) := by omega
            clear hB2 n0 n1
            go_wp2_with fail
            go_region
            go_wp2_with fail
            go_roundw
            case rel => exact ⟨j + 1, HJ.out, by go_num, by rw [HS.out]; simp [go_sem, *], by simp [go_sem, *], by simp [go_sem, *], by simpa using zp, by repeat (first | exact HB2.out | refine Below.drew ?_ | refine Below.setCell ?_ (by simp) _)⟩
            case measure => have := HJ.out; simp [intOf]; omega
          · obtain rfl : j = k + 1 := by omega
            have HRow2 := Lib.hid (own_below HRow.out hB2)
            have HB2 := Lib.hid (HBr.out.trans (hB2.mono hsz))
            have hz2' := hB2.size
            clear hB2
            generalize max 0 (wid zs cs (k + 1) - (hi + g1)) = mx at *
            go_wp2_with (at_builtin; refine wpList_append_own _ rfl _ _ 25 rfl w1.heap.size 52 i0 (.agg #[.int .i64 0, .int .i64 0]) 2 16 Tryd.underlying25 hi0 hz0 hz1 hz2 rfl (by decide) _ _ _ rfl (HRow2.out.alloc _) ⟨wr.heap.size, 0, none⟩ 1 1 [.int .i64 mx, .int .i64 (hi + g1)] rfl rfl (two_new _ _ _) (by simp [Value.oneCell']) (by unfold maxLen; omega) (by omega) (by simp; omega) ?_; intro v' w5 hrow' hgrow _)
            have hB5 : Below w1.heap.size w1 w5 := (HB2.out.alloc (by omega) _).grown hgrow (by simp; omega) (fun j hj => (HRow.out.lt j hj).1)
            go_roundw
            case rel => exact ⟨k + 1, by omega, by go_num, by rw [HLo.out], by rw [HHi.out], by rw [HT.out, flatP_snoc, HNL.out]; exact hrow', hB5⟩
            case measure => simp [intOf]; omega
    · obtain rfl : k = len := by omega
      have hn := prs_of_owns (cs := rowL (pulG free zs cs) k) (by rw [rowL_len]; exact hrow)
      have HN := Lib.hid hn
      have HBf := Lib.hid (HB1.out.trans (hB.mono z0))
      clear hn hrow hB
      go_wp2_with fail
      go_ret
      exact ⟨_, rfl, HN.out, HBf.out⟩
end Go.Proofs.YtmodplodnimmkaaDoor

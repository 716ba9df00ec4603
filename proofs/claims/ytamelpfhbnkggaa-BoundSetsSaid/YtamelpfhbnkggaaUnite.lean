/-
  bound.Unite.
-/
import Derived.Test.YtamelpfhbnkggaaOrder
import Derived.Test.YtamelpfhbnkggaaCutMath
namespace Go.Proofs.Ytamelpfhbnkggaa
open Go.RowKit Go.Shelf
noncomputable def uniL (s t : List (Int × Int)) : List (Int × Int) := nset fun x => InL x s ∨ InL x t
noncomputable def uniE (s t : List (Int × Int)) : Int := if bothE s t = 0 then fewE (uniL s t) else bothE s t
noncomputable def uniV (s t : List (Int × Int)) : List (Int × Int) := if bothE s t = 0 then fewL (uniL s t) else []
theorem nrm_lift {s : List (Int × Int)} (h : Nrm s) : ∃ ss : List Sp, s = vals ss :=
  lift_sp s fun z hz => ok_vB.1 (h.1 z hz)
theorem uni_merged {s t ys : List (Int × Int)} (hs : Nrm s) (ht : Nrm t) (hp : ys.Perm (s ++ t)) (ha : Asc ys) : uniL s t = mrg ys := by
  have hok : ∀ y ∈ ys, Ok y := fun y hy => by
    rcases List.mem_append.1 (hp.mem_iff.1 hy) with h | h
    · exact hs.1 y h
    · exact ht.1 y h
  obtain ⟨h1, h2, -⟩ := mrg_spec ys hok ha
  exact nset_eq h1 fun x => by rw [h2, inL_perm x hp, inL_append]

set_option maxRecDepth 10000 in
set_option maxHeartbeats 4000000 in
theorem unite_any (sv tv : Value) (s t : List (Int × Int)) (w : World) (hS : Spans w.heap.size w sv s) (hT : Spans w.heap.size w tv t) :
    Calls Try.prog 43 #[sv, tv] w fun e w' => ∃ v, e = .returned (.tuple #[v, .int .i64 (uniE s t)]) ∧ Spans w'.heap.size w' v (uniV s t) ∧ Below w.heap.size w w' := by
  have c1 := checkSets_any sv tv s t w hS hT
  obtain ⟨a1, cap1, rfl, -⟩ := hS.slice
  obtain ⟨a2, cap2, rfl, -⟩ := hT.slice
  by_cases he : bothE s t = 0
  rotate_left
  · rw [show uniE s t = bothE s t from if_neg he, show uniV s t = [] from if_neg he]
    generalize bothE s t = r at c1 he ⊢
    clear hS hT
    generalize s.length = ls at c1
    generalize t.length = lt at c1
    go_enter Try.func43, Try.ntmps43
    go_wp2_with fail
    refine c1.mono ?_
    rintro e w1 ⟨rfl, hb⟩
    clear c1
    go_wp2_with fail
    go_ret2
    exact ⟨_, rfl, .inl ⟨rfl, rfl⟩, hb⟩
  · rw [show uniE s t = fewE (uniL s t) from if_pos he, show uniV s t = fewL (uniL s t) from if_pos he]
    obtain ⟨es, et⟩ := bothE_zero he
    obtain ⟨hl1, hn1⟩ := setE_zero es
    obtain ⟨hl2, hn2⟩ := setE_zero et
    rw [he] at c1
    obtain ⟨ss, hss⟩ := nrm_lift hn1
    obtain ⟨ts, hts⟩ := nrm_lift hn2
    have UM := Lib.hid (fun ys => uni_merged (ys := ys) hn1 hn2)
    have AS := Lib.hid (nrm_asc hn1)
    have AT := Lib.hid (nrm_asc hn2)
    have HSS := Lib.hid hss
    have HTS := Lib.hid hts
    have HS := Lib.hid hS
    have HT := Lib.hid hT
    clear hS hT he es et hn1 hn2 hss hts
    generalize hL1 : s.length = ls at c1 HS hl1 ⊢
    generalize hL2 : t.length = lt at c1 HT hl2 ⊢
    have HL1 := Lib.hid hL1
    have HL2 := Lib.hid hL2
    clear hL1 hL2
    go_enter Try.func43, Try.ntmps43
    go_wp2_with fail
    refine c1.mono ?_
    rintro e w1 ⟨rfl, hb⟩
    clear c1
    go_wp2_with fail
    refine (inOrder_any _ _ _ _ _ _ _).mono ?_
    rintro e W1 ⟨rfl, hW1⟩
    have hb1 : Below w1.heap.size w1 W1 := by rw [hW1]; exact (((Below.refl _ _).alloc (Nat.le_refl _) _).alloc (by simp) _).alloc (by simp; omega) _
    have hsz1 : W1.heap.size = w1.heap.size + 3 := by rw [hW1]; simp
    have k0 : W1.cell? ⟨w1.heap.size, 0, none⟩ = some (.slice a1 ls cap1) := by rw [hW1]; exact (((Boxed.new w1 43 _).alloc _).alloc _).cell
    have k1 : W1.cell? ⟨w1.heap.size + 1, 0, none⟩ = some (.slice a2 lt cap2) := by
      rw [hW1]; have := ((Boxed.new (w1.alloc (.cells #[.slice a1 ls cap1] 43)) 43 (.slice a2 lt cap2)).alloc (.cells #[.func (.func 99) #[] #[]] 97)).cell; rwa [World.size_alloc] at this
    have k2 : W1.cell? ⟨w1.heap.size + 2, 0, none⟩ = some (.func (.func 99) #[] #[]) := by
      rw [hW1]; have := (Boxed.new ((w1.alloc (.cells #[.slice a1 ls cap1] 43)).alloc (.cells #[.slice a2 lt cap2] 43)) 97 (.func (.func 99) #[] #[])).cell; rwa [World.size_alloc, World.size_alloc] at this
    have hBW : Below w.heap.size w W1 := hb.trans (hb1.mono hb.size)
    have hIs := HS.out.at hBW
    have hIt := HT.out.at hBW
    rw [HSS.out] at hIs
    rw [HTS.out] at hIt
    have e1 : ss.length ≤ 256 := by have := HL1.out; rw [HSS.out] at this; simp [vals] at this; omega
    have e2 : ts.length ≤ 256 := by have := HL2.out; rw [HTS.out] at this; simp [vals] at this; omega
    have cM := callsIn_wide.1 (merged_in 10 (by omega) 120 #[.pointer (some ⟨w1.heap.size, 0, none⟩), .pointer (some ⟨w1.heap.size + 1, 0, none⟩), .pointer (some ⟨w1.heap.size + 2, 0, none⟩)] (enters_of Try.func120 (by kernel_rfl) rfl)
      (fun ys => (vals ys).Perm (vals ss ++ vals ts) ∧ Asc (vals ys)) (fun _ => True) (ss.length + ts.length) (by omega) W1.heap.size W1 (Nat.le_refl _)
      (order_stops 9 (by omega) w1.heap.size (w1.heap.size + 1) (w1.heap.size + 2) W1.heap.size _ _ ss ts (by rw [← HSS.out]; exact AS.out) (by rw [← HTS.out]; exact AT.out) e1 e2 W1 k0 k1 k2 (by omega) (by omega) (by omega) (Nat.le_refl _) hIs hIt))
    clear hW1 hb1 hsz1 k0 k1 k2 hIs hIt
    go_wp2_with fail
    refine cM.mono ?_
    rintro e W4 ⟨v, sx, rfl, ⟨hpx, hax⟩, hrow, hb4⟩
    clear cM
    have hR := UM.out (vals sx) (by rw [HSS.out, HTS.out]; exact hpx) hax
    have hsp := spans_of_owns hrow
    rw [← hR] at hsp
    have cF := fewEnough_any _ (uniL s t) W4.heap.size W4 hsp
    obtain ⟨a5, cap5, rfl, -⟩ := hsp.slice
    clear hrow hR hpx hax hsp UM
    go_wp2_with fail
    refine cF.mono ?_
    rintro e w5 ⟨v5, rfl, hI5, rfl⟩
    clear cF
    go_wp2_with fail
    go_ret2
    exact ⟨v5, rfl, hI5, hBW.trans (hb4.mono hBW.size)⟩
end Go.Proofs.Ytamelpfhbnkggaa

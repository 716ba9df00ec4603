/-
  Cables: where a cable is touched.
-/
import Derived.Test.YtdohfpnnmppdkaaLcG
namespace Go.Proofs.Ytdohfpnnmppdkaa
open Go.RowKit Go.Shelf
set_option linter.unusedSimpArgs false
open Go.RowKit Go.Shelf
set_option linter.unusedSimpArgs false
attribute [local go_sem] Oper.semAt_some
theorem ti_zs0 {l : List Nat} {i : Nat} (hi : i < l.length) : ti (zs l) i = (tn l i : Int) := by unfold ti zs tn; simp [hi]
theorem route_ti {p : List Nat} {j : Nat} (hj : j + 1 < p.length) : ti (zs p.reverse.tail) j = (sgK p j : Int) := by
  rw [ti_zs0 (by simp; omega)]
  unfold sgK tn
  rw [List.getElem?_tail, List.getElem?_reverse (by omega)]
  congr 3
  omega
theorem meet_seg {ls : List Int} {p : List Nat} {a b : Int} (hv : vB a b = true) (hB : lenB ls = true) (hp : ∀ i, i < p.length → tn p i < ls.length) (hl : p.length ≤ 60) {j : Nat} (hj : j + 2 ≤ p.length) :
    (a ≤ sgB ls p (j + 1) ∧ sgB ls p j ≤ b → (bmeetS (sgB ls p j) (sgB ls p (j + 1)) a b).e = 0) ∧ (¬ (a ≤ sgB ls p (j + 1) ∧ sgB ls p j ≤ b) → (bmeetS (sgB ls p j) (sgB ls p (j + 1)) a b).e = 5) := by
  have q := (sg_valid hB hp hl hj).1
  have e : bmeetS (sgB ls p j) (sgB ls p (j + 1)) a b = (if min (sgB ls p (j + 1)) b < max (sgB ls p j) a then ⟨0, 0, 5⟩ else ⟨max (sgB ls p j) a, min (sgB ls p (j + 1)) b, 0⟩) := by unfold bmeetS; rw [if_pos ⟨q, hv⟩]
  rw [e]
  constructor
  · intro h
    rw [if_neg (fun h' => (sgL_two hv q).1 h' h)]
  · intro h
    rw [if_pos ((sgL_two hv q).2 h)]
set_option maxRecDepth 100000 in
set_option maxHeartbeats 8000000 in
theorem touched_any (lv rv : Value) (ls : List Int) (p : List Nat) (a b : Int) (hv : vB a b = true) (hB : lenB ls = true) (hp : ∀ i, i < p.length → tn p i < ls.length) (hl : p.length ≤ 60) (h0 : 0 < p.length) (w : World) (hL : Il w.heap.size w lv ls) (hR : Il w.heap.size w rv (zs p.reverse.tail)) :
    Calls Try.prog 117 #[lv, rv, .agg #[.int .i64 a, .int .i64 b]] w fun e w' => ∃ v, e = .returned v ∧ Il w'.heap.size w' v (zs (sgL ls p a b (p.length - 1))) ∧ Below w.heap.size w w' := by
  obtain ⟨i0, hi0, hz0, hz1, hz2⟩ := info_parts infoI3
  obtain ⟨la, lc, rfl, -, hlc⟩ := hL
  obtain ⟨ra, rc, rfl, -, hrc⟩ := hR
  have hrl : (zs p.reverse.tail).length = p.length - 1 := by simp [zs]
  rw [hrl] at hrc ⊢
  have HX := Lib.hid (fun j (h : j < p.length - 1) => show sgK p j < ls.length from hp _ (by omega))
  have HRC := Lib.hid (show ∀ W j, Below w.heap.size w W → j < p.length - 1 → ∃ g o, ra = some ⟨g, o, none⟩ ∧ W.cell? ⟨g, o + j, none⟩ = some (.int .i64 (sgK p j : Int)) from fun W j hW hj => by
    obtain ⟨g, o, e, hg, c0⟩ := hrc j hj
    rw [route_ti (by omega)] at c0
    exact ⟨g, o, e, (hW.cell (p := ⟨g, _, none⟩) hg).trans c0⟩)
  have HLC := Lib.hid (show ∀ W k, Below w.heap.size w W → k < ls.length → ∃ g o, la = some ⟨g, o, none⟩ ∧ W.cell? ⟨g, o + k, none⟩ = some (.int .i64 (ti ls k)) from fun W k hW hk => by
    obtain ⟨g, o, e, hg, c0⟩ := hlc k hk
    exact ⟨g, o, e, (hW.cell (p := ⟨g, _, none⟩) hg).trans c0⟩)
  have HW := Lib.hid (fun j (h : j < p.length - 1) => show wrap64 (sgB ls p j + ti ls (sgK p j)) = sgB ls p (j + 1) from by
    have q := sgB_bd hB hp j (by omega)
    have r := (sg_valid hB hp hl (j := j) (by omega)).2
    have e : sgB ls p (j + 1) = sgB ls p j + ti ls (sgK p j) := rfl
    rw [e]
    unfold wrap64; omega)
  have HM := Lib.hid (fun j (h : j < p.length - 1) => meet_seg (ls := ls) (p := p) (a := a) (b := b) hv hB hp hl (j := j) (by omega))
  have HI := Lib.hid (fun j => @sgL_in ls p a b j)
  have HO' := Lib.hid (fun j => @sgL_out ls p a b j)
  have HLN := Lib.hid (sgL_len ls p a b)
  have hm : p.length - 1 ≤ 60 := by omega
  clear hlc hrc hp hB hv hrl
  generalize p.length - 1 = m at *
  generalize ls.length = n at *
  obtain ⟨A, hA⟩ : ∃ A, A = w.alloc (.cells #[.int .i64 a, .int .i64 b] 23) := ⟨_, rfl⟩
  have HBA := Lib.hid (show Below w.heap.size w A by rw [hA]; exact (Below.refl _ _).alloc (Nat.le_refl _) _)
  have HXA := Lib.hid (show Bx2 A w.heap.size (.int .i64 a) (.int .i64 b) by rw [hA]; exact Bx2.new _ _ _)
  go_enter Try.func117, Try.ntmps117
  go_upto_region 1 with fail
  rw [← hA]
  clear hA
  go_wp2_with fail
  go_loopw [7, 8, 16] (fun ov bv iv wr => ∃ j : Nat, j ≤ m ∧ iv = .int .i64 j ∧ bv = .int .i64 (sgB ls p j) ∧ wr.ownsRow A.heap.size 3 1 ov (sgL ls p a b j).length (flatN (sgL ls p a b j)) ∧ Below A.heap.size A wr) (fun _ _ iv _ => m - (intOf iv).toNat)
  case atStart => exact ⟨0, Nat.zero_le _, rfl, rfl, World.ownsRow_nil _ _ _ _, Below.refl _ _⟩
  case round =>
    obtain ⟨j, hj, rfl, rfl, hrow, hBj⟩ := hrel
    have HROW := Lib.hid hrow
    have HBj := Lib.hid hBj
    have HLEN := Lib.hid (show (sgL ls p a b j).length ≤ 60 from Nat.le_trans (HLN.out j) (by omega))
    obtain ⟨oa, oc, rfl⟩ := own_form3 hrow
    clear hrow hBj
    by_cases hlt : j < m
    · have hji : (j : Int) < (m : Int) := by omega
      have hxn := HX.out j hlt
      have HB0 := Lib.hid (HBA.out.trans (HBj.out.mono HBA.out.size))
      obtain ⟨rg, ro, rfl, cr⟩ := HRC.out wr j HB0.out hlt
      obtain ⟨lg, lo, rfl, cl⟩ := HLC.out wr _ HB0.out hxn
      have hw := HW.out j hlt
      obtain ⟨hm0, hm5⟩ := HM.out j hlt
      have HIj := Lib.hid (HI.out j)
      have HOj := Lib.hid (HO'.out j)
      have hx0 : (0 : Int) ≤ (sgK p j : Int) := by omega
      have hxi : (sgK p j : Int) < (n : Int) := by omega
      have HXj := Lib.hid (HXA.out.keep HBj.out)
      have x0 := HXj.out.c0
      have x1 := HXj.out.c1
      have c143 := fun W => bmeet_any (sgB ls p j) (sgB ls p (j + 1)) a b W
      clear HX HRC HLC HW HM HI HO' HLN
      generalize bmeetS (sgB ls p j) (sgB ls p (j + 1)) a b = q at *
      generalize ti ls (sgK p j) = t at *
      generalize hB1 : sgB ls p (j + 1) = b1 at *
      have HB1 := Lib.hid hB1
      clear hB1 hxn
      generalize sgB ls p j = b0 at *
      generalize sgK p j = x at *
      go_wp2_with fail
      refine (c143 _).mono ?_
      rintro e w3 ⟨rfl, hb3⟩
      have HB3 := Lib.hid (HBj.out.trans (hb3.mono HBj.out.size))
      have HROW3 := Lib.hid (own_keep3 HROW.out hb3)
      clear hb3 x0 x1 cr cl
      obtain ⟨U, hU⟩ : ∃ U, U = w3.alloc (.cells #[.int .i64 q.lo, .int .i64 q.hi] 23) := ⟨_, rfl⟩
      have hbU : Below w3.heap.size w3 U := by rw [hU]; exact (Below.refl _ _).alloc (Nat.le_refl _) _
      have HBU := Lib.hid (HB3.out.trans (hbU.mono HB3.out.size))
      have HROWU := Lib.hid (own_keep3 HROW3.out hbU)
      go_upto_region 8 with fail
      try rw [← hU]
      clear hU hbU c143
      by_cases hin : a ≤ b1 ∧ b0 ≤ b
      · have HS := Lib.hid (HIj.out hin)
        have hq := hm0 hin
        rw [hq]
        clear hm0 hm5 HIj HOj hin hq
        generalize hln : (sgL ls p a b j).length = ln at *
        have HLN' := Lib.hid hln
        clear hln
        go_wp2_with (at_builtin; refine wpList_append_own _ rfl _ _ 29 rfl A.heap.size 3 i0 (.int .i64 0) 1 8 Try.underlying29 hi0 hz0 hz1 hz2 rfl (by decide) _ _ _ rfl (HROWU.out.alloc _) ⟨U.heap.size, 0, none⟩ 1 1 [.int .i64 (x : Int)] rfl rfl (one_new3 _ _) (by simp [Value.oneCell']) (by unfold maxLen; have := HLEN.out; omega) (by have := HLEN.out; omega) (by have := HBU.out.size; simp; omega) ?_; intro v' w5 hown' hgrow _; have HG := Lib.hid hgrow; have HO := Lib.hid hown'; obtain ⟨g', cap', rfl⟩ := ownsRow_succ hown'; clear hown' hgrow; have HB5 := Lib.hid (show Below A.heap.size A w5 from (HBU.out.alloc HBU.out.size _).grown HG.out (by have := HBU.out.size; simp; omega) (fun r e => (((HROWU.out.alloc (.cells #[.int .i64 (x : Int)] 3)).lt r e).1))))
        have HR5 := Lib.hid (show w5.ownsRow A.heap.size 3 1 _ (sgL ls p a b (j + 1)).length (flatN (sgL ls p a b (j + 1))) by rw [HS.out, List.length_append, HLN'.out, flatN_snoc]; exact HO.out)
        go_roundw
        case rel => exact ⟨j + 1, by omega, by go_num, by rw [HB1.out], HR5.out, HB5.out⟩
        case measure => simp [intOf]; omega
      · have HS := Lib.hid (HOj.out hin)
        have hq := hm5 hin
        rw [hq]
        clear hm0 hm5 HIj HOj hin hq
        go_wp2_with fail
        go_roundw
        case rel => exact ⟨j + 1, by omega, by go_num, by rw [HB1.out], by rw [HS.out]; exact HROWU.out, HBU.out⟩
        case measure => simp [intOf]; omega
    · obtain rfl : j = m := by omega
      have HI := Lib.hid (il_of_own HROW.out)
      go_wp2_with fail
      go_ret
      exact ⟨_, rfl, HI.out, HBA.out.trans (HBj.out.mono HBA.out.size)⟩
end Go.Proofs.Ytdohfpnnmppdkaa

/-
  bound.Outside.
-/
import Derived.Test.YtamelpfhbnkggaaOutMath
namespace Go.Proofs.Ytamelpfhbnkggaa
open Go.RowKit Go.Shelf
noncomputable def outL (zs : List (Int × Int)) (lo hi : Int) : List (Int × Int) := nset fun x => lo ≤ x ∧ x ≤ hi ∧ ¬ InL x zs
noncomputable def outE (zs : List (Int × Int)) (lo hi : Int) : Int := if setE zs = 0 then (if vB lo hi = true then fewE (outL zs lo hi) else 2) else setE zs
noncomputable def outV (zs : List (Int × Int)) (lo hi : Int) : List (Int × Int) := if setE zs = 0 then (if vB lo hi = true then fewL (outL zs lo hi) else []) else []
/-- what stays behind an append of the call's own -/
theorem grow_facts {B : Nat} {w wr w4 : World} {v x y lo hi : Value} {n : Nat} {xs : List Value} {o2 : Obj} (hB : Below B w wr) (hBl : B < wr.heap.size)
    (h0 : wr.cell? ⟨B, 0, none⟩ = some lo) (h1 : wr.cell? ⟨B, 1, none⟩ = some hi) (hrow : wr.ownsRow (B + 1) 23 2 v n xs)
    (hg : ((wr.alloc (.cells #[x, y] 23)).alloc o2).grownBy w4 v.ownBlock) :
    w4.cell? ⟨B, 0, none⟩ = some lo ∧ w4.cell? ⟨B, 1, none⟩ = some hi ∧ w4.cell? ⟨wr.heap.size, 0, none⟩ = some x ∧ w4.cell? ⟨wr.heap.size, 1, none⟩ = some y ∧ Below B w w4 ∧ B < w4.heap.size := by
  have hne : ∀ j, (j ≤ B ∨ wr.heap.size ≤ j) → some j ≠ v.ownBlock := fun j hj h => by have := hrow.lt j h.symm; omega
  have hb4 : Below B w w4 := ((hB.alloc (by omega) _).alloc (by simp; omega) _).grown hg (by simp; omega) (fun j hj => by have := (hrow.lt j hj).1; omega)
  have hs := hg.size
  refine ⟨hg.cell ?_ (hne B (.inl (Nat.le_refl _))), hg.cell ?_ (hne B (.inl (Nat.le_refl _))), hg.cell ?_ (hne wr.heap.size (.inr (Nat.le_refl _))), hg.cell ?_ (hne wr.heap.size (.inr (Nat.le_refl _))), hb4, ?_⟩
  · rw [World.cell?_alloc_past _ _ _ (by simp; omega), World.cell?_alloc_past _ _ _ (by simpa using hBl)]; exact h0
  · rw [World.cell?_alloc_past _ _ _ (by simp; omega), World.cell?_alloc_past _ _ _ (by simpa using hBl)]; exact h1
  · rw [World.cell?_alloc_past _ _ _ (by simp)]; simp [go_sem]
  · rw [World.cell?_alloc_past _ _ _ (by simp)]; simp [go_sem]
  · simp at hs; omega
theorem two_new (W : World) (x y : Value) : ∀ (j : Nat) (u : Value), [x, y][j]? = some u → (W.alloc (.cells #[x, y] 23)).cell? ((⟨W.heap.size, 0, none⟩ : Addr).add j) = some u := by
  intro j u hj
  match j, hj with
  | 0, hj => simp at hj; subst hj; simp [Addr.add]
  | 1, hj => simp at hj; subst hj; simp [Addr.add]
theorem two_new' (wr : World) (o : Obj) (x y : Value) : ∀ (j : Nat) (u : Value), [x, y][j]? = some u → ((wr.alloc o).alloc (.cells #[x, y] 23)).cell? ((⟨wr.heap.size + 1, 0, none⟩ : Addr).add j) = some u := by
  have := two_new (wr.alloc o) x y
  simpa using this

set_option maxRecDepth 10000 in
set_option maxHeartbeats 4000000 in
theorem outside_any (sv : Value) (zs : List (Int × Int)) (lo hi : Int) (w : World) (hI : Spans w.heap.size w sv zs) :
    Calls Try.prog 47 #[sv, .agg #[.int .i64 lo, .int .i64 hi]] w fun e w' => ∃ v, e = .returned (.tuple #[v, .int .i64 (outE zs lo hi)]) ∧ Spans w'.heap.size w' v (outV zs lo hi) ∧ Below w.heap.size w w' := by
  have c1 := fun w' (hb : Below w.heap.size w w') => checkSet_any sv zs w' (hI.at hb)
  obtain ⟨a, cap, rfl, hcell⟩ := hI.slice
  by_cases he : setE zs = 0
  rotate_left
  · rw [show outE zs lo hi = setE zs from if_neg he, show outV zs lo hi = [] from if_neg he]
    generalize setE zs = r at c1 he ⊢
    clear hI hcell
    generalize zs.length = len at c1
    go_enter Try.func47, Try.ntmps47
    go_wp2_with fail
    refine (c1 _ ((Below.refl _ _).alloc (Nat.le_refl _) _)).mono ?_
    rintro e w1 ⟨rfl, hb⟩
    clear c1
    go_wp2_with fail
    go_ret2
    exact ⟨_, rfl, .inl ⟨rfl, rfl⟩, ((Below.refl _ _).alloc (Nat.le_refl _) _).trans (hb.mono (by simp))⟩
  · obtain ⟨hl, hn⟩ := setE_zero he
    rw [he] at c1
    by_cases hv : vB lo hi = true
    rotate_left
    · rw [show outE zs lo hi = 2 by unfold outE; rw [if_pos he, if_neg hv], show outV zs lo hi = [] by unfold outV; rw [if_pos he, if_neg hv]]
      have c2 := fun w => check_bad lo hi hv w
      clear hI hcell he hn hv hl
      generalize zs.length = len at c1
      go_enter Try.func47, Try.ntmps47
      go_wp2_with fail
      refine (c1 _ ((Below.refl _ _).alloc (Nat.le_refl _) _)).mono ?_
      rintro e w1 ⟨rfl, hb⟩
      clear c1
      obtain ⟨hc, hf⟩ := bcell hb
      have k0 : w1.cell? ⟨w.heap.size, 0, none⟩ = some (.int .i64 lo) := by rw [hc _ _ (by simp)]; simp [go_sem]
      have k1 : w1.cell? ⟨w.heap.size, 1, none⟩ = some (.int .i64 hi) := by rw [hc _ _ (by simp)]; simp [go_sem]
      have hB1 : Below w.heap.size w w1 := ((Below.refl _ _).alloc (Nat.le_refl _) _).trans (hb.mono (by simp))
      clear hc hf hb
      go_wp2_with fail
      refine (c2 _).mono ?_
      rintro e w2 ⟨rfl, hb⟩
      go_wp2_with fail
      go_ret2
      exact ⟨_, rfl, .inl ⟨rfl, rfl⟩, hB1.trans (hb.mono hB1.size)⟩
    · rw [show outE zs lo hi = fewE (outL zs lo hi) by unfold outE; rw [if_pos he, if_pos hv], show outV zs lo hi = fewL (outL zs lo hi) by unfold outV; rw [if_pos he, if_pos hv]]
      have c2 := fun w => check_ok lo hi hv w
      obtain ⟨v1, v2, v3⟩ := (vB_iff _ _).1 hv
      have HC := Lib.hid hcell
      have HN := Lib.hid hn
      have HA := Lib.hid (adj_of_nrm hn)
      have ST := Lib.hid (out_start zs hv)
      have SY := Lib.hid (fun k l fr (hk : k < zs.length) => out_yes (l := l) (fr := fr) hn hk hv)
      have SN := Lib.hid (fun k l fr (hk : k < zs.length) => out_no (lo := lo) (hi := hi) (l := l) (fr := fr) hn hk)
      have EY := Lib.hid (fun l fr => out_end_yes (zs := zs) (l := l) (fr := fr) hv)
      have EN := Lib.hid (fun l fr => out_end_no (zs := zs) (lo := lo) (hi := hi) (l := l) (fr := fr))
      obtain ⟨i0, hi0, hz0, hz1, hz2⟩ := info_parts infoSp
      clear hI hcell he hn hv
      generalize hL : zs.length = len at c1 HC HA SY SN EY EN hl ⊢
      have HL := Lib.hid hL
      clear hL
      go_enter Try.func47, Try.ntmps47
      go_wp2_with fail
      refine (c1 _ ((Below.refl _ _).alloc (Nat.le_refl _) _)).mono ?_
      rintro e w1 ⟨rfl, hb⟩
      clear c1
      obtain ⟨hc, hf⟩ := bcell hb
      have k0 : w1.cell? ⟨w.heap.size, 0, none⟩ = some (.int .i64 lo) := by rw [hc _ _ (by simp)]; simp [go_sem]
      have k1 : w1.cell? ⟨w.heap.size, 1, none⟩ = some (.int .i64 hi) := by rw [hc _ _ (by simp)]; simp [go_sem]
      have hB1 : Below w.heap.size w w1 := ((Below.refl _ _).alloc (Nat.le_refl _) _).trans (hb.mono (by simp))
      have hs1 : w.heap.size < w1.heap.size := by have := hb.size; simp at this; omega
      clear hc hf hb
      go_wp2_with fail
      refine (c2 _).mono ?_
      rintro e w2 ⟨rfl, hb⟩
      clear c2
      obtain ⟨hc, hf⟩ := bcell hb
      have l0 : w2.cell? ⟨w.heap.size, 0, none⟩ = some (.int .i64 lo) := by rw [hc _ _ hs1]; exact k0
      have l1 : w2.cell? ⟨w.heap.size, 1, none⟩ = some (.int .i64 hi) := by rw [hc _ _ hs1]; exact k1
      have hB2 : Below w.heap.size w w2 := hB1.trans (hb.mono hB1.size)
      have hs2 : w.heap.size < w2.heap.size := by have := hb.size; omega
      clear hc hf hb k0 k1 hB1 hs1
      go_wp2_with fail
      go_loopw [8, 9, 27] (fun v f i wr => ∃ (k : Nat) (l : List (Int × Int)) (fr : Int), k ≤ len ∧ i = .int .i64 k ∧ f = .int .i64 fr ∧ wr.ownsRow (w.heap.size + 1) 23 2 v l.length (flat l) ∧ OutP zs lo hi k l fr ∧
        wr.cell? ⟨w.heap.size, 0, none⟩ = some (.int .i64 lo) ∧ wr.cell? ⟨w.heap.size, 1, none⟩ = some (.int .i64 hi) ∧ Below w.heap.size w wr ∧ w.heap.size < wr.heap.size)
        (fun _ _ i _ => len - (intOf i).toNat)
      case atStart => exact ⟨0, [], lo, Nat.zero_le _, rfl, rfl, World.ownsRow_nil _ _ _ _, ST.out, l0, l1, hB2, hs2⟩
      case round =>
        obtain ⟨k, l, fr, hk, rfl, rfl, hrow, hP, b0, b1, hB, hs⟩ := hrel
        by_cases hlt : k < len
        · obtain ⟨b, off, rfl, hbb, c0, c1⟩ := HC.out k hlt
          have c0' := (hB.cell (p := ⟨b, off + k * 2, none⟩) hbb).trans c0
          have c1' := (hB.cell (p := ⟨b, off + k * 2 + 1, none⟩) hbb).trans c1
          clear c0 c1
          obtain ⟨⟨o1, o2, o3⟩, -⟩ := HA.out k hlt
          have hP1 := hP.len
          have hP2 := hP.low
          have hP3 := hP.upp
          have S1 := fun h => SY.out k l fr hlt hP h
          have S2 := fun h => SN.out k l fr hlt hP h
          rw [show zs[k]?.getD (0, 0) = gt zs k from rfl] at c0' c1'
          have HS1 := Lib.hid S1
          have HS2 := Lib.hid S2
          clear S1 S2 hP
          generalize gt zs k = z at c0' c1' o1 o2 o3 HS1 HS2
          obtain ⟨zl, zh⟩ := z
          dsimp only at c0' c1' o1 o2 o3 HS1 HS2
          generalize hfl : flat l = fl at hrow
          have HFL := Lib.hid hfl
          clear hfl
          by_cases ht : fr ≤ min (zl - 1) hi
          · have hP' := Lib.hid (HS1.out ht)
            clear HS1 HS2
            go_wp2_with (at_builtin; refine wpList_append_own _ rfl _ _ 43 rfl (w.heap.size + 1) 23 i0 (.agg #[.int .i64 0, .int .i64 0]) 2 16 Try.underlying43 hi0 hz0 hz1 hz2 rfl (by decide) _ _ _ rfl ((hrow.alloc _).alloc _) ⟨wr.heap.size + 1, 0, none⟩ 1 1 [.int .i64 fr, .int .i64 (min (zl - 1) hi)] rfl rfl (two_new' _ _ _ _) (by simp [Value.oneCell']) (by unfold maxLen; omega) (by omega) (by simp; omega) ?_; intro v' w4 hrow' hgrow _; obtain ⟨q0, q1, q2, q3, hB4, hs4⟩ := grow_facts hB hs b0 b1 hrow hgrow)
            go_roundw
            case rel => exact ⟨k + 1, l ++ [(fr, min (zl - 1) hi)], _, by omega, by go_num, rfl, by rw [flat_app, flat_one, HFL.out, List.length_append]; exact hrow', hP'.out, q0, q1, hB4, hs4⟩
            case measure => simp [intOf]; omega
          · have hP' := Lib.hid (HS2.out (by omega))
            clear HS1 HS2
            go_wp2_with fail
            go_roundw
            case rel => exact ⟨k + 1, l, _, by omega, by go_num, rfl, by rw [HFL.out]; exact hrow.alloc _, hP'.out, by simp [go_sem, *], by simp [go_sem, *], hB.alloc (by omega) _, by simp; omega⟩
            case measure => simp [intOf]; omega
        · obtain rfl : k = len := by omega
          have hP1 := hP.len
          have hP2 := hP.low
          have hP3 := hP.upp
          by_cases ht : fr ≤ hi
          · have hR := Lib.hid (show outL zs lo hi = l ++ [(fr, hi)] from EY.out l fr hP ht)
            clear hP EY EN hlt
            generalize hfl : flat l = fl at hrow
            have HFL := Lib.hid hfl
            clear hfl
            go_wp2_with (at_builtin; refine wpList_append_own _ rfl _ _ 43 rfl (w.heap.size + 1) 23 i0 (.agg #[.int .i64 0, .int .i64 0]) 2 16 Try.underlying43 hi0 hz0 hz1 hz2 rfl (by decide) _ _ _ rfl (hrow.alloc _) ⟨wr.heap.size, 0, none⟩ 1 1 [.int .i64 fr, .int .i64 hi] rfl rfl (two_new _ _ _) (by simp [Value.oneCell']) (by unfold maxLen; omega) (by omega) (by simp; omega) ?_; intro v' w4 hrow' hgrow _)
            have hB4 : Below w.heap.size w w4 := (hB.alloc (by omega) _).grown hgrow (by simp; omega) (fun j hj => by have := (hrow.lt j hj).1; omega)
            have cF := fewEnough_any _ (l ++ [(fr, hi)]) w4.heap.size w4 (spans_of_owns (base := w.heap.size + 1) (by rw [flat_app, flat_one, HFL.out, List.length_append]; exact hrow'))
            rw [← hR.out] at cF
            refine cF.mono ?_
            rintro e w5 ⟨v5, rfl, hI5, rfl⟩
            go_wp2_with fail
            go_ret2
            exact ⟨v5, rfl, hI5, hB4⟩
          · have hR := Lib.hid (show outL zs lo hi = l from EN.out l fr hP (by omega))
            clear hP EY EN hlt
            have cF := fewEnough_any _ l wr.heap.size wr (spans_of_owns (base := w.heap.size + 1) hrow)
            go_wp2_with fail
            rw [← hR.out] at cF
            refine cF.mono ?_
            rintro e w5 ⟨v5, rfl, hI5, rfl⟩
            go_wp2_with fail
            go_ret2
            exact ⟨v5, rfl, hI5, hB⟩
end Go.Proofs.Ytamelpfhbnkggaa

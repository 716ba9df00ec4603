/-
  The reference's Unite.
-/
import Derived.Test.YtamelpfhbnkggaaRefCover
namespace Go.Proofs.Ytamelpfhbnkggaa
open Go.RowKit Go.Shelf
set_option linter.unusedSimpArgs false
theorem own_nil (W : World) (base : Nat) (h : base ≤ W.heap.size) : (W.alloc (.cells #[] 23)).ownsRow base 23 2 (.slice (some ⟨W.heap.size, 0, none⟩) 0 0) 0 [] :=
  ⟨rfl, .inr ⟨_, 0, #[], rfl, h, World.alloc_heap_new W _, Nat.le_refl _, by unfold maxLen; omega, rfl, rfl⟩⟩
theorem row_cells {W : World} {b off : Nat} {zs : List (Int × Int)} (h : RowAt W b off zs) : ∀ (j : Nat) (u : Value), (flat zs)[j]? = some u → W.cell? ((⟨b, off, none⟩ : Addr).add j) = some u := by
  intro j u hj
  have hl : j < (flat zs).length := (List.getElem?_eq_some_iff.1 hj).1
  rw [flat_len] at hl
  obtain ⟨h1, h2⟩ := flat_get zs (j / 2) (by omega)
  obtain ⟨c1, c2⟩ := h (j / 2) (by omega)
  rw [Go.WideShapes.add_plain]
  rcases Nat.mod_two_eq_zero_or_one j with h0 | h0
  · have e : j / 2 * 2 = j := by omega
    rw [e] at h1 c1
    rw [c1, ← h1]; exact hj
  · have e : j / 2 * 2 + 1 = j := by omega
    rw [e] at h2
    rw [show off + j = off + j / 2 * 2 + 1 by omega, c2, ← h2]; exact hj
theorem flat_one_cell (zs : List (Int × Int)) : ∀ u ∈ flat zs, u.oneCell' = true := by
  intro u hu
  simp only [flat, List.mem_flatMap] at hu
  obtain ⟨p, _, hp⟩ := hu
  simp at hp
  rcases hp with rfl | rfl <;> rfl
set_option maxRecDepth 10000 in
set_option maxHeartbeats 4000000 in
theorem runite_any (sv tv : Value) (s t : List (Int × Int)) (w : World) (hS : Spans w.heap.size w sv s) (hT : Spans w.heap.size w tv t) :
    Calls Try.prog 44 #[sv, tv] w fun e w' => ∃ v, e = .returned (.tuple #[v, .int .i64 (uniE s t)]) ∧ Spans w'.heap.size w' v (uniV s t) ∧ Below w.heap.size w w' := by
  have c1 := fun w' (hb : Below w.heap.size w w') => both_any sv tv s t w' (hS.at hb) (hT.at hb)
  by_cases he : bothE s t = 0
  rotate_left
  · rw [show uniE s t = bothE s t from if_neg he, show uniV s t = [] from if_neg he]
    obtain ⟨a1, cap1, rfl, -⟩ := hS.slice
    obtain ⟨a2, cap2, rfl, -⟩ := hT.slice
    generalize bothE s t = r at c1 he ⊢
    have hb0 : (r != 0) = true := by simpa using he
    clear hS hT
    generalize s.length = ls at c1
    generalize t.length = lt at c1
    go_enter Try.func44, Try.ntmps44
    go_wp2_with fail
    refine (c1 _ (Below.refl _ _)).mono ?_
    rintro e w1 ⟨rfl, hb⟩
    go_wp2_with fail
    refine (c1 _ hb).mono ?_
    rintro e w2 ⟨rfl, hb2⟩
    go_wp2_with fail
    go_ret2
    exact ⟨_, rfl, .inl ⟨rfl, rfl⟩, hb.trans (hb2.mono hb.size)⟩
  · obtain ⟨es, et⟩ := bothE_zero he
    obtain ⟨hl1, hn1⟩ := setE_zero es
    obtain ⟨hl2, hn2⟩ := setE_zero et
    have EQ1 := Lib.hid (show uniE s t = fewE (uniL s t) from if_pos he)
    have EQ2 := Lib.hid (show uniV s t = fewL (uniL s t) from if_pos he)
    rw [he] at c1
    obtain ⟨a2, cap2, rfl, hcT⟩ := hT.slice
    have HT := Lib.hid hcT
    have HA := Lib.hid (fun k hk => hn2.1 _ (gt_mem (zs := t) (k := k) hk))
    have HK := Lib.hid (fun k hk => gt_take t k hk)
    have HG := Lib.hid (show ∀ k, t[k]?.getD (0, 0) = gt t k from fun _ => rfl)
    have HTk := Lib.hid (show t.take t.length = t from List.take_length)
    have HN1 := Lib.hid hn1
    have hls : s.length ≤ 2147483649 := nrm_len hn1
    have hfl : (flat s).length = s.length * 2 := flat_len s
    have hfo := flat_one_cell s
    obtain ⟨i0, hi0, hz0, hz1, hz2⟩ := info_parts infoSp
    clear hT hcT he es et hn1 hn2 hl1
    generalize uniE s t = uE at *
    generalize uniV s t = uV at *
    generalize t.length = lt at *
    rcases hS with ⟨rfl, hs0⟩ | ⟨b1, off1, cap1, rfl, hb1, hrow⟩
    · subst hs0
      go_enter Try.func44, Try.ntmps44
      go_wp2_with fail
      refine (c1 _ (Below.refl _ _)).mono ?_
      rintro e w1 ⟨rfl, hb⟩
      clear c1
      have ow := own_nil w1 w.heap.size hb.size
      go_wp2_with (at_builtin; refine wpList_append_own_none rfl _ _ 43 rfl w.heap.size 23 i0 2 Try.underlying43 hi0 _ _ _ rfl ow rfl ?_)
      have hB0 := hb.alloc hb.size (.cells #[] 23)
      have hs0 := spans_of_owns (zs := []) ow
      go_loopw [6, 7] (fun o i wr => ∃ (j : Nat) (l : List (Int × Int)), j ≤ lt ∧ i = .int .i64 j ∧ Nrm l ∧ (∀ x, InL x l ↔ InL x [] ∨ InL x (t.take j)) ∧ Spans wr.heap.size wr o l ∧ Below w.heap.size w wr) (fun _ i _ => lt - (intOf i).toNat)
      case atStart => exact ⟨0, [], Nat.zero_le _, rfl, HN1.out, fun x => by rw [List.take_zero]; exact ⟨.inl, fun h => h.resolve_right (inL_nil x)⟩, hs0, hB0⟩
      case round =>
        obtain ⟨j, l, hj, rfl, hln, hlm, hsp, hB2⟩ := hrel
        have HLM := Lib.hid hlm
        have HLN := Lib.hid hln
        clear hlm
        by_cases hjt : j < lt
        · obtain ⟨b, off, rfl, hbb, c0, c1⟩ := HT.out j hjt
          rw [HG.out] at c0 c1
          have c0' := (hB2.cell (p := ⟨b, off + j * 2, none⟩) hbb).trans c0
          have c1' := (hB2.cell (p := ⟨b, off + j * 2 + 1, none⟩) hbb).trans c1
          have hok : Ok (gt t j) := HA.out j hjt
          have HKj := Lib.hid (HK.out j hjt)
          clear c0 c1
          generalize gt t j = z at c0' c1' hok HKj
          obtain ⟨zl, zh⟩ := z
          dsimp only at c0' c1'
          have cp := put_any _ l zl zh wr hsp hln hok (nrm_len hln)
          obtain ⟨p1, p2⟩ := putL_spec hln hok
          have HP1 := Lib.hid p1
          have HP2 := Lib.hid p2
          obtain ⟨ao, capo, rfl, -⟩ := hsp.slice
          dsimp only at HP1 HP2
          generalize (nset fun n => InL n l ∨ (zl ≤ n ∧ n ≤ zh)) = l2 at cp HP1 HP2
          clear hsp hln hok p1 p2
          go_wp2_with fail
          refine cp.mono ?_
          rintro e w1 ⟨v, rfl, hsp2, hb1⟩
          go_wp2_with fail
          go_roundw
          case rel => exact ⟨j + 1, l2, by omega, by go_num, HP1.out, fun x => by rw [HP2.out, HLM.out, HKj.out, inL_append, inL_one, or_assoc], hsp2, hB2.trans (hb1.mono hB2.size)⟩
          case measure => simp [intOf]; omega
        · obtain rfl : j = lt := by omega
          have he : uniL [] t = l := nset_eq HLN.out fun x => by rw [HLM.out, HTk.out]
          have HE := Lib.hid he
          clear hjt he
          have cm := many_any _ l wr.heap.size wr hsp
          obtain ⟨ao, capo, rfl, -⟩ := hsp.slice
          go_wp2_with fail
          refine cm.mono ?_
          rintro e w5 ⟨v5, rfl, hI5, rfl⟩
          go_wp2_with fail
          go_ret2
          exact ⟨v5, by rw [EQ1.out, HE.out]; rfl, by rw [EQ2.out, HE.out]; exact hI5, hB2⟩
    · go_enter Try.func44, Try.ntmps44
      go_wp2_with fail
      refine (c1 _ (Below.refl _ _)).mono ?_
      rintro e w1 ⟨rfl, hb⟩
      clear c1
      have ow := own_nil w1 w.heap.size hb.size
      have hB1 := hb.alloc hb.size (.cells #[] 23)
      have hrw := row_cells (hrow.below hB1 hb1)
      go_wp2_with (at_builtin; refine wpList_append_own _ rfl _ _ 43 rfl w.heap.size 23 i0 (.agg #[.int .i64 0, .int .i64 0]) 2 16 Try.underlying43 hi0 hz0 hz1 hz2 rfl (by decide) _ _ _ rfl ow ⟨b1, off1, none⟩ s.length cap1 (flat s) rfl hfl hrw hfo (by unfold maxLen; omega) (by omega) (by have := hb.size; simp; omega) ?_; intro v0 w2 hrow2 hgrow2 _; have hB0 : Below w.heap.size w w2 := hB1.grown hgrow2 (by have := hb.size; simp; omega) (fun j hj => (ow.lt j hj).1); have hs0 := spans_of_owns (zs := s) (by rw [Nat.zero_add, List.nil_append] at hrow2; exact hrow2))
      clear hrow2 hgrow2 hrw hB1 ow hrow
      go_loopw [6, 7] (fun o i wr => ∃ (j : Nat) (l : List (Int × Int)), j ≤ lt ∧ i = .int .i64 j ∧ Nrm l ∧ (∀ x, InL x l ↔ InL x s ∨ InL x (t.take j)) ∧ Spans wr.heap.size wr o l ∧ Below w.heap.size w wr) (fun _ i _ => lt - (intOf i).toNat)
      case atStart => exact ⟨0, s, Nat.zero_le _, rfl, HN1.out, fun x => by rw [List.take_zero]; exact ⟨.inl, fun h => h.resolve_right (inL_nil x)⟩, hs0, hB0⟩
      case round =>
        obtain ⟨j, l, hj, rfl, hln, hlm, hsp, hB2⟩ := hrel
        have HLM := Lib.hid hlm
        have HLN := Lib.hid hln
        clear hlm
        by_cases hjt : j < lt
        · obtain ⟨b, off, rfl, hbb, c0, c1⟩ := HT.out j hjt
          rw [HG.out] at c0 c1
          have c0' := (hB2.cell (p := ⟨b, off + j * 2, none⟩) hbb).trans c0
          have c1' := (hB2.cell (p := ⟨b, off + j * 2 + 1, none⟩) hbb).trans c1
          have hok : Ok (gt t j) := HA.out j hjt
          have HKj := Lib.hid (HK.out j hjt)
          clear c0 c1
          generalize gt t j = z at c0' c1' hok HKj
          obtain ⟨zl, zh⟩ := z
          dsimp only at c0' c1'
          have cp := put_any _ l zl zh wr hsp hln hok (nrm_len hln)
          obtain ⟨p1, p2⟩ := putL_spec hln hok
          have HP1 := Lib.hid p1
          have HP2 := Lib.hid p2
          obtain ⟨ao, capo, rfl, -⟩ := hsp.slice
          dsimp only at HP1 HP2
          generalize (nset fun n => InL n l ∨ (zl ≤ n ∧ n ≤ zh)) = l2 at cp HP1 HP2
          clear hsp hln hok p1 p2
          go_wp2_with fail
          refine cp.mono ?_
          rintro e w1 ⟨v, rfl, hsp2, hb1⟩
          go_wp2_with fail
          go_roundw
          case rel => exact ⟨j + 1, l2, by omega, by go_num, HP1.out, fun x => by rw [HP2.out, HLM.out, HKj.out, inL_append, inL_one, or_assoc], hsp2, hB2.trans (hb1.mono hB2.size)⟩
          case measure => simp [intOf]; omega
        · obtain rfl : j = lt := by omega
          have he : uniL s t = l := nset_eq HLN.out fun x => by rw [HLM.out, HTk.out]
          have HE := Lib.hid he
          clear hjt he
          have cm := many_any _ l wr.heap.size wr hsp
          obtain ⟨ao, capo, rfl, -⟩ := hsp.slice
          go_wp2_with fail
          refine cm.mono ?_
          rintro e w5 ⟨v5, rfl, hI5, rfl⟩
          go_wp2_with fail
          go_ret2
          exact ⟨v5, by rw [EQ1.out, HE.out]; rfl, by rw [EQ2.out, HE.out]; exact hI5, hB2⟩
end Go.Proofs.Ytamelpfhbnkggaa

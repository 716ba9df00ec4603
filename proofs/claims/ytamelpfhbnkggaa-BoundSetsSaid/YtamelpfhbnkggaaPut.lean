/-
  The reference's put.
-/
import Derived.Test.YtamelpfhbnkggaaSetAny
import Derived.Deep.RegionHeld3
import Derived.Laws.AppendOwnNone
import Derived.Maps.AppendAt
namespace Go.Proofs.Ytamelpfhbnkggaa
open Go.RowKit Go.Shelf
set_option linter.unusedSimpArgs false
theorem dist_sym {a b : Option Nat} (h : a = none ∨ a ≠ b) : b = none ∨ b ≠ a := by
  cases b with
  | none => exact .inl rfl
  | some k => exact .inr fun e => by subst e; rcases h with h | h; cases h; exact h rfl
theorem dist_new {a a' b : Option Nat} {H : Nat} (h : a = none ∨ a ≠ b) (hob : a' = a ∨ a' = some H) (hlt : ∀ k, b = some k → k < H) : a' = none ∨ a' ≠ b := by
  rcases hob with rfl | rfl
  · exact h
  · exact .inr fun e => by have := hlt H e.symm; omega
theorem putL_spec {s : List (Int × Int)} {x : Int × Int} (hn : Nrm s) (hx : Ok x) : Nrm (nset fun n => InL n s ∨ (x.1 ≤ n ∧ n ≤ x.2)) ∧ ∀ n, InL n (nset fun n => InL n s ∨ (x.1 ≤ n ∧ n ≤ x.2)) ↔ InL n s ∨ (x.1 ≤ n ∧ n ≤ x.2) :=
  nset_any fun n h => by
    obtain ⟨a, b, c⟩ := hx
    rcases h with h | h
    · exact inL_bd hn h
    · omega
theorem own_setCell {W : World} {base B o : Nat} {e : TypeId} {size n : Nat} {v u : Value} {xs : List Value} (h : W.ownsRow base e size v n xs) (hne : v.ownBlock ≠ some B) : (W.setCell ⟨B, o, none⟩ u).ownsRow base e size v n xs :=
  h.kept (row := some B) ⟨rfl, rfl, rfl, (KeepsWalks.setCell W _ u).size, fun k _ hk => Below.heap_setCell _ _ _ k (fun e => hk (by rw [e]))⟩ (.inr hne)
theorem Boxed2.below {W W' : World} {B : Nat} {t : TypeId} {u v : Value} (h : Boxed2 W B t u v) (hb : Below W.heap.size W W') : Boxed2 W' B t u v := (hb.block B h.lt).trans h

set_option maxRecDepth 10000 in
set_option maxHeartbeats 8000000 in
theorem put_any (sv : Value) (s : List (Int × Int)) (x1 x2 : Int) (w : World) (hS : Spans w.heap.size w sv s) (hn : Nrm s) (hx : Ok (x1, x2)) (hlen : s.length ≤ 2147483649) :
    Calls Try.prog 102 #[sv, .agg #[.int .i64 x1, .int .i64 x2]] w fun e w' => ∃ v, e = .returned v ∧ Spans w'.heap.size w' v (nset fun n => InL n s ∨ (x1 ≤ n ∧ n ≤ x2)) ∧ Below w.heap.size w w' := by
  obtain ⟨ad, cap, rfl, hcell⟩ := hS.slice
  have HC := Lib.hid hcell
  have HA := Lib.hid (adj_of_nrm hn)
  have ST := Lib.hid (put_start s hx)
  have SB := Lib.hid (fun k b y a hk h hc => put_before (x := (x1, x2)) (y := y) (k := k) (b := b) (a := a) hn hk h hc)
  have SA := Lib.hid (fun k b y a hk h hc => put_after (x := (x1, x2)) (y := y) (k := k) (b := b) (a := a) hn hk h hc)
  have SX := Lib.hid (fun k b y a hk h c1 c2 => put_touch (x := (x1, x2)) (y := y) (k := k) (b := b) (a := a) hn hk h c1 c2)
  have EE := Lib.hid (fun b y a h => put_end (s := s) (x := (x1, x2)) (y := y) (b := b) (a := a) h)
  have HG := Lib.hid (show ∀ k, s[k]?.getD (0, 0) = gt s k from fun _ => rfl)
  obtain ⟨i0, hi0, hz0, hz1, hz2⟩ := info_parts infoSp
  clear hS hcell hn
  generalize hL : s.length = len at *
  clear hL
  go_enter Try.func102, Try.ntmps102
  go_wp2_with fail
  go_loopw [5, 6, 7] (fun v1 v2 i wr => ∃ (k : Nat) (b : List (Int × Int)) (y : Int × Int) (a : List (Int × Int)), k ≤ len ∧ i = .int .i64 k ∧ PutP s (x1, x2) k b y a ∧ wr.ownsRow (w.heap.size + 1) 23 2 v1 b.length (flat b) ∧ wr.ownsRow (w.heap.size + 1) 23 2 v2 a.length (flat a) ∧ (v1.ownBlock = none ∨ v1.ownBlock ≠ v2.ownBlock) ∧ Boxed2 wr w.heap.size 23 (.int .i64 y.1) (.int .i64 y.2) ∧ Below w.heap.size w wr)
    (fun _ _ i _ => len - (intOf i).toNat)
  case atStart => exact ⟨0, [], (x1, x2), [], Nat.zero_le _, rfl, ST.out, World.ownsRow_nil _ _ _ _, World.ownsRow_nil _ _ _ _, .inl rfl, Boxed2.new w 23 _ _, (Below.refl _ _).alloc (Nat.le_refl _) _⟩
  case round =>
    obtain ⟨k, b, y, a, hk, rfl, hP, hr1, hr2, hd, hbox, hB⟩ := hrel
    have HP := Lib.hid hP
    obtain ⟨hy1, hy2, hy3⟩ := (put_parts.1 hP.nrm).2.1
    have hbl := hP.blen
    have hal := hP.alen
    clear hP
    have hsz := hB.size
    have hwlt : w.heap.size < wr.heap.size := hbox.lt
    by_cases hlt : k < len
    · obtain ⟨bb, off, rfl, hbb, c0, c1⟩ := HC.out k hlt
      rw [HG.out] at c0 c1
      obtain ⟨⟨o1, o2, o3⟩, -⟩ := HA.out k hlt
      have SBk := Lib.hid (SB.out k b y a hlt HP.out)
      have SAk := Lib.hid (SA.out k b y a hlt HP.out)
      have SXk := Lib.hid (SX.out k b y a hlt HP.out)
      clear SB SA SX EE HC HA HG ST
      generalize gt s k = z at c0 c1 o1 o2 o3 SBk SAk SXk
      obtain ⟨zl, zh⟩ := z
      obtain ⟨yl, yh⟩ := y
      dsimp only at c0 c1 o1 o2 o3 SBk SAk SXk hy1 hy2 hy3 hbox
      have c0' := (hB.cell (p := ⟨bb, off + k * 2, none⟩) hbb).trans c0
      have c1' := (hB.cell (p := ⟨bb, off + k * 2 + 1, none⟩) hbb).trans c1
      have y0 := hbox.c0
      have y1 := hbox.c1
      have hW1 : IntKind.i64.wrap (zh + 1) = zh + 1 := by rw [IntKind.wrap_i64]; omega
      have hW2 : IntKind.i64.wrap (yh + 1) = yh + 1 := by rw [IntKind.wrap_i64]; omega
      generalize hBB : w.heap.size = B at *
      have HBB := Lib.hid hBB
      clear hBB
      generalize hflb : flat b = fb at hr1
      generalize hfla : flat a = fa at hr2
      have HFB := Lib.hid hflb
      have HFA := Lib.hid hfla
      clear hflb hfla
      generalize hnb : b.length = nb at hr1 hbl
      generalize hna : a.length = na at hr2 hal
      have HNB := Lib.hid hnb
      have HNA := Lib.hid hna
      clear hnb hna
      have e1 := hr1.lt
      have e2 := hr2.lt
      by_cases hc1 : zh + 1 < yl
      · go_wp2_with fail
        refine wp_region_held_drew (S := fun w' => w'.cell? ⟨bb, off + k * 2 + 1, none⟩ = some (.int .i64 zh) ∧ w'.cell? ⟨B, 0, none⟩ = some (.int .i64 yl)) (by kernel_rfl) ⟨c1', y0⟩ (fun hHeld => ?_)
        refine wpAnyH_take (i := 0) (oi := _) (v := .slice (some ⟨bb, off, none⟩) len cap) rfl (by kernel_rfl) (by kernel_rfl) (by kernel_rfl) (fun _ _ _ h => h) (Or.inl ⟨by rfl, fun w' hSw => ?_⟩) hHeld ?_
        · obtain ⟨s1, s2⟩ := hSw
          go_simp
          try (intro hh; exfalso; omega)
          try omega
        try simp only [Act.put, List.setIfInBounds_toArray, List.set_cons_zero, List.set_cons_succ, List.getElem_toArray, List.getElem_cons_succ, List.getElem_cons_zero]
        refine wpAnyH_take (i := 1) (oi := _) (v := .int .i64 k) rfl (by kernel_rfl) (by kernel_rfl) (by kernel_rfl) (fun _ _ _ h => h) (Or.inl ⟨by rfl, fun w' hSw => ?_⟩) hHeld ?_
        · obtain ⟨s1, s2⟩ := hSw
          go_simp
          try (intro hh; exfalso; omega)
          try omega
        try simp only [Act.put, List.setIfInBounds_toArray, List.set_cons_zero, List.set_cons_succ, List.getElem_toArray, List.getElem_cons_succ, List.getElem_cons_zero]
        refine wpAnyH_take (i := 2) (oi := _) (v := .pointer (some ⟨bb, off + k * 2, none⟩)) rfl (by kernel_rfl) (by kernel_rfl) (by kernel_rfl) (fun _ _ _ h => h) (Or.inl ⟨by rfl, fun w' hSw => ?_⟩) hHeld ?_
        · obtain ⟨s1, s2⟩ := hSw
          go_simp
          try (intro hh; exfalso; omega)
          try omega
        try simp only [Act.put, List.setIfInBounds_toArray, List.set_cons_zero, List.set_cons_succ, List.getElem_toArray, List.getElem_cons_succ, List.getElem_cons_zero]
        refine wpAnyH_take (i := 3) (oi := _) (v := .pointer (some ⟨bb, off + k * 2 + 1, none⟩)) rfl (by kernel_rfl) (by kernel_rfl) (by kernel_rfl) (fun _ _ _ h => h) (Or.inl ⟨by rfl, fun w' hSw => ?_⟩) hHeld ?_
        · obtain ⟨s1, s2⟩ := hSw
          go_simp
          try (intro hh; exfalso; omega)
          try omega
        try simp only [Act.put, List.setIfInBounds_toArray, List.set_cons_zero, List.set_cons_succ, List.getElem_toArray, List.getElem_cons_succ, List.getElem_cons_zero]
        refine wpAnyH_take (i := 4) (oi := _) (v := .int .i64 zh) rfl (by kernel_rfl) (by kernel_rfl) (by kernel_rfl) (fun _ _ _ h => h) (Or.inl ⟨by rfl, fun w' hSw => ?_⟩) hHeld ?_
        · obtain ⟨s1, s2⟩ := hSw
          go_simp
          try (intro hh; exfalso; omega)
          try omega
        try simp only [Act.put, List.setIfInBounds_toArray, List.set_cons_zero, List.set_cons_succ, List.getElem_toArray, List.getElem_cons_succ, List.getElem_cons_zero]
        refine wpAnyH_take (i := 5) (oi := _) (v := .int .i64 (zh + 1)) rfl (by kernel_rfl) (by kernel_rfl) (by kernel_rfl) (fun _ _ _ h => h) (Or.inl ⟨by rfl, fun w' hSw => ?_⟩) hHeld ?_
        · obtain ⟨s1, s2⟩ := hSw
          go_simp
          try (intro hh; exfalso; omega)
          try omega
        try simp only [Act.put, List.setIfInBounds_toArray, List.set_cons_zero, List.set_cons_succ, List.getElem_toArray, List.getElem_cons_succ, List.getElem_cons_zero]
        refine wpAnyH_take (i := 6) (oi := _) (v := .pointer (some ⟨B, 0, none⟩)) rfl (by kernel_rfl) (by kernel_rfl) (by kernel_rfl) (fun _ _ _ h => h) (Or.inl ⟨by rfl, fun w' hSw => ?_⟩) hHeld ?_
        · obtain ⟨s1, s2⟩ := hSw
          go_simp
          try (intro hh; exfalso; omega)
          try omega
        try simp only [Act.put, List.setIfInBounds_toArray, List.set_cons_zero, List.set_cons_succ, List.getElem_toArray, List.getElem_cons_succ, List.getElem_cons_zero]
        refine wpAnyH_take (i := 7) (oi := _) (v := .int .i64 yl) rfl (by kernel_rfl) (by kernel_rfl) (by kernel_rfl) (fun _ _ _ h => h) (Or.inl ⟨by rfl, fun w' hSw => ?_⟩) hHeld ?_
        · obtain ⟨s1, s2⟩ := hSw
          go_simp
          try (intro hh; exfalso; omega)
          try omega
        try simp only [Act.put, List.setIfInBounds_toArray, List.set_cons_zero, List.set_cons_succ, List.getElem_toArray, List.getElem_cons_succ, List.getElem_cons_zero]
        refine wpAnyH_take (i := 8) (oi := _) (v := .bool true) rfl (by kernel_rfl) (by kernel_rfl) (by kernel_rfl) (fun _ _ _ h => h) (Or.inl ⟨by rfl, fun w' hSw => ?_⟩) hHeld ?_
        · obtain ⟨s1, s2⟩ := hSw
          go_simp
          try (intro hh; exfalso; omega)
          try omega
        try simp only [Act.put, List.setIfInBounds_toArray, List.set_cons_zero, List.set_cons_succ, List.getElem_toArray, List.getElem_cons_succ, List.getElem_cons_zero]
        refine wpAnyH_take (i := 9) (oi := _) (v := .bool true) rfl (by kernel_rfl) (by kernel_rfl) (by kernel_rfl) (fun _ _ _ h => h) (Or.inl ⟨by rfl, fun w' hSw => ?_⟩) hHeld ?_
        · obtain ⟨s1, s2⟩ := hSw
          go_simp
          try (intro hh; exfalso; omega)
          try omega
        try simp only [Act.put, List.setIfInBounds_toArray, List.set_cons_zero, List.set_cons_succ, List.getElem_toArray, List.getElem_cons_succ, List.getElem_cons_zero]
        refine wpAnyH_done (by kernel_rfl) ?_ _
        clear hHeld
        have hBn := (Below.refl wr.heap.size wr).drew
        replace hr1 := owns_below hr1 hBn
        replace hr2 := owns_below hr2 hBn
        replace hbox := hbox.below hBn
        replace hB := hB.drew
        replace c0' := (hB.cell (p := ⟨bb, off + k * 2, none⟩) hbb).trans c0
        replace c1' := (hB.cell (p := ⟨bb, off + k * 2 + 1, none⟩) hbb).trans c1
        replace y0 := hbox.c0
        replace y1 := hbox.c1
        replace hsz := hB.size
        replace hwlt := hbox.lt
        replace e1 := hr1.lt
        replace e2 := hr2.lt
        clear hBn
        generalize wr.drew = wq at *
        go_wp2_with (at_builtin; refine wpList_append_own_at _ rfl _ _ 43 rfl (B + 1) 23 i0 (.agg #[.int .i64 0, .int .i64 0]) 2 16 Try.underlying43 hi0 hz0 hz1 hz2 rfl (by decide) _ _ _ rfl (hr1.alloc _) ⟨wq.heap.size, 0, none⟩ 1 1 [.int .i64 zl, .int .i64 zh] rfl rfl (two_new _ _ _) (by simp [Value.oneCell']) (by unfold maxLen; omega) (by omega) (by simp; omega) ?_; intro v' w4 hrow' hgrow _ hob)
        have hro := (hr2.alloc (.cells #[.int .i64 zl, .int .i64 zh] 23)).kept hgrow (dist_sym hd)
        have hdn := dist_new hd hob (fun j hj => by have := (e2 j hj).2; simp; omega)
        have hbn := (hbox.below ((Below.refl _ _).alloc (Nat.le_refl _) (.cells #[.int .i64 zl, .int .i64 zh] 23))).kept hgrow (fun e => by have := (e1 B e.symm).1; omega)
        have hBn : Below B w w4 := (hB.alloc (by omega) _).grown hgrow (by simp; omega) (fun j hj => by have := (e1 j hj).1; omega)
        go_roundw
        case rel => exact ⟨k + 1, b ++ [(zl, zh)], (yl, yh), a, by omega, by go_num, SBk.out hc1, by rw [List.length_append, flat_app, flat_one, HNB.out, HFB.out]; exact hrow', by rw [HNA.out, HFA.out]; exact hro, hdn, hbn, hBn⟩
        case measure => simp [intOf]; omega
      · go_wp2_with fail
        refine wp_region_held_drew (S := fun w' => w'.cell? ⟨bb, off + k * 2 + 1, none⟩ = some (.int .i64 zh) ∧ w'.cell? ⟨B, 0, none⟩ = some (.int .i64 yl)) (by kernel_rfl) ⟨c1', y0⟩ (fun hHeld => ?_)
        refine wpAnyH_take (i := 0) (oi := _) (v := .slice (some ⟨bb, off, none⟩) len cap) rfl (by kernel_rfl) (by kernel_rfl) (by kernel_rfl) (fun _ _ _ h => h) (Or.inl ⟨by rfl, fun w' hSw => ?_⟩) hHeld ?_
        · obtain ⟨s1, s2⟩ := hSw
          go_simp
          try (intro hh; exfalso; omega)
          try omega
        try simp only [Act.put, List.setIfInBounds_toArray, List.set_cons_zero, List.set_cons_succ, List.getElem_toArray, List.getElem_cons_succ, List.getElem_cons_zero]
        refine wpAnyH_take (i := 1) (oi := _) (v := .int .i64 k) rfl (by kernel_rfl) (by kernel_rfl) (by kernel_rfl) (fun _ _ _ h => h) (Or.inl ⟨by rfl, fun w' hSw => ?_⟩) hHeld ?_
        · obtain ⟨s1, s2⟩ := hSw
          go_simp
          try (intro hh; exfalso; omega)
          try omega
        try simp only [Act.put, List.setIfInBounds_toArray, List.set_cons_zero, List.set_cons_succ, List.getElem_toArray, List.getElem_cons_succ, List.getElem_cons_zero]
        refine wpAnyH_take (i := 2) (oi := _) (v := .pointer (some ⟨bb, off + k * 2, none⟩)) rfl (by kernel_rfl) (by kernel_rfl) (by kernel_rfl) (fun _ _ _ h => h) (Or.inl ⟨by rfl, fun w' hSw => ?_⟩) hHeld ?_
        · obtain ⟨s1, s2⟩ := hSw
          go_simp
          try (intro hh; exfalso; omega)
          try omega
        try simp only [Act.put, List.setIfInBounds_toArray, List.set_cons_zero, List.set_cons_succ, List.getElem_toArray, List.getElem_cons_succ, List.getElem_cons_zero]
        refine wpAnyH_take (i := 3) (oi := _) (v := .pointer (some ⟨bb, off + k * 2 + 1, none⟩)) rfl (by kernel_rfl) (by kernel_rfl) (by kernel_rfl) (fun _ _ _ h => h) (Or.inl ⟨by rfl, fun w' hSw => ?_⟩) hHeld ?_
        · obtain ⟨s1, s2⟩ := hSw
          go_simp
          try (intro hh; exfalso; omega)
          try omega
        try simp only [Act.put, List.setIfInBounds_toArray, List.set_cons_zero, List.set_cons_succ, List.getElem_toArray, List.getElem_cons_succ, List.getElem_cons_zero]
        refine wpAnyH_take (i := 4) (oi := _) (v := .int .i64 zh) rfl (by kernel_rfl) (by kernel_rfl) (by kernel_rfl) (fun _ _ _ h => h) (Or.inl ⟨by rfl, fun w' hSw => ?_⟩) hHeld ?_
        · obtain ⟨s1, s2⟩ := hSw
          go_simp
          try (intro hh; exfalso; omega)
          try omega
        try simp only [Act.put, List.setIfInBounds_toArray, List.set_cons_zero, List.set_cons_succ, List.getElem_toArray, List.getElem_cons_succ, List.getElem_cons_zero]
        refine wpAnyH_take (i := 5) (oi := _) (v := .int .i64 (zh + 1)) rfl (by kernel_rfl) (by kernel_rfl) (by kernel_rfl) (fun _ _ _ h => h) (Or.inl ⟨by rfl, fun w' hSw => ?_⟩) hHeld ?_
        · obtain ⟨s1, s2⟩ := hSw
          go_simp
          try (intro hh; exfalso; omega)
          try omega
        try simp only [Act.put, List.setIfInBounds_toArray, List.set_cons_zero, List.set_cons_succ, List.getElem_toArray, List.getElem_cons_succ, List.getElem_cons_zero]
        refine wpAnyH_take (i := 6) (oi := _) (v := .pointer (some ⟨B, 0, none⟩)) rfl (by kernel_rfl) (by kernel_rfl) (by kernel_rfl) (fun _ _ _ h => h) (Or.inl ⟨by rfl, fun w' hSw => ?_⟩) hHeld ?_
        · obtain ⟨s1, s2⟩ := hSw
          go_simp
          try (intro hh; exfalso; omega)
          try omega
        try simp only [Act.put, List.setIfInBounds_toArray, List.set_cons_zero, List.set_cons_succ, List.getElem_toArray, List.getElem_cons_succ, List.getElem_cons_zero]
        refine wpAnyH_take (i := 7) (oi := _) (v := .int .i64 yl) rfl (by kernel_rfl) (by kernel_rfl) (by kernel_rfl) (fun _ _ _ h => h) (Or.inl ⟨by rfl, fun w' hSw => ?_⟩) hHeld ?_
        · obtain ⟨s1, s2⟩ := hSw
          go_simp
          try (intro hh; exfalso; omega)
          try omega
        try simp only [Act.put, List.setIfInBounds_toArray, List.set_cons_zero, List.set_cons_succ, List.getElem_toArray, List.getElem_cons_succ, List.getElem_cons_zero]
        refine wpAnyH_take (i := 8) (oi := _) (v := .bool false) rfl (by kernel_rfl) (by kernel_rfl) (by kernel_rfl) (fun _ _ _ h => h) (Or.inl ⟨by rfl, fun w' hSw => ?_⟩) hHeld ?_
        · obtain ⟨s1, s2⟩ := hSw
          go_simp
          try (intro hh; exfalso; omega)
          try omega
        try simp only [Act.put, List.setIfInBounds_toArray, List.set_cons_zero, List.set_cons_succ, List.getElem_toArray, List.getElem_cons_succ, List.getElem_cons_zero]
        refine wpAnyH_take (i := 9) (oi := _) (v := .bool false) rfl (by kernel_rfl) (by kernel_rfl) (by kernel_rfl) (fun _ _ _ h => h) (Or.inl ⟨by rfl, fun w' hSw => ?_⟩) hHeld ?_
        · obtain ⟨s1, s2⟩ := hSw
          go_simp
          try (intro hh; exfalso; omega)
          try omega
        try simp only [Act.put, List.setIfInBounds_toArray, List.set_cons_zero, List.set_cons_succ, List.getElem_toArray, List.getElem_cons_succ, List.getElem_cons_zero]
        refine wpAnyH_done (by kernel_rfl) ?_ _
        clear hHeld
        have hBn := (Below.refl wr.heap.size wr).drew
        replace hr1 := owns_below hr1 hBn
        replace hr2 := owns_below hr2 hBn
        replace hbox := hbox.below hBn
        replace hB := hB.drew
        replace c0' := (hB.cell (p := ⟨bb, off + k * 2, none⟩) hbb).trans c0
        replace c1' := (hB.cell (p := ⟨bb, off + k * 2 + 1, none⟩) hbb).trans c1
        replace y0 := hbox.c0
        replace y1 := hbox.c1
        replace hsz := hB.size
        replace hwlt := hbox.lt
        replace e1 := hr1.lt
        replace e2 := hr2.lt
        clear hBn
        generalize wr.drew = wq at *
        go_wp2_with fail
        by_cases hc2 : yh + 1 < zl
        · refine wp_region_held_drew (S := fun w' => w'.cell? ⟨bb, off + k * 2, none⟩ = some (.int .i64 zl) ∧ w'.cell? ⟨B, 1, none⟩ = some (.int .i64 yh)) (by kernel_rfl) ⟨c0', y1⟩ (fun hHeld => ?_)
          refine wpAnyH_take (i := 0) (oi := _) (v := .slice (some ⟨bb, off, none⟩) len cap) rfl (by kernel_rfl) (by kernel_rfl) (by kernel_rfl) (fun _ _ _ h => h) (Or.inl ⟨by rfl, fun w' hSw => ?_⟩) hHeld ?_
          · obtain ⟨s1, s2⟩ := hSw
            go_simp
            try (intro hh; exfalso; omega)
            try omega
          try simp only [Act.put, List.setIfInBounds_toArray, List.set_cons_zero, List.set_cons_succ, List.getElem_toArray, List.getElem_cons_succ, List.getElem_cons_zero]
          refine wpAnyH_take (i := 1) (oi := _) (v := .int .i64 k) rfl (by kernel_rfl) (by kernel_rfl) (by kernel_rfl) (fun _ _ _ h => h) (Or.inl ⟨by rfl, fun w' hSw => ?_⟩) hHeld ?_
          · obtain ⟨s1, s2⟩ := hSw
            go_simp
            try (intro hh; exfalso; omega)
            try omega
          try simp only [Act.put, List.setIfInBounds_toArray, List.set_cons_zero, List.set_cons_succ, List.getElem_toArray, List.getElem_cons_succ, List.getElem_cons_zero]
          refine wpAnyH_take (i := 2) (oi := _) (v := .pointer (some ⟨bb, off + k * 2, none⟩)) rfl (by kernel_rfl) (by kernel_rfl) (by kernel_rfl) (fun _ _ _ h => h) (Or.inl ⟨by rfl, fun w' hSw => ?_⟩) hHeld ?_
          · obtain ⟨s1, s2⟩ := hSw
            go_simp
            try (intro hh; exfalso; omega)
            try omega
          try simp only [Act.put, List.setIfInBounds_toArray, List.set_cons_zero, List.set_cons_succ, List.getElem_toArray, List.getElem_cons_succ, List.getElem_cons_zero]
          refine wpAnyH_take (i := 3) (oi := _) (v := .pointer (some ⟨bb, off + k * 2, none⟩)) rfl (by kernel_rfl) (by kernel_rfl) (by kernel_rfl) (fun _ _ _ h => h) (Or.inl ⟨by rfl, fun w' hSw => ?_⟩) hHeld ?_
          · obtain ⟨s1, s2⟩ := hSw
            go_simp
            try (intro hh; exfalso; omega)
            try omega
          try simp only [Act.put, List.setIfInBounds_toArray, List.set_cons_zero, List.set_cons_succ, List.getElem_toArray, List.getElem_cons_succ, List.getElem_cons_zero]
          refine wpAnyH_take (i := 4) (oi := _) (v := .int .i64 zl) rfl (by kernel_rfl) (by kernel_rfl) (by kernel_rfl) (fun _ _ _ h => h) (Or.inl ⟨by rfl, fun w' hSw => ?_⟩) hHeld ?_
          · obtain ⟨s1, s2⟩ := hSw
            go_simp
            try (intro hh; exfalso; omega)
            try omega
          try simp only [Act.put, List.setIfInBounds_toArray, List.set_cons_zero, List.set_cons_succ, List.getElem_toArray, List.getElem_cons_succ, List.getElem_cons_zero]
          refine wpAnyH_take (i := 5) (oi := _) (v := .pointer (some ⟨B, 1, none⟩)) rfl (by kernel_rfl) (by kernel_rfl) (by kernel_rfl) (fun _ _ _ h => h) (Or.inl ⟨by rfl, fun w' hSw => ?_⟩) hHeld ?_
          · obtain ⟨s1, s2⟩ := hSw
            go_simp
            try (intro hh; exfalso; omega)
            try omega
          try simp only [Act.put, List.setIfInBounds_toArray, List.set_cons_zero, List.set_cons_succ, List.getElem_toArray, List.getElem_cons_succ, List.getElem_cons_zero]
          refine wpAnyH_take (i := 6) (oi := _) (v := .int .i64 yh) rfl (by kernel_rfl) (by kernel_rfl) (by kernel_rfl) (fun _ _ _ h => h) (Or.inl ⟨by rfl, fun w' hSw => ?_⟩) hHeld ?_
          · obtain ⟨s1, s2⟩ := hSw
            go_simp
            try (intro hh; exfalso; omega)
            try omega
          try simp only [Act.put, List.setIfInBounds_toArray, List.set_cons_zero, List.set_cons_succ, List.getElem_toArray, List.getElem_cons_succ, List.getElem_cons_zero]
          refine wpAnyH_take (i := 7) (oi := _) (v := .int .i64 (yh + 1)) rfl (by kernel_rfl) (by kernel_rfl) (by kernel_rfl) (fun _ _ _ h => h) (Or.inl ⟨by rfl, fun w' hSw => ?_⟩) hHeld ?_
          · obtain ⟨s1, s2⟩ := hSw
            go_simp
            try (intro hh; exfalso; omega)
            try omega
          try simp only [Act.put, List.setIfInBounds_toArray, List.set_cons_zero, List.set_cons_succ, List.getElem_toArray, List.getElem_cons_succ, List.getElem_cons_zero]
          refine wpAnyH_take (i := 8) (oi := _) (v := .bool true) rfl (by kernel_rfl) (by kernel_rfl) (by kernel_rfl) (fun _ _ _ h => h) (Or.inl ⟨by rfl, fun w' hSw => ?_⟩) hHeld ?_
          · obtain ⟨s1, s2⟩ := hSw
            go_simp
            try (intro hh; exfalso; omega)
            try omega
          try simp only [Act.put, List.setIfInBounds_toArray, List.set_cons_zero, List.set_cons_succ, List.getElem_toArray, List.getElem_cons_succ, List.getElem_cons_zero]
          refine wpAnyH_take (i := 9) (oi := _) (v := .bool true) rfl (by kernel_rfl) (by kernel_rfl) (by kernel_rfl) (fun _ _ _ h => h) (Or.inl ⟨by rfl, fun w' hSw => ?_⟩) hHeld ?_
          · obtain ⟨s1, s2⟩ := hSw
            go_simp
            try (intro hh; exfalso; omega)
            try omega
          try simp only [Act.put, List.setIfInBounds_toArray, List.set_cons_zero, List.set_cons_succ, List.getElem_toArray, List.getElem_cons_succ, List.getElem_cons_zero]
          refine wpAnyH_done (by kernel_rfl) ?_ _
          clear hHeld
          have hBn := (Below.refl wq.heap.size wq).drew
          replace hr1 := owns_below hr1 hBn
          replace hr2 := owns_below hr2 hBn
          replace hbox := hbox.below hBn
          replace hB := hB.drew
          replace c0' := (hB.cell (p := ⟨bb, off + k * 2, none⟩) hbb).trans c0
          replace c1' := (hB.cell (p := ⟨bb, off + k * 2 + 1, none⟩) hbb).trans c1
          replace y0 := hbox.c0
          replace y1 := hbox.c1
          replace hsz := hB.size
          replace hwlt := hbox.lt
          replace e1 := hr1.lt
          replace e2 := hr2.lt
          clear hBn
          generalize wq.drew = wz at *
          go_wp2_with (at_builtin; refine wpList_append_own_at _ rfl _ _ 43 rfl (B + 1) 23 i0 (.agg #[.int .i64 0, .int .i64 0]) 2 16 Try.underlying43 hi0 hz0 hz1 hz2 rfl (by decide) _ _ _ rfl (hr2.alloc _) ⟨wz.heap.size, 0, none⟩ 1 1 [.int .i64 zl, .int .i64 zh] rfl rfl (two_new _ _ _) (by simp [Value.oneCell']) (by unfold maxLen; omega) (by omega) (by simp; omega) ?_; intro v' w4 hrow' hgrow _ hob)
          have hro := (hr1.alloc (.cells #[.int .i64 zl, .int .i64 zh] 23)).kept hgrow (dist_sym (dist_sym hd))
          have hdn := dist_new (dist_sym hd) hob (fun j hj => by have := (e1 j hj).2; simp; omega)
          have hbn := (hbox.below ((Below.refl _ _).alloc (Nat.le_refl _) (.cells #[.int .i64 zl, .int .i64 zh] 23))).kept hgrow (fun e => by have := (e2 B e.symm).1; omega)
          have hBn : Below B w w4 := (hB.alloc (by omega) _).grown hgrow (by simp; omega) (fun j hj => by have := (e2 j hj).1; omega)
          go_roundw
          case rel => exact ⟨k + 1, b, (yl, yh), a ++ [(zl, zh)], by omega, by go_num, SAk.out (by omega), by rw [HNB.out, HFB.out]; exact hro, by rw [List.length_append, flat_app, flat_one, HNA.out, HFA.out]; exact hrow', dist_sym hdn, hbn, hBn⟩
          case measure => simp [intOf]; omega
        · refine wp_region_held_drew (S := fun w' => w'.cell? ⟨bb, off + k * 2, none⟩ = some (.int .i64 zl) ∧ w'.cell? ⟨B, 1, none⟩ = some (.int .i64 yh)) (by kernel_rfl) ⟨c0', y1⟩ (fun hHeld => ?_)
          refine wpAnyH_take (i := 0) (oi := _) (v := .slice (some ⟨bb, off, none⟩) len cap) rfl (by kernel_rfl) (by kernel_rfl) (by kernel_rfl) (fun _ _ _ h => h) (Or.inl ⟨by rfl, fun w' hSw => ?_⟩) hHeld ?_
          · obtain ⟨s1, s2⟩ := hSw
            go_simp
            try (intro hh; exfalso; omega)
            try omega
          try simp only [Act.put, List.setIfInBounds_toArray, List.set_cons_zero, List.set_cons_succ, List.getElem_toArray, List.getElem_cons_succ, List.getElem_cons_zero]
          refine wpAnyH_take (i := 1) (oi := _) (v := .int .i64 k) rfl (by kernel_rfl) (by kernel_rfl) (by kernel_rfl) (fun _ _ _ h => h) (Or.inl ⟨by rfl, fun w' hSw => ?_⟩) hHeld ?_
          · obtain ⟨s1, s2⟩ := hSw
            go_simp
            try (intro hh; exfalso; omega)
            try omega
          try simp only [Act.put, List.setIfInBounds_toArray, List.set_cons_zero, List.set_cons_succ, List.getElem_toArray, List.getElem_cons_succ, List.getElem_cons_zero]
          refine wpAnyH_take (i := 2) (oi := _) (v := .pointer (some ⟨bb, off + k * 2, none⟩)) rfl (by kernel_rfl) (by kernel_rfl) (by kernel_rfl) (fun _ _ _ h => h) (Or.inl ⟨by rfl, fun w' hSw => ?_⟩) hHeld ?_
          · obtain ⟨s1, s2⟩ := hSw
            go_simp
            try (intro hh; exfalso; omega)
            try omega
          try simp only [Act.put, List.setIfInBounds_toArray, List.set_cons_zero, List.set_cons_succ, List.getElem_toArray, List.getElem_cons_succ, List.getElem_cons_zero]
          refine wpAnyH_take (i := 3) (oi := _) (v := .pointer (some ⟨bb, off + k * 2, none⟩)) rfl (by kernel_rfl) (by kernel_rfl) (by kernel_rfl) (fun _ _ _ h => h) (Or.inl ⟨by rfl, fun w' hSw => ?_⟩) hHeld ?_
          · obtain ⟨s1, s2⟩ := hSw
            go_simp
            try (intro hh; exfalso; omega)
            try omega
          try simp only [Act.put, List.setIfInBounds_toArray, List.set_cons_zero, List.set_cons_succ, List.getElem_toArray, List.getElem_cons_succ, List.getElem_cons_zero]
          refine wpAnyH_take (i := 4) (oi := _) (v := .int .i64 zl) rfl (by kernel_rfl) (by kernel_rfl) (by kernel_rfl) (fun _ _ _ h => h) (Or.inl ⟨by rfl, fun w' hSw => ?_⟩) hHeld ?_
          · obtain ⟨s1, s2⟩ := hSw
            go_simp
            try (intro hh; exfalso; omega)
            try omega
          try simp only [Act.put, List.setIfInBounds_toArray, List.set_cons_zero, List.set_cons_succ, List.getElem_toArray, List.getElem_cons_succ, List.getElem_cons_zero]
          refine wpAnyH_take (i := 5) (oi := _) (v := .pointer (some ⟨B, 1, none⟩)) rfl (by kernel_rfl) (by kernel_rfl) (by kernel_rfl) (fun _ _ _ h => h) (Or.inl ⟨by rfl, fun w' hSw => ?_⟩) hHeld ?_
          · obtain ⟨s1, s2⟩ := hSw
            go_simp
            try (intro hh; exfalso; omega)
            try omega
          try simp only [Act.put, List.setIfInBounds_toArray, List.set_cons_zero, List.set_cons_succ, List.getElem_toArray, List.getElem_cons_succ, List.getElem_cons_zero]
          refine wpAnyH_take (i := 6) (oi := _) (v := .int .i64 yh) rfl (by kernel_rfl) (by kernel_rfl) (by kernel_rfl) (fun _ _ _ h => h) (Or.inl ⟨by rfl, fun w' hSw => ?_⟩) hHeld ?_
          · obtain ⟨s1, s2⟩ := hSw
            go_simp
            try (intro hh; exfalso; omega)
            try omega
          try simp only [Act.put, List.setIfInBounds_toArray, List.set_cons_zero, List.set_cons_succ, List.getElem_toArray, List.getElem_cons_succ, List.getElem_cons_zero]
          refine wpAnyH_take (i := 7) (oi := _) (v := .int .i64 (yh + 1)) rfl (by kernel_rfl) (by kernel_rfl) (by kernel_rfl) (fun _ _ _ h => h) (Or.inl ⟨by rfl, fun w' hSw => ?_⟩) hHeld ?_
          · obtain ⟨s1, s2⟩ := hSw
            go_simp
            try (intro hh; exfalso; omega)
            try omega
          try simp only [Act.put, List.setIfInBounds_toArray, List.set_cons_zero, List.set_cons_succ, List.getElem_toArray, List.getElem_cons_succ, List.getElem_cons_zero]
          refine wpAnyH_take (i := 8) (oi := _) (v := .bool false) rfl (by kernel_rfl) (by kernel_rfl) (by kernel_rfl) (fun _ _ _ h => h) (Or.inl ⟨by rfl, fun w' hSw => ?_⟩) hHeld ?_
          · obtain ⟨s1, s2⟩ := hSw
            go_simp
            try (intro hh; exfalso; omega)
            try omega
          try simp only [Act.put, List.setIfInBounds_toArray, List.set_cons_zero, List.set_cons_succ, List.getElem_toArray, List.getElem_cons_succ, List.getElem_cons_zero]
          refine wpAnyH_take (i := 9) (oi := _) (v := .bool false) rfl (by kernel_rfl) (by kernel_rfl) (by kernel_rfl) (fun _ _ _ h => h) (Or.inl ⟨by rfl, fun w' hSw => ?_⟩) hHeld ?_
          · obtain ⟨s1, s2⟩ := hSw
            go_simp
            try (intro hh; exfalso; omega)
            try omega
          try simp only [Act.put, List.setIfInBounds_toArray, List.set_cons_zero, List.set_cons_succ, List.getElem_toArray, List.getElem_cons_succ, List.getElem_cons_zero]
          refine wpAnyH_done (by kernel_rfl) ?_ _
          clear hHeld
          have hBn := (Below.refl wq.heap.size wq).drew
          replace hr1 := owns_below hr1 hBn
          replace hr2 := owns_below hr2 hBn
          replace hbox := hbox.below hBn
          replace hB := hB.drew
          replace c0' := (hB.cell (p := ⟨bb, off + k * 2, none⟩) hbb).trans c0
          replace c1' := (hB.cell (p := ⟨bb, off + k * 2 + 1, none⟩) hbb).trans c1
          replace y0 := hbox.c0
          replace y1 := hbox.c1
          replace hsz := hB.size
          replace hwlt := hbox.lt
          replace e1 := hr1.lt
          replace e2 := hr2.lt
          clear hBn
          generalize wq.drew = wz at *
          have f0 := hbox.f0
          have f1 := hbox.f1
          have nbb : bb ≠ B := by omega
          have keep : ∀ W', Below B w W' → W'.cell? ⟨bb, off + k * 2, none⟩ = some (.int .i64 zl) ∧ W'.cell? ⟨bb, off + k * 2 + 1, none⟩ = some (.int .i64 zh) := fun W' h => ⟨(h.cell (p := ⟨bb, off + k * 2, none⟩) hbb).trans c0, (h.cell (p := ⟨bb, off + k * 2 + 1, none⟩) hbb).trans c1⟩
          go_wp2_with fail
          refine wp_region_held_drew (S := fun w' => w'.cell? ⟨bb, off + k * 2, none⟩ = some (.int .i64 zl) ∧ w'.cell? ⟨bb, off + k * 2 + 1, none⟩ = some (.int .i64 zh)) (by kernel_rfl) ⟨c0', c1'⟩ (fun hHeld => ?_)
          refine wpAnyH_take (i := 0) (oi := _) (v := .pointer (some ⟨B, 0, none⟩)) rfl (by kernel_rfl) (by kernel_rfl) (by kernel_rfl) (fun _ _ _ h => h) (Or.inl ⟨by rfl, fun w' hSw => ?_⟩) hHeld ?_
          · obtain ⟨s1, s2⟩ := hSw
            go_simp
            try (intro hh; exfalso; omega)
            try omega
          try simp only [Act.put, List.setIfInBounds_toArray, List.set_cons_zero, List.set_cons_succ, List.getElem_toArray, List.getElem_cons_succ, List.getElem_cons_zero]
          refine wpAnyH_take (i := 2) (oi := _) (v := .slice (some ⟨bb, off, none⟩) len cap) rfl (by kernel_rfl) (by kernel_rfl) (by kernel_rfl) (fun _ _ _ h => h) (Or.inl ⟨by rfl, fun w' hSw => ?_⟩) hHeld ?_
          · obtain ⟨s1, s2⟩ := hSw
            go_simp
            try (intro hh; exfalso; omega)
            try omega
          try simp only [Act.put, List.setIfInBounds_toArray, List.set_cons_zero, List.set_cons_succ, List.getElem_toArray, List.getElem_cons_succ, List.getElem_cons_zero]
          refine wpAnyH_take (i := 3) (oi := _) (v := .int .i64 k) rfl (by kernel_rfl) (by kernel_rfl) (by kernel_rfl) (fun _ _ _ h => h) (Or.inl ⟨by rfl, fun w' hSw => ?_⟩) hHeld ?_
          · obtain ⟨s1, s2⟩ := hSw
            go_simp
            try (intro hh; exfalso; omega)
            try omega
          try simp only [Act.put, List.setIfInBounds_toArray, List.set_cons_zero, List.set_cons_succ, List.getElem_toArray, List.getElem_cons_succ, List.getElem_cons_zero]
          refine wpAnyH_take (i := 4) (oi := _) (v := .pointer (some ⟨bb, off + k * 2, none⟩)) rfl (by kernel_rfl) (by kernel_rfl) (by kernel_rfl) (fun _ _ _ h => h) (Or.inl ⟨by rfl, fun w' hSw => ?_⟩) hHeld ?_
          · obtain ⟨s1, s2⟩ := hSw
            go_simp
            try (intro hh; exfalso; omega)
            try omega
          try simp only [Act.put, List.setIfInBounds_toArray, List.set_cons_zero, List.set_cons_succ, List.getElem_toArray, List.getElem_cons_succ, List.getElem_cons_zero]
          refine wpAnyH_take (i := 5) (oi := _) (v := .pointer (some ⟨bb, off + k * 2, none⟩)) rfl (by kernel_rfl) (by kernel_rfl) (by kernel_rfl) (fun _ _ _ h => h) (Or.inl ⟨by rfl, fun w' hSw => ?_⟩) hHeld ?_
          · obtain ⟨s1, s2⟩ := hSw
            go_simp
            try (intro hh; exfalso; omega)
            try omega
          try simp only [Act.put, List.setIfInBounds_toArray, List.set_cons_zero, List.set_cons_succ, List.getElem_toArray, List.getElem_cons_succ, List.getElem_cons_zero]
          refine wpAnyH_take (i := 6) (oi := _) (v := .int .i64 zl) rfl (by kernel_rfl) (by kernel_rfl) (by kernel_rfl) (fun _ _ _ h => h) (Or.inl ⟨by rfl, fun w' hSw => ?_⟩) hHeld ?_
          · obtain ⟨s1, s2⟩ := hSw
            go_simp
            try (intro hh; exfalso; omega)
            try omega
          try simp only [Act.put, List.setIfInBounds_toArray, List.set_cons_zero, List.set_cons_succ, List.getElem_toArray, List.getElem_cons_succ, List.getElem_cons_zero]
          refine wpAnyH_take (i := 8) (oi := _) (v := .pointer (some ⟨B, 1, none⟩)) rfl (by kernel_rfl) (by kernel_rfl) (by kernel_rfl) (fun _ _ _ h => h) (Or.inl ⟨by rfl, fun w' hSw => ?_⟩) hHeld ?_
          · obtain ⟨s1, s2⟩ := hSw
            go_simp
            try (intro hh; exfalso; omega)
            try omega
          try simp only [Act.put, List.setIfInBounds_toArray, List.set_cons_zero, List.set_cons_succ, List.getElem_toArray, List.getElem_cons_succ, List.getElem_cons_zero]
          refine wpAnyH_take (i := 10) (oi := _) (v := .slice (some ⟨bb, off, none⟩) len cap) rfl (by kernel_rfl) (by kernel_rfl) (by kernel_rfl) (fun _ _ _ h => h) (Or.inl ⟨by rfl, fun w' hSw => ?_⟩) hHeld ?_
          · obtain ⟨s1, s2⟩ := hSw
            go_simp
            try (intro hh; exfalso; omega)
            try omega
          try simp only [Act.put, List.setIfInBounds_toArray, List.set_cons_zero, List.set_cons_succ, List.getElem_toArray, List.getElem_cons_succ, List.getElem_cons_zero]
          refine wpAnyH_take (i := 11) (oi := _) (v := .int .i64 k) rfl (by kernel_rfl) (by kernel_rfl) (by kernel_rfl) (fun _ _ _ h => h) (Or.inl ⟨by rfl, fun w' hSw => ?_⟩) hHeld ?_
          · obtain ⟨s1, s2⟩ := hSw
            go_simp
            try (intro hh; exfalso; omega)
            try omega
          try simp only [Act.put, List.setIfInBounds_toArray, List.set_cons_zero, List.set_cons_succ, List.getElem_toArray, List.getElem_cons_succ, List.getElem_cons_zero]
          refine wpAnyH_take (i := 12) (oi := _) (v := .pointer (some ⟨bb, off + k * 2, none⟩)) rfl (by kernel_rfl) (by kernel_rfl) (by kernel_rfl) (fun _ _ _ h => h) (Or.inl ⟨by rfl, fun w' hSw => ?_⟩) hHeld ?_
          · obtain ⟨s1, s2⟩ := hSw
            go_simp
            try (intro hh; exfalso; omega)
            try omega
          try simp only [Act.put, List.setIfInBounds_toArray, List.set_cons_zero, List.set_cons_succ, List.getElem_toArray, List.getElem_cons_succ, List.getElem_cons_zero]
          refine wpAnyH_take (i := 13) (oi := _) (v := .pointer (some ⟨bb, off + k * 2 + 1, none⟩)) rfl (by kernel_rfl) (by kernel_rfl) (by kernel_rfl) (fun _ _ _ h => h) (Or.inl ⟨by rfl, fun w' hSw => ?_⟩) hHeld ?_
          · obtain ⟨s1, s2⟩ := hSw
            go_simp
            try (intro hh; exfalso; omega)
            try omega
          try simp only [Act.put, List.setIfInBounds_toArray, List.set_cons_zero, List.set_cons_succ, List.getElem_toArray, List.getElem_cons_succ, List.getElem_cons_zero]
          refine wpAnyH_take (i := 14) (oi := _) (v := .int .i64 zh) rfl (by kernel_rfl) (by kernel_rfl) (by kernel_rfl) (fun _ _ _ h => h) (Or.inl ⟨by rfl, fun w' hSw => ?_⟩) hHeld ?_
          · obtain ⟨s1, s2⟩ := hSw
            go_simp
            try (intro hh; exfalso; omega)
            try omega
          try simp only [Act.put, List.setIfInBounds_toArray, List.set_cons_zero, List.set_cons_succ, List.getElem_toArray, List.getElem_cons_succ, List.getElem_cons_zero]
          refine wpAnyH_ready (rs := [1, 9]) (by kernel_rfl) (by simp) ?_
          refine AllReadyH.cons (o := _) rfl (fun K hK => ?_) (AllReadyH.cons (o := _) rfl (fun K hK => ?_) AllReadyH.nil)
          · go_simp
            clear hHeld
            refine hK.out _ _ (keep _ hB.drew) (fun hHeld => ?_)
            clear hK K
            try simp only [Act.put, List.setIfInBounds_toArray, List.set_cons_zero, List.set_cons_succ, List.getElem_toArray, List.getElem_cons_succ, List.getElem_cons_zero]
            refine wpAnyH_take (i := 7) (oi := _) (v := .int .i64 (min yl zl)) rfl (by kernel_rfl) (by kernel_rfl) (by kernel_rfl) (fun _ _ _ h => h) (Or.inl ⟨by rfl, fun w' hSw => ?_⟩) hHeld ?_
            · obtain ⟨s1, s2⟩ := hSw
              go_simp
              try (intro hh; exfalso; omega)
              try omega
            try simp only [Act.put, List.setIfInBounds_toArray, List.set_cons_zero, List.set_cons_succ, List.getElem_toArray, List.getElem_cons_succ, List.getElem_cons_zero]
            refine wpAnyH_ready (rs := [9]) (by kernel_rfl) (by simp) ?_
            refine AllReadyH.cons (o := _) rfl (fun K hK => ?_) AllReadyH.nil
            go_simp
            clear hHeld
            refine hK.out _ _ (keep _ hB.drew) (fun hHeld => ?_)
            clear hK K
            try simp only [Act.put, List.setIfInBounds_toArray, List.set_cons_zero, List.set_cons_succ, List.getElem_toArray, List.getElem_cons_succ, List.getElem_cons_zero]
            refine wpAnyH_take (i := 15) (oi := _) (v := .int .i64 (max yh zh)) rfl (by kernel_rfl) (by kernel_rfl) (by kernel_rfl) (fun _ _ _ h => h) (Or.inl ⟨by rfl, fun w' hSw => ?_⟩) hHeld ?_
            · obtain ⟨s1, s2⟩ := hSw
              go_simp
              try (intro hh; exfalso; omega)
              try omega
            try simp only [Act.put, List.setIfInBounds_toArray, List.set_cons_zero, List.set_cons_succ, List.getElem_toArray, List.getElem_cons_succ, List.getElem_cons_zero]
            refine wpAnyH_take (i := 16) (oi := _) (v := .agg #[.int .i64 (min yl zl), .int .i64 (max yh zh)]) rfl (by kernel_rfl) (by kernel_rfl) (by kernel_rfl) (fun _ _ _ h => h) (Or.inl ⟨by rfl, fun w' hSw => ?_⟩) hHeld ?_
            · obtain ⟨s1, s2⟩ := hSw
              go_simp
              try (intro hh; exfalso; omega)
              try omega
            try simp only [Act.put, List.setIfInBounds_toArray, List.set_cons_zero, List.set_cons_succ, List.getElem_toArray, List.getElem_cons_succ, List.getElem_cons_zero]
            refine wpAnyH_ready (rs := [17]) (by kernel_rfl) (by simp) ?_
            refine AllReadyH.cons (o := _) rfl (fun K hK => ?_) AllReadyH.nil
            go_simp
            clear hHeld
            have hBs := (((hB.setCell (p := ⟨B, 0, none⟩) (Nat.le_refl _) (.int .i64 (min yl zl))).setCell (p := ⟨B, 1, none⟩) (Nat.le_refl _) (.int .i64 (max yh zh)))).drew
            refine hK.out _ _ (keep _ hBs) (fun hHeld => ?_)
            clear hK K
            try simp only [Act.put, List.setIfInBounds_toArray, List.set_cons_zero, List.set_cons_succ, List.getElem_toArray, List.getElem_cons_succ, List.getElem_cons_zero]
            refine wpAnyH_done (by kernel_rfl) ?_ _
            clear hHeld
            have g1 := owns_below (own_setCell (own_setCell hr1 (B := B) (o := 0) (u := .int .i64 (min yl zl)) (fun e => by have := (e1 B e).1; omega)) (B := B) (o := 1) (u := .int .i64 (max yh zh)) (fun e => by have := (e1 B e).1; omega)) ((Below.refl _ _).drew)
            have g2 := owns_below (own_setCell (own_setCell hr2 (B := B) (o := 0) (u := .int .i64 (min yl zl)) (fun e => by have := (e2 B e).1; omega)) (B := B) (o := 1) (u := .int .i64 (max yh zh)) (fun e => by have := (e2 B e).1; omega)) ((Below.refl _ _).drew)
            have gb := (hbox.set2 (.int .i64 (min yl zl)) (.int .i64 (max yh zh))).below ((Below.refl _ _).drew)
            go_wp2_with fail
            go_roundw
            case rel => exact ⟨k + 1, b, (min yl zl, max yh zh), a, by omega, by go_num, SXk.out hc1 (by omega), by rw [HNB.out, HFB.out]; exact g1, by rw [HNA.out, HFA.out]; exact g2, hd, gb, hBs⟩
            case measure => simp [intOf]; omega
          · go_simp
            clear hHeld
            refine hK.out _ _ (keep _ hB.drew) (fun hHeld => ?_)
            clear hK K
            try simp only [Act.put, List.setIfInBounds_toArray, List.set_cons_zero, List.set_cons_succ, List.getElem_toArray, List.getElem_cons_succ, List.getElem_cons_zero]
            refine wpAnyH_take (i := 15) (oi := _) (v := .int .i64 (max yh zh)) rfl (by kernel_rfl) (by kernel_rfl) (by kernel_rfl) (fun _ _ _ h => h) (Or.inl ⟨by rfl, fun w' hSw => ?_⟩) hHeld ?_
            · obtain ⟨s1, s2⟩ := hSw
              go_simp
              try (intro hh; exfalso; omega)
              try omega
            try simp only [Act.put, List.setIfInBounds_toArray, List.set_cons_zero, List.set_cons_succ, List.getElem_toArray, List.getElem_cons_succ, List.getElem_cons_zero]
            refine wpAnyH_ready (rs := [1]) (by kernel_rfl) (by simp) ?_
            refine AllReadyH.cons (o := _) rfl (fun K hK => ?_) AllReadyH.nil
            go_simp
            clear hHeld
            refine hK.out _ _ (keep _ hB.drew) (fun hHeld => ?_)
            clear hK K
            try simp only [Act.put, List.setIfInBounds_toArray, List.set_cons_zero, List.set_cons_succ, List.getElem_toArray, List.getElem_cons_succ, List.getElem_cons_zero]
            refine wpAnyH_take (i := 7) (oi := _) (v := .int .i64 (min yl zl)) rfl (by kernel_rfl) (by kernel_rfl) (by kernel_rfl) (fun _ _ _ h => h) (Or.inl ⟨by rfl, fun w' hSw => ?_⟩) hHeld ?_
            · obtain ⟨s1, s2⟩ := hSw
              go_simp
              try (intro hh; exfalso; omega)
              try omega
            try simp only [Act.put, List.setIfInBounds_toArray, List.set_cons_zero, List.set_cons_succ, List.getElem_toArray, List.getElem_cons_succ, List.getElem_cons_zero]
            refine wpAnyH_take (i := 16) (oi := _) (v := .agg #[.int .i64 (min yl zl), .int .i64 (max yh zh)]) rfl (by kernel_rfl) (by kernel_rfl) (by kernel_rfl) (fun _ _ _ h => h) (Or.inl ⟨by rfl, fun w' hSw => ?_⟩) hHeld ?_
            · obtain ⟨s1, s2⟩ := hSw
              go_simp
              try (intro hh; exfalso; omega)
              try omega
            try simp only [Act.put, List.setIfInBounds_toArray, List.set_cons_zero, List.set_cons_succ, List.getElem_toArray, List.getElem_cons_succ, List.getElem_cons_zero]
            refine wpAnyH_ready (rs := [17]) (by kernel_rfl) (by simp) ?_
            refine AllReadyH.cons (o := _) rfl (fun K hK => ?_) AllReadyH.nil
            go_simp
            clear hHeld
            have hBs := (((hB.setCell (p := ⟨B, 0, none⟩) (Nat.le_refl _) (.int .i64 (min yl zl))).setCell (p := ⟨B, 1, none⟩) (Nat.le_refl _) (.int .i64 (max yh zh)))).drew
            refine hK.out _ _ (keep _ hBs) (fun hHeld => ?_)
            clear hK K
            try simp only [Act.put, List.setIfInBounds_toArray, List.set_cons_zero, List.set_cons_succ, List.getElem_toArray, List.getElem_cons_succ, List.getElem_cons_zero]
            refine wpAnyH_done (by kernel_rfl) ?_ _
            clear hHeld
            have g1 := owns_below (own_setCell (own_setCell hr1 (B := B) (o := 0) (u := .int .i64 (min yl zl)) (fun e => by have := (e1 B e).1; omega)) (B := B) (o := 1) (u := .int .i64 (max yh zh)) (fun e => by have := (e1 B e).1; omega)) ((Below.refl _ _).drew)
            have g2 := owns_below (own_setCell (own_setCell hr2 (B := B) (o := 0) (u := .int .i64 (min yl zl)) (fun e => by have := (e2 B e).1; omega)) (B := B) (o := 1) (u := .int .i64 (max yh zh)) (fun e => by have := (e2 B e).1; omega)) ((Below.refl _ _).drew)
            have gb := (hbox.set2 (.int .i64 (min yl zl)) (.int .i64 (max yh zh))).below ((Below.refl _ _).drew)
            go_wp2_with fail
            go_roundw
            case rel => exact ⟨k + 1, b, (min yl zl, max yh zh), a, by omega, by go_num, SXk.out hc1 (by omega), by rw [HNB.out, HFB.out]; exact g1, by rw [HNA.out, HFA.out]; exact g2, hd, gb, hBs⟩
            case measure => simp [intOf]; omega
    · obtain rfl : k = len := by omega
      have hE := EE.out b y a HP.out
      clear SB SA SX EE HC HA HG ST HP hlt
      obtain ⟨hE1, hE2⟩ := hE
      have hres := nset_eq (P := fun n => InL n s ∨ (x1 ≤ n ∧ n ≤ x2)) hE1 hE2
      have HR := Lib.hid hres
      clear hE1 hE2 hres
      obtain ⟨yl, yh⟩ := y
      dsimp only at hy1 hy2 hy3 hbox
      have y0 := hbox.c0
      have y1 := hbox.c1
      have e1 := hr1.lt
      have e2 := hr2.lt
      have hfl1 : (flat b).length = b.length * 2 := flat_len b
      have hfl2 : (flat a).length = a.length * 2 := flat_len a
      generalize hflb : flat b = fb at hr1 hfl1
      generalize hfla : flat a = fa at hr2 hfl2
      have HFB := Lib.hid hflb
      have HFA := Lib.hid hfla
      clear hflb hfla
      generalize hnb : b.length = nb at hr1 hbl hfl1
      generalize hna : a.length = na at hr2 hal hfl2
      have HNB := Lib.hid hnb
      have HNA := Lib.hid hna
      clear hnb hna
      have hone : ∀ u ∈ fa, u.oneCell' = true := by
        intro u hu
        rw [← HFA.out] at hu
        simp only [flat, List.mem_flatMap] at hu
        obtain ⟨p, _, hp⟩ := hu
        simp at hp
        rcases hp with rfl | rfl <;> rfl
      rcases hr2.2 with ⟨rfl, h0⟩ | ⟨g2, cap2, cur2, rfl, h3, h4, h5, h6, h7, h8⟩
      · go_wp2_with (first | (at_builtin; refine wpList_append_own_at _ rfl _ _ 43 rfl (w.heap.size + 1) 23 i0 (.agg #[.int .i64 0, .int .i64 0]) 2 16 Try.underlying43 hi0 hz0 hz1 hz2 rfl (by decide) _ _ _ rfl (hr1.alloc _) ⟨wr.heap.size, 0, none⟩ 1 1 [.int .i64 yl, .int .i64 yh] rfl rfl (two_new _ _ _) (by simp [Value.oneCell']) (by unfold maxLen; omega) (by omega) (by simp; omega) ?_; intro v' w4 hrow' hgrow _ hob; have hBn : Below w.heap.size w w4 := (hB.alloc (by omega) _).grown hgrow (by simp; omega) (fun j hj => by have := (e1 j hj).1; omega)) | (at_builtin; refine wpList_append_own_none rfl _ _ 43 rfl (w.heap.size + 1) 23 i0 2 Try.underlying43 hi0 _ _ _ rfl hrow' rfl ?_))
        go_ret
        refine ⟨v', rfl, ?_, hBn⟩
        have hfe : a = [] := by have := HNA.out; exact List.eq_nil_of_length_eq_zero (by omega)
        have := spans_of_owns (zs := b ++ [(yl, yh)]) (by rw [List.length_append, flat_app, flat_one, HNB.out, HFB.out]; exact hrow')
        rw [HR.out, hfe]
        exact this
      · go_wp2_with (first | (at_builtin; refine wpList_append_own_at _ rfl _ _ 43 rfl (w.heap.size + 1) 23 i0 (.agg #[.int .i64 0, .int .i64 0]) 2 16 Try.underlying43 hi0 hz0 hz1 hz2 rfl (by decide) _ _ _ rfl (hr1.alloc _) ⟨wr.heap.size, 0, none⟩ 1 1 [.int .i64 yl, .int .i64 yh] rfl rfl (two_new _ _ _) (by simp [Value.oneCell']) (by unfold maxLen; omega) (by omega) (by simp; omega) ?_; intro v' w4 hrow' hgrow _ hob; have hBn : Below w.heap.size w w4 := (hB.alloc (by omega) _).grown hgrow (by simp; omega) (fun j hj => by have := (e1 j hj).1; omega); have hro := (hr2.alloc (.cells #[.int .i64 yl, .int .i64 yh] 23)).kept hgrow (dist_sym hd); have hcr := hro.cells (g := g2) rfl; have e4 := hrow'.lt) | (at_builtin; refine wpList_append_own_at _ rfl _ _ 43 rfl (w.heap.size + 1) 23 i0 (.agg #[.int .i64 0, .int .i64 0]) 2 16 Try.underlying43 hi0 hz0 hz1 hz2 rfl (by decide) _ _ _ rfl hrow' ⟨g2, 0, none⟩ na cap2 fa rfl hfl2 hcr hone (by unfold maxLen; omega) (by omega) (by have := hBn.size; have := hgrow.size; simp at this; omega) ?_; intro v5 w5 hrow5 hgrow5 _ hob5; have hB5 : Below w.heap.size w w5 := hBn.grown hgrow5 hBn.size (fun j hj => by have := (e4 j hj).1; omega)))
        go_ret
        refine ⟨v5, rfl, ?_, hB5⟩
        have := spans_of_owns (zs := b ++ (yl, yh) :: a) (by rw [List.length_append, List.length_cons, flat_app, show flat ((yl, yh) :: a) = [.int .i64 yl, .int .i64 yh] ++ flat a from rfl, HNB.out, HFB.out, HNA.out, HFA.out, ← List.append_assoc, show nb + (na + 1) = nb + 1 + na by omega]; exact hrow5)
        rw [HR.out]
        exact this
end Go.Proofs.Ytamelpfhbnkggaa

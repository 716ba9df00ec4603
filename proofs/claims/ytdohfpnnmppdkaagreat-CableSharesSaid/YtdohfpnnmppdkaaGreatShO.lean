/-
  Cables: the reference's order of nodes.
-/
import Derived.Test.YtdohfpnnmppdkaaGreatShH
namespace Go.Proofs.YtdohfpnnmppdkaaGreat
open Go.RowKit Go.Shelf
set_option linter.unusedSimpArgs false
attribute [local go_sem] Oper.semAt_some
theorem own_next {W : World} {base k : Nat} {v : Value} {L : List Nat} (h : W.ownsRow base 3 1 v k (flatN L)) (hk : 0 < k) : ∃ g cap, v = .slice (some ⟨g, 0, none⟩) k cap ∧ base ≤ g ∧ k ≤ cap ∧ g < W.heap.size ∧ (∀ i, i < k → W.cell? ⟨g, i, none⟩ = some (.int .i64 (tn L i : Int))) := by
  have hl : L.length = k := by have := h.1; unfold flatN at this; simpa using this
  rcases h.2 with ⟨_, e⟩ | ⟨g, cap, cur, hv, hb, hg, hc1, hc2, hs, ht⟩
  · omega
  · refine ⟨g, cap, hv, hb, hc1, (Array.getElem?_eq_some_iff.1 hg).1, fun i hi => ?_⟩
    rw [cellHB hg]
    have e : cur.toList[i]? = (flatN L)[i]? := by
      rw [← ht, List.getElem?_take_of_lt (by omega)]
    have e2 : cur[i]? = (flatN L)[i]? := by simpa using e
    rw [e2]
    unfold flatN tn
    simp [show i < L.length by omega]
theorem flatN_app (l m : List Nat) : flatN (l ++ m) = flatN l ++ flatN m := by simp [flatN]
theorem flatN_len (l : List Nat) : (flatN l).length = l.length := by simp [flatN]
theorem flatN_one (l : List Nat) : ∀ u, u ∈ flatN l → u.oneCell' = true := by
  intro u hu
  obtain ⟨x, _, rfl⟩ := List.mem_map.1 hu
  rfl
theorem flatN_get (l : List Nat) (j : Nat) (u : Value) (h : (flatN l)[j]? = some u) : j < l.length ∧ u = .int .i64 (tn l j : Int) := by
  have hj : j < l.length := by
    by_cases hj : j < l.length
    · exact hj
    · rw [List.getElem?_eq_none (by rw [flatN_len]; omega)] at h; cases h
  refine ⟨hj, ?_⟩
  unfold flatN at h
  unfold tn
  simp [hj] at h ⊢
  exact h.symm
theorem tn_take' {l : List Nat} {a j : Nat} (h : j < a) : tn (l.take a) j = tn l j := by unfold tn; rw [List.getElem?_take_of_lt h]
theorem tn_drop' (l : List Nat) (a j : Nat) : tn (l.drop a) j = tn l (a + j) := by unfold tn; rw [List.getElem?_drop]
theorem add_at (b o i : Nat) : (⟨b, o, none⟩ : Addr).add i = ⟨b, o + i, none⟩ := by unfold Addr.add; split <;> simp_all
theorem one_kept {W W' : World} {B : Nat} {x : Value} {t : TypeId} {row : Option Nat} (h : W.heap[B]? = some (.cells #[x] t (0, 0))) (hg : W.grownBy W' row) (hne : some B ≠ row) : W'.heap[B]? = some (.cells #[x] t (0, 0)) :=
  (hg.block B (Array.getElem?_eq_some_iff.1 h).1 (fun e => hne e)).trans h
theorem one_news {W : World} {B : Nat} {x : Value} {t : TypeId} (h : W.heap[B]? = some (.cells #[x] t (0, 0))) : ∀ (j : Nat) (u : Value), [x][j]? = some u → W.cell? ((⟨B, 0, none⟩ : Addr).add j) = some u := by
  intro j u hj
  match j, hj with
  | 0, h' => simp at h'; subst h'; simp [Addr.add, World.cell?, h]
set_option maxRecDepth 100000 in
set_option maxHeartbeats 32000000 in
/-- the reference's order -/
theorem refOrder_any (kv : Value) (ks : List Int) (n : Nat) (hm : ks.length = n) (h0 : 0 < n) (hn : n ≤ 1000) (w : World) (hK : Il w.heap.size w kv ks) :
    Calls Tryz.prog 25 #[kv] w fun e w' => ∃ v, e = .returned v ∧ w'.ownsRow w.heap.size 3 1 v n (flatN (ordO (ti ks) n)) ∧ Below w.heap.size w w' := by
  obtain ⟨i3, hi3, hz30, hz31, hz32⟩ := info_parts infoI3
  obtain ⟨ka, kc, rfl, -, hkc⟩ := hK
  rw [hm] at hkc ⊢
  obtain ⟨kb, ko, rfl, hkb, -⟩ := hkc 0 h0
  have HC := Lib.hid (show ∀ Z, Below w.heap.size w Z → ∀ k, k < n → Z.cell? ⟨kb, ko + k, none⟩ = some (.int .i64 (ti ks k)) from fun Z h k hk => by
    obtain ⟨b, off, h1, h2, h3⟩ := hkc k hk
    simp only [Option.some.injEq, Addr.mk.injEq] at h1
    obtain ⟨rfl, rfl, -⟩ := h1
    exact (h.cell (p := ⟨_, _, none⟩) h2).trans h3)
  clear hkc hm
  generalize ti ks = rk at *
  have HT := Lib.hid (fun k => ordO_turn rk k)
  have HN0 := Lib.hid h0
  clear h0
  go_enter Tryz.func25, Tryz.ntmps25
  go_wp2_with fail
  go_loopw [3, 4] (fun pv iv wr => ∃ k : Nat, k ≤ n ∧ iv = .int .i64 k ∧ wr.ownsRow w.heap.size 3 1 pv k (flatN (ordO rk k)) ∧ (k = 0 → pv = .slice none 0 0) ∧ Below w.heap.size w wr) (fun _ iv _ => n - (intOf iv).toNat)
  case atStart => exact ⟨0, Nat.zero_le _, rfl, World.ownsRow_nil _ _ _ _, fun _ => rfl, Below.refl _ _⟩
  case round =>
    obtain ⟨k, hk, rfl, hr, hpv0, hB⟩ := hrel
    have HR := Lib.hid hr
    have HB := Lib.hid hB
    by_cases hlt : k < n
    · have hki : (k : Int) < (n : Int) := by omega
      obtain ⟨L, hL⟩ : ∃ L, L = ordO rk k := ⟨_, rfl⟩
      have HLL := Lib.hid (show L.length = k by rw [hL]; exact (HT.out k).len)
      have HIN := Lib.hid (show ∀ a, a ≤ k → (∀ i, a ≤ i → i < k → rk (tn L i) < rk k) → (0 < a → rk k ≤ rk (tn L (a - 1))) → flatN (ordO rk (k + 1)) = flatN (L.take a) ++ [.int .i64 (k : Int)] ++ flatN (L.drop a) from fun a ha h1 h2 => by
        have q := insO_at rk k L (by rw [hL]; exact (HT.out k).asc) a (by rw [HLL.out]; exact ha) (fun i x hi hx => by
          have hlt := (List.getElem?_eq_some_iff.1 hx).1
          have e : tn L i = x := by unfold tn; rw [hx]; rfl
          rw [← e]
          exact h1 i hi (by rw [← HLL.out]; exact hlt)) (fun x h0 hx => by
          have e : tn L (a - 1) = x := by unfold tn; rw [hx]; rfl
          rw [← e]
          have := h2 h0
          omega)
        show flatN (insO rk k (ordO rk k)) = _
        rw [← hL, q, flatN_app]
        show _ = flatN (L.take a) ++ [.int .i64 (k : Int)] ++ flatN (L.drop a)
        rw [List.append_assoc]
        rfl)
      have HEL := Lib.hid (show ∀ i, i < k → tn L i < n from fun i hi => by
        have := ((HT.out k).all (tn L i)).1 (by rw [← hL]; exact tn_mem (by rw [HLL.out]; exact hi))
        omega)
      rw [← hL] at HR hr
      clear hL hr
      rcases Nat.eq_zero_or_pos k with hk0 | hkp
      · subst hk0
        obtain rfl := hpv0 rfl
        have hL0 : L = [] := List.eq_nil_of_length_eq_zero HLL.out
        subst hL0
        clear hpv0
        go_wp2_with fail
        go_loopw [5] (fun av wq => av = .int .i64 ((0 : Nat) : Int) ∧ wq = wr) (fun av _ => (intOf av).toNat)
        case atStart => exact ⟨rfl, rfl⟩
        case round =>
          obtain ⟨rfl, hwq⟩ := hrel
          subst hwq
          go_upto_region 6 with fail
          refine wp_region_held_drew (S := fun w' => True) (by kernel_rfl) trivial (fun hHeld => ?_)
          refine wpAnyH_take (i := 0) (oi := _) (v := Value.int .i64 ((0 : Nat) : Int)) rfl (by kernel_rfl) (by kernel_rfl) (by kernel_rfl) (fun _ _ _ h => h) (Or.inl ⟨by rfl, fun w' hSw => ?_⟩) hHeld ?_
          · clear hSw
            go_simp
            try simp [*]
            try (intro hh; exfalso; omega)
            try omega
          try simp only [Act.put, List.setIfInBounds_toArray, List.set_cons_zero, List.set_cons_succ, List.getElem_toArray, List.getElem_cons_succ, List.getElem_cons_zero]
          refine wpAnyH_take (i := 1) (oi := _) (v := Value.bool false) rfl (by kernel_rfl) (by kernel_rfl) (by kernel_rfl) (fun _ _ _ h => h) (Or.inl ⟨by rfl, fun w' hSw => ?_⟩) hHeld ?_
          · clear hSw
            go_simp
            try simp [*]
            try (intro hh; exfalso; omega)
            try omega
          try simp only [Act.put, List.setIfInBounds_toArray, List.set_cons_zero, List.set_cons_succ, List.getElem_toArray, List.getElem_cons_succ, List.getElem_cons_zero]
          refine wpAnyH_take (i := 2) (oi := _) (v := Value.bool false) rfl (by kernel_rfl) (by kernel_rfl) (by kernel_rfl) (fun _ _ _ h => h) (Or.inl ⟨by rfl, fun w' hSw => ?_⟩) hHeld ?_
          · clear hSw
            go_simp
            try simp [*]
            try (intro hh; exfalso; omega)
            try omega
          try simp only [Act.put, List.setIfInBounds_toArray, List.set_cons_zero, List.set_cons_succ, List.getElem_toArray, List.getElem_cons_succ, List.getElem_cons_zero]
          refine wpAnyH_take (i := 3) (oi := _) (v := undef) rfl (by kernel_rfl) (by kernel_rfl) (by kernel_rfl) (fun _ _ _ h => h) (Or.inr ⟨by rfl, rfl⟩) hHeld ?_
          try simp only [Act.put, List.setIfInBounds_toArray, List.set_cons_zero, List.set_cons_succ, List.getElem_toArray, List.getElem_cons_succ, List.getElem_cons_zero]
          refine wpAnyH_take (i := 4) (oi := _) (v := undef) rfl (by kernel_rfl) (by kernel_rfl) (by kernel_rfl) (fun _ _ _ h => h) (Or.inr ⟨by rfl, rfl⟩) hHeld ?_
          try simp only [Act.put, List.setIfInBounds_toArray, List.set_cons_zero, List.set_cons_succ, List.getElem_toArray, List.getElem_cons_succ, List.getElem_cons_zero]
          refine wpAnyH_take (i := 5) (oi := _) (v := undef) rfl (by kernel_rfl) (by kernel_rfl) (by kernel_rfl) (fun _ _ _ h => h) (Or.inr ⟨by rfl, rfl⟩) hHeld ?_
          try simp only [Act.put, List.setIfInBounds_toArray, List.set_cons_zero, List.set_cons_succ, List.getElem_toArray, List.getElem_cons_succ, List.getElem_cons_zero]
          refine wpAnyH_take (i := 6) (oi := _) (v := undef) rfl (by kernel_rfl) (by kernel_rfl) (by kernel_rfl) (fun _ _ _ h => h) (Or.inr ⟨by rfl, rfl⟩) hHeld ?_
          try simp only [Act.put, List.setIfInBounds_toArray, List.set_cons_zero, List.set_cons_succ, List.getElem_toArray, List.getElem_cons_succ, List.getElem_cons_zero]
          refine wpAnyH_take (i := 7) (oi := _) (v := undef) rfl (by kernel_rfl) (by kernel_rfl) (by kernel_rfl) (fun _ _ _ h => h) (Or.inr ⟨by rfl, rfl⟩) hHeld ?_
          try simp only [Act.put, List.setIfInBounds_toArray, List.set_cons_zero, List.set_cons_succ, List.getElem_toArray, List.getElem_cons_succ, List.getElem_cons_zero]
          refine wpAnyH_take (i := 8) (oi := _) (v := undef) rfl (by kernel_rfl) (by kernel_rfl) (by kernel_rfl) (fun _ _ _ h => h) (Or.inr ⟨by rfl, rfl⟩) hHeld ?_
          try simp only [Act.put, List.setIfInBounds_toArray, List.set_cons_zero, List.set_cons_succ, List.getElem_toArray, List.getElem_cons_succ, List.getElem_cons_zero]
          refine wpAnyH_take (i := 9) (oi := _) (v := undef) rfl (by kernel_rfl) (by kernel_rfl) (by kernel_rfl) (fun _ _ _ h => h) (Or.inr ⟨by rfl, rfl⟩) hHeld ?_
          try simp only [Act.put, List.setIfInBounds_toArray, List.set_cons_zero, List.set_cons_succ, List.getElem_toArray, List.getElem_cons_succ, List.getElem_cons_zero]
          refine wpAnyH_take (i := 10) (oi := _) (v := undef) rfl (by kernel_rfl) (by kernel_rfl) (by kernel_rfl) (fun _ _ _ h => h) (Or.inr ⟨by rfl, rfl⟩) hHeld ?_
          try simp only [Act.put, List.setIfInBounds_toArray, List.set_cons_zero, List.set_cons_succ, List.getElem_toArray, List.getElem_cons_succ, List.getElem_cons_zero]
          refine wpAnyH_take (i := 11) (oi := _) (v := undef) rfl (by kernel_rfl) (by kernel_rfl) (by kernel_rfl) (fun _ _ _ h => h) (Or.inr ⟨by rfl, rfl⟩) hHeld ?_
          try simp only [Act.put, List.setIfInBounds_toArray, List.set_cons_zero, List.set_cons_succ, List.getElem_toArray, List.getElem_cons_succ, List.getElem_cons_zero]
          refine wpAnyH_take (i := 12) (oi := _) (v := undef) rfl (by kernel_rfl) (by kernel_rfl) (by kernel_rfl) (fun _ _ _ h => h) (Or.inr ⟨by rfl, rfl⟩) hHeld ?_
          try simp only [Act.put, List.setIfInBounds_toArray, List.set_cons_zero, List.set_cons_succ, List.getElem_toArray, List.getElem_cons_succ, List.getElem_cons_zero]
          refine wpAnyH_take (i := 13) (oi := _) (v := undef) rfl (by kernel_rfl) (by kernel_rfl) (by kernel_rfl) (fun _ _ _ h => h) (Or.inr ⟨by rfl, rfl⟩) hHeld ?_
          try simp only [Act.put, List.setIfInBounds_toArray, List.set_cons_zero, List.set_cons_succ, List.getElem_toArray, List.getElem_cons_succ, List.getElem_cons_zero]
          refine wpAnyH_take (i := 14) (oi := _) (v := undef) rfl (by kernel_rfl) (by kernel_rfl) (by kernel_rfl) (fun _ _ _ h => h) (Or.inr ⟨by rfl, rfl⟩) hHeld ?_
          try simp only [Act.put, List.setIfInBounds_toArray, List.set_cons_zero, List.set_cons_succ, List.getElem_toArray, List.getElem_cons_succ, List.getElem_cons_zero]
          refine wpAnyH_take (i := 15) (oi := _) (v := undef) rfl (by kernel_rfl) (by kernel_rfl) (by kernel_rfl) (fun _ _ _ h => h) (Or.inr ⟨by rfl, rfl⟩) hHeld ?_
          try simp only [Act.put, List.setIfInBounds_toArray, List.set_cons_zero, List.set_cons_succ, List.getElem_toArray, List.getElem_cons_succ, List.getElem_cons_zero]
          refine wpAnyH_take (i := 16) (oi := _) (v := Value.bool false) rfl (by kernel_rfl) (by kernel_rfl) (by kernel_rfl) (fun _ _ _ h => h) (Or.inl ⟨by rfl, fun w' hSw => ?_⟩) hHeld ?_
          · clear hSw
            go_simp
            try simp [*]
            try (intro hh; exfalso; omega)
            try omega
          try simp only [Act.put, List.setIfInBounds_toArray, List.set_cons_zero, List.set_cons_succ, List.getElem_toArray, List.getElem_cons_succ, List.getElem_cons_zero]
          refine wpAnyH_done (by kernel_rfl) ?_ _
          clear hHeld
          obtain ⟨U, hU⟩ : ∃ U, U = wr.drew := ⟨_, rfl⟩
          have HU := Lib.hid (show Below wr.heap.size wr U by rw [hU]; exact (Below.refl _ _).drew)
          have HBZ := Lib.hid (show w.heap.size ≤ wr.heap.size from Below.size HB.out)
          go_upto_region 8 with fail
          rw [← hU]
          clear hU
          obtain ⟨D0, hD0⟩ : ∃ D0, D0 = U.drew := ⟨_, rfl⟩
          have HD0 := Lib.hid (show Below wr.heap.size wr D0 by rw [hD0]; exact HU.out.drew)
          refine wp_region_held_drew (S := fun w' => True) (by kernel_rfl) trivial (fun hHeld => ?_)
          rw [← hD0]
          clear hD0
          refine wpAnyH_take (i := 1) (oi := _) (v := Value.slice none 0 0) rfl (by kernel_rfl) (by kernel_rfl) (by kernel_rfl) (fun _ _ _ h => h) (Or.inl ⟨by rfl, fun w' hSw => ?_⟩) hHeld ?_
          · clear hSw
            go_simp
            try simp [*]
            try (intro hh; exfalso; omega)
            try omega
          try simp only [Act.put, List.setIfInBounds_toArray, List.set_cons_zero, List.set_cons_succ, List.getElem_toArray, List.getElem_cons_succ, List.getElem_cons_zero]
          refine wpAnyH_take (i := 2) (oi := _) (v := Value.int .i64 ((0 : Nat) : Int)) rfl (by kernel_rfl) (by kernel_rfl) (by kernel_rfl) (fun _ _ _ h => h) (Or.inl ⟨by rfl, fun w' hSw => ?_⟩) hHeld ?_
          · clear hSw
            go_simp
            try simp [*]
            try (intro hh; exfalso; omega)
            try omega
          try simp only [Act.put, List.setIfInBounds_toArray, List.set_cons_zero, List.set_cons_succ, List.getElem_toArray, List.getElem_cons_succ, List.getElem_cons_zero]
          refine wpAnyH_take (i := 3) (oi := _) (v := Value.slice none 0 0) rfl (by kernel_rfl) (by kernel_rfl) (by kernel_rfl) (fun _ _ _ h => h) (Or.inl ⟨by rfl, fun w' hSw => ?_⟩) hHeld ?_
          · clear hSw
            go_simp
            try simp [*]
            try (intro hh; exfalso; omega)
            try omega
          try simp only [Act.put, List.setIfInBounds_toArray, List.set_cons_zero, List.set_cons_succ, List.getElem_toArray, List.getElem_cons_succ, List.getElem_cons_zero]
          refine wpAnyH_take (i := 5) (oi := _) (v := Value.int .i64 ((0 : Nat) : Int)) rfl (by kernel_rfl) (by kernel_rfl) (by kernel_rfl) (fun _ _ _ h => h) (Or.inl ⟨by rfl, fun w' hSw => ?_⟩) hHeld ?_
          · clear hSw
            go_simp
            try simp [*]
            try (intro hh; exfalso; omega)
            try omega
          try simp only [Act.put, List.setIfInBounds_toArray, List.set_cons_zero, List.set_cons_succ, List.getElem_toArray, List.getElem_cons_succ, List.getElem_cons_zero]
          refine wpAnyH_take (i := 8) (oi := _) (v := Value.slice none 0 0) rfl (by kernel_rfl) (by kernel_rfl) (by kernel_rfl) (fun _ _ _ h => h) (Or.inl ⟨by rfl, fun w' hSw => ?_⟩) hHeld ?_
          · clear hSw
            go_simp
            try simp [*]
            try (intro hh; exfalso; omega)
            try omega
          try simp only [Act.put, List.setIfInBounds_toArray, List.set_cons_zero, List.set_cons_succ, List.getElem_toArray, List.getElem_cons_succ, List.getElem_cons_zero]
          refine wpAnyH_take (i := 9) (oi := _) (v := Value.int .i64 ((0 : Nat) : Int)) rfl (by kernel_rfl) (by kernel_rfl) (by kernel_rfl) (fun _ _ _ h => h) (Or.inl ⟨by rfl, fun w' hSw => ?_⟩) hHeld ?_
          · clear hSw
            go_simp
            try simp [*]
            try (intro hh; exfalso; omega)
            try omega
          try simp only [Act.put, List.setIfInBounds_toArray, List.set_cons_zero, List.set_cons_succ, List.getElem_toArray, List.getElem_cons_succ, List.getElem_cons_zero]
          refine wpAnyH_take (i := 10) (oi := _) (v := Value.slice none 0 0) rfl (by kernel_rfl) (by kernel_rfl) (by kernel_rfl) (fun _ _ _ h => h) (Or.inl ⟨by rfl, fun w' hSw => ?_⟩) hHeld ?_
          · clear hSw
            go_simp
            try simp [*]
            try (intro hh; exfalso; omega)
            try omega
          try simp only [Act.put, List.setIfInBounds_toArray, List.set_cons_zero, List.set_cons_succ, List.getElem_toArray, List.getElem_cons_succ, List.getElem_cons_zero]
          refine wpAnyH_ready (rs := [0, 6]) (by kernel_rfl) (by simp) ?_
          refine AllReadyH.cons (o := _) rfl (fun K hK => ?_) (AllReadyH.cons (o := _) rfl (fun K hK => ?_) (AllReadyH.nil))
          · go_simp
            have HB1 := Lib.hid (HD0.out.alloc (Below.size HD0.out) (.cells #[] 3))
            have HR1 := Lib.hid (World.ownsRow_made (base := wr.heap.size) (e := 3) (size := 1) D0 #[] 0 (Below.size HD0.out) (by unfold maxLen; omega) rfl)
            clear hHeld
            refine hK.out _ _ trivial (fun hHeld => ?_)
            clear hK K
            try simp only [Act.put, List.setIfInBounds_toArray, List.set_cons_zero, List.set_cons_succ, List.getElem_toArray, List.getElem_cons_succ, List.getElem_cons_zero]
            refine wpAnyH_ready (rs := [4, 6]) (by kernel_rfl) (by simp) ?_
            refine AllReadyH.cons (o := _) rfl (fun K hK => ?_) (AllReadyH.cons (o := _) rfl (fun K hK => ?_) (AllReadyH.nil))
            · refine step_append_any rfl _ _ 28 rfl wr.heap.size 3 i3 (.int .i64 0) 1 8 Tryz.underlying28 hi3 hz30 hz31 hz32 rfl (by decide) (Value.slice (some ⟨D0.heap.size, 0, none⟩) 0 0) (0) ([]) rfl HR1.out (none) (0) (0) (flatN (List.take 0 [])) rfl (rfl) (fun h => absurd h (Nat.lt_irrefl 0)) (flatN_one _) (by unfold maxLen; omega) (by omega) (Below.size HB1.out) ?_
              intro v4 W4 ho hb hd hg
              have HB4 := Lib.hid (HB1.out.trans hb)
              have HR4 := Lib.hid ho
              have HD4 := Lib.hid hd
              clear ho hb hd hg
              clear hHeld
              refine hK.out _ _ trivial (fun hHeld => ?_)
              clear hK K
              try simp only [Act.put, List.setIfInBounds_toArray, List.set_cons_zero, List.set_cons_succ, List.getElem_toArray, List.getElem_cons_succ, List.getElem_cons_zero]
              refine wpAnyH_ready (rs := [6]) (by kernel_rfl) (by simp) ?_
              refine AllReadyH.cons (o := _) rfl (fun K hK => ?_) AllReadyH.nil
              go_simp
              have HB5 := Lib.hid (HB4.out.alloc (Below.size HB4.out) (.cells #[.int .i64 ((0 : Nat) : Int)] 3))
              have HR5 := Lib.hid (HR4.out.alloc (.cells #[.int .i64 ((0 : Nat) : Int)] 3))
              have HK5 := Lib.hid (World.alloc_heap_new W4 (.cells #[.int .i64 ((0 : Nat) : Int)] 3))
              clear hHeld
              refine hK.out _ _ trivial (fun hHeld => ?_)
              clear hK K
              try simp only [Act.put, List.setIfInBounds_toArray, List.set_cons_zero, List.set_cons_succ, List.getElem_toArray, List.getElem_cons_succ, List.getElem_cons_zero]
              refine wpAnyH_ready (rs := [7]) (by kernel_rfl) (by simp) ?_
              refine AllReadyH.cons (o := _) rfl (fun K hK => ?_) AllReadyH.nil
              refine step_append_any rfl _ _ 28 rfl wr.heap.size 3 i3 (.int .i64 0) 1 8 Tryz.underlying28 hi3 hz30 hz31 hz32 rfl (by decide) (v4) (0 + 0) ([] ++ flatN (List.take 0 [])) rfl HR5.out (some ⟨W4.heap.size, 0, none⟩) (1) (1) ([.int .i64 ((0 : Nat) : Int)]) rfl (rfl) (fun _ => ⟨_, rfl, one_news HK5.out⟩) (by simp [Value.oneCell']) (by unfold maxLen; omega) (by omega) (Below.size HB5.out) ?_
              intro v7 W7 ho hb hd hg
              have HB7 := Lib.hid (HB5.out.trans hb)
              have HR7 := Lib.hid ho
              clear ho hb hd hg
              clear hHeld
              refine hK.out _ _ trivial (fun hHeld => ?_)
              clear hK K
              try simp only [Act.put, List.setIfInBounds_toArray, List.set_cons_zero, List.set_cons_succ, List.getElem_toArray, List.getElem_cons_succ, List.getElem_cons_zero]
              refine wpAnyH_ready (rs := [11]) (by kernel_rfl) (by simp) ?_
              refine AllReadyH.cons (o := _) rfl (fun K hK => ?_) AllReadyH.nil
              refine step_append_any rfl _ _ 28 rfl wr.heap.size 3 i3 (.int .i64 0) 1 8 Tryz.underlying28 hi3 hz30 hz31 hz32 rfl (by decide) (v7) (0 + 0 + 1) ([] ++ flatN (List.take 0 []) ++ [.int .i64 ((0 : Nat) : Int)]) rfl HR7.out (none) (0) (0) (flatN (List.drop 0 [])) rfl (rfl) (fun h => absurd h (Nat.lt_irrefl 0)) (flatN_one _) (by unfold maxLen; omega) (by omega) (Below.size HB7.out) ?_
              intro v11 W11 ho hb hd hg
              have HB11 := Lib.hid (HB7.out.trans hb)
              have HR11 := Lib.hid ho
              clear ho hb hd hg
              clear hHeld
              refine hK.out _ _ trivial (fun hHeld => ?_)
              clear hK K
              try simp only [Act.put, List.setIfInBounds_toArray, List.set_cons_zero, List.set_cons_succ, List.getElem_toArray, List.getElem_cons_succ, List.getElem_cons_zero]
              refine wpAnyH_take (i := 12) (oi := _) (v := v11) rfl (by kernel_rfl) (by kernel_rfl) (by kernel_rfl) (fun _ _ _ h => h) (Or.inl ⟨by rfl, fun w' hSw => ?_⟩) hHeld ?_
              · clear hSw
                go_simp
                try simp [*]
                try (intro hh; exfalso; omega)
                try omega
              try simp only [Act.put, List.setIfInBounds_toArray, List.set_cons_zero, List.set_cons_succ, List.getElem_toArray, List.getElem_cons_succ, List.getElem_cons_zero]
              refine wpAnyH_done (by kernel_rfl) ?_ _
              clear hHeld
              have HOW := Lib.hid (show W11.ownsRow w.heap.size 3 1 v11 (0 + 1) (flatN (ordO rk (0 + 1))) from by
                have q := HR11.out
                rw [show 0 + 0 + 1 + (0) = 0 + 1 by omega, show [] ++ flatN (List.take 0 []) ++ [Value.int .i64 ((0 : Nat) : Int)] ++ flatN (List.drop 0 []) = flatN (ordO rk (0 + 1)) from (HIN.out 0 (by omega) (fun i _ h => absurd h (Nat.not_lt_zero i)) (fun h => absurd h (Nat.lt_irrefl 0))).symm] at q
                exact own_base q HBZ.out)
              go_wp2_with fail
              go_roundw
              case rel => exact ⟨0 + 1, by omega, by go_num, HOW.out, fun h => by omega, HB.out.trans (HB11.out.mono HBZ.out)⟩
              case measure => simp [intOf]; omega
            · go_simp
              have HB5 := Lib.hid (HB1.out.alloc (Below.size HB1.out) (.cells #[.int .i64 ((0 : Nat) : Int)] 3))
              have HR5 := Lib.hid (HR1.out.alloc (.cells #[.int .i64 ((0 : Nat) : Int)] 3))
              have HK5 := Lib.hid (show ((D0.alloc (.cells #[] 3)).alloc (.cells #[.int .i64 ((0 : Nat) : Int)] 3)).heap[D0.heap.size + 1]? = some (.cells #[.int .i64 ((0 : Nat) : Int)] 3 (0, 0)) from by have q := World.alloc_heap_new (D0.alloc (.cells #[] 3)) (.cells #[.int .i64 ((0 : Nat) : Int)] 3); rw [World.size_alloc] at q; exact q)
              clear hHeld
              refine hK.out _ _ trivial (fun hHeld => ?_)
              clear hK K
              try simp only [Act.put, List.setIfInBounds_toArray, List.set_cons_zero, List.set_cons_succ, List.getElem_toArray, List.getElem_cons_succ, List.getElem_cons_zero]
              refine wpAnyH_ready (rs := [4]) (by kernel_rfl) (by simp) ?_
              refine AllReadyH.cons (o := _) rfl (fun K hK => ?_) AllReadyH.nil
              refine step_append_any rfl _ _ 28 rfl wr.heap.size 3 i3 (.int .i64 0) 1 8 Tryz.underlying28 hi3 hz30 hz31 hz32 rfl (by decide) (Value.slice (some ⟨D0.heap.size, 0, none⟩) 0 0) (0) ([]) rfl HR5.out (none) (0) (0) (flatN (List.take 0 [])) rfl (rfl) (fun h => absurd h (Nat.lt_irrefl 0)) (flatN_one _) (by unfold maxLen; omega) (by omega) (Below.size HB5.out) ?_
              intro v4 W4 ho hb hd hg
              have HB4 := Lib.hid (HB5.out.trans hb)
              have HR4 := Lib.hid ho
              have HD4 := Lib.hid hd
              have HK4 := Lib.hid (one_kept HK5.out hg (by simp [Value.ownBlock]))
              clear ho hb hd hg
              clear hHeld
              refine hK.out _ _ trivial (fun hHeld => ?_)
              clear hK K
              try simp only [Act.put, List.setIfInBounds_toArray, List.set_cons_zero, List.set_cons_succ, List.getElem_toArray, List.getElem_cons_succ, List.getElem_cons_zero]
              refine wpAnyH_ready (rs := [7]) (by kernel_rfl) (by simp) ?_
              refine AllReadyH.cons (o := _) rfl (fun K hK => ?_) AllReadyH.nil
              refine step_append_any rfl _ _ 28 rfl wr.heap.size 3 i3 (.int .i64 0) 1 8 Tryz.underlying28 hi3 hz30 hz31 hz32 rfl (by decide) (v4) (0 + 0) ([] ++ flatN (List.take 0 [])) rfl HR4.out (some ⟨D0.heap.size + 1, 0, none⟩) (1) (1) ([.int .i64 ((0 : Nat) : Int)]) rfl (rfl) (fun _ => ⟨_, rfl, one_news HK4.out⟩) (by simp [Value.oneCell']) (by unfold maxLen; omega) (by omega) (Below.size HB4.out) ?_
              intro v7 W7 ho hb hd hg
              have HB7 := Lib.hid (HB4.out.trans hb)
              have HR7 := Lib.hid ho
              clear ho hb hd hg
              clear hHeld
              refine hK.out _ _ trivial (fun hHeld => ?_)
              clear hK K
              try simp only [Act.put, List.setIfInBounds_toArray, List.set_cons_zero, List.set_cons_succ, List.getElem_toArray, List.getElem_cons_succ, List.getElem_cons_zero]
              refine wpAnyH_ready (rs := [11]) (by kernel_rfl) (by simp) ?_
              refine AllReadyH.cons (o := _) rfl (fun K hK => ?_) AllReadyH.nil
              refine step_append_any rfl _ _ 28 rfl wr.heap.size 3 i3 (.int .i64 0) 1 8 Tryz.underlying28 hi3 hz30 hz31 hz32 rfl (by decide) (v7) (0 + 0 + 1) ([] ++ flatN (List.take 0 []) ++ [.int .i64 ((0 : Nat) : Int)]) rfl HR7.out (none) (0) (0) (flatN (List.drop 0 [])) rfl (rfl) (fun h => absurd h (Nat.lt_irrefl 0)) (flatN_one _) (by unfold maxLen; omega) (by omega) (Below.size HB7.out) ?_
              intro v11 W11 ho hb hd hg
              have HB11 := Lib.hid (HB7.out.trans hb)
              have HR11 := Lib.hid ho
              clear ho hb hd hg
              clear hHeld
              refine hK.out _ _ trivial (fun hHeld => ?_)
              clear hK K
              try simp only [Act.put, List.setIfInBounds_toArray, List.set_cons_zero, List.set_cons_succ, List.getElem_toArray, List.getElem_cons_succ, List.getElem_cons_zero]
              refine wpAnyH_take (i := 12) (oi := _) (v := v11) rfl (by kernel_rfl) (by kernel_rfl) (by kernel_rfl) (fun _ _ _ h => h) (Or.inl ⟨by rfl, fun w' hSw => ?_⟩) hHeld ?_
              · clear hSw
                go_simp
                try simp [*]
                try (intro hh; exfalso; omega)
                try omega
              try simp only [Act.put, List.setIfInBounds_toArray, List.set_cons_zero, List.set_cons_succ, List.getElem_toArray, List.getElem_cons_succ, List.getElem_cons_zero]
              refine wpAnyH_done (by kernel_rfl) ?_ _
              clear hHeld
              have HOW := Lib.hid (show W11.ownsRow w.heap.size 3 1 v11 (0 + 1) (flatN (ordO rk (0 + 1))) from by
                have q := HR11.out
                rw [show 0 + 0 + 1 + (0) = 0 + 1 by omega, show [] ++ flatN (List.take 0 []) ++ [Value.int .i64 ((0 : Nat) : Int)] ++ flatN (List.drop 0 []) = flatN (ordO rk (0 + 1)) from (HIN.out 0 (by omega) (fun i _ h => absurd h (Nat.not_lt_zero i)) (fun h => absurd h (Nat.lt_irrefl 0))).symm] at q
                exact own_base q HBZ.out)
              go_wp2_with fail
              go_roundw
              case rel => exact ⟨0 + 1, by omega, by go_num, HOW.out, fun h => by omega, HB.out.trans (HB11.out.mono HBZ.out)⟩
              case measure => simp [intOf]; omega
          · go_simp
            have HB1 := Lib.hid (HD0.out.alloc (Below.size HD0.out) (.cells #[.int .i64 ((0 : Nat) : Int)] 3))
            clear hHeld
            refine hK.out _ _ trivial (fun hHeld => ?_)
            clear hK K
            try simp only [Act.put, List.setIfInBounds_toArray, List.set_cons_zero, List.set_cons_succ, List.getElem_toArray, List.getElem_cons_succ, List.getElem_cons_zero]
            refine wpAnyH_ready (rs := [0]) (by kernel_rfl) (by simp) ?_
            refine AllReadyH.cons (o := _) rfl (fun K hK => ?_) AllReadyH.nil
            go_simp
            have HB5 := Lib.hid (HB1.out.alloc (Below.size HB1.out) (.cells #[] 3))
            have HR5 := Lib.hid (show ((D0.alloc (.cells #[.int .i64 ((0 : Nat) : Int)] 3)).alloc (.cells #[] 3)).ownsRow wr.heap.size 3 1 (Value.slice (some ⟨D0.heap.size + 1, 0, none⟩) 0 0) 0 [] by have q := World.ownsRow_made (base := wr.heap.size) (e := 3) (size := 1) (D0.alloc (.cells #[.int .i64 ((0 : Nat) : Int)] 3)) #[] 0 (Below.size HB1.out) (by unfold maxLen; omega) rfl; rw [World.size_alloc] at q; exact q)
            have HK5 := Lib.hid (show ((D0.alloc (.cells #[.int .i64 ((0 : Nat) : Int)] 3)).alloc (.cells #[] 3)).heap[D0.heap.size]? = some (.cells #[.int .i64 ((0 : Nat) : Int)] 3 (0, 0)) from (Below.heap_alloc _ _ _ (by simp)).trans (World.alloc_heap_new D0 _))
            clear hHeld
            refine hK.out _ _ trivial (fun hHeld => ?_)
            clear hK K
            try simp only [Act.put, List.setIfInBounds_toArray, List.set_cons_zero, List.set_cons_succ, List.getElem_toArray, List.getElem_cons_succ, List.getElem_cons_zero]
            refine wpAnyH_ready (rs := [4]) (by kernel_rfl) (by simp) ?_
            refine AllReadyH.cons (o := _) rfl (fun K hK => ?_) AllReadyH.nil
            refine step_append_any rfl _ _ 28 rfl wr.heap.size 3 i3 (.int .i64 0) 1 8 Tryz.underlying28 hi3 hz30 hz31 hz32 rfl (by decide) (Value.slice (some ⟨D0.heap.size + 1, 0, none⟩) 0 0) (0) ([]) rfl HR5.out (none) (0) (0) (flatN (List.take 0 [])) rfl (rfl) (fun h => absurd h (Nat.lt_irrefl 0)) (flatN_one _) (by unfold maxLen; omega) (by omega) (Below.size HB5.out) ?_
            intro v4 W4 ho hb hd hg
            have HB4 := Lib.hid (HB5.out.trans hb)
            have HR4 := Lib.hid ho
            have HD4 := Lib.hid hd
            have HK4 := Lib.hid (one_kept HK5.out hg (by simp [Value.ownBlock]))
            clear ho hb hd hg
            clear hHeld
            refine hK.out _ _ trivial (fun hHeld => ?_)
            clear hK K
            try simp only [Act.put, List.setIfInBounds_toArray, List.set_cons_zero, List.set_cons_succ, List.getElem_toArray, List.getElem_cons_succ, List.getElem_cons_zero]
            refine wpAnyH_ready (rs := [7]) (by kernel_rfl) (by simp) ?_
            refine AllReadyH.cons (o := _) rfl (fun K hK => ?_) AllReadyH.nil
            refine step_append_any rfl _ _ 28 rfl wr.heap.size 3 i3 (.int .i64 0) 1 8 Tryz.underlying28 hi3 hz30 hz31 hz32 rfl (by decide) (v4) (0 + 0) ([] ++ flatN (List.take 0 [])) rfl HR4.out (some ⟨D0.heap.size, 0, none⟩) (1) (1) ([.int .i64 ((0 : Nat) : Int)]) rfl (rfl) (fun _ => ⟨_, rfl, one_news HK4.out⟩) (by simp [Value.oneCell']) (by unfold maxLen; omega) (by omega) (Below.size HB4.out) ?_
            intro v7 W7 ho hb hd hg
            have HB7 := Lib.hid (HB4.out.trans hb)
            have HR7 := Lib.hid ho
            clear ho hb hd hg
            clear hHeld
            refine hK.out _ _ trivial (fun hHeld => ?_)
            clear hK K
            try simp only [Act.put, List.setIfInBounds_toArray, List.set_cons_zero, List.set_cons_succ, List.getElem_toArray, List.getElem_cons_succ, List.getElem_cons_zero]
            refine wpAnyH_ready (rs := [11]) (by kernel_rfl) (by simp) ?_
            refine AllReadyH.cons (o := _) rfl (fun K hK => ?_) AllReadyH.nil
            refine step_append_any rfl _ _ 28 rfl wr.heap.size 3 i3 (.int .i64 0) 1 8 Tryz.underlying28 hi3 hz30 hz31 hz32 rfl (by decide) (v7) (0 + 0 + 1) ([] ++ flatN (List.take 0 []) ++ [.int .i64 ((0 : Nat) : Int)]) rfl HR7.out (none) (0) (0) (flatN (List.drop 0 [])) rfl (rfl) (fun h => absurd h (Nat.lt_irrefl 0)) (flatN_one _) (by unfold maxLen; omega) (by omega) (Below.size HB7.out) ?_
            intro v11 W11 ho hb hd hg
            have HB11 := Lib.hid (HB7.out.trans hb)
            have HR11 := Lib.hid ho
            clear ho hb hd hg
            clear hHeld
            refine hK.out _ _ trivial (fun hHeld => ?_)
            clear hK K
            try simp only [Act.put, List.setIfInBounds_toArray, List.set_cons_zero, List.set_cons_succ, List.getElem_toArray, List.getElem_cons_succ, List.getElem_cons_zero]
            refine wpAnyH_take (i := 12) (oi := _) (v := v11) rfl (by kernel_rfl) (by kernel_rfl) (by kernel_rfl) (fun _ _ _ h => h) (Or.inl ⟨by rfl, fun w' hSw => ?_⟩) hHeld ?_
            · clear hSw
              go_simp
              try simp [*]
              try (intro hh; exfalso; omega)
              try omega
            try simp only [Act.put, List.setIfInBounds_toArray, List.set_cons_zero, List.set_cons_succ, List.getElem_toArray, List.getElem_cons_succ, List.getElem_cons_zero]
            refine wpAnyH_done (by kernel_rfl) ?_ _
            clear hHeld
            have HOW := Lib.hid (show W11.ownsRow w.heap.size 3 1 v11 (0 + 1) (flatN (ordO rk (0 + 1))) from by
              have q := HR11.out
              rw [show 0 + 0 + 1 + (0) = 0 + 1 by omega, show [] ++ flatN (List.take 0 []) ++ [Value.int .i64 ((0 : Nat) : Int)] ++ flatN (List.drop 0 []) = flatN (ordO rk (0 + 1)) from (HIN.out 0 (by omega) (fun i _ h => absurd h (Nat.not_lt_zero i)) (fun h => absurd h (Nat.lt_irrefl 0))).symm] at q
              exact own_base q HBZ.out)
            go_wp2_with fail
            go_roundw
            case rel => exact ⟨0 + 1, by omega, by go_num, HOW.out, fun h => by omega, HB.out.trans (HB11.out.mono HBZ.out)⟩
            case measure => simp [intOf]; omega
      · clear hpv0
        obtain ⟨g, cap, rfl, hgb, hkcap, hgl, hgc⟩ := own_next HR.out hkp
        have HGC := Lib.hid hgc
        clear hgc
        obtain ⟨W0, rfl⟩ : ∃ W0, W0 = wr := ⟨_, rfl⟩
        go_wp2_with fail
        go_loopw [5] (fun av wq => ∃ a : Nat, a ≤ k ∧ av = .int .i64 a ∧ (∀ i, a ≤ i → i < k → rk (tn L i) < rk k) ∧ Below W0.heap.size W0 wq) (fun av _ => (intOf av).toNat)
        case atStart => exact ⟨k, Nat.le_refl _, rfl, fun i h1 h2 => by omega, Below.refl _ _⟩
        case round =>
          obtain ⟨a, ha, rfl, hall, hBq⟩ := hrel
          have HALL := Lib.hid hall
          have HBQ := Lib.hid hBq
          clear hall hBq
          rcases Nat.eq_zero_or_pos a with ha0 | hap
          · have hna : ¬ (0 : Int) < (a : Int) := by omega
            have hacap : a < cap := by omega
            have HALLX := HALL
            have HNOTX := Lib.hid (show 0 < a → rk k ≤ rk (tn L (a - 1)) from fun h => absurd h (by omega))
            have HGL := Lib.hid hgl
            clear ha0
            go_upto_region 6 with fail
            refine wp_region_held_drew (S := fun w' => True) (by kernel_rfl) trivial (fun hHeld => ?_)
            refine wpAnyH_take (i := 0) (oi := _) (v := Value.int .i64 (a : Int)) rfl (by kernel_rfl) (by kernel_rfl) (by kernel_rfl) (fun _ _ _ h => h) (Or.inl ⟨by rfl, fun w' hSw => ?_⟩) hHeld ?_
            · clear hSw
              go_simp
              try simp [*]
              try (intro hh; exfalso; omega)
              try omega
            try simp only [Act.put, List.setIfInBounds_toArray, List.set_cons_zero, List.set_cons_succ, List.getElem_toArray, List.getElem_cons_succ, List.getElem_cons_zero]
            refine wpAnyH_take (i := 1) (oi := _) (v := Value.bool false) rfl (by kernel_rfl) (by kernel_rfl) (by kernel_rfl) (fun _ _ _ h => h) (Or.inl ⟨by rfl, fun w' hSw => ?_⟩) hHeld ?_
            · clear hSw
              go_simp
              try simp [*]
              try (intro hh; exfalso; omega)
              try omega
            try simp only [Act.put, List.setIfInBounds_toArray, List.set_cons_zero, List.set_cons_succ, List.getElem_toArray, List.getElem_cons_succ, List.getElem_cons_zero]
            refine wpAnyH_take (i := 2) (oi := _) (v := Value.bool false) rfl (by kernel_rfl) (by kernel_rfl) (by kernel_rfl) (fun _ _ _ h => h) (Or.inl ⟨by rfl, fun w' hSw => ?_⟩) hHeld ?_
            · clear hSw
              go_simp
              try simp [*]
              try (intro hh; exfalso; omega)
              try omega
            try simp only [Act.put, List.setIfInBounds_toArray, List.set_cons_zero, List.set_cons_succ, List.getElem_toArray, List.getElem_cons_succ, List.getElem_cons_zero]
            refine wpAnyH_take (i := 3) (oi := _) (v := undef) rfl (by kernel_rfl) (by kernel_rfl) (by kernel_rfl) (fun _ _ _ h => h) (Or.inr ⟨by rfl, rfl⟩) hHeld ?_
            try simp only [Act.put, List.setIfInBounds_toArray, List.set_cons_zero, List.set_cons_succ, List.getElem_toArray, List.getElem_cons_succ, List.getElem_cons_zero]
            refine wpAnyH_take (i := 4) (oi := _) (v := undef) rfl (by kernel_rfl) (by kernel_rfl) (by kernel_rfl) (fun _ _ _ h => h) (Or.inr ⟨by rfl, rfl⟩) hHeld ?_
            try simp only [Act.put, List.setIfInBounds_toArray, List.set_cons_zero, List.set_cons_succ, List.getElem_toArray, List.getElem_cons_succ, List.getElem_cons_zero]
            refine wpAnyH_take (i := 5) (oi := _) (v := undef) rfl (by kernel_rfl) (by kernel_rfl) (by kernel_rfl) (fun _ _ _ h => h) (Or.inr ⟨by rfl, rfl⟩) hHeld ?_
            try simp only [Act.put, List.setIfInBounds_toArray, List.set_cons_zero, List.set_cons_succ, List.getElem_toArray, List.getElem_cons_succ, List.getElem_cons_zero]
            refine wpAnyH_take (i := 6) (oi := _) (v := undef) rfl (by kernel_rfl) (by kernel_rfl) (by kernel_rfl) (fun _ _ _ h => h) (Or.inr ⟨by rfl, rfl⟩) hHeld ?_
            try simp only [Act.put, List.setIfInBounds_toArray, List.set_cons_zero, List.set_cons_succ, List.getElem_toArray, List.getElem_cons_succ, List.getElem_cons_zero]
            refine wpAnyH_take (i := 7) (oi := _) (v := undef) rfl (by kernel_rfl) (by kernel_rfl) (by kernel_rfl) (fun _ _ _ h => h) (Or.inr ⟨by rfl, rfl⟩) hHeld ?_
            try simp only [Act.put, List.setIfInBounds_toArray, List.set_cons_zero, List.set_cons_succ, List.getElem_toArray, List.getElem_cons_succ, List.getElem_cons_zero]
            refine wpAnyH_take (i := 8) (oi := _) (v := undef) rfl (by kernel_rfl) (by kernel_rfl) (by kernel_rfl) (fun _ _ _ h => h) (Or.inr ⟨by rfl, rfl⟩) hHeld ?_
            try simp only [Act.put, List.setIfInBounds_toArray, List.set_cons_zero, List.set_cons_succ, List.getElem_toArray, List.getElem_cons_succ, List.getElem_cons_zero]
            refine wpAnyH_take (i := 9) (oi := _) (v := undef) rfl (by kernel_rfl) (by kernel_rfl) (by kernel_rfl) (fun _ _ _ h => h) (Or.inr ⟨by rfl, rfl⟩) hHeld ?_
            try simp only [Act.put, List.setIfInBounds_toArray, List.set_cons_zero, List.set_cons_succ, List.getElem_toArray, List.getElem_cons_succ, List.getElem_cons_zero]
            refine wpAnyH_take (i := 10) (oi := _) (v := undef) rfl (by kernel_rfl) (by kernel_rfl) (by kernel_rfl) (fun _ _ _ h => h) (Or.inr ⟨by rfl, rfl⟩) hHeld ?_
            try simp only [Act.put, List.setIfInBounds_toArray, List.set_cons_zero, List.set_cons_succ, List.getElem_toArray, List.getElem_cons_succ, List.getElem_cons_zero]
            refine wpAnyH_take (i := 11) (oi := _) (v := undef) rfl (by kernel_rfl) (by kernel_rfl) (by kernel_rfl) (fun _ _ _ h => h) (Or.inr ⟨by rfl, rfl⟩) hHeld ?_
            try simp only [Act.put, List.setIfInBounds_toArray, List.set_cons_zero, List.set_cons_succ, List.getElem_toArray, List.getElem_cons_succ, List.getElem_cons_zero]
            refine wpAnyH_take (i := 12) (oi := _) (v := undef) rfl (by kernel_rfl) (by kernel_rfl) (by kernel_rfl) (fun _ _ _ h => h) (Or.inr ⟨by rfl, rfl⟩) hHeld ?_
            try simp only [Act.put, List.setIfInBounds_toArray, List.set_cons_zero, List.set_cons_succ, List.getElem_toArray, List.getElem_cons_succ, List.getElem_cons_zero]
            refine wpAnyH_take (i := 13) (oi := _) (v := undef) rfl (by kernel_rfl) (by kernel_rfl) (by kernel_rfl) (fun _ _ _ h => h) (Or.inr ⟨by rfl, rfl⟩) hHeld ?_
            try simp only [Act.put, List.setIfInBounds_toArray, List.set_cons_zero, List.set_cons_succ, List.getElem_toArray, List.getElem_cons_succ, List.getElem_cons_zero]
            refine wpAnyH_take (i := 14) (oi := _) (v := undef) rfl (by kernel_rfl) (by kernel_rfl) (by kernel_rfl) (fun _ _ _ h => h) (Or.inr ⟨by rfl, rfl⟩) hHeld ?_
            try simp only [Act.put, List.setIfInBounds_toArray, List.set_cons_zero, List.set_cons_succ, List.getElem_toArray, List.getElem_cons_succ, List.getElem_cons_zero]
            refine wpAnyH_take (i := 15) (oi := _) (v := undef) rfl (by kernel_rfl) (by kernel_rfl) (by kernel_rfl) (fun _ _ _ h => h) (Or.inr ⟨by rfl, rfl⟩) hHeld ?_
            try simp only [Act.put, List.setIfInBounds_toArray, List.set_cons_zero, List.set_cons_succ, List.getElem_toArray, List.getElem_cons_succ, List.getElem_cons_zero]
            refine wpAnyH_take (i := 16) (oi := _) (v := Value.bool false) rfl (by kernel_rfl) (by kernel_rfl) (by kernel_rfl) (fun _ _ _ h => h) (Or.inl ⟨by rfl, fun w' hSw => ?_⟩) hHeld ?_
            · clear hSw
              go_simp
              try simp [*]
              try (intro hh; exfalso; omega)
              try omega
            try simp only [Act.put, List.setIfInBounds_toArray, List.set_cons_zero, List.set_cons_succ, List.getElem_toArray, List.getElem_cons_succ, List.getElem_cons_zero]
            refine wpAnyH_done (by kernel_rfl) ?_ _
            clear hHeld
            obtain ⟨U, hU⟩ : ∃ U, U = wr.drew := ⟨_, rfl⟩
            have HU := Lib.hid (show Below W0.heap.size W0 U by rw [hU]; exact HBQ.out.drew)
            have HBZ := Lib.hid (show w.heap.size ≤ W0.heap.size from Below.size HB.out)
            go_upto_region 8 with fail
            rw [← hU]
            clear hU
            obtain ⟨D0, hD0⟩ : ∃ D0, D0 = U.drew := ⟨_, rfl⟩
            have HD0 := Lib.hid (show Below W0.heap.size W0 D0 by rw [hD0]; exact HU.out.drew)
            refine wp_region_held_drew (S := fun w' => True) (by kernel_rfl) trivial (fun hHeld => ?_)
            rw [← hD0]
            clear hD0
            refine wpAnyH_take (i := 1) (oi := _) (v := Value.slice (some ⟨g, 0, none⟩) k cap) rfl (by kernel_rfl) (by kernel_rfl) (by kernel_rfl) (fun _ _ _ h => h) (Or.inl ⟨by rfl, fun w' hSw => ?_⟩) hHeld ?_
            · clear hSw
              go_simp
              try simp [*]
              try (intro hh; exfalso; omega)
              try omega
            try simp only [Act.put, List.setIfInBounds_toArray, List.set_cons_zero, List.set_cons_succ, List.getElem_toArray, List.getElem_cons_succ, List.getElem_cons_zero]
            refine wpAnyH_take (i := 2) (oi := _) (v := Value.int .i64 (a : Int)) rfl (by kernel_rfl) (by kernel_rfl) (by kernel_rfl) (fun _ _ _ h => h) (Or.inl ⟨by rfl, fun w' hSw => ?_⟩) hHeld ?_
            · clear hSw
              go_simp
              try simp [*]
              try (intro hh; exfalso; omega)
              try omega
            try simp only [Act.put, List.setIfInBounds_toArray, List.set_cons_zero, List.set_cons_succ, List.getElem_toArray, List.getElem_cons_succ, List.getElem_cons_zero]
            refine wpAnyH_take (i := 3) (oi := _) (v := Value.slice (some ⟨g, 0, none⟩) a cap) rfl (by kernel_rfl) (by kernel_rfl) (by kernel_rfl) (fun _ _ _ h => h) (Or.inl ⟨by rfl, fun w' hSw => ?_⟩) hHeld ?_
            · clear hSw
              go_simp
              try simp [*]
              try (intro hh; exfalso; omega)
              try omega
            try simp only [Act.put, List.setIfInBounds_toArray, List.set_cons_zero, List.set_cons_succ, List.getElem_toArray, List.getElem_cons_succ, List.getElem_cons_zero]
            refine wpAnyH_take (i := 5) (oi := _) (v := Value.int .i64 (k : Int)) rfl (by kernel_rfl) (by kernel_rfl) (by kernel_rfl) (fun _ _ _ h => h) (Or.inl ⟨by rfl, fun w' hSw => ?_⟩) hHeld ?_
            · clear hSw
              go_simp
              try simp [*]
              try (intro hh; exfalso; omega)
              try omega
            try simp only [Act.put, List.setIfInBounds_toArray, List.set_cons_zero, List.set_cons_succ, List.getElem_toArray, List.getElem_cons_succ, List.getElem_cons_zero]
            refine wpAnyH_take (i := 8) (oi := _) (v := Value.slice (some ⟨g, 0, none⟩) k cap) rfl (by kernel_rfl) (by kernel_rfl) (by kernel_rfl) (fun _ _ _ h => h) (Or.inl ⟨by rfl, fun w' hSw => ?_⟩) hHeld ?_
            · clear hSw
              go_simp
              try simp [*]
              try (intro hh; exfalso; omega)
              try omega
            try simp only [Act.put, List.setIfInBounds_toArray, List.set_cons_zero, List.set_cons_succ, List.getElem_toArray, List.getElem_cons_succ, List.getElem_cons_zero]
            refine wpAnyH_take (i := 9) (oi := _) (v := Value.int .i64 (a : Int)) rfl (by kernel_rfl) (by kernel_rfl) (by kernel_rfl) (fun _ _ _ h => h) (Or.inl ⟨by rfl, fun w' hSw => ?_⟩) hHeld ?_
            · clear hSw
              go_simp
              try simp [*]
              try (intro hh; exfalso; omega)
              try omega
            try simp only [Act.put, List.setIfInBounds_toArray, List.set_cons_zero, List.set_cons_succ, List.getElem_toArray, List.getElem_cons_succ, List.getElem_cons_zero]
            refine wpAnyH_take (i := 10) (oi := _) (v := Value.slice (some ⟨g, a, none⟩) (k - a) (cap - a)) rfl (by kernel_rfl) (by kernel_rfl) (by kernel_rfl) (fun _ _ _ h => h) (Or.inl ⟨by rfl, fun w' hSw => ?_⟩) hHeld ?_
            · clear hSw
              go_simp
              try simp [*]
              try (intro hh; exfalso; omega)
              try omega
            try simp only [Act.put, List.setIfInBounds_toArray, List.set_cons_zero, List.set_cons_succ, List.getElem_toArray, List.getElem_cons_succ, List.getElem_cons_zero]
            refine wpAnyH_ready (rs := [0, 6]) (by kernel_rfl) (by simp) ?_
            refine AllReadyH.cons (o := _) rfl (fun K hK => ?_) (AllReadyH.cons (o := _) rfl (fun K hK => ?_) (AllReadyH.nil))
            · go_simp
              have HB1 := Lib.hid (HD0.out.alloc (Below.size HD0.out) (.cells #[] 3))
              have HR1 := Lib.hid (World.ownsRow_made (base := W0.heap.size) (e := 3) (size := 1) D0 #[] 0 (Below.size HD0.out) (by unfold maxLen; omega) rfl)
              clear hHeld
              refine hK.out _ _ trivial (fun hHeld => ?_)
              clear hK K
              try simp only [Act.put, List.setIfInBounds_toArray, List.set_cons_zero, List.set_cons_succ, List.getElem_toArray, List.getElem_cons_succ, List.getElem_cons_zero]
              refine wpAnyH_ready (rs := [4, 6]) (by kernel_rfl) (by simp) ?_
              refine AllReadyH.cons (o := _) rfl (fun K hK => ?_) (AllReadyH.cons (o := _) rfl (fun K hK => ?_) (AllReadyH.nil))
              · refine step_append_any rfl _ _ 28 rfl W0.heap.size 3 i3 (.int .i64 0) 1 8 Tryz.underlying28 hi3 hz30 hz31 hz32 rfl (by decide) (Value.slice (some ⟨D0.heap.size, 0, none⟩) 0 0) (0) ([]) rfl HR1.out (some ⟨g, 0, none⟩) (a) (cap) (flatN (List.take a L)) rfl (by rw [flatN_len, List.length_take, HLL.out]; omega) (fun h => ⟨⟨g, 0, none⟩, rfl, fun j u hj => by
                  obtain ⟨h1, rfl⟩ := flatN_get _ _ _ hj
                  rw [List.length_take] at h1
                  rw [tn_take' (by omega)]
                  have e : ((⟨g, 0, none⟩ : Addr).add j) = ⟨g, j, none⟩ := by rw [add_at, Nat.zero_add]
                  rw [e]
                  exact (HB1.out.cell (p := ⟨g, j, none⟩) HGL.out).trans (HGC.out j (by omega))⟩) (flatN_one _) (by unfold maxLen; omega) (by omega) (Below.size HB1.out) ?_
                intro v4 W4 ho hb hd hg
                have HB4 := Lib.hid (HB1.out.trans hb)
                have HR4 := Lib.hid ho
                have HD4 := Lib.hid hd
                clear ho hb hd hg
                clear hHeld
                refine hK.out _ _ trivial (fun hHeld => ?_)
                clear hK K
                try simp only [Act.put, List.setIfInBounds_toArray, List.set_cons_zero, List.set_cons_succ, List.getElem_toArray, List.getElem_cons_succ, List.getElem_cons_zero]
                refine wpAnyH_ready (rs := [6]) (by kernel_rfl) (by simp) ?_
                refine AllReadyH.cons (o := _) rfl (fun K hK => ?_) AllReadyH.nil
                go_simp
                have HB5 := Lib.hid (HB4.out.alloc (Below.size HB4.out) (.cells #[.int .i64 (k : Int)] 3))
                have HR5 := Lib.hid (HR4.out.alloc (.cells #[.int .i64 (k : Int)] 3))
                have HK5 := Lib.hid (World.alloc_heap_new W4 (.cells #[.int .i64 (k : Int)] 3))
                clear hHeld
                refine hK.out _ _ trivial (fun hHeld => ?_)
                clear hK K
                try simp only [Act.put, List.setIfInBounds_toArray, List.set_cons_zero, List.set_cons_succ, List.getElem_toArray, List.getElem_cons_succ, List.getElem_cons_zero]
                refine wpAnyH_ready (rs := [7]) (by kernel_rfl) (by simp) ?_
                refine AllReadyH.cons (o := _) rfl (fun K hK => ?_) AllReadyH.nil
                refine step_append_any rfl _ _ 28 rfl W0.heap.size 3 i3 (.int .i64 0) 1 8 Tryz.underlying28 hi3 hz30 hz31 hz32 rfl (by decide) (v4) (0 + a) ([] ++ flatN (List.take a L)) rfl HR5.out (some ⟨W4.heap.size, 0, none⟩) (1) (1) ([.int .i64 (k : Int)]) rfl (rfl) (fun _ => ⟨_, rfl, one_news HK5.out⟩) (by simp [Value.oneCell']) (by unfold maxLen; omega) (by omega) (Below.size HB5.out) ?_
                intro v7 W7 ho hb hd hg
                have HB7 := Lib.hid (HB5.out.trans hb)
                have HR7 := Lib.hid ho
                clear ho hb hd hg
                clear hHeld
                refine hK.out _ _ trivial (fun hHeld => ?_)
                clear hK K
                try simp only [Act.put, List.setIfInBounds_toArray, List.set_cons_zero, List.set_cons_succ, List.getElem_toArray, List.getElem_cons_succ, List.getElem_cons_zero]
                refine wpAnyH_ready (rs := [11]) (by kernel_rfl) (by simp) ?_
                refine AllReadyH.cons (o := _) rfl (fun K hK => ?_) AllReadyH.nil
                refine step_append_any rfl _ _ 28 rfl W0.heap.size 3 i3 (.int .i64 0) 1 8 Tryz.underlying28 hi3 hz30 hz31 hz32 rfl (by decide) (v7) (0 + a + 1) ([] ++ flatN (List.take a L) ++ [.int .i64 (k : Int)]) rfl HR7.out (some ⟨g, a, none⟩) (k - a) (cap - a) (flatN (List.drop a L)) rfl (by rw [flatN_len, List.length_drop, HLL.out]; omega) (fun h => ⟨⟨g, a, none⟩, rfl, fun j u hj => by
                  obtain ⟨h1, rfl⟩ := flatN_get _ _ _ hj
                  rw [List.length_drop, HLL.out] at h1
                  rw [tn_drop']
                  have e : ((⟨g, a, none⟩ : Addr).add j) = ⟨g, a + j, none⟩ := by rw [add_at]
                  rw [e]
                  exact (HB7.out.cell (p := ⟨g, a + j, none⟩) HGL.out).trans (HGC.out (a + j) (by omega))⟩) (flatN_one _) (by unfold maxLen; omega) (by omega) (Below.size HB7.out) ?_
                intro v11 W11 ho hb hd hg
                have HB11 := Lib.hid (HB7.out.trans hb)
                have HR11 := Lib.hid ho
                clear ho hb hd hg
                clear hHeld
                refine hK.out _ _ trivial (fun hHeld => ?_)
                clear hK K
                try simp only [Act.put, List.setIfInBounds_toArray, List.set_cons_zero, List.set_cons_succ, List.getElem_toArray, List.getElem_cons_succ, List.getElem_cons_zero]
                refine wpAnyH_take (i := 12) (oi := _) (v := v11) rfl (by kernel_rfl) (by kernel_rfl) (by kernel_rfl) (fun _ _ _ h => h) (Or.inl ⟨by rfl, fun w' hSw => ?_⟩) hHeld ?_
                · clear hSw
                  go_simp
                  try simp [*]
                  try (intro hh; exfalso; omega)
                  try omega
                try simp only [Act.put, List.setIfInBounds_toArray, List.set_cons_zero, List.set_cons_succ, List.getElem_toArray, List.getElem_cons_succ, List.getElem_cons_zero]
                refine wpAnyH_done (by kernel_rfl) ?_ _
                clear hHeld
                have HOW := Lib.hid (show W11.ownsRow w.heap.size 3 1 v11 (k + 1) (flatN (ordO rk (k + 1))) from by
                  have q := HR11.out
                  rw [show 0 + a + 1 + (k - a) = k + 1 by omega, show [] ++ flatN (List.take a L) ++ [Value.int .i64 (k : Int)] ++ flatN (List.drop a L) = flatN (ordO rk (k + 1)) from (HIN.out a (by omega) HALLX.out HNOTX.out).symm] at q
                  exact own_base q HBZ.out)
                go_wp2_with fail
                go_roundw
                case rel => exact ⟨k + 1, by omega, by go_num, HOW.out, fun h => by omega, HB.out.trans (HB11.out.mono HBZ.out)⟩
                case measure => simp [intOf]; omega
              · go_simp
                have HB5 := Lib.hid (HB1.out.alloc (Below.size HB1.out) (.cells #[.int .i64 (k : Int)] 3))
                have HR5 := Lib.hid (HR1.out.alloc (.cells #[.int .i64 (k : Int)] 3))
                have HK5 := Lib.hid (show ((D0.alloc (.cells #[] 3)).alloc (.cells #[.int .i64 (k : Int)] 3)).heap[D0.heap.size + 1]? = some (.cells #[.int .i64 (k : Int)] 3 (0, 0)) from by have q := World.alloc_heap_new (D0.alloc (.cells #[] 3)) (.cells #[.int .i64 (k : Int)] 3); rw [World.size_alloc] at q; exact q)
                clear hHeld
                refine hK.out _ _ trivial (fun hHeld => ?_)
                clear hK K
                try simp only [Act.put, List.setIfInBounds_toArray, List.set_cons_zero, List.set_cons_succ, List.getElem_toArray, List.getElem_cons_succ, List.getElem_cons_zero]
                refine wpAnyH_ready (rs := [4]) (by kernel_rfl) (by simp) ?_
                refine AllReadyH.cons (o := _) rfl (fun K hK => ?_) AllReadyH.nil
                refine step_append_any rfl _ _ 28 rfl W0.heap.size 3 i3 (.int .i64 0) 1 8 Tryz.underlying28 hi3 hz30 hz31 hz32 rfl (by decide) (Value.slice (some ⟨D0.heap.size, 0, none⟩) 0 0) (0) ([]) rfl HR5.out (some ⟨g, 0, none⟩) (a) (cap) (flatN (List.take a L)) rfl (by rw [flatN_len, List.length_take, HLL.out]; omega) (fun h => ⟨⟨g, 0, none⟩, rfl, fun j u hj => by
                  obtain ⟨h1, rfl⟩ := flatN_get _ _ _ hj
                  rw [List.length_take] at h1
                  rw [tn_take' (by omega)]
                  have e : ((⟨g, 0, none⟩ : Addr).add j) = ⟨g, j, none⟩ := by rw [add_at, Nat.zero_add]
                  rw [e]
                  exact (HB5.out.cell (p := ⟨g, j, none⟩) HGL.out).trans (HGC.out j (by omega))⟩) (flatN_one _) (by unfold maxLen; omega) (by omega) (Below.size HB5.out) ?_
                intro v4 W4 ho hb hd hg
                have HB4 := Lib.hid (HB5.out.trans hb)
                have HR4 := Lib.hid ho
                have HD4 := Lib.hid hd
                have HK4 := Lib.hid (one_kept HK5.out hg (by simp [Value.ownBlock]))
                clear ho hb hd hg
                clear hHeld
                refine hK.out _ _ trivial (fun hHeld => ?_)
                clear hK K
                try simp only [Act.put, List.setIfInBounds_toArray, List.set_cons_zero, List.set_cons_succ, List.getElem_toArray, List.getElem_cons_succ, List.getElem_cons_zero]
                refine wpAnyH_ready (rs := [7]) (by kernel_rfl) (by simp) ?_
                refine AllReadyH.cons (o := _) rfl (fun K hK => ?_) AllReadyH.nil
                refine step_append_any rfl _ _ 28 rfl W0.heap.size 3 i3 (.int .i64 0) 1 8 Tryz.underlying28 hi3 hz30 hz31 hz32 rfl (by decide) (v4) (0 + a) ([] ++ flatN (List.take a L)) rfl HR4.out (some ⟨D0.heap.size + 1, 0, none⟩) (1) (1) ([.int .i64 (k : Int)]) rfl (rfl) (fun _ => ⟨_, rfl, one_news HK4.out⟩) (by simp [Value.oneCell']) (by unfold maxLen; omega) (by omega) (Below.size HB4.out) ?_
                intro v7 W7 ho hb hd hg
                have HB7 := Lib.hid (HB4.out.trans hb)
                have HR7 := Lib.hid ho
                clear ho hb hd hg
                clear hHeld
                refine hK.out _ _ trivial (fun hHeld => ?_)
                clear hK K
                try simp only [Act.put, List.setIfInBounds_toArray, List.set_cons_zero, List.set_cons_succ, List.getElem_toArray, List.getElem_cons_succ, List.getElem_cons_zero]
                refine wpAnyH_ready (rs := [11]) (by kernel_rfl) (by simp) ?_
                refine AllReadyH.cons (o := _) rfl (fun K hK => ?_) AllReadyH.nil
                refine step_append_any rfl _ _ 28 rfl W0.heap.size 3 i3 (.int .i64 0) 1 8 Tryz.underlying28 hi3 hz30 hz31 hz32 rfl (by decide) (v7) (0 + a + 1) ([] ++ flatN (List.take a L) ++ [.int .i64 (k : Int)]) rfl HR7.out (some ⟨g, a, none⟩) (k - a) (cap - a) (flatN (List.drop a L)) rfl (by rw [flatN_len, List.length_drop, HLL.out]; omega) (fun h => ⟨⟨g, a, none⟩, rfl, fun j u hj => by
                  obtain ⟨h1, rfl⟩ := flatN_get _ _ _ hj
                  rw [List.length_drop, HLL.out] at h1
                  rw [tn_drop']
                  have e : ((⟨g, a, none⟩ : Addr).add j) = ⟨g, a + j, none⟩ := by rw [add_at]
                  rw [e]
                  exact (HB7.out.cell (p := ⟨g, a + j, none⟩) HGL.out).trans (HGC.out (a + j) (by omega))⟩) (flatN_one _) (by unfold maxLen; omega) (by omega) (Below.size HB7.out) ?_
                intro v11 W11 ho hb hd hg
                have HB11 := Lib.hid (HB7.out.trans hb)
                have HR11 := Lib.hid ho
                clear ho hb hd hg
                clear hHeld
                refine hK.out _ _ trivial (fun hHeld => ?_)
                clear hK K
                try simp only [Act.put, List.setIfInBounds_toArray, List.set_cons_zero, List.set_cons_succ, List.getElem_toArray, List.getElem_cons_succ, List.getElem_cons_zero]
                refine wpAnyH_take (i := 12) (oi := _) (v := v11) rfl (by kernel_rfl) (by kernel_rfl) (by kernel_rfl) (fun _ _ _ h => h) (Or.inl ⟨by rfl, fun w' hSw => ?_⟩) hHeld ?_
                · clear hSw
                  go_simp
                  try simp [*]
                  try (intro hh; exfalso; omega)
                  try omega
                try simp only [Act.put, List.setIfInBounds_toArray, List.set_cons_zero, List.set_cons_succ, List.getElem_toArray, List.getElem_cons_succ, List.getElem_cons_zero]
                refine wpAnyH_done (by kernel_rfl) ?_ _
                clear hHeld
                have HOW := Lib.hid (show W11.ownsRow w.heap.size 3 1 v11 (k + 1) (flatN (ordO rk (k + 1))) from by
                  have q := HR11.out
                  rw [show 0 + a + 1 + (k - a) = k + 1 by omega, show [] ++ flatN (List.take a L) ++ [Value.int .i64 (k : Int)] ++ flatN (List.drop a L) = flatN (ordO rk (k + 1)) from (HIN.out a (by omega) HALLX.out HNOTX.out).symm] at q
                  exact own_base q HBZ.out)
                go_wp2_with fail
                go_roundw
                case rel => exact ⟨k + 1, by omega, by go_num, HOW.out, fun h => by omega, HB.out.trans (HB11.out.mono HBZ.out)⟩
                case measure => simp [intOf]; omega
            · go_simp
              have HB1 := Lib.hid (HD0.out.alloc (Below.size HD0.out) (.cells #[.int .i64 (k : Int)] 3))
              clear hHeld
              refine hK.out _ _ trivial (fun hHeld => ?_)
              clear hK K
              try simp only [Act.put, List.setIfInBounds_toArray, List.set_cons_zero, List.set_cons_succ, List.getElem_toArray, List.getElem_cons_succ, List.getElem_cons_zero]
              refine wpAnyH_ready (rs := [0]) (by kernel_rfl) (by simp) ?_
              refine AllReadyH.cons (o := _) rfl (fun K hK => ?_) AllReadyH.nil
              go_simp
              have HB5 := Lib.hid (HB1.out.alloc (Below.size HB1.out) (.cells #[] 3))
              have HR5 := Lib.hid (show ((D0.alloc (.cells #[.int .i64 (k : Int)] 3)).alloc (.cells #[] 3)).ownsRow W0.heap.size 3 1 (Value.slice (some ⟨D0.heap.size + 1, 0, none⟩) 0 0) 0 [] by have q := World.ownsRow_made (base := W0.heap.size) (e := 3) (size := 1) (D0.alloc (.cells #[.int .i64 (k : Int)] 3)) #[] 0 (Below.size HB1.out) (by unfold maxLen; omega) rfl; rw [World.size_alloc] at q; exact q)
              have HK5 := Lib.hid (show ((D0.alloc (.cells #[.int .i64 (k : Int)] 3)).alloc (.cells #[] 3)).heap[D0.heap.size]? = some (.cells #[.int .i64 (k : Int)] 3 (0, 0)) from (Below.heap_alloc _ _ _ (by simp)).trans (World.alloc_heap_new D0 _))
              clear hHeld
              refine hK.out _ _ trivial (fun hHeld => ?_)
              clear hK K
              try simp only [Act.put, List.setIfInBounds_toArray, List.set_cons_zero, List.set_cons_succ, List.getElem_toArray, List.getElem_cons_succ, List.getElem_cons_zero]
              refine wpAnyH_ready (rs := [4]) (by kernel_rfl) (by simp) ?_
              refine AllReadyH.cons (o := _) rfl (fun K hK => ?_) AllReadyH.nil
              refine step_append_any rfl _ _ 28 rfl W0.heap.size 3 i3 (.int .i64 0) 1 8 Tryz.underlying28 hi3 hz30 hz31 hz32 rfl (by decide) (Value.slice (some ⟨D0.heap.size + 1, 0, none⟩) 0 0) (0) ([]) rfl HR5.out (some ⟨g, 0, none⟩) (a) (cap) (flatN (List.take a L)) rfl (by rw [flatN_len, List.length_take, HLL.out]; omega) (fun h => ⟨⟨g, 0, none⟩, rfl, fun j u hj => by
                  obtain ⟨h1, rfl⟩ := flatN_get _ _ _ hj
                  rw [List.length_take] at h1
                  rw [tn_take' (by omega)]
                  have e : ((⟨g, 0, none⟩ : Addr).add j) = ⟨g, j, none⟩ := by rw [add_at, Nat.zero_add]
                  rw [e]
                  exact (HB5.out.cell (p := ⟨g, j, none⟩) HGL.out).trans (HGC.out j (by omega))⟩) (flatN_one _) (by unfold maxLen; omega) (by omega) (Below.size HB5.out) ?_
              intro v4 W4 ho hb hd hg
              have HB4 := Lib.hid (HB5.out.trans hb)
              have HR4 := Lib.hid ho
              have HD4 := Lib.hid hd
              have HK4 := Lib.hid (one_kept HK5.out hg (by simp [Value.ownBlock]))
              clear ho hb hd hg
              clear hHeld
              refine hK.out _ _ trivial (fun hHeld => ?_)
              clear hK K
              try simp only [Act.put, List.setIfInBounds_toArray, List.set_cons_zero, List.set_cons_succ, List.getElem_toArray, List.getElem_cons_succ, List.getElem_cons_zero]
              refine wpAnyH_ready (rs := [7]) (by kernel_rfl) (by simp) ?_
              refine AllReadyH.cons (o := _) rfl (fun K hK => ?_) AllReadyH.nil
              refine step_append_any rfl _ _ 28 rfl W0.heap.size 3 i3 (.int .i64 0) 1 8 Tryz.underlying28 hi3 hz30 hz31 hz32 rfl (by decide) (v4) (0 + a) ([] ++ flatN (List.take a L)) rfl HR4.out (some ⟨D0.heap.size, 0, none⟩) (1) (1) ([.int .i64 (k : Int)]) rfl (rfl) (fun _ => ⟨_, rfl, one_news HK4.out⟩) (by simp [Value.oneCell']) (by unfold maxLen; omega) (by omega) (Below.size HB4.out) ?_
              intro v7 W7 ho hb hd hg
              have HB7 := Lib.hid (HB4.out.trans hb)
              have HR7 := Lib.hid ho
              clear ho hb hd hg
              clear hHeld
              refine hK.out _ _ trivial (fun hHeld => ?_)
              clear hK K
              try simp only [Act.put, List.setIfInBounds_toArray, List.set_cons_zero, List.set_cons_succ, List.getElem_toArray, List.getElem_cons_succ, List.getElem_cons_zero]
              refine wpAnyH_ready (rs := [11]) (by kernel_rfl) (by simp) ?_
              refine AllReadyH.cons (o := _) rfl (fun K hK => ?_) AllReadyH.nil
              refine step_append_any rfl _ _ 28 rfl W0.heap.size 3 i3 (.int .i64 0) 1 8 Tryz.underlying28 hi3 hz30 hz31 hz32 rfl (by decide) (v7) (0 + a + 1) ([] ++ flatN (List.take a L) ++ [.int .i64 (k : Int)]) rfl HR7.out (some ⟨g, a, none⟩) (k - a) (cap - a) (flatN (List.drop a L)) rfl (by rw [flatN_len, List.length_drop, HLL.out]; omega) (fun h => ⟨⟨g, a, none⟩, rfl, fun j u hj => by
                  obtain ⟨h1, rfl⟩ := flatN_get _ _ _ hj
                  rw [List.length_drop, HLL.out] at h1
                  rw [tn_drop']
                  have e : ((⟨g, a, none⟩ : Addr).add j) = ⟨g, a + j, none⟩ := by rw [add_at]
                  rw [e]
                  exact (HB7.out.cell (p := ⟨g, a + j, none⟩) HGL.out).trans (HGC.out (a + j) (by omega))⟩) (flatN_one _) (by unfold maxLen; omega) (by omega) (Below.size HB7.out) ?_
              intro v11 W11 ho hb hd hg
              have HB11 := Lib.hid (HB7.out.trans hb)
              have HR11 := Lib.hid ho
              clear ho hb hd hg
              clear hHeld
              refine hK.out _ _ trivial (fun hHeld => ?_)
              clear hK K
              try simp only [Act.put, List.setIfInBounds_toArray, List.set_cons_zero, List.set_cons_succ, List.getElem_toArray, List.getElem_cons_succ, List.getElem_cons_zero]
              refine wpAnyH_take (i := 12) (oi := _) (v := v11) rfl (by kernel_rfl) (by kernel_rfl) (by kernel_rfl) (fun _ _ _ h => h) (Or.inl ⟨by rfl, fun w' hSw => ?_⟩) hHeld ?_
              · clear hSw
                go_simp
                try simp [*]
                try (intro hh; exfalso; omega)
                try omega
              try simp only [Act.put, List.setIfInBounds_toArray, List.set_cons_zero, List.set_cons_succ, List.getElem_toArray, List.getElem_cons_succ, List.getElem_cons_zero]
              refine wpAnyH_done (by kernel_rfl) ?_ _
              clear hHeld
              have HOW := Lib.hid (show W11.ownsRow w.heap.size 3 1 v11 (k + 1) (flatN (ordO rk (k + 1))) from by
                have q := HR11.out
                rw [show 0 + a + 1 + (k - a) = k + 1 by omega, show [] ++ flatN (List.take a L) ++ [Value.int .i64 (k : Int)] ++ flatN (List.drop a L) = flatN (ordO rk (k + 1)) from (HIN.out a (by omega) HALLX.out HNOTX.out).symm] at q
                exact own_base q HBZ.out)
              go_wp2_with fail
              go_roundw
              case rel => exact ⟨k + 1, by omega, by go_num, HOW.out, fun h => by omega, HB.out.trans (HB11.out.mono HBZ.out)⟩
              case measure => simp [intOf]; omega
          · obtain ⟨aa, haa⟩ : ∃ aa : Nat, aa = a - 1 := ⟨_, rfl⟩
            have hw1 : IntKind.i64.wrap ((a : Int) - 1) = (aa : Int) := by rw [wrap64_id (by omega)]; omega
            have hapi : (0 : Int) < (a : Int) := by omega
            have hx := HEL.out aa (by omega)
            have u0 := (HBQ.out.cell (p := ⟨g, aa, none⟩) hgl).trans (HGC.out aa (by omega))
            generalize hxx : tn L aa = x at *
            have u1 := HC.out _ (HB.out.trans (HBQ.out.mono HB.out.size)) x hx
            have u2 := HC.out _ (HB.out.trans (HBQ.out.mono HB.out.size)) k hlt
            have HXX := Lib.hid hxx
            have HAA := Lib.hid haa
            clear hxx haa
            have hxi : (x : Int) < (n : Int) := by omega
            have haai : (aa : Int) < (k : Int) := by have := HAA.out; omega
            by_cases hcmp : rk x < rk k
            · go_upto_region 6 with fail
              refine wp_region_held_drew (S := fun w' => w'.cell? ⟨g, aa, none⟩ = some (Value.int .i64 (x : Int)) ∧ w'.cell? ⟨kb, ko + x, none⟩ = some (Value.int .i64 (rk x)) ∧ w'.cell? ⟨kb, ko + k, none⟩ = some (Value.int .i64 (rk k))) (by kernel_rfl) ⟨by simpa [go_sem] using u0, by simpa [go_sem] using u1, by simpa [go_sem] using u2⟩ (fun hHeld => ?_)
              refine wpAnyH_take (i := 0) (oi := _) (v := Value.int .i64 (a : Int)) rfl (by kernel_rfl) (by kernel_rfl) (by kernel_rfl) (fun _ _ _ h => h) (Or.inl ⟨by rfl, fun w' hSw => ?_⟩) hHeld ?_
              · obtain ⟨t0, t1, t2⟩ := hSw
                go_simp
                try simp [*]
                try (intro hh; exfalso; omega)
                try omega
              try simp only [Act.put, List.setIfInBounds_toArray, List.set_cons_zero, List.set_cons_succ, List.getElem_toArray, List.getElem_cons_succ, List.getElem_cons_zero]
              refine wpAnyH_take (i := 1) (oi := _) (v := Value.bool true) rfl (by kernel_rfl) (by kernel_rfl) (by kernel_rfl) (fun _ _ _ h => h) (Or.inl ⟨by rfl, fun w' hSw => ?_⟩) hHeld ?_
              · obtain ⟨t0, t1, t2⟩ := hSw
                go_simp
                try simp [*]
                try (intro hh; exfalso; omega)
                try omega
              try simp only [Act.put, List.setIfInBounds_toArray, List.set_cons_zero, List.set_cons_succ, List.getElem_toArray, List.getElem_cons_succ, List.getElem_cons_zero]
              refine wpAnyH_take (i := 2) (oi := _) (v := Value.bool true) rfl (by kernel_rfl) (by kernel_rfl) (by kernel_rfl) (fun _ _ _ h => h) (Or.inl ⟨by rfl, fun w' hSw => ?_⟩) hHeld ?_
              · obtain ⟨t0, t1, t2⟩ := hSw
                go_simp
                try simp [*]
                try (intro hh; exfalso; omega)
                try omega
              try simp only [Act.put, List.setIfInBounds_toArray, List.set_cons_zero, List.set_cons_succ, List.getElem_toArray, List.getElem_cons_succ, List.getElem_cons_zero]
              refine wpAnyH_take (i := 3) (oi := _) (v := Value.slice (some ⟨kb, ko, none⟩) n kc) rfl (by kernel_rfl) (by kernel_rfl) (by kernel_rfl) (fun _ _ _ h => h) (Or.inl ⟨by rfl, fun w' hSw => ?_⟩) hHeld ?_
              · obtain ⟨t0, t1, t2⟩ := hSw
                go_simp
                try simp [*]
                try (intro hh; exfalso; omega)
                try omega
              try simp only [Act.put, List.setIfInBounds_toArray, List.set_cons_zero, List.set_cons_succ, List.getElem_toArray, List.getElem_cons_succ, List.getElem_cons_zero]
              refine wpAnyH_take (i := 4) (oi := _) (v := Value.slice (some ⟨g, 0, none⟩) k cap) rfl (by kernel_rfl) (by kernel_rfl) (by kernel_rfl) (fun _ _ _ h => h) (Or.inl ⟨by rfl, fun w' hSw => ?_⟩) hHeld ?_
              · obtain ⟨t0, t1, t2⟩ := hSw
                go_simp
                try simp [*]
                try (intro hh; exfalso; omega)
                try omega
              try simp only [Act.put, List.setIfInBounds_toArray, List.set_cons_zero, List.set_cons_succ, List.getElem_toArray, List.getElem_cons_succ, List.getElem_cons_zero]
              refine wpAnyH_take (i := 5) (oi := _) (v := Value.int .i64 (a : Int)) rfl (by kernel_rfl) (by kernel_rfl) (by kernel_rfl) (fun _ _ _ h => h) (Or.inl ⟨by rfl, fun w' hSw => ?_⟩) hHeld ?_
              · obtain ⟨t0, t1, t2⟩ := hSw
                go_simp
                try simp [*]
                try (intro hh; exfalso; omega)
                try omega
              try simp only [Act.put, List.setIfInBounds_toArray, List.set_cons_zero, List.set_cons_succ, List.getElem_toArray, List.getElem_cons_succ, List.getElem_cons_zero]
              refine wpAnyH_take (i := 6) (oi := _) (v := Value.int .i64 (aa : Int)) rfl (by kernel_rfl) (by kernel_rfl) (by kernel_rfl) (fun _ _ _ h => h) (Or.inl ⟨by rfl, fun w' hSw => ?_⟩) hHeld ?_
              · obtain ⟨t0, t1, t2⟩ := hSw
                go_simp
                try simp [*]
                try (intro hh; exfalso; omega)
                try omega
              try simp only [Act.put, List.setIfInBounds_toArray, List.set_cons_zero, List.set_cons_succ, List.getElem_toArray, List.getElem_cons_succ, List.getElem_cons_zero]
              refine wpAnyH_take (i := 7) (oi := _) (v := Value.pointer (some ⟨g, aa, none⟩)) rfl (by kernel_rfl) (by kernel_rfl) (by kernel_rfl) (fun _ _ _ h => h) (Or.inl ⟨by rfl, fun w' hSw => ?_⟩) hHeld ?_
              · obtain ⟨t0, t1, t2⟩ := hSw
                go_simp
                try simp [*]
                try (intro hh; exfalso; omega)
                try omega
              try simp only [Act.put, List.setIfInBounds_toArray, List.set_cons_zero, List.set_cons_succ, List.getElem_toArray, List.getElem_cons_succ, List.getElem_cons_zero]
              refine wpAnyH_take (i := 8) (oi := _) (v := Value.int .i64 (x : Int)) rfl (by kernel_rfl) (by kernel_rfl) (by kernel_rfl) (fun _ _ _ h => h) (Or.inl ⟨by rfl, fun w' hSw => ?_⟩) hHeld ?_
              · obtain ⟨t0, t1, t2⟩ := hSw
                go_simp
                try simp [*]
                try (intro hh; exfalso; omega)
                try omega
              try simp only [Act.put, List.setIfInBounds_toArray, List.set_cons_zero, List.set_cons_succ, List.getElem_toArray, List.getElem_cons_succ, List.getElem_cons_zero]
              refine wpAnyH_take (i := 9) (oi := _) (v := Value.pointer (some ⟨kb, ko + x, none⟩)) rfl (by kernel_rfl) (by kernel_rfl) (by kernel_rfl) (fun _ _ _ h => h) (Or.inl ⟨by rfl, fun w' hSw => ?_⟩) hHeld ?_
              · obtain ⟨t0, t1, t2⟩ := hSw
                go_simp
                try simp [*]
                try (intro hh; exfalso; omega)
                try omega
              try simp only [Act.put, List.setIfInBounds_toArray, List.set_cons_zero, List.set_cons_succ, List.getElem_toArray, List.getElem_cons_succ, List.getElem_cons_zero]
              refine wpAnyH_take (i := 10) (oi := _) (v := Value.int .i64 (rk x)) rfl (by kernel_rfl) (by kernel_rfl) (by kernel_rfl) (fun _ _ _ h => h) (Or.inl ⟨by rfl, fun w' hSw => ?_⟩) hHeld ?_
              · obtain ⟨t0, t1, t2⟩ := hSw
                go_simp
                try simp [*]
                try (intro hh; exfalso; omega)
                try omega
              try simp only [Act.put, List.setIfInBounds_toArray, List.set_cons_zero, List.set_cons_succ, List.getElem_toArray, List.getElem_cons_succ, List.getElem_cons_zero]
              refine wpAnyH_take (i := 11) (oi := _) (v := Value.slice (some ⟨kb, ko, none⟩) n kc) rfl (by kernel_rfl) (by kernel_rfl) (by kernel_rfl) (fun _ _ _ h => h) (Or.inl ⟨by rfl, fun w' hSw => ?_⟩) hHeld ?_
              · obtain ⟨t0, t1, t2⟩ := hSw
                go_simp
                try simp [*]
                try (intro hh; exfalso; omega)
                try omega
              try simp only [Act.put, List.setIfInBounds_toArray, List.set_cons_zero, List.set_cons_succ, List.getElem_toArray, List.getElem_cons_succ, List.getElem_cons_zero]
              refine wpAnyH_take (i := 12) (oi := _) (v := Value.int .i64 (k : Int)) rfl (by kernel_rfl) (by kernel_rfl) (by kernel_rfl) (fun _ _ _ h => h) (Or.inl ⟨by rfl, fun w' hSw => ?_⟩) hHeld ?_
              · obtain ⟨t0, t1, t2⟩ := hSw
                go_simp
                try simp [*]
                try (intro hh; exfalso; omega)
                try omega
              try simp only [Act.put, List.setIfInBounds_toArray, List.set_cons_zero, List.set_cons_succ, List.getElem_toArray, List.getElem_cons_succ, List.getElem_cons_zero]
              refine wpAnyH_take (i := 13) (oi := _) (v := Value.pointer (some ⟨kb, ko + k, none⟩)) rfl (by kernel_rfl) (by kernel_rfl) (by kernel_rfl) (fun _ _ _ h => h) (Or.inl ⟨by rfl, fun w' hSw => ?_⟩) hHeld ?_
              · obtain ⟨t0, t1, t2⟩ := hSw
                go_simp
                try simp [*]
                try (intro hh; exfalso; omega)
                try omega
              try simp only [Act.put, List.setIfInBounds_toArray, List.set_cons_zero, List.set_cons_succ, List.getElem_toArray, List.getElem_cons_succ, List.getElem_cons_zero]
              refine wpAnyH_take (i := 14) (oi := _) (v := Value.int .i64 (rk k)) rfl (by kernel_rfl) (by kernel_rfl) (by kernel_rfl) (fun _ _ _ h => h) (Or.inl ⟨by rfl, fun w' hSw => ?_⟩) hHeld ?_
              · obtain ⟨t0, t1, t2⟩ := hSw
                go_simp
                try simp [*]
                try (intro hh; exfalso; omega)
                try omega
              try simp only [Act.put, List.setIfInBounds_toArray, List.set_cons_zero, List.set_cons_succ, List.getElem_toArray, List.getElem_cons_succ, List.getElem_cons_zero]
              refine wpAnyH_take (i := 15) (oi := _) (v := Value.bool true) rfl (by kernel_rfl) (by kernel_rfl) (by kernel_rfl) (fun _ _ _ h => h) (Or.inl ⟨by rfl, fun w' hSw => ?_⟩) hHeld ?_
              · obtain ⟨t0, t1, t2⟩ := hSw
                go_simp
                try simp [*]
                try (intro hh; exfalso; omega)
                try omega
              try simp only [Act.put, List.setIfInBounds_toArray, List.set_cons_zero, List.set_cons_succ, List.getElem_toArray, List.getElem_cons_succ, List.getElem_cons_zero]
              refine wpAnyH_take (i := 16) (oi := _) (v := Value.bool true) rfl (by kernel_rfl) (by kernel_rfl) (by kernel_rfl) (fun _ _ _ h => h) (Or.inl ⟨by rfl, fun w' hSw => ?_⟩) hHeld ?_
              · obtain ⟨t0, t1, t2⟩ := hSw
                go_simp
                try simp [*]
                try (intro hh; exfalso; omega)
                try omega
              try simp only [Act.put, List.setIfInBounds_toArray, List.set_cons_zero, List.set_cons_succ, List.getElem_toArray, List.getElem_cons_succ, List.getElem_cons_zero]
              refine wpAnyH_done (by kernel_rfl) ?_ _
              clear hHeld
              go_wp2_with fail
              go_roundw
              case rel =>
                have h1 := HAA.out
                refine ⟨aa, by omega, rfl, fun i hi1 hi2 => ?_, HBQ.out.drew⟩
                by_cases hia : i = aa
                · rw [hia, HXX.out]; exact hcmp
                · exact HALL.out i (by omega) hi2
              case measure => simp [intOf]; have := HAA.out; omega
            · have HALLX := HALL
              have HNOTX := Lib.hid (show 0 < a → rk k ≤ rk (tn L (a - 1)) from fun h => by
                rw [← HAA.out, HXX.out]; omega)
              have HGL := Lib.hid hgl
              go_upto_region 6 with fail
              refine wp_region_held_drew (S := fun w' => w'.cell? ⟨g, aa, none⟩ = some (Value.int .i64 (x : Int)) ∧ w'.cell? ⟨kb, ko + x, none⟩ = some (Value.int .i64 (rk x)) ∧ w'.cell? ⟨kb, ko + k, none⟩ = some (Value.int .i64 (rk k))) (by kernel_rfl) ⟨by simpa [go_sem] using u0, by simpa [go_sem] using u1, by simpa [go_sem] using u2⟩ (fun hHeld => ?_)
              refine wpAnyH_take (i := 0) (oi := _) (v := Value.int .i64 (a : Int)) rfl (by kernel_rfl) (by kernel_rfl) (by kernel_rfl) (fun _ _ _ h => h) (Or.inl ⟨by rfl, fun w' hSw => ?_⟩) hHeld ?_
              · obtain ⟨t0, t1, t2⟩ := hSw
                go_simp
                try simp [*]
                try (intro hh; exfalso; omega)
                try omega
              try simp only [Act.put, List.setIfInBounds_toArray, List.set_cons_zero, List.set_cons_succ, List.getElem_toArray, List.getElem_cons_succ, List.getElem_cons_zero]
              refine wpAnyH_take (i := 1) (oi := _) (v := Value.bool true) rfl (by kernel_rfl) (by kernel_rfl) (by kernel_rfl) (fun _ _ _ h => h) (Or.inl ⟨by rfl, fun w' hSw => ?_⟩) hHeld ?_
              · obtain ⟨t0, t1, t2⟩ := hSw
                go_simp
                try simp [*]
                try (intro hh; exfalso; omega)
                try omega
              try simp only [Act.put, List.setIfInBounds_toArray, List.set_cons_zero, List.set_cons_succ, List.getElem_toArray, List.getElem_cons_succ, List.getElem_cons_zero]
              refine wpAnyH_take (i := 2) (oi := _) (v := Value.bool true) rfl (by kernel_rfl) (by kernel_rfl) (by kernel_rfl) (fun _ _ _ h => h) (Or.inl ⟨by rfl, fun w' hSw => ?_⟩) hHeld ?_
              · obtain ⟨t0, t1, t2⟩ := hSw
                go_simp
                try simp [*]
                try (intro hh; exfalso; omega)
                try omega
              try simp only [Act.put, List.setIfInBounds_toArray, List.set_cons_zero, List.set_cons_succ, List.getElem_toArray, List.getElem_cons_succ, List.getElem_cons_zero]
              refine wpAnyH_take (i := 3) (oi := _) (v := Value.slice (some ⟨kb, ko, none⟩) n kc) rfl (by kernel_rfl) (by kernel_rfl) (by kernel_rfl) (fun _ _ _ h => h) (Or.inl ⟨by rfl, fun w' hSw => ?_⟩) hHeld ?_
              · obtain ⟨t0, t1, t2⟩ := hSw
                go_simp
                try simp [*]
                try (intro hh; exfalso; omega)
                try omega
              try simp only [Act.put, List.setIfInBounds_toArray, List.set_cons_zero, List.set_cons_succ, List.getElem_toArray, List.getElem_cons_succ, List.getElem_cons_zero]
              refine wpAnyH_take (i := 4) (oi := _) (v := Value.slice (some ⟨g, 0, none⟩) k cap) rfl (by kernel_rfl) (by kernel_rfl) (by kernel_rfl) (fun _ _ _ h => h) (Or.inl ⟨by rfl, fun w' hSw => ?_⟩) hHeld ?_
              · obtain ⟨t0, t1, t2⟩ := hSw
                go_simp
                try simp [*]
                try (intro hh; exfalso; omega)
                try omega
              try simp only [Act.put, List.setIfInBounds_toArray, List.set_cons_zero, List.set_cons_succ, List.getElem_toArray, List.getElem_cons_succ, List.getElem_cons_zero]
              refine wpAnyH_take (i := 5) (oi := _) (v := Value.int .i64 (a : Int)) rfl (by kernel_rfl) (by kernel_rfl) (by kernel_rfl) (fun _ _ _ h => h) (Or.inl ⟨by rfl, fun w' hSw => ?_⟩) hHeld ?_
              · obtain ⟨t0, t1, t2⟩ := hSw
                go_simp
                try simp [*]
                try (intro hh; exfalso; omega)
                try omega
              try simp only [Act.put, List.setIfInBounds_toArray, List.set_cons_zero, List.set_cons_succ, List.getElem_toArray, List.getElem_cons_succ, List.getElem_cons_zero]
              refine wpAnyH_take (i := 6) (oi := _) (v := Value.int .i64 (aa : Int)) rfl (by kernel_rfl) (by kernel_rfl) (by kernel_rfl) (fun _ _ _ h => h) (Or.inl ⟨by rfl, fun w' hSw => ?_⟩) hHeld ?_
              · obtain ⟨t0, t1, t2⟩ := hSw
                go_simp
                try simp [*]
                try (intro hh; exfalso; omega)
                try omega
              try simp only [Act.put, List.setIfInBounds_toArray, List.set_cons_zero, List.set_cons_succ, List.getElem_toArray, List.getElem_cons_succ, List.getElem_cons_zero]
              refine wpAnyH_take (i := 7) (oi := _) (v := Value.pointer (some ⟨g, aa, none⟩)) rfl (by kernel_rfl) (by kernel_rfl) (by kernel_rfl) (fun _ _ _ h => h) (Or.inl ⟨by rfl, fun w' hSw => ?_⟩) hHeld ?_
              · obtain ⟨t0, t1, t2⟩ := hSw
                go_simp
                try simp [*]
                try (intro hh; exfalso; omega)
                try omega
              try simp only [Act.put, List.setIfInBounds_toArray, List.set_cons_zero, List.set_cons_succ, List.getElem_toArray, List.getElem_cons_succ, List.getElem_cons_zero]
              refine wpAnyH_take (i := 8) (oi := _) (v := Value.int .i64 (x : Int)) rfl (by kernel_rfl) (by kernel_rfl) (by kernel_rfl) (fun _ _ _ h => h) (Or.inl ⟨by rfl, fun w' hSw => ?_⟩) hHeld ?_
              · obtain ⟨t0, t1, t2⟩ := hSw
                go_simp
                try simp [*]
                try (intro hh; exfalso; omega)
                try omega
              try simp only [Act.put, List.setIfInBounds_toArray, List.set_cons_zero, List.set_cons_succ, List.getElem_toArray, List.getElem_cons_succ, List.getElem_cons_zero]
              refine wpAnyH_take (i := 9) (oi := _) (v := Value.pointer (some ⟨kb, ko + x, none⟩)) rfl (by kernel_rfl) (by kernel_rfl) (by kernel_rfl) (fun _ _ _ h => h) (Or.inl ⟨by rfl, fun w' hSw => ?_⟩) hHeld ?_
              · obtain ⟨t0, t1, t2⟩ := hSw
                go_simp
                try simp [*]
                try (intro hh; exfalso; omega)
                try omega
              try simp only [Act.put, List.setIfInBounds_toArray, List.set_cons_zero, List.set_cons_succ, List.getElem_toArray, List.getElem_cons_succ, List.getElem_cons_zero]
              refine wpAnyH_take (i := 10) (oi := _) (v := Value.int .i64 (rk x)) rfl (by kernel_rfl) (by kernel_rfl) (by kernel_rfl) (fun _ _ _ h => h) (Or.inl ⟨by rfl, fun w' hSw => ?_⟩) hHeld ?_
              · obtain ⟨t0, t1, t2⟩ := hSw
                go_simp
                try simp [*]
                try (intro hh; exfalso; omega)
                try omega
              try simp only [Act.put, List.setIfInBounds_toArray, List.set_cons_zero, List.set_cons_succ, List.getElem_toArray, List.getElem_cons_succ, List.getElem_cons_zero]
              refine wpAnyH_take (i := 11) (oi := _) (v := Value.slice (some ⟨kb, ko, none⟩) n kc) rfl (by kernel_rfl) (by kernel_rfl) (by kernel_rfl) (fun _ _ _ h => h) (Or.inl ⟨by rfl, fun w' hSw => ?_⟩) hHeld ?_
              · obtain ⟨t0, t1, t2⟩ := hSw
                go_simp
                try simp [*]
                try (intro hh; exfalso; omega)
                try omega
              try simp only [Act.put, List.setIfInBounds_toArray, List.set_cons_zero, List.set_cons_succ, List.getElem_toArray, List.getElem_cons_succ, List.getElem_cons_zero]
              refine wpAnyH_take (i := 12) (oi := _) (v := Value.int .i64 (k : Int)) rfl (by kernel_rfl) (by kernel_rfl) (by kernel_rfl) (fun _ _ _ h => h) (Or.inl ⟨by rfl, fun w' hSw => ?_⟩) hHeld ?_
              · obtain ⟨t0, t1, t2⟩ := hSw
                go_simp
                try simp [*]
                try (intro hh; exfalso; omega)
                try omega
              try simp only [Act.put, List.setIfInBounds_toArray, List.set_cons_zero, List.set_cons_succ, List.getElem_toArray, List.getElem_cons_succ, List.getElem_cons_zero]
              refine wpAnyH_take (i := 13) (oi := _) (v := Value.pointer (some ⟨kb, ko + k, none⟩)) rfl (by kernel_rfl) (by kernel_rfl) (by kernel_rfl) (fun _ _ _ h => h) (Or.inl ⟨by rfl, fun w' hSw => ?_⟩) hHeld ?_
              · obtain ⟨t0, t1, t2⟩ := hSw
                go_simp
                try simp [*]
                try (intro hh; exfalso; omega)
                try omega
              try simp only [Act.put, List.setIfInBounds_toArray, List.set_cons_zero, List.set_cons_succ, List.getElem_toArray, List.getElem_cons_succ, List.getElem_cons_zero]
              refine wpAnyH_take (i := 14) (oi := _) (v := Value.int .i64 (rk k)) rfl (by kernel_rfl) (by kernel_rfl) (by kernel_rfl) (fun _ _ _ h => h) (Or.inl ⟨by rfl, fun w' hSw => ?_⟩) hHeld ?_
              · obtain ⟨t0, t1, t2⟩ := hSw
                go_simp
                try simp [*]
                try (intro hh; exfalso; omega)
                try omega
              try simp only [Act.put, List.setIfInBounds_toArray, List.set_cons_zero, List.set_cons_succ, List.getElem_toArray, List.getElem_cons_succ, List.getElem_cons_zero]
              refine wpAnyH_take (i := 15) (oi := _) (v := Value.bool false) rfl (by kernel_rfl) (by kernel_rfl) (by kernel_rfl) (fun _ _ _ h => h) (Or.inl ⟨by rfl, fun w' hSw => ?_⟩) hHeld ?_
              · obtain ⟨t0, t1, t2⟩ := hSw
                go_simp
                try simp [*]
                try (intro hh; exfalso; omega)
                try omega
              try simp only [Act.put, List.setIfInBounds_toArray, List.set_cons_zero, List.set_cons_succ, List.getElem_toArray, List.getElem_cons_succ, List.getElem_cons_zero]
              refine wpAnyH_take (i := 16) (oi := _) (v := Value.bool false) rfl (by kernel_rfl) (by kernel_rfl) (by kernel_rfl) (fun _ _ _ h => h) (Or.inl ⟨by rfl, fun w' hSw => ?_⟩) hHeld ?_
              · obtain ⟨t0, t1, t2⟩ := hSw
                go_simp
                try simp [*]
                try (intro hh; exfalso; omega)
                try omega
              try simp only [Act.put, List.setIfInBounds_toArray, List.set_cons_zero, List.set_cons_succ, List.getElem_toArray, List.getElem_cons_succ, List.getElem_cons_zero]
              refine wpAnyH_done (by kernel_rfl) ?_ _
              clear hHeld
              obtain ⟨U, hU⟩ : ∃ U, U = wr.drew := ⟨_, rfl⟩
              have HU := Lib.hid (show Below W0.heap.size W0 U by rw [hU]; exact HBQ.out.drew)
              have HBZ := Lib.hid (show w.heap.size ≤ W0.heap.size from Below.size HB.out)
              go_upto_region 8 with fail
              rw [← hU]
              clear hU
              clear u0 u1 u2 hw1 hapi hxi haai hx hcmp
              by_cases hacap : a < cap
              · skip
                obtain ⟨D0, hD0⟩ : ∃ D0, D0 = U.drew := ⟨_, rfl⟩
                have HD0 := Lib.hid (show Below W0.heap.size W0 D0 by rw [hD0]; exact HU.out.drew)
                refine wp_region_held_drew (S := fun w' => True) (by kernel_rfl) trivial (fun hHeld => ?_)
                rw [← hD0]
                clear hD0
                refine wpAnyH_take (i := 1) (oi := _) (v := Value.slice (some ⟨g, 0, none⟩) k cap) rfl (by kernel_rfl) (by kernel_rfl) (by kernel_rfl) (fun _ _ _ h => h) (Or.inl ⟨by rfl, fun w' hSw => ?_⟩) hHeld ?_
                · clear hSw
                  go_simp
                  try simp [*]
                  try (intro hh; exfalso; omega)
                  try omega
                try simp only [Act.put, List.setIfInBounds_toArray, List.set_cons_zero, List.set_cons_succ, List.getElem_toArray, List.getElem_cons_succ, List.getElem_cons_zero]
                refine wpAnyH_take (i := 2) (oi := _) (v := Value.int .i64 (a : Int)) rfl (by kernel_rfl) (by kernel_rfl) (by kernel_rfl) (fun _ _ _ h => h) (Or.inl ⟨by rfl, fun w' hSw => ?_⟩) hHeld ?_
                · clear hSw
                  go_simp
                  try simp [*]
                  try (intro hh; exfalso; omega)
                  try omega
                try simp only [Act.put, List.setIfInBounds_toArray, List.set_cons_zero, List.set_cons_succ, List.getElem_toArray, List.getElem_cons_succ, List.getElem_cons_zero]
                refine wpAnyH_take (i := 3) (oi := _) (v := Value.slice (some ⟨g, 0, none⟩) a cap) rfl (by kernel_rfl) (by kernel_rfl) (by kernel_rfl) (fun _ _ _ h => h) (Or.inl ⟨by rfl, fun w' hSw => ?_⟩) hHeld ?_
                · clear hSw
                  go_simp
                  try simp [*]
                  try (intro hh; exfalso; omega)
                  try omega
                try simp only [Act.put, List.setIfInBounds_toArray, List.set_cons_zero, List.set_cons_succ, List.getElem_toArray, List.getElem_cons_succ, List.getElem_cons_zero]
                refine wpAnyH_take (i := 5) (oi := _) (v := Value.int .i64 (k : Int)) rfl (by kernel_rfl) (by kernel_rfl) (by kernel_rfl) (fun _ _ _ h => h) (Or.inl ⟨by rfl, fun w' hSw => ?_⟩) hHeld ?_
                · clear hSw
                  go_simp
                  try simp [*]
                  try (intro hh; exfalso; omega)
                  try omega
                try simp only [Act.put, List.setIfInBounds_toArray, List.set_cons_zero, List.set_cons_succ, List.getElem_toArray, List.getElem_cons_succ, List.getElem_cons_zero]
                refine wpAnyH_take (i := 8) (oi := _) (v := Value.slice (some ⟨g, 0, none⟩) k cap) rfl (by kernel_rfl) (by kernel_rfl) (by kernel_rfl) (fun _ _ _ h => h) (Or.inl ⟨by rfl, fun w' hSw => ?_⟩) hHeld ?_
                · clear hSw
                  go_simp
                  try simp [*]
                  try (intro hh; exfalso; omega)
                  try omega
                try simp only [Act.put, List.setIfInBounds_toArray, List.set_cons_zero, List.set_cons_succ, List.getElem_toArray, List.getElem_cons_succ, List.getElem_cons_zero]
                refine wpAnyH_take (i := 9) (oi := _) (v := Value.int .i64 (a : Int)) rfl (by kernel_rfl) (by kernel_rfl) (by kernel_rfl) (fun _ _ _ h => h) (Or.inl ⟨by rfl, fun w' hSw => ?_⟩) hHeld ?_
                · clear hSw
                  go_simp
                  try simp [*]
                  try (intro hh; exfalso; omega)
                  try omega
                try simp only [Act.put, List.setIfInBounds_toArray, List.set_cons_zero, List.set_cons_succ, List.getElem_toArray, List.getElem_cons_succ, List.getElem_cons_zero]
                refine wpAnyH_take (i := 10) (oi := _) (v := Value.slice (some ⟨g, a, none⟩) (k - a) (cap - a)) rfl (by kernel_rfl) (by kernel_rfl) (by kernel_rfl) (fun _ _ _ h => h) (Or.inl ⟨by rfl, fun w' hSw => ?_⟩) hHeld ?_
                · clear hSw
                  go_simp
                  try simp [*]
                  try (intro hh; exfalso; omega)
                  try omega
                try simp only [Act.put, List.setIfInBounds_toArray, List.set_cons_zero, List.set_cons_succ, List.getElem_toArray, List.getElem_cons_succ, List.getElem_cons_zero]
                refine wpAnyH_ready (rs := [0, 6]) (by kernel_rfl) (by simp) ?_
                refine AllReadyH.cons (o := _) rfl (fun K hK => ?_) (AllReadyH.cons (o := _) rfl (fun K hK => ?_) (AllReadyH.nil))
                · go_simp
                  have HB1 := Lib.hid (HD0.out.alloc (Below.size HD0.out) (.cells #[] 3))
                  have HR1 := Lib.hid (World.ownsRow_made (base := W0.heap.size) (e := 3) (size := 1) D0 #[] 0 (Below.size HD0.out) (by unfold maxLen; omega) rfl)
                  clear hHeld
                  refine hK.out _ _ trivial (fun hHeld => ?_)
                  clear hK K
                  try simp only [Act.put, List.setIfInBounds_toArray, List.set_cons_zero, List.set_cons_succ, List.getElem_toArray, List.getElem_cons_succ, List.getElem_cons_zero]
                  refine wpAnyH_ready (rs := [4, 6]) (by kernel_rfl) (by simp) ?_
                  refine AllReadyH.cons (o := _) rfl (fun K hK => ?_) (AllReadyH.cons (o := _) rfl (fun K hK => ?_) (AllReadyH.nil))
                  · refine step_append_any rfl _ _ 28 rfl W0.heap.size 3 i3 (.int .i64 0) 1 8 Tryz.underlying28 hi3 hz30 hz31 hz32 rfl (by decide) (Value.slice (some ⟨D0.heap.size, 0, none⟩) 0 0) (0) ([]) rfl HR1.out (some ⟨g, 0, none⟩) (a) (cap) (flatN (List.take a L)) rfl (by rw [flatN_len, List.length_take, HLL.out]; omega) (fun h => ⟨⟨g, 0, none⟩, rfl, fun j u hj => by
                      obtain ⟨h1, rfl⟩ := flatN_get _ _ _ hj
                      rw [List.length_take] at h1
                      rw [tn_take' (by omega)]
                      have e : ((⟨g, 0, none⟩ : Addr).add j) = ⟨g, j, none⟩ := by rw [add_at, Nat.zero_add]
                      rw [e]
                      exact (HB1.out.cell (p := ⟨g, j, none⟩) HGL.out).trans (HGC.out j (by omega))⟩) (flatN_one _) (by unfold maxLen; omega) (by omega) (Below.size HB1.out) ?_
                    intro v4 W4 ho hb hd hg
                    have HB4 := Lib.hid (HB1.out.trans hb)
                    have HR4 := Lib.hid ho
                    have HD4 := Lib.hid hd
                    clear ho hb hd hg
                    clear hHeld
                    refine hK.out _ _ trivial (fun hHeld => ?_)
                    clear hK K
                    try simp only [Act.put, List.setIfInBounds_toArray, List.set_cons_zero, List.set_cons_succ, List.getElem_toArray, List.getElem_cons_succ, List.getElem_cons_zero]
                    refine wpAnyH_ready (rs := [6]) (by kernel_rfl) (by simp) ?_
                    refine AllReadyH.cons (o := _) rfl (fun K hK => ?_) AllReadyH.nil
                    go_simp
                    have HB5 := Lib.hid (HB4.out.alloc (Below.size HB4.out) (.cells #[.int .i64 (k : Int)] 3))
                    have HR5 := Lib.hid (HR4.out.alloc (.cells #[.int .i64 (k : Int)] 3))
                    have HK5 := Lib.hid (World.alloc_heap_new W4 (.cells #[.int .i64 (k : Int)] 3))
                    clear hHeld
                    refine hK.out _ _ trivial (fun hHeld => ?_)
                    clear hK K
                    try simp only [Act.put, List.setIfInBounds_toArray, List.set_cons_zero, List.set_cons_succ, List.getElem_toArray, List.getElem_cons_succ, List.getElem_cons_zero]
                    refine wpAnyH_ready (rs := [7]) (by kernel_rfl) (by simp) ?_
                    refine AllReadyH.cons (o := _) rfl (fun K hK => ?_) AllReadyH.nil
                    refine step_append_any rfl _ _ 28 rfl W0.heap.size 3 i3 (.int .i64 0) 1 8 Tryz.underlying28 hi3 hz30 hz31 hz32 rfl (by decide) (v4) (0 + a) ([] ++ flatN (List.take a L)) rfl HR5.out (some ⟨W4.heap.size, 0, none⟩) (1) (1) ([.int .i64 (k : Int)]) rfl (rfl) (fun _ => ⟨_, rfl, one_news HK5.out⟩) (by simp [Value.oneCell']) (by unfold maxLen; omega) (by omega) (Below.size HB5.out) ?_
                    intro v7 W7 ho hb hd hg
                    have HB7 := Lib.hid (HB5.out.trans hb)
                    have HR7 := Lib.hid ho
                    clear ho hb hd hg
                    clear hHeld
                    refine hK.out _ _ trivial (fun hHeld => ?_)
                    clear hK K
                    try simp only [Act.put, List.setIfInBounds_toArray, List.set_cons_zero, List.set_cons_succ, List.getElem_toArray, List.getElem_cons_succ, List.getElem_cons_zero]
                    refine wpAnyH_ready (rs := [11]) (by kernel_rfl) (by simp) ?_
                    refine AllReadyH.cons (o := _) rfl (fun K hK => ?_) AllReadyH.nil
                    refine step_append_any rfl _ _ 28 rfl W0.heap.size 3 i3 (.int .i64 0) 1 8 Tryz.underlying28 hi3 hz30 hz31 hz32 rfl (by decide) (v7) (0 + a + 1) ([] ++ flatN (List.take a L) ++ [.int .i64 (k : Int)]) rfl HR7.out (some ⟨g, a, none⟩) (k - a) (cap - a) (flatN (List.drop a L)) rfl (by rw [flatN_len, List.length_drop, HLL.out]; omega) (fun h => ⟨⟨g, a, none⟩, rfl, fun j u hj => by
                      obtain ⟨h1, rfl⟩ := flatN_get _ _ _ hj
                      rw [List.length_drop, HLL.out] at h1
                      rw [tn_drop']
                      have e : ((⟨g, a, none⟩ : Addr).add j) = ⟨g, a + j, none⟩ := by rw [add_at]
                      rw [e]
                      exact (HB7.out.cell (p := ⟨g, a + j, none⟩) HGL.out).trans (HGC.out (a + j) (by omega))⟩) (flatN_one _) (by unfold maxLen; omega) (by omega) (Below.size HB7.out) ?_
                    intro v11 W11 ho hb hd hg
                    have HB11 := Lib.hid (HB7.out.trans hb)
                    have HR11 := Lib.hid ho
                    clear ho hb hd hg
                    clear hHeld
                    refine hK.out _ _ trivial (fun hHeld => ?_)
                    clear hK K
                    try simp only [Act.put, List.setIfInBounds_toArray, List.set_cons_zero, List.set_cons_succ, List.getElem_toArray, List.getElem_cons_succ, List.getElem_cons_zero]
                    refine wpAnyH_take (i := 12) (oi := _) (v := v11) rfl (by kernel_rfl) (by kernel_rfl) (by kernel_rfl) (fun _ _ _ h => h) (Or.inl ⟨by rfl, fun w' hSw => ?_⟩) hHeld ?_
                    · clear hSw
                      go_simp
                      try simp [*]
                      try (intro hh; exfalso; omega)
                      try omega
                    try simp only [Act.put, List.setIfInBounds_toArray, List.set_cons_zero, List.set_cons_succ, List.getElem_toArray, List.getElem_cons_succ, List.getElem_cons_zero]
                    refine wpAnyH_done (by kernel_rfl) ?_ _
                    clear hHeld
                    have HOW := Lib.hid (show W11.ownsRow w.heap.size 3 1 v11 (k + 1) (flatN (ordO rk (k + 1))) from by
                      have q := HR11.out
                      rw [show 0 + a + 1 + (k - a) = k + 1 by omega, show [] ++ flatN (List.take a L) ++ [Value.int .i64 (k : Int)] ++ flatN (List.drop a L) = flatN (ordO rk (k + 1)) from (HIN.out a (by omega) HALLX.out HNOTX.out).symm] at q
                      exact own_base q HBZ.out)
                    go_wp2_with fail
                    go_roundw
                    case rel => exact ⟨k + 1, by omega, by go_num, HOW.out, fun h => by omega, HB.out.trans (HB11.out.mono HBZ.out)⟩
                    case measure => simp [intOf]; omega
                  · go_simp
                    have HB5 := Lib.hid (HB1.out.alloc (Below.size HB1.out) (.cells #[.int .i64 (k : Int)] 3))
                    have HR5 := Lib.hid (HR1.out.alloc (.cells #[.int .i64 (k : Int)] 3))
                    have HK5 := Lib.hid (show ((D0.alloc (.cells #[] 3)).alloc (.cells #[.int .i64 (k : Int)] 3)).heap[D0.heap.size + 1]? = some (.cells #[.int .i64 (k : Int)] 3 (0, 0)) from by have q := World.alloc_heap_new (D0.alloc (.cells #[] 3)) (.cells #[.int .i64 (k : Int)] 3); rw [World.size_alloc] at q; exact q)
                    clear hHeld
                    refine hK.out _ _ trivial (fun hHeld => ?_)
                    clear hK K
                    try simp only [Act.put, List.setIfInBounds_toArray, List.set_cons_zero, List.set_cons_succ, List.getElem_toArray, List.getElem_cons_succ, List.getElem_cons_zero]
                    refine wpAnyH_ready (rs := [4]) (by kernel_rfl) (by simp) ?_
                    refine AllReadyH.cons (o := _) rfl (fun K hK => ?_) AllReadyH.nil
                    refine step_append_any rfl _ _ 28 rfl W0.heap.size 3 i3 (.int .i64 0) 1 8 Tryz.underlying28 hi3 hz30 hz31 hz32 rfl (by decide) (Value.slice (some ⟨D0.heap.size, 0, none⟩) 0 0) (0) ([]) rfl HR5.out (some ⟨g, 0, none⟩) (a) (cap) (flatN (List.take a L)) rfl (by rw [flatN_len, List.length_take, HLL.out]; omega) (fun h => ⟨⟨g, 0, none⟩, rfl, fun j u hj => by
                      obtain ⟨h1, rfl⟩ := flatN_get _ _ _ hj
                      rw [List.length_take] at h1
                      rw [tn_take' (by omega)]
                      have e : ((⟨g, 0, none⟩ : Addr).add j) = ⟨g, j, none⟩ := by rw [add_at, Nat.zero_add]
                      rw [e]
                      exact (HB5.out.cell (p := ⟨g, j, none⟩) HGL.out).trans (HGC.out j (by omega))⟩) (flatN_one _) (by unfold maxLen; omega) (by omega) (Below.size HB5.out) ?_
                    intro v4 W4 ho hb hd hg
                    have HB4 := Lib.hid (HB5.out.trans hb)
                    have HR4 := Lib.hid ho
                    have HD4 := Lib.hid hd
                    have HK4 := Lib.hid (one_kept HK5.out hg (by simp [Value.ownBlock]))
                    clear ho hb hd hg
                    clear hHeld
                    refine hK.out _ _ trivial (fun hHeld => ?_)
                    clear hK K
                    try simp only [Act.put, List.setIfInBounds_toArray, List.set_cons_zero, List.set_cons_succ, List.getElem_toArray, List.getElem_cons_succ, List.getElem_cons_zero]
                    refine wpAnyH_ready (rs := [7]) (by kernel_rfl) (by simp) ?_
                    refine AllReadyH.cons (o := _) rfl (fun K hK => ?_) AllReadyH.nil
                    refine step_append_any rfl _ _ 28 rfl W0.heap.size 3 i3 (.int .i64 0) 1 8 Tryz.underlying28 hi3 hz30 hz31 hz32 rfl (by decide) (v4) (0 + a) ([] ++ flatN (List.take a L)) rfl HR4.out (some ⟨D0.heap.size + 1, 0, none⟩) (1) (1) ([.int .i64 (k : Int)]) rfl (rfl) (fun _ => ⟨_, rfl, one_news HK4.out⟩) (by simp [Value.oneCell']) (by unfold maxLen; omega) (by omega) (Below.size HB4.out) ?_
                    intro v7 W7 ho hb hd hg
                    have HB7 := Lib.hid (HB4.out.trans hb)
                    have HR7 := Lib.hid ho
                    clear ho hb hd hg
                    clear hHeld
                    refine hK.out _ _ trivial (fun hHeld => ?_)
                    clear hK K
                    try simp only [Act.put, List.setIfInBounds_toArray, List.set_cons_zero, List.set_cons_succ, List.getElem_toArray, List.getElem_cons_succ, List.getElem_cons_zero]
                    refine wpAnyH_ready (rs := [11]) (by kernel_rfl) (by simp) ?_
                    refine AllReadyH.cons (o := _) rfl (fun K hK => ?_) AllReadyH.nil
                    refine step_append_any rfl _ _ 28 rfl W0.heap.size 3 i3 (.int .i64 0) 1 8 Tryz.underlying28 hi3 hz30 hz31 hz32 rfl (by decide) (v7) (0 + a + 1) ([] ++ flatN (List.take a L) ++ [.int .i64 (k : Int)]) rfl HR7.out (some ⟨g, a, none⟩) (k - a) (cap - a) (flatN (List.drop a L)) rfl (by rw [flatN_len, List.length_drop, HLL.out]; omega) (fun h => ⟨⟨g, a, none⟩, rfl, fun j u hj => by
                      obtain ⟨h1, rfl⟩ := flatN_get _ _ _ hj
                      rw [List.length_drop, HLL.out] at h1
                      rw [tn_drop']
                      have e : ((⟨g, a, none⟩ : Addr).add j) = ⟨g, a + j, none⟩ := by rw [add_at]
                      rw [e]
                      exact (HB7.out.cell (p := ⟨g, a + j, none⟩) HGL.out).trans (HGC.out (a + j) (by omega))⟩) (flatN_one _) (by unfold maxLen; omega) (by omega) (Below.size HB7.out) ?_
                    intro v11 W11 ho hb hd hg
                    have HB11 := Lib.hid (HB7.out.trans hb)
                    have HR11 := Lib.hid ho
                    clear ho hb hd hg
                    clear hHeld
                    refine hK.out _ _ trivial (fun hHeld => ?_)
                    clear hK K
                    try simp only [Act.put, List.setIfInBounds_toArray, List.set_cons_zero, List.set_cons_succ, List.getElem_toArray, List.getElem_cons_succ, List.getElem_cons_zero]
                    refine wpAnyH_take (i := 12) (oi := _) (v := v11) rfl (by kernel_rfl) (by kernel_rfl) (by kernel_rfl) (fun _ _ _ h => h) (Or.inl ⟨by rfl, fun w' hSw => ?_⟩) hHeld ?_
                    · clear hSw
                      go_simp
                      try simp [*]
                      try (intro hh; exfalso; omega)
                      try omega
                    try simp only [Act.put, List.setIfInBounds_toArray, List.set_cons_zero, List.set_cons_succ, List.getElem_toArray, List.getElem_cons_succ, List.getElem_cons_zero]
                    refine wpAnyH_done (by kernel_rfl) ?_ _
                    clear hHeld
                    have HOW := Lib.hid (show W11.ownsRow w.heap.size 3 1 v11 (k + 1) (flatN (ordO rk (k + 1))) from by
                      have q := HR11.out
                      rw [show 0 + a + 1 + (k - a) = k + 1 by omega, show [] ++ flatN (List.take a L) ++ [Value.int .i64 (k : Int)] ++ flatN (List.drop a L) = flatN (ordO rk (k + 1)) from (HIN.out a (by omega) HALLX.out HNOTX.out).symm] at q
                      exact own_base q HBZ.out)
                    go_wp2_with fail
                    go_roundw
                    case rel => exact ⟨k + 1, by omega, by go_num, HOW.out, fun h => by omega, HB.out.trans (HB11.out.mono HBZ.out)⟩
                    case measure => simp [intOf]; omega
                · go_simp
                  have HB1 := Lib.hid (HD0.out.alloc (Below.size HD0.out) (.cells #[.int .i64 (k : Int)] 3))
                  clear hHeld
                  refine hK.out _ _ trivial (fun hHeld => ?_)
                  clear hK K
                  try simp only [Act.put, List.setIfInBounds_toArray, List.set_cons_zero, List.set_cons_succ, List.getElem_toArray, List.getElem_cons_succ, List.getElem_cons_zero]
                  refine wpAnyH_ready (rs := [0]) (by kernel_rfl) (by simp) ?_
                  refine AllReadyH.cons (o := _) rfl (fun K hK => ?_) AllReadyH.nil
                  go_simp
                  have HB5 := Lib.hid (HB1.out.alloc (Below.size HB1.out) (.cells #[] 3))
                  have HR5 := Lib.hid (show ((D0.alloc (.cells #[.int .i64 (k : Int)] 3)).alloc (.cells #[] 3)).ownsRow W0.heap.size 3 1 (Value.slice (some ⟨D0.heap.size + 1, 0, none⟩) 0 0) 0 [] by have q := World.ownsRow_made (base := W0.heap.size) (e := 3) (size := 1) (D0.alloc (.cells #[.int .i64 (k : Int)] 3)) #[] 0 (Below.size HB1.out) (by unfold maxLen; omega) rfl; rw [World.size_alloc] at q; exact q)
                  have HK5 := Lib.hid (show ((D0.alloc (.cells #[.int .i64 (k : Int)] 3)).alloc (.cells #[] 3)).heap[D0.heap.size]? = some (.cells #[.int .i64 (k : Int)] 3 (0, 0)) from (Below.heap_alloc _ _ _ (by simp)).trans (World.alloc_heap_new D0 _))
                  clear hHeld
                  refine hK.out _ _ trivial (fun hHeld => ?_)
                  clear hK K
                  try simp only [Act.put, List.setIfInBounds_toArray, List.set_cons_zero, List.set_cons_succ, List.getElem_toArray, List.getElem_cons_succ, List.getElem_cons_zero]
                  refine wpAnyH_ready (rs := [4]) (by kernel_rfl) (by simp) ?_
                  refine AllReadyH.cons (o := _) rfl (fun K hK => ?_) AllReadyH.nil
                  refine step_append_any rfl _ _ 28 rfl W0.heap.size 3 i3 (.int .i64 0) 1 8 Tryz.underlying28 hi3 hz30 hz31 hz32 rfl (by decide) (Value.slice (some ⟨D0.heap.size + 1, 0, none⟩) 0 0) (0) ([]) rfl HR5.out (some ⟨g, 0, none⟩) (a) (cap) (flatN (List.take a L)) rfl (by rw [flatN_len, List.length_take, HLL.out]; omega) (fun h => ⟨⟨g, 0, none⟩, rfl, fun j u hj => by
                      obtain ⟨h1, rfl⟩ := flatN_get _ _ _ hj
                      rw [List.length_take] at h1
                      rw [tn_take' (by omega)]
                      have e : ((⟨g, 0, none⟩ : Addr).add j) = ⟨g, j, none⟩ := by rw [add_at, Nat.zero_add]
                      rw [e]
                      exact (HB5.out.cell (p := ⟨g, j, none⟩) HGL.out).trans (HGC.out j (by omega))⟩) (flatN_one _) (by unfold maxLen; omega) (by omega) (Below.size HB5.out) ?_
                  intro v4 W4 ho hb hd hg
                  have HB4 := Lib.hid (HB5.out.trans hb)
                  have HR4 := Lib.hid ho
                  have HD4 := Lib.hid hd
                  have HK4 := Lib.hid (one_kept HK5.out hg (by simp [Value.ownBlock]))
                  clear ho hb hd hg
                  clear hHeld
                  refine hK.out _ _ trivial (fun hHeld => ?_)
                  clear hK K
                  try simp only [Act.put, List.setIfInBounds_toArray, List.set_cons_zero, List.set_cons_succ, List.getElem_toArray, List.getElem_cons_succ, List.getElem_cons_zero]
                  refine wpAnyH_ready (rs := [7]) (by kernel_rfl) (by simp) ?_
                  refine AllReadyH.cons (o := _) rfl (fun K hK => ?_) AllReadyH.nil
                  refine step_append_any rfl _ _ 28 rfl W0.heap.size 3 i3 (.int .i64 0) 1 8 Tryz.underlying28 hi3 hz30 hz31 hz32 rfl (by decide) (v4) (0 + a) ([] ++ flatN (List.take a L)) rfl HR4.out (some ⟨D0.heap.size, 0, none⟩) (1) (1) ([.int .i64 (k : Int)]) rfl (rfl) (fun _ => ⟨_, rfl, one_news HK4.out⟩) (by simp [Value.oneCell']) (by unfold maxLen; omega) (by omega) (Below.size HB4.out) ?_
                  intro v7 W7 ho hb hd hg
                  have HB7 := Lib.hid (HB4.out.trans hb)
                  have HR7 := Lib.hid ho
                  clear ho hb hd hg
                  clear hHeld
                  refine hK.out _ _ trivial (fun hHeld => ?_)
                  clear hK K
                  try simp only [Act.put, List.setIfInBounds_toArray, List.set_cons_zero, List.set_cons_succ, List.getElem_toArray, List.getElem_cons_succ, List.getElem_cons_zero]
                  refine wpAnyH_ready (rs := [11]) (by kernel_rfl) (by simp) ?_
                  refine AllReadyH.cons (o := _) rfl (fun K hK => ?_) AllReadyH.nil
                  refine step_append_any rfl _ _ 28 rfl W0.heap.size 3 i3 (.int .i64 0) 1 8 Tryz.underlying28 hi3 hz30 hz31 hz32 rfl (by decide) (v7) (0 + a + 1) ([] ++ flatN (List.take a L) ++ [.int .i64 (k : Int)]) rfl HR7.out (some ⟨g, a, none⟩) (k - a) (cap - a) (flatN (List.drop a L)) rfl (by rw [flatN_len, List.length_drop, HLL.out]; omega) (fun h => ⟨⟨g, a, none⟩, rfl, fun j u hj => by
                      obtain ⟨h1, rfl⟩ := flatN_get _ _ _ hj
                      rw [List.length_drop, HLL.out] at h1
                      rw [tn_drop']
                      have e : ((⟨g, a, none⟩ : Addr).add j) = ⟨g, a + j, none⟩ := by rw [add_at]
                      rw [e]
                      exact (HB7.out.cell (p := ⟨g, a + j, none⟩) HGL.out).trans (HGC.out (a + j) (by omega))⟩) (flatN_one _) (by unfold maxLen; omega) (by omega) (Below.size HB7.out) ?_
                  intro v11 W11 ho hb hd hg
                  have HB11 := Lib.hid (HB7.out.trans hb)
                  have HR11 := Lib.hid ho
                  clear ho hb hd hg
                  clear hHeld
                  refine hK.out _ _ trivial (fun hHeld => ?_)
                  clear hK K
                  try simp only [Act.put, List.setIfInBounds_toArray, List.set_cons_zero, List.set_cons_succ, List.getElem_toArray, List.getElem_cons_succ, List.getElem_cons_zero]
                  refine wpAnyH_take (i := 12) (oi := _) (v := v11) rfl (by kernel_rfl) (by kernel_rfl) (by kernel_rfl) (fun _ _ _ h => h) (Or.inl ⟨by rfl, fun w' hSw => ?_⟩) hHeld ?_
                  · clear hSw
                    go_simp
                    try simp [*]
                    try (intro hh; exfalso; omega)
                    try omega
                  try simp only [Act.put, List.setIfInBounds_toArray, List.set_cons_zero, List.set_cons_succ, List.getElem_toArray, List.getElem_cons_succ, List.getElem_cons_zero]
                  refine wpAnyH_done (by kernel_rfl) ?_ _
                  clear hHeld
                  have HOW := Lib.hid (show W11.ownsRow w.heap.size 3 1 v11 (k + 1) (flatN (ordO rk (k + 1))) from by
                    have q := HR11.out
                    rw [show 0 + a + 1 + (k - a) = k + 1 by omega, show [] ++ flatN (List.take a L) ++ [Value.int .i64 (k : Int)] ++ flatN (List.drop a L) = flatN (ordO rk (k + 1)) from (HIN.out a (by omega) HALLX.out HNOTX.out).symm] at q
                    exact own_base q HBZ.out)
                  go_wp2_with fail
                  go_roundw
                  case rel => exact ⟨k + 1, by omega, by go_num, HOW.out, fun h => by omega, HB.out.trans (HB11.out.mono HBZ.out)⟩
                  case measure => simp [intOf]; omega
              · have hca : a = cap := by omega
                subst hca
                obtain ⟨D0, hD0⟩ : ∃ D0, D0 = U.drew := ⟨_, rfl⟩
                have HD0 := Lib.hid (show Below W0.heap.size W0 D0 by rw [hD0]; exact HU.out.drew)
                refine wp_region_held_drew (S := fun w' => True) (by kernel_rfl) trivial (fun hHeld => ?_)
                rw [← hD0]
                clear hD0
                refine wpAnyH_take (i := 1) (oi := _) (v := Value.slice (some ⟨g, 0, none⟩) k a) rfl (by kernel_rfl) (by kernel_rfl) (by kernel_rfl) (fun _ _ _ h => h) (Or.inl ⟨by rfl, fun w' hSw => ?_⟩) hHeld ?_
                · clear hSw
                  go_simp
                  try simp [*]
                  try (intro hh; exfalso; omega)
                  try omega
                try simp only [Act.put, List.setIfInBounds_toArray, List.set_cons_zero, List.set_cons_succ, List.getElem_toArray, List.getElem_cons_succ, List.getElem_cons_zero]
                refine wpAnyH_take (i := 2) (oi := _) (v := Value.int .i64 (a : Int)) rfl (by kernel_rfl) (by kernel_rfl) (by kernel_rfl) (fun _ _ _ h => h) (Or.inl ⟨by rfl, fun w' hSw => ?_⟩) hHeld ?_
                · clear hSw
                  go_simp
                  try simp [*]
                  try (intro hh; exfalso; omega)
                  try omega
                try simp only [Act.put, List.setIfInBounds_toArray, List.set_cons_zero, List.set_cons_succ, List.getElem_toArray, List.getElem_cons_succ, List.getElem_cons_zero]
                refine wpAnyH_take (i := 3) (oi := _) (v := Value.slice (some ⟨g, 0, none⟩) a a) rfl (by kernel_rfl) (by kernel_rfl) (by kernel_rfl) (fun _ _ _ h => h) (Or.inl ⟨by rfl, fun w' hSw => ?_⟩) hHeld ?_
                · clear hSw
                  go_simp
                  try simp [*]
                  try (intro hh; exfalso; omega)
                  try omega
                try simp only [Act.put, List.setIfInBounds_toArray, List.set_cons_zero, List.set_cons_succ, List.getElem_toArray, List.getElem_cons_succ, List.getElem_cons_zero]
                refine wpAnyH_take (i := 5) (oi := _) (v := Value.int .i64 (k : Int)) rfl (by kernel_rfl) (by kernel_rfl) (by kernel_rfl) (fun _ _ _ h => h) (Or.inl ⟨by rfl, fun w' hSw => ?_⟩) hHeld ?_
                · clear hSw
                  go_simp
                  try simp [*]
                  try (intro hh; exfalso; omega)
                  try omega
                try simp only [Act.put, List.setIfInBounds_toArray, List.set_cons_zero, List.set_cons_succ, List.getElem_toArray, List.getElem_cons_succ, List.getElem_cons_zero]
                refine wpAnyH_take (i := 8) (oi := _) (v := Value.slice (some ⟨g, 0, none⟩) k a) rfl (by kernel_rfl) (by kernel_rfl) (by kernel_rfl) (fun _ _ _ h => h) (Or.inl ⟨by rfl, fun w' hSw => ?_⟩) hHeld ?_
                · clear hSw
                  go_simp
                  try simp [*]
                  try (intro hh; exfalso; omega)
                  try omega
                try simp only [Act.put, List.setIfInBounds_toArray, List.set_cons_zero, List.set_cons_succ, List.getElem_toArray, List.getElem_cons_succ, List.getElem_cons_zero]
                refine wpAnyH_take (i := 9) (oi := _) (v := Value.int .i64 (a : Int)) rfl (by kernel_rfl) (by kernel_rfl) (by kernel_rfl) (fun _ _ _ h => h) (Or.inl ⟨by rfl, fun w' hSw => ?_⟩) hHeld ?_
                · clear hSw
                  go_simp
                  try simp [*]
                  try (intro hh; exfalso; omega)
                  try omega
                try simp only [Act.put, List.setIfInBounds_toArray, List.set_cons_zero, List.set_cons_succ, List.getElem_toArray, List.getElem_cons_succ, List.getElem_cons_zero]
                refine wpAnyH_take (i := 10) (oi := _) (v := Value.slice (some ⟨g, 0, none⟩) 0 0) rfl (by kernel_rfl) (by kernel_rfl) (by kernel_rfl) (fun _ _ _ h => h) (Or.inl ⟨by rfl, fun w' hSw => ?_⟩) hHeld ?_
                · clear hSw
                  go_simp
                  try simp [*]
                  try (intro hh; exfalso; omega)
                  try omega
                try simp only [Act.put, List.setIfInBounds_toArray, List.set_cons_zero, List.set_cons_succ, List.getElem_toArray, List.getElem_cons_succ, List.getElem_cons_zero]
                refine wpAnyH_ready (rs := [0, 6]) (by kernel_rfl) (by simp) ?_
                refine AllReadyH.cons (o := _) rfl (fun K hK => ?_) (AllReadyH.cons (o := _) rfl (fun K hK => ?_) (AllReadyH.nil))
                · go_simp
                  have HB1 := Lib.hid (HD0.out.alloc (Below.size HD0.out) (.cells #[] 3))
                  have HR1 := Lib.hid (World.ownsRow_made (base := W0.heap.size) (e := 3) (size := 1) D0 #[] 0 (Below.size HD0.out) (by unfold maxLen; omega) rfl)
                  clear hHeld
                  refine hK.out _ _ trivial (fun hHeld => ?_)
                  clear hK K
                  try simp only [Act.put, List.setIfInBounds_toArray, List.set_cons_zero, List.set_cons_succ, List.getElem_toArray, List.getElem_cons_succ, List.getElem_cons_zero]
                  refine wpAnyH_ready (rs := [4, 6]) (by kernel_rfl) (by simp) ?_
                  refine AllReadyH.cons (o := _) rfl (fun K hK => ?_) (AllReadyH.cons (o := _) rfl (fun K hK => ?_) (AllReadyH.nil))
                  · refine step_append_any rfl _ _ 28 rfl W0.heap.size 3 i3 (.int .i64 0) 1 8 Tryz.underlying28 hi3 hz30 hz31 hz32 rfl (by decide) (Value.slice (some ⟨D0.heap.size, 0, none⟩) 0 0) (0) ([]) rfl HR1.out (some ⟨g, 0, none⟩) (a) (a) (flatN (List.take a L)) rfl (by rw [flatN_len, List.length_take, HLL.out]; omega) (fun h => ⟨⟨g, 0, none⟩, rfl, fun j u hj => by
                      obtain ⟨h1, rfl⟩ := flatN_get _ _ _ hj
                      rw [List.length_take] at h1
                      rw [tn_take' (by omega)]
                      have e : ((⟨g, 0, none⟩ : Addr).add j) = ⟨g, j, none⟩ := by rw [add_at, Nat.zero_add]
                      rw [e]
                      exact (HB1.out.cell (p := ⟨g, j, none⟩) HGL.out).trans (HGC.out j (by omega))⟩) (flatN_one _) (by unfold maxLen; omega) (by omega) (Below.size HB1.out) ?_
                    intro v4 W4 ho hb hd hg
                    have HB4 := Lib.hid (HB1.out.trans hb)
                    have HR4 := Lib.hid ho
                    have HD4 := Lib.hid hd
                    clear ho hb hd hg
                    clear hHeld
                    refine hK.out _ _ trivial (fun hHeld => ?_)
                    clear hK K
                    try simp only [Act.put, List.setIfInBounds_toArray, List.set_cons_zero, List.set_cons_succ, List.getElem_toArray, List.getElem_cons_succ, List.getElem_cons_zero]
                    refine wpAnyH_ready (rs := [6]) (by kernel_rfl) (by simp) ?_
                    refine AllReadyH.cons (o := _) rfl (fun K hK => ?_) AllReadyH.nil
                    go_simp
                    have HB5 := Lib.hid (HB4.out.alloc (Below.size HB4.out) (.cells #[.int .i64 (k : Int)] 3))
                    have HR5 := Lib.hid (HR4.out.alloc (.cells #[.int .i64 (k : Int)] 3))
                    have HK5 := Lib.hid (World.alloc_heap_new W4 (.cells #[.int .i64 (k : Int)] 3))
                    clear hHeld
                    refine hK.out _ _ trivial (fun hHeld => ?_)
                    clear hK K
                    try simp only [Act.put, List.setIfInBounds_toArray, List.set_cons_zero, List.set_cons_succ, List.getElem_toArray, List.getElem_cons_succ, List.getElem_cons_zero]
                    refine wpAnyH_ready (rs := [7]) (by kernel_rfl) (by simp) ?_
                    refine AllReadyH.cons (o := _) rfl (fun K hK => ?_) AllReadyH.nil
                    refine step_append_any rfl _ _ 28 rfl W0.heap.size 3 i3 (.int .i64 0) 1 8 Tryz.underlying28 hi3 hz30 hz31 hz32 rfl (by decide) (v4) (0 + a) ([] ++ flatN (List.take a L)) rfl HR5.out (some ⟨W4.heap.size, 0, none⟩) (1) (1) ([.int .i64 (k : Int)]) rfl (rfl) (fun _ => ⟨_, rfl, one_news HK5.out⟩) (by simp [Value.oneCell']) (by unfold maxLen; omega) (by omega) (Below.size HB5.out) ?_
                    intro v7 W7 ho hb hd hg
                    have HB7 := Lib.hid (HB5.out.trans hb)
                    have HR7 := Lib.hid ho
                    clear ho hb hd hg
                    clear hHeld
                    refine hK.out _ _ trivial (fun hHeld => ?_)
                    clear hK K
                    try simp only [Act.put, List.setIfInBounds_toArray, List.set_cons_zero, List.set_cons_succ, List.getElem_toArray, List.getElem_cons_succ, List.getElem_cons_zero]
                    refine wpAnyH_ready (rs := [11]) (by kernel_rfl) (by simp) ?_
                    refine AllReadyH.cons (o := _) rfl (fun K hK => ?_) AllReadyH.nil
                    refine step_append_any rfl _ _ 28 rfl W0.heap.size 3 i3 (.int .i64 0) 1 8 Tryz.underlying28 hi3 hz30 hz31 hz32 rfl (by decide) (v7) (0 + a + 1) ([] ++ flatN (List.take a L) ++ [.int .i64 (k : Int)]) rfl HR7.out (some ⟨g, 0, none⟩) (0) (0) (flatN (List.drop a L)) rfl (by rw [flatN_len, List.length_drop, HLL.out]; omega) (fun h => absurd h (Nat.lt_irrefl 0)) (flatN_one _) (by unfold maxLen; omega) (by omega) (Below.size HB7.out) ?_
                    intro v11 W11 ho hb hd hg
                    have HB11 := Lib.hid (HB7.out.trans hb)
                    have HR11 := Lib.hid ho
                    clear ho hb hd hg
                    clear hHeld
                    refine hK.out _ _ trivial (fun hHeld => ?_)
                    clear hK K
                    try simp only [Act.put, List.setIfInBounds_toArray, List.set_cons_zero, List.set_cons_succ, List.getElem_toArray, List.getElem_cons_succ, List.getElem_cons_zero]
                    refine wpAnyH_take (i := 12) (oi := _) (v := v11) rfl (by kernel_rfl) (by kernel_rfl) (by kernel_rfl) (fun _ _ _ h => h) (Or.inl ⟨by rfl, fun w' hSw => ?_⟩) hHeld ?_
                    · clear hSw
                      go_simp
                      try simp [*]
                      try (intro hh; exfalso; omega)
                      try omega
                    try simp only [Act.put, List.setIfInBounds_toArray, List.set_cons_zero, List.set_cons_succ, List.getElem_toArray, List.getElem_cons_succ, List.getElem_cons_zero]
                    refine wpAnyH_done (by kernel_rfl) ?_ _
                    clear hHeld
                    have HOW := Lib.hid (show W11.ownsRow w.heap.size 3 1 v11 (k + 1) (flatN (ordO rk (k + 1))) from by
                      have q := HR11.out
                      rw [show 0 + a + 1 + (0) = k + 1 by omega, show [] ++ flatN (List.take a L) ++ [Value.int .i64 (k : Int)] ++ flatN (List.drop a L) = flatN (ordO rk (k + 1)) from (HIN.out a (by omega) HALLX.out HNOTX.out).symm] at q
                      exact own_base q HBZ.out)
                    go_wp2_with fail
                    go_roundw
                    case rel => exact ⟨k + 1, by omega, by go_num, HOW.out, fun h => by omega, HB.out.trans (HB11.out.mono HBZ.out)⟩
                    case measure => simp [intOf]; omega
                  · go_simp
                    have HB5 := Lib.hid (HB1.out.alloc (Below.size HB1.out) (.cells #[.int .i64 (k : Int)] 3))
                    have HR5 := Lib.hid (HR1.out.alloc (.cells #[.int .i64 (k : Int)] 3))
                    have HK5 := Lib.hid (show ((D0.alloc (.cells #[] 3)).alloc (.cells #[.int .i64 (k : Int)] 3)).heap[D0.heap.size + 1]? = some (.cells #[.int .i64 (k : Int)] 3 (0, 0)) from by have q := World.alloc_heap_new (D0.alloc (.cells #[] 3)) (.cells #[.int .i64 (k : Int)] 3); rw [World.size_alloc] at q; exact q)
                    clear hHeld
                    refine hK.out _ _ trivial (fun hHeld => ?_)
                    clear hK K
                    try simp only [Act.put, List.setIfInBounds_toArray, List.set_cons_zero, List.set_cons_succ, List.getElem_toArray, List.getElem_cons_succ, List.getElem_cons_zero]
                    refine wpAnyH_ready (rs := [4]) (by kernel_rfl) (by simp) ?_
                    refine AllReadyH.cons (o := _) rfl (fun K hK => ?_) AllReadyH.nil
                    refine step_append_any rfl _ _ 28 rfl W0.heap.size 3 i3 (.int .i64 0) 1 8 Tryz.underlying28 hi3 hz30 hz31 hz32 rfl (by decide) (Value.slice (some ⟨D0.heap.size, 0, none⟩) 0 0) (0) ([]) rfl HR5.out (some ⟨g, 0, none⟩) (a) (a) (flatN (List.take a L)) rfl (by rw [flatN_len, List.length_take, HLL.out]; omega) (fun h => ⟨⟨g, 0, none⟩, rfl, fun j u hj => by
                      obtain ⟨h1, rfl⟩ := flatN_get _ _ _ hj
                      rw [List.length_take] at h1
                      rw [tn_take' (by omega)]
                      have e : ((⟨g, 0, none⟩ : Addr).add j) = ⟨g, j, none⟩ := by rw [add_at, Nat.zero_add]
                      rw [e]
                      exact (HB5.out.cell (p := ⟨g, j, none⟩) HGL.out).trans (HGC.out j (by omega))⟩) (flatN_one _) (by unfold maxLen; omega) (by omega) (Below.size HB5.out) ?_
                    intro v4 W4 ho hb hd hg
                    have HB4 := Lib.hid (HB5.out.trans hb)
                    have HR4 := Lib.hid ho
                    have HD4 := Lib.hid hd
                    have HK4 := Lib.hid (one_kept HK5.out hg (by simp [Value.ownBlock]))
                    clear ho hb hd hg
                    clear hHeld
                    refine hK.out _ _ trivial (fun hHeld => ?_)
                    clear hK K
                    try simp only [Act.put, List.setIfInBounds_toArray, List.set_cons_zero, List.set_cons_succ, List.getElem_toArray, List.getElem_cons_succ, List.getElem_cons_zero]
                    refine wpAnyH_ready (rs := [7]) (by kernel_rfl) (by simp) ?_
                    refine AllReadyH.cons (o := _) rfl (fun K hK => ?_) AllReadyH.nil
                    refine step_append_any rfl _ _ 28 rfl W0.heap.size 3 i3 (.int .i64 0) 1 8 Tryz.underlying28 hi3 hz30 hz31 hz32 rfl (by decide) (v4) (0 + a) ([] ++ flatN (List.take a L)) rfl HR4.out (some ⟨D0.heap.size + 1, 0, none⟩) (1) (1) ([.int .i64 (k : Int)]) rfl (rfl) (fun _ => ⟨_, rfl, one_news HK4.out⟩) (by simp [Value.oneCell']) (by unfold maxLen; omega) (by omega) (Below.size HB4.out) ?_
                    intro v7 W7 ho hb hd hg
                    have HB7 := Lib.hid (HB4.out.trans hb)
                    have HR7 := Lib.hid ho
                    clear ho hb hd hg
                    clear hHeld
                    refine hK.out _ _ trivial (fun hHeld => ?_)
                    clear hK K
                    try simp only [Act.put, List.setIfInBounds_toArray, List.set_cons_zero, List.set_cons_succ, List.getElem_toArray, List.getElem_cons_succ, List.getElem_cons_zero]
                    refine wpAnyH_ready (rs := [11]) (by kernel_rfl) (by simp) ?_
                    refine AllReadyH.cons (o := _) rfl (fun K hK => ?_) AllReadyH.nil
                    refine step_append_any rfl _ _ 28 rfl W0.heap.size 3 i3 (.int .i64 0) 1 8 Tryz.underlying28 hi3 hz30 hz31 hz32 rfl (by decide) (v7) (0 + a + 1) ([] ++ flatN (List.take a L) ++ [.int .i64 (k : Int)]) rfl HR7.out (some ⟨g, 0, none⟩) (0) (0) (flatN (List.drop a L)) rfl (by rw [flatN_len, List.length_drop, HLL.out]; omega) (fun h => absurd h (Nat.lt_irrefl 0)) (flatN_one _) (by unfold maxLen; omega) (by omega) (Below.size HB7.out) ?_
                    intro v11 W11 ho hb hd hg
                    have HB11 := Lib.hid (HB7.out.trans hb)
                    have HR11 := Lib.hid ho
                    clear ho hb hd hg
                    clear hHeld
                    refine hK.out _ _ trivial (fun hHeld => ?_)
                    clear hK K
                    try simp only [Act.put, List.setIfInBounds_toArray, List.set_cons_zero, List.set_cons_succ, List.getElem_toArray, List.getElem_cons_succ, List.getElem_cons_zero]
                    refine wpAnyH_take (i := 12) (oi := _) (v := v11) rfl (by kernel_rfl) (by kernel_rfl) (by kernel_rfl) (fun _ _ _ h => h) (Or.inl ⟨by rfl, fun w' hSw => ?_⟩) hHeld ?_
                    · clear hSw
                      go_simp
                      try simp [*]
                      try (intro hh; exfalso; omega)
                      try omega
                    try simp only [Act.put, List.setIfInBounds_toArray, List.set_cons_zero, List.set_cons_succ, List.getElem_toArray, List.getElem_cons_succ, List.getElem_cons_zero]
                    refine wpAnyH_done (by kernel_rfl) ?_ _
                    clear hHeld
                    have HOW := Lib.hid (show W11.ownsRow w.heap.size 3 1 v11 (k + 1) (flatN (ordO rk (k + 1))) from by
                      have q := HR11.out
                      rw [show 0 + a + 1 + (0) = k + 1 by omega, show [] ++ flatN (List.take a L) ++ [Value.int .i64 (k : Int)] ++ flatN (List.drop a L) = flatN (ordO rk (k + 1)) from (HIN.out a (by omega) HALLX.out HNOTX.out).symm] at q
                      exact own_base q HBZ.out)
                    go_wp2_with fail
                    go_roundw
                    case rel => exact ⟨k + 1, by omega, by go_num, HOW.out, fun h => by omega, HB.out.trans (HB11.out.mono HBZ.out)⟩
                    case measure => simp [intOf]; omega
                · go_simp
                  have HB1 := Lib.hid (HD0.out.alloc (Below.size HD0.out) (.cells #[.int .i64 (k : Int)] 3))
                  clear hHeld
                  refine hK.out _ _ trivial (fun hHeld => ?_)
                  clear hK K
                  try simp only [Act.put, List.setIfInBounds_toArray, List.set_cons_zero, List.set_cons_succ, List.getElem_toArray, List.getElem_cons_succ, List.getElem_cons_zero]
                  refine wpAnyH_ready (rs := [0]) (by kernel_rfl) (by simp) ?_
                  refine AllReadyH.cons (o := _) rfl (fun K hK => ?_) AllReadyH.nil
                  go_simp
                  have HB5 := Lib.hid (HB1.out.alloc (Below.size HB1.out) (.cells #[] 3))
                  have HR5 := Lib.hid (show ((D0.alloc (.cells #[.int .i64 (k : Int)] 3)).alloc (.cells #[] 3)).ownsRow W0.heap.size 3 1 (Value.slice (some ⟨D0.heap.size + 1, 0, none⟩) 0 0) 0 [] by have q := World.ownsRow_made (base := W0.heap.size) (e := 3) (size := 1) (D0.alloc (.cells #[.int .i64 (k : Int)] 3)) #[] 0 (Below.size HB1.out) (by unfold maxLen; omega) rfl; rw [World.size_alloc] at q; exact q)
                  have HK5 := Lib.hid (show ((D0.alloc (.cells #[.int .i64 (k : Int)] 3)).alloc (.cells #[] 3)).heap[D0.heap.size]? = some (.cells #[.int .i64 (k : Int)] 3 (0, 0)) from (Below.heap_alloc _ _ _ (by simp)).trans (World.alloc_heap_new D0 _))
                  clear hHeld
                  refine hK.out _ _ trivial (fun hHeld => ?_)
                  clear hK K
                  try simp only [Act.put, List.setIfInBounds_toArray, List.set_cons_zero, List.set_cons_succ, List.getElem_toArray, List.getElem_cons_succ, List.getElem_cons_zero]
                  refine wpAnyH_ready (rs := [4]) (by kernel_rfl) (by simp) ?_
                  refine AllReadyH.cons (o := _) rfl (fun K hK => ?_) AllReadyH.nil
                  refine step_append_any rfl _ _ 28 rfl W0.heap.size 3 i3 (.int .i64 0) 1 8 Tryz.underlying28 hi3 hz30 hz31 hz32 rfl (by decide) (Value.slice (some ⟨D0.heap.size + 1, 0, none⟩) 0 0) (0) ([]) rfl HR5.out (some ⟨g, 0, none⟩) (a) (a) (flatN (List.take a L)) rfl (by rw [flatN_len, List.length_take, HLL.out]; omega) (fun h => ⟨⟨g, 0, none⟩, rfl, fun j u hj => by
                      obtain ⟨h1, rfl⟩ := flatN_get _ _ _ hj
                      rw [List.length_take] at h1
                      rw [tn_take' (by omega)]
                      have e : ((⟨g, 0, none⟩ : Addr).add j) = ⟨g, j, none⟩ := by rw [add_at, Nat.zero_add]
                      rw [e]
                      exact (HB5.out.cell (p := ⟨g, j, none⟩) HGL.out).trans (HGC.out j (by omega))⟩) (flatN_one _) (by unfold maxLen; omega) (by omega) (Below.size HB5.out) ?_
                  intro v4 W4 ho hb hd hg
                  have HB4 := Lib.hid (HB5.out.trans hb)
                  have HR4 := Lib.hid ho
                  have HD4 := Lib.hid hd
                  have HK4 := Lib.hid (one_kept HK5.out hg (by simp [Value.ownBlock]))
                  clear ho hb hd hg
                  clear hHeld
                  refine hK.out _ _ trivial (fun hHeld => ?_)
                  clear hK K
                  try simp only [Act.put, List.setIfInBounds_toArray, List.set_cons_zero, List.set_cons_succ, List.getElem_toArray, List.getElem_cons_succ, List.getElem_cons_zero]
                  refine wpAnyH_ready (rs := [7]) (by kernel_rfl) (by simp) ?_
                  refine AllReadyH.cons (o := _) rfl (fun K hK => ?_) AllReadyH.nil
                  refine step_append_any rfl _ _ 28 rfl W0.heap.size 3 i3 (.int .i64 0) 1 8 Tryz.underlying28 hi3 hz30 hz31 hz32 rfl (by decide) (v4) (0 + a) ([] ++ flatN (List.take a L)) rfl HR4.out (some ⟨D0.heap.size, 0, none⟩) (1) (1) ([.int .i64 (k : Int)]) rfl (rfl) (fun _ => ⟨_, rfl, one_news HK4.out⟩) (by simp [Value.oneCell']) (by unfold maxLen; omega) (by omega) (Below.size HB4.out) ?_
                  intro v7 W7 ho hb hd hg
                  have HB7 := Lib.hid (HB4.out.trans hb)
                  have HR7 := Lib.hid ho
                  clear ho hb hd hg
                  clear hHeld
                  refine hK.out _ _ trivial (fun hHeld => ?_)
                  clear hK K
                  try simp only [Act.put, List.setIfInBounds_toArray, List.set_cons_zero, List.set_cons_succ, List.getElem_toArray, List.getElem_cons_succ, List.getElem_cons_zero]
                  refine wpAnyH_ready (rs := [11]) (by kernel_rfl) (by simp) ?_
                  refine AllReadyH.cons (o := _) rfl (fun K hK => ?_) AllReadyH.nil
                  refine step_append_any rfl _ _ 28 rfl W0.heap.size 3 i3 (.int .i64 0) 1 8 Tryz.underlying28 hi3 hz30 hz31 hz32 rfl (by decide) (v7) (0 + a + 1) ([] ++ flatN (List.take a L) ++ [.int .i64 (k : Int)]) rfl HR7.out (some ⟨g, 0, none⟩) (0) (0) (flatN (List.drop a L)) rfl (by rw [flatN_len, List.length_drop, HLL.out]; omega) (fun h => absurd h (Nat.lt_irrefl 0)) (flatN_one _) (by unfold maxLen; omega) (by omega) (Below.size HB7.out) ?_
                  intro v11 W11 ho hb hd hg
                  have HB11 := Lib.hid (HB7.out.trans hb)
                  have HR11 := Lib.hid ho
                  clear ho hb hd hg
                  clear hHeld
                  refine hK.out _ _ trivial (fun hHeld => ?_)
                  clear hK K
                  try simp only [Act.put, List.setIfInBounds_toArray, List.set_cons_zero, List.set_cons_succ, List.getElem_toArray, List.getElem_cons_succ, List.getElem_cons_zero]
                  refine wpAnyH_take (i := 12) (oi := _) (v := v11) rfl (by kernel_rfl) (by kernel_rfl) (by kernel_rfl) (fun _ _ _ h => h) (Or.inl ⟨by rfl, fun w' hSw => ?_⟩) hHeld ?_
                  · clear hSw
                    go_simp
                    try simp [*]
                    try (intro hh; exfalso; omega)
                    try omega
                  try simp only [Act.put, List.setIfInBounds_toArray, List.set_cons_zero, List.set_cons_succ, List.getElem_toArray, List.getElem_cons_succ, List.getElem_cons_zero]
                  refine wpAnyH_done (by kernel_rfl) ?_ _
                  clear hHeld
                  have HOW := Lib.hid (show W11.ownsRow w.heap.size 3 1 v11 (k + 1) (flatN (ordO rk (k + 1))) from by
                    have q := HR11.out
                    rw [show 0 + a + 1 + (0) = k + 1 by omega, show [] ++ flatN (List.take a L) ++ [Value.int .i64 (k : Int)] ++ flatN (List.drop a L) = flatN (ordO rk (k + 1)) from (HIN.out a (by omega) HALLX.out HNOTX.out).symm] at q
                    exact own_base q HBZ.out)
                  go_wp2_with fail
                  go_roundw
                  case rel => exact ⟨k + 1, by omega, by go_num, HOW.out, fun h => by omega, HB.out.trans (HB11.out.mono HBZ.out)⟩
                  case measure => simp [intOf]; omega
    · obtain rfl : n = k := by omega
      go_wp2_with fail
      go_ret
      exact ⟨_, rfl, HR.out, HB.out⟩
end Go.Proofs.YtdohfpnnmppdkaaGreat

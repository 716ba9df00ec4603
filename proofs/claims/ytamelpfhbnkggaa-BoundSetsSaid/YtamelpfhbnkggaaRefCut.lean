/-
  The reference's Cut.
-/
import Derived.Test.YtamelpfhbnkggaaRefCover
import Derived.Deep.RegionHeld3
namespace Go.Proofs.Ytamelpfhbnkggaa
open Go.RowKit Go.Shelf
set_option linter.unusedSimpArgs false
theorem cut_in (A1 A2 : Prop) (al ah bl bh x : Int) : ((A1 ∨ ((al ≤ x ∧ x ≤ ah) ∧ A2)) ∨ (max al bl ≤ x ∧ x ≤ min ah bh)) ↔ (A1 ∨ ((al ≤ x ∧ x ≤ ah) ∧ (A2 ∨ (bl ≤ x ∧ x ≤ bh)))) := by
  constructor
  · rintro ((h | ⟨h1, h2⟩) | h)
    · exact .inl h
    · exact .inr ⟨h1, .inl h2⟩
    · exact .inr ⟨by omega, .inr (by omega)⟩
  · rintro (h | ⟨h1, h2 | h2⟩)
    · exact .inl (.inl h)
    · exact .inl (.inr ⟨h1, h2⟩)
    · exact .inr (by omega)
theorem cut_no (A1 A2 : Prop) (al ah bl bh x : Int) (hn : ¬ max al bl ≤ min ah bh) : (A1 ∨ ((al ≤ x ∧ x ≤ ah) ∧ A2)) ↔ (A1 ∨ ((al ≤ x ∧ x ≤ ah) ∧ (A2 ∨ (bl ≤ x ∧ x ≤ bh)))) := by
  constructor
  · rintro (h | ⟨h1, h2⟩)
    · exact .inl h
    · exact .inr ⟨h1, .inl h2⟩
  · rintro (h | ⟨h1, h2 | h2⟩)
    · exact .inl h
    · exact .inr ⟨h1, h2⟩
    · omega
set_option maxRecDepth 10000 in
set_option maxHeartbeats 8000000 in
theorem rcut_any (sv tv : Value) (s t : List (Int × Int)) (w : World) (hS : Spans w.heap.size w sv s) (hT : Spans w.heap.size w tv t) :
    Calls Try.prog 46 #[sv, tv] w fun e w' => ∃ v, e = .returned (.tuple #[v, .int .i64 (cutE s t)]) ∧ Spans w'.heap.size w' v (cutV s t) ∧ Below w.heap.size w w' := by
  have c1 := fun w' (hb : Below w.heap.size w w') => both_any sv tv s t w' (hS.at hb) (hT.at hb)
  obtain ⟨a1, cap1, rfl, hcS⟩ := hS.slice
  obtain ⟨a2, cap2, rfl, hcT⟩ := hT.slice
  by_cases he : bothE s t = 0
  rotate_left
  · rw [show cutE s t = bothE s t from if_neg he, show cutV s t = [] from if_neg he]
    generalize bothE s t = r at c1 he ⊢
    have hb0 : (r != 0) = true := by simpa using he
    clear hS hT hcS hcT
    generalize s.length = ls at c1
    generalize t.length = lt at c1
    go_enter Try.func46, Try.ntmps46
    go_wp2_with fail
    refine (c1 _ (Below.refl _ _)).mono ?_
    rintro e w1 ⟨rfl, hb⟩
    go_wp2_with fail
    refine (c1 _ hb).mono ?_
    rintro e w2 ⟨rfl, hb2⟩
    go_wp2_with fail
    go_ret2
    exact ⟨_, rfl, .inl ⟨rfl, rfl⟩, hb.trans (hb2.mono hb.size)⟩
  · obtain ⟨es, et⟩ := bothE_zero he
    obtain ⟨hl1, hn1⟩ := setE_zero es
    obtain ⟨hl2, hn2⟩ := setE_zero et
    have EQ1 := Lib.hid (show cutE s t = fewE (cutL s t) from if_pos he)
    have EQ2 := Lib.hid (show cutV s t = fewL (cutL s t) from if_pos he)
    rw [he] at c1
    have HS := Lib.hid hcS
    have HT := Lib.hid hcT
    have HA1 := Lib.hid (fun k hk => hn1.1 _ (gt_mem (zs := s) (k := k) hk))
    have HA2 := Lib.hid (fun k hk => hn2.1 _ (gt_mem (zs := t) (k := k) hk))
    have HK1 := Lib.hid (fun k hk => gt_take s k hk)
    have HK2 := Lib.hid (fun k hk => gt_take t k hk)
    have HG1 := Lib.hid (show ∀ k, s[k]?.getD (0, 0) = gt s k from fun _ => rfl)
    have HG2 := Lib.hid (show ∀ k, t[k]?.getD (0, 0) = gt t k from fun _ => rfl)
    have HT1 := Lib.hid (show s.take s.length = s from List.take_length)
    have HT2 := Lib.hid (show t.take t.length = t from List.take_length)
    clear hS hT hcS hcT he es et hn1 hn2
    generalize cutE s t = uE at *
    generalize cutV s t = uV at *
    generalize s.length = ls at *
    generalize t.length = lt at *
    go_enter Try.func46, Try.ntmps46
    go_wp2_with fail
    refine (c1 _ (Below.refl _ _)).mono ?_
    rintro e w1 ⟨rfl, hb⟩
    clear c1
    go_wp2_with fail
    go_loopw [6, 7] (fun o i wr => ∃ (p : Nat) (l : List (Int × Int)), p ≤ ls ∧ i = .int .i64 p ∧ Nrm l ∧ (∀ x, InL x l ↔ InL x (s.take p) ∧ InL x t) ∧ Spans wr.heap.size wr o l ∧ Below w.heap.size w wr) (fun _ i _ => ls - (intOf i).toNat)
    case atStart => exact ⟨0, [], Nat.zero_le _, rfl, ⟨fun _ h => (by cases h), List.Pairwise.nil⟩, fun x => ⟨fun h => absurd h (inL_nil x), fun h => by rw [List.take_zero] at h; exact h.1⟩, .inl ⟨rfl, rfl⟩, hb⟩
    case round =>
      obtain ⟨p, l, hp, rfl, hln, hlm, hsp, hB⟩ := hrel
      have HLM := Lib.hid hlm
      have HLN := Lib.hid hln
      clear hlm hln
      by_cases hpt : p < ls
      · obtain ⟨b, off, rfl, hbb, c0, c1⟩ := HS.out p hpt
        rw [HG1.out] at c0 c1
        obtain ⟨oa1, oa2, oa3⟩ := HA1.out p hpt
        have HKp := Lib.hid (HK1.out p hpt)
        generalize gt s p = z at c0 c1 oa1 oa2 oa3 HKp
        obtain ⟨al, ah⟩ := z
        dsimp only at c0 c1 oa1 oa2 oa3 HKp
        go_wp2_with fail
        go_loopw [6, 8] (fun o i wr => ∃ (q : Nat) (l : List (Int × Int)), q ≤ lt ∧ i = .int .i64 q ∧ Nrm l ∧ (∀ x, InL x l ↔ (InL x (s.take p) ∧ InL x t) ∨ ((al ≤ x ∧ x ≤ ah) ∧ InL x (t.take q))) ∧ Spans wr.heap.size wr o l ∧ Below w.heap.size w wr) (fun _ i _ => lt - (intOf i).toNat)
        case atStart => exact ⟨0, l, Nat.zero_le _, rfl, HLN.out, fun x => by rw [HLM.out, List.take_zero]; exact ⟨.inl, fun h => h.resolve_right (fun k => inL_nil x k.2)⟩, hsp, hB⟩
        case round =>
          clear hsp hB HLM HLN
          obtain ⟨q, l, hq, rfl, hln, hlm, hsp, hB⟩ := hrel
          have HLM := Lib.hid hlm
          have HLN := Lib.hid hln
          have hlen := nrm_len hln
          clear hlm hln
          by_cases hqt : q < lt
          · obtain ⟨b2, off2, rfl, hbb2, d0, d1⟩ := HT.out q hqt
            rw [HG2.out] at d0 d1
            obtain ⟨ob1, ob2, ob3⟩ := HA2.out q hqt
            have HKq := Lib.hid (HK2.out q hqt)
            generalize gt t q = z at d0 d1 ob1 ob2 ob3 HKq
            obtain ⟨bl, bh⟩ := z
            dsimp only at d0 d1 ob1 ob2 ob3 HKq
            have hsz := hB.size
            have c0' := (hB.cell (p := ⟨b, off + p * 2, none⟩) hbb).trans c0
            have c1' := (hB.cell (p := ⟨b, off + p * 2 + 1, none⟩) hbb).trans c1
            have d0' := (hB.cell (p := ⟨b2, off2 + q * 2, none⟩) hbb2).trans d0
            have d1' := (hB.cell (p := ⟨b2, off2 + q * 2 + 1, none⟩) hbb2).trans d1
            obtain ⟨ao, capo, rfl, -⟩ := hsp.slice
            have keep : ∀ W', Below w.heap.size w W' → W'.cell? ⟨b, off + p * 2, none⟩ = some (.int .i64 al) ∧ W'.cell? ⟨b, off + p * 2 + 1, none⟩ = some (.int .i64 ah) ∧ W'.cell? ⟨b2, off2 + q * 2, none⟩ = some (.int .i64 bl) ∧ W'.cell? ⟨b2, off2 + q * 2 + 1, none⟩ = some (.int .i64 bh) := fun W' h => ⟨(h.cell (p := ⟨b, off + p * 2, none⟩) hbb).trans c0, (h.cell (p := ⟨b, off + p * 2 + 1, none⟩) hbb).trans c1, (h.cell (p := ⟨b2, off2 + q * 2, none⟩) hbb2).trans d0, (h.cell (p := ⟨b2, off2 + q * 2 + 1, none⟩) hbb2).trans d1⟩
            go_wp2_with fail
            refine wp_region_held_drew (S := fun w' => w'.cell? ⟨b, off + p * 2, none⟩ = some (.int .i64 al) ∧ w'.cell? ⟨b, off + p * 2 + 1, none⟩ = some (.int .i64 ah) ∧ w'.cell? ⟨b2, off2 + q * 2, none⟩ = some (.int .i64 bl) ∧ w'.cell? ⟨b2, off2 + q * 2 + 1, none⟩ = some (.int .i64 bh)) (by kernel_rfl) ⟨c0', c1', d0', d1'⟩ (fun hHeld => ?_)
            refine wpAnyH_take (i := 0) (oi := _) (v := .slice (some ⟨b, off, none⟩) ls cap1) rfl (by kernel_rfl) (by kernel_rfl) (by kernel_rfl) (fun _ _ _ h => h) (Or.inl ⟨by rfl, fun w' hSw => ?_⟩) hHeld ?_
            · obtain ⟨s1, s2, s3, s4⟩ := hSw
              go_simp
              try (intro hh; exfalso; omega)
              try omega
            try simp only [Act.put, List.setIfInBounds_toArray, List.set_cons_zero, List.set_cons_succ, List.getElem_toArray, List.getElem_cons_succ, List.getElem_cons_zero]
            refine wpAnyH_take (i := 1) (oi := _) (v := .int .i64 p) rfl (by kernel_rfl) (by kernel_rfl) (by kernel_rfl) (fun _ _ _ h => h) (Or.inl ⟨by rfl, fun w' hSw => ?_⟩) hHeld ?_
            · obtain ⟨s1, s2, s3, s4⟩ := hSw
              go_simp
              try (intro hh; exfalso; omega)
              try omega
            try simp only [Act.put, List.setIfInBounds_toArray, List.set_cons_zero, List.set_cons_succ, List.getElem_toArray, List.getElem_cons_succ, List.getElem_cons_zero]
            refine wpAnyH_take (i := 2) (oi := _) (v := .pointer (some ⟨b, off + p * 2, none⟩)) rfl (by kernel_rfl) (by kernel_rfl) (by kernel_rfl) (fun _ _ _ h => h) (Or.inl ⟨by rfl, fun w' hSw => ?_⟩) hHeld ?_
            · obtain ⟨s1, s2, s3, s4⟩ := hSw
              go_simp
              try (intro hh; exfalso; omega)
              try omega
            try simp only [Act.put, List.setIfInBounds_toArray, List.set_cons_zero, List.set_cons_succ, List.getElem_toArray, List.getElem_cons_succ, List.getElem_cons_zero]
            refine wpAnyH_take (i := 3) (oi := _) (v := .pointer (some ⟨b, off + p * 2, none⟩)) rfl (by kernel_rfl) (by kernel_rfl) (by kernel_rfl) (fun _ _ _ h => h) (Or.inl ⟨by rfl, fun w' hSw => ?_⟩) hHeld ?_
            · obtain ⟨s1, s2, s3, s4⟩ := hSw
              go_simp
              try (intro hh; exfalso; omega)
              try omega
            try simp only [Act.put, List.setIfInBounds_toArray, List.set_cons_zero, List.set_cons_succ, List.getElem_toArray, List.getElem_cons_succ, List.getElem_cons_zero]
            refine wpAnyH_take (i := 4) (oi := _) (v := .int .i64 al) rfl (by kernel_rfl) (by kernel_rfl) (by kernel_rfl) (fun _ _ _ h => h) (Or.inl ⟨by rfl, fun w' hSw => ?_⟩) hHeld ?_
            · obtain ⟨s1, s2, s3, s4⟩ := hSw
              go_simp
              try (intro hh; exfalso; omega)
              try omega
            try simp only [Act.put, List.setIfInBounds_toArray, List.set_cons_zero, List.set_cons_succ, List.getElem_toArray, List.getElem_cons_succ, List.getElem_cons_zero]
            refine wpAnyH_take (i := 5) (oi := _) (v := .slice (some ⟨b2, off2, none⟩) lt cap2) rfl (by kernel_rfl) (by kernel_rfl) (by kernel_rfl) (fun _ _ _ h => h) (Or.inl ⟨by rfl, fun w' hSw => ?_⟩) hHeld ?_
            · obtain ⟨s1, s2, s3, s4⟩ := hSw
              go_simp
              try (intro hh; exfalso; omega)
              try omega
            try simp only [Act.put, List.setIfInBounds_toArray, List.set_cons_zero, List.set_cons_succ, List.getElem_toArray, List.getElem_cons_succ, List.getElem_cons_zero]
            refine wpAnyH_take (i := 6) (oi := _) (v := .int .i64 q) rfl (by kernel_rfl) (by kernel_rfl) (by kernel_rfl) (fun _ _ _ h => h) (Or.inl ⟨by rfl, fun w' hSw => ?_⟩) hHeld ?_
            · obtain ⟨s1, s2, s3, s4⟩ := hSw
              go_simp
              try (intro hh; exfalso; omega)
              try omega
            try simp only [Act.put, List.setIfInBounds_toArray, List.set_cons_zero, List.set_cons_succ, List.getElem_toArray, List.getElem_cons_succ, List.getElem_cons_zero]
            refine wpAnyH_take (i := 7) (oi := _) (v := .pointer (some ⟨b2, off2 + q * 2, none⟩)) rfl (by kernel_rfl) (by kernel_rfl) (by kernel_rfl) (fun _ _ _ h => h) (Or.inl ⟨by rfl, fun w' hSw => ?_⟩) hHeld ?_
            · obtain ⟨s1, s2, s3, s4⟩ := hSw
              go_simp
              try (intro hh; exfalso; omega)
              try omega
            try simp only [Act.put, List.setIfInBounds_toArray, List.set_cons_zero, List.set_cons_succ, List.getElem_toArray, List.getElem_cons_succ, List.getElem_cons_zero]
            refine wpAnyH_take (i := 8) (oi := _) (v := .pointer (some ⟨b2, off2 + q * 2, none⟩)) rfl (by kernel_rfl) (by kernel_rfl) (by kernel_rfl) (fun _ _ _ h => h) (Or.inl ⟨by rfl, fun w' hSw => ?_⟩) hHeld ?_
            · obtain ⟨s1, s2, s3, s4⟩ := hSw
              go_simp
              try (intro hh; exfalso; omega)
              try omega
            try simp only [Act.put, List.setIfInBounds_toArray, List.set_cons_zero, List.set_cons_succ, List.getElem_toArray, List.getElem_cons_succ, List.getElem_cons_zero]
            refine wpAnyH_take (i := 9) (oi := _) (v := .int .i64 bl) rfl (by kernel_rfl) (by kernel_rfl) (by kernel_rfl) (fun _ _ _ h => h) (Or.inl ⟨by rfl, fun w' hSw => ?_⟩) hHeld ?_
            · obtain ⟨s1, s2, s3, s4⟩ := hSw
              go_simp
              try (intro hh; exfalso; omega)
              try omega
            try simp only [Act.put, List.setIfInBounds_toArray, List.set_cons_zero, List.set_cons_succ, List.getElem_toArray, List.getElem_cons_succ, List.getElem_cons_zero]
            refine wpAnyH_take (i := 10) (oi := _) (v := .int .i64 (max al bl)) rfl (by kernel_rfl) (by kernel_rfl) (by kernel_rfl) (fun _ _ _ h => h) (Or.inl ⟨by rfl, fun w' hSw => ?_⟩) hHeld ?_
            · obtain ⟨s1, s2, s3, s4⟩ := hSw
              go_simp
              try (intro hh; exfalso; omega)
              try omega
            try simp only [Act.put, List.setIfInBounds_toArray, List.set_cons_zero, List.set_cons_succ, List.getElem_toArray, List.getElem_cons_succ, List.getElem_cons_zero]
            refine wpAnyH_take (i := 11) (oi := _) (v := .slice (some ⟨b, off, none⟩) ls cap1) rfl (by kernel_rfl) (by kernel_rfl) (by kernel_rfl) (fun _ _ _ h => h) (Or.inl ⟨by rfl, fun w' hSw => ?_⟩) hHeld ?_
            · obtain ⟨s1, s2, s3, s4⟩ := hSw
              go_simp
              try (intro hh; exfalso; omega)
              try omega
            try simp only [Act.put, List.setIfInBounds_toArray, List.set_cons_zero, List.set_cons_succ, List.getElem_toArray, List.getElem_cons_succ, List.getElem_cons_zero]
            refine wpAnyH_take (i := 12) (oi := _) (v := .int .i64 p) rfl (by kernel_rfl) (by kernel_rfl) (by kernel_rfl) (fun _ _ _ h => h) (Or.inl ⟨by rfl, fun w' hSw => ?_⟩) hHeld ?_
            · obtain ⟨s1, s2, s3, s4⟩ := hSw
              go_simp
              try (intro hh; exfalso; omega)
              try omega
            try simp only [Act.put, List.setIfInBounds_toArray, List.set_cons_zero, List.set_cons_succ, List.getElem_toArray, List.getElem_cons_succ, List.getElem_cons_zero]
            refine wpAnyH_take (i := 13) (oi := _) (v := .pointer (some ⟨b, off + p * 2, none⟩)) rfl (by kernel_rfl) (by kernel_rfl) (by kernel_rfl) (fun _ _ _ h => h) (Or.inl ⟨by rfl, fun w' hSw => ?_⟩) hHeld ?_
            · obtain ⟨s1, s2, s3, s4⟩ := hSw
              go_simp
              try (intro hh; exfalso; omega)
              try omega
            try simp only [Act.put, List.setIfInBounds_toArray, List.set_cons_zero, List.set_cons_succ, List.getElem_toArray, List.getElem_cons_succ, List.getElem_cons_zero]
            refine wpAnyH_take (i := 14) (oi := _) (v := .pointer (some ⟨b, off + p * 2 + 1, none⟩)) rfl (by kernel_rfl) (by kernel_rfl) (by kernel_rfl) (fun _ _ _ h => h) (Or.inl ⟨by rfl, fun w' hSw => ?_⟩) hHeld ?_
            · obtain ⟨s1, s2, s3, s4⟩ := hSw
              go_simp
              try (intro hh; exfalso; omega)
              try omega
            try simp only [Act.put, List.setIfInBounds_toArray, List.set_cons_zero, List.set_cons_succ, List.getElem_toArray, List.getElem_cons_succ, List.getElem_cons_zero]
            refine wpAnyH_take (i := 15) (oi := _) (v := .int .i64 ah) rfl (by kernel_rfl) (by kernel_rfl) (by kernel_rfl) (fun _ _ _ h => h) (Or.inl ⟨by rfl, fun w' hSw => ?_⟩) hHeld ?_
            · obtain ⟨s1, s2, s3, s4⟩ := hSw
              go_simp
              try (intro hh; exfalso; omega)
              try omega
            try simp only [Act.put, List.setIfInBounds_toArray, List.set_cons_zero, List.set_cons_succ, List.getElem_toArray, List.getElem_cons_succ, List.getElem_cons_zero]
            refine wpAnyH_take (i := 16) (oi := _) (v := .slice (some ⟨b2, off2, none⟩) lt cap2) rfl (by kernel_rfl) (by kernel_rfl) (by kernel_rfl) (fun _ _ _ h => h) (Or.inl ⟨by rfl, fun w' hSw => ?_⟩) hHeld ?_
            · obtain ⟨s1, s2, s3, s4⟩ := hSw
              go_simp
              try (intro hh; exfalso; omega)
              try omega
            try simp only [Act.put, List.setIfInBounds_toArray, List.set_cons_zero, List.set_cons_succ, List.getElem_toArray, List.getElem_cons_succ, List.getElem_cons_zero]
            refine wpAnyH_take (i := 17) (oi := _) (v := .int .i64 q) rfl (by kernel_rfl) (by kernel_rfl) (by kernel_rfl) (fun _ _ _ h => h) (Or.inl ⟨by rfl, fun w' hSw => ?_⟩) hHeld ?_
            · obtain ⟨s1, s2, s3, s4⟩ := hSw
              go_simp
              try (intro hh; exfalso; omega)
              try omega
            try simp only [Act.put, List.setIfInBounds_toArray, List.set_cons_zero, List.set_cons_succ, List.getElem_toArray, List.getElem_cons_succ, List.getElem_cons_zero]
            refine wpAnyH_take (i := 18) (oi := _) (v := .pointer (some ⟨b2, off2 + q * 2, none⟩)) rfl (by kernel_rfl) (by kernel_rfl) (by kernel_rfl) (fun _ _ _ h => h) (Or.inl ⟨by rfl, fun w' hSw => ?_⟩) hHeld ?_
            · obtain ⟨s1, s2, s3, s4⟩ := hSw
              go_simp
              try (intro hh; exfalso; omega)
              try omega
            try simp only [Act.put, List.setIfInBounds_toArray, List.set_cons_zero, List.set_cons_succ, List.getElem_toArray, List.getElem_cons_succ, List.getElem_cons_zero]
            refine wpAnyH_take (i := 19) (oi := _) (v := .pointer (some ⟨b2, off2 + q * 2 + 1, none⟩)) rfl (by kernel_rfl) (by kernel_rfl) (by kernel_rfl) (fun _ _ _ h => h) (Or.inl ⟨by rfl, fun w' hSw => ?_⟩) hHeld ?_
            · obtain ⟨s1, s2, s3, s4⟩ := hSw
              go_simp
              try (intro hh; exfalso; omega)
              try omega
            try simp only [Act.put, List.setIfInBounds_toArray, List.set_cons_zero, List.set_cons_succ, List.getElem_toArray, List.getElem_cons_succ, List.getElem_cons_zero]
            refine wpAnyH_take (i := 20) (oi := _) (v := .int .i64 bh) rfl (by kernel_rfl) (by kernel_rfl) (by kernel_rfl) (fun _ _ _ h => h) (Or.inl ⟨by rfl, fun w' hSw => ?_⟩) hHeld ?_
            · obtain ⟨s1, s2, s3, s4⟩ := hSw
              go_simp
              try (intro hh; exfalso; omega)
              try omega
            try simp only [Act.put, List.setIfInBounds_toArray, List.set_cons_zero, List.set_cons_succ, List.getElem_toArray, List.getElem_cons_succ, List.getElem_cons_zero]
            refine wpAnyH_take (i := 21) (oi := _) (v := .int .i64 (min ah bh)) rfl (by kernel_rfl) (by kernel_rfl) (by kernel_rfl) (fun _ _ _ h => h) (Or.inl ⟨by rfl, fun w' hSw => ?_⟩) hHeld ?_
            · obtain ⟨s1, s2, s3, s4⟩ := hSw
              go_simp
              try (intro hh; exfalso; omega)
              try omega
            try simp only [Act.put, List.setIfInBounds_toArray, List.set_cons_zero, List.set_cons_succ, List.getElem_toArray, List.getElem_cons_succ, List.getElem_cons_zero]
            refine wpAnyH_take (i := 22) (oi := _) (v := .agg #[.int .i64 (max al bl), .int .i64 (min ah bh)]) rfl (by kernel_rfl) (by kernel_rfl) (by kernel_rfl) (fun _ _ _ h => h) (Or.inl ⟨by rfl, fun w' hSw => ?_⟩) hHeld ?_
            · obtain ⟨s1, s2, s3, s4⟩ := hSw
              go_simp
              try (intro hh; exfalso; omega)
              try omega
            try simp only [Act.put, List.setIfInBounds_toArray, List.set_cons_zero, List.set_cons_succ, List.getElem_toArray, List.getElem_cons_succ, List.getElem_cons_zero]
            refine wpAnyH_ready (rs := [23]) (by kernel_rfl) (by simp) ?_
            refine AllReadyH.cons (o := _) rfl (fun K hK => ?_) AllReadyH.nil
            go_simp
            clear hHeld
            have hBa : Below w.heap.size w (wr.drew.alloc (.cells #[.int .i64 0, .int .i64 0] 23)) := hB.drew.alloc hsz _
            refine hK.out _ _ (keep _ hBa) (fun hHeld => ?_)
            clear hK K
            try simp only [Act.put, List.setIfInBounds_toArray, List.set_cons_zero, List.set_cons_succ, List.getElem_toArray, List.getElem_cons_succ, List.getElem_cons_zero]
            refine wpAnyH_ready (rs := [24]) (by kernel_rfl) (by simp) ?_
            refine AllReadyH.cons (o := _) rfl (fun K hK => ?_) AllReadyH.nil
            have b9 : Boxed2 (wr.alloc (.cells #[.int .i64 (max al bl), .int .i64 (min ah bh)] 23)).drew wr.heap.size 23 (.int .i64 (max al bl)) (.int .i64 (min ah bh)) := Boxed2.new wr 23 _ _
            have hB9 : Below w.heap.size w (wr.alloc (.cells #[.int .i64 (max al bl), .int .i64 (min ah bh)] 23)).drew := (hB.alloc hsz _).drew
            have hBc : Below wr.heap.size wr (wr.alloc (.cells #[.int .i64 (max al bl), .int .i64 (min ah bh)] 23)).drew := ((Below.refl _ wr).alloc (Nat.le_refl _) _).drew
            go_simp
            clear hHeld
            refine hK.out _ _ (keep _ hB9) (fun hHeld => ?_)
            clear hK K
            try simp only [Act.put, List.setIfInBounds_toArray, List.set_cons_zero, List.set_cons_succ, List.getElem_toArray, List.getElem_cons_succ, List.getElem_cons_zero]
            refine wpAnyH_done (by kernel_rfl) ?_ _
            clear hHeld keep
            have hspc := hsp.at hBc
            clear hsp hBc hBa
            generalize (wr.alloc (.cells #[.int .i64 (max al bl), .int .i64 (min ah bh)] 23)).drew = wc at *
            have n0 := b9.c0
            have n1 := b9.c1
            by_cases hne : max al bl ≤ min ah bh
            · have hok : Ok (max al bl, min ah bh) := ⟨by show _ ≤ max al bl; omega, by show min ah bh ≤ _; omega, hne⟩
              have cp := put_any _ l (max al bl) (min ah bh) wc hspc HLN.out hok hlen
              obtain ⟨p1, p2⟩ := putL_spec HLN.out hok
              have HP1 := Lib.hid p1
              have HP2 := Lib.hid p2
              dsimp only at HP1 HP2
              generalize (nset fun n => InL n l ∨ (max al bl ≤ n ∧ n ≤ min ah bh)) = l2 at cp HP1 HP2
              clear hok p1 p2 HA1 HA2 HK1 HK2
              go_wp2_with fail
              refine cp.mono ?_
              rintro e w5 ⟨v, rfl, hsp2, hb5⟩
              go_wp2_with fail
              go_roundw
              case rel => exact ⟨q + 1, l2, by omega, by go_num, HP1.out, fun x => by rw [HP2.out, HLM.out, HKq.out, inL_append, inL_one]; exact cut_in _ _ al ah bl bh x, hsp2, hB9.trans (hb5.mono hB9.size)⟩
              case measure => simp [intOf]; omega
            · have HNE := Lib.hid hne
              go_wp2_with fail
              go_roundw
              case rel => exact ⟨q + 1, l, by omega, by go_num, HLN.out, fun x => by rw [HLM.out, HKq.out, inL_append, inL_one]; exact cut_no _ _ al ah bl bh x HNE.out, hspc, hB9⟩
              case measure => simp [intOf]; omega
          · obtain rfl : q = lt := by omega
            go_wp2_with fail
            go_roundw
            case rel => exact ⟨p + 1, l, by omega, by go_num, HLN.out, fun x => by rw [HLM.out, HT2.out, HKp.out, inL_append, inL_one, or_and_right], hsp, hB⟩
            case measure => simp [intOf]; omega
      · obtain rfl : p = ls := by omega
        have he : cutL s t = l := nset_eq HLN.out fun x => by rw [HLM.out, HT1.out]
        have HE := Lib.hid he
        clear he hpt
        have cm := many_any _ l wr.heap.size wr hsp
        obtain ⟨ao, capo, rfl, -⟩ := hsp.slice
        go_wp2_with fail
        refine cm.mono ?_
        rintro e w5 ⟨v5, rfl, hI5, rfl⟩
        go_wp2_with fail
        go_ret2
        exact ⟨v5, by rw [EQ1.out, HE.out]; rfl, by rw [EQ2.out, HE.out]; exact hI5, hB⟩
end Go.Proofs.Ytamelpfhbnkggaa

/-
  Clock: the walk of ClockTimes.
-/
import Derived.Test.YtcchmjbedppfnaaHtE
import Derived.Test.YtcchmjbedppfnaaLawCtr
namespace Go.Proofs.Ytcchmjbedppfnaa
open Go.RowKit Go.Shelf
set_option linter.unusedSimpArgs false
section
set_option maxRecDepth 100000
set_option maxHeartbeats 8000000
theorem same_any (u v : Value) (rs : List (Int × Int)) (hl : rs.length ≤ 140) (w : World) (hU : Sps w.heap.size w u rs) (hV : Sps w.heap.size w v rs) :
    Calls Try.prog 43 #[u, v] w fun e w' => e = .returned (.bool true) ∧ Below w.heap.size w w' := by
  obtain ⟨r3, cr3, rfl, -, hc3⟩ := hU
  obtain ⟨r4, cr4, rfl, -, hc4⟩ := hV
  have HC3 := Lib.hid hc3
  have HC4 := Lib.hid hc4
  clear hc3 hc4
  generalize rs.length = n at *
  go_enter Try.func43, Try.ntmps43
  go_wp2_with fail
  go_loopw [5] (fun iv wr => ∃ k : Nat, k ≤ n ∧ iv = .int .i64 k ∧ Below w.heap.size w wr) (fun iv _ => n - (intOf iv).toNat)
  case atStart => exact ⟨0, Nat.zero_le _, rfl, Below.refl _ _⟩
  case round =>
    obtain ⟨k, hk, rfl, hB⟩ := hrel
    have HB := Lib.hid hB
    by_cases hlt : k < n
    · have hki : (k : Int) < (n : Int) := by omega
      obtain ⟨b3, off3, hab, hb3, e0, e1⟩ := HC3.out k hlt
      subst hab
      obtain ⟨b4, off4, hab, hb4, d0, d1⟩ := HC4.out k hlt
      subst hab
      have m0 := (hB.cell (p := ⟨b3, off3 + k * 2, none⟩) hb3).trans e0
      have m1 := (hB.cell (p := ⟨b3, off3 + k * 2 + 1, none⟩) hb3).trans e1
      have n0 := (hB.cell (p := ⟨b4, off4 + k * 2, none⟩) hb4).trans d0
      have n1 := (hB.cell (p := ⟨b4, off4 + k * 2 + 1, none⟩) hb4).trans d1
      clear e0 e1 d0 d1 hB
      generalize (sp rs k).1 = s0 at *
      generalize (sp rs k).2 = s1 at *
      go_wp2_with fail
      refine wp_region_held_drew (S := fun w' => w'.cell? ⟨b3, off3 + k * 2, none⟩ = some (.int .i64 s0) ∧ w'.cell? ⟨b3, off3 + k * 2 + 1, none⟩ = some (.int .i64 s1) ∧ w'.cell? ⟨b4, off4 + k * 2, none⟩ = some (.int .i64 s0) ∧ w'.cell? ⟨b4, off4 + k * 2 + 1, none⟩ = some (.int .i64 s1)) (by kernel_rfl) ⟨by simpa [go_sem] using m0, by simpa [go_sem] using m1, by simpa [go_sem] using n0, by simpa [go_sem] using n1⟩ (fun hHeld => ?_)
      refine wpAnyH_take (i := 0) (oi := _) (v := Value.slice (some ⟨b3, off3, none⟩) n cr3) rfl (by kernel_rfl) (by kernel_rfl) (by kernel_rfl) (fun _ _ _ h => h) (Or.inl ⟨by rfl, fun w' hSw => ?_⟩) hHeld ?_
      · obtain ⟨t0, t1, t2, t3⟩ := hSw
        go_simp
        try simp [*]
        try (intro hh; exfalso; omega)
        try omega
      try simp only [Act.put, List.setIfInBounds_toArray, List.set_cons_zero, List.set_cons_succ, List.getElem_toArray, List.getElem_cons_succ, List.getElem_cons_zero]
      refine wpAnyH_take (i := 1) (oi := _) (v := Value.int .i64 (k : Int)) rfl (by kernel_rfl) (by kernel_rfl) (by kernel_rfl) (fun _ _ _ h => h) (Or.inl ⟨by rfl, fun w' hSw => ?_⟩) hHeld ?_
      · obtain ⟨t0, t1, t2, t3⟩ := hSw
        go_simp
        try simp [*]
        try (intro hh; exfalso; omega)
        try omega
      try simp only [Act.put, List.setIfInBounds_toArray, List.set_cons_zero, List.set_cons_succ, List.getElem_toArray, List.getElem_cons_succ, List.getElem_cons_zero]
      refine wpAnyH_take (i := 2) (oi := _) (v := Value.pointer (some ⟨b3, off3 + k * 2, none⟩)) rfl (by kernel_rfl) (by kernel_rfl) (by kernel_rfl) (fun _ _ _ h => h) (Or.inl ⟨by rfl, fun w' hSw => ?_⟩) hHeld ?_
      · obtain ⟨t0, t1, t2, t3⟩ := hSw
        go_simp
        try simp [*]
        try (intro hh; exfalso; omega)
        try omega
      try simp only [Act.put, List.setIfInBounds_toArray, List.set_cons_zero, List.set_cons_succ, List.getElem_toArray, List.getElem_cons_succ, List.getElem_cons_zero]
      refine wpAnyH_take (i := 3) (oi := _) (v := Value.agg #[Value.int .i64 s0, Value.int .i64 s1]) rfl (by kernel_rfl) (by kernel_rfl) (by kernel_rfl) (fun _ _ _ h => h) (Or.inl ⟨by rfl, fun w' hSw => ?_⟩) hHeld ?_
      · obtain ⟨t0, t1, t2, t3⟩ := hSw
        go_simp
        try simp [*]
        try (intro hh; exfalso; omega)
        try omega
      try simp only [Act.put, List.setIfInBounds_toArray, List.set_cons_zero, List.set_cons_succ, List.getElem_toArray, List.getElem_cons_succ, List.getElem_cons_zero]
      refine wpAnyH_take (i := 4) (oi := _) (v := Value.slice (some ⟨b4, off4, none⟩) n cr4) rfl (by kernel_rfl) (by kernel_rfl) (by kernel_rfl) (fun _ _ _ h => h) (Or.inl ⟨by rfl, fun w' hSw => ?_⟩) hHeld ?_
      · obtain ⟨t0, t1, t2, t3⟩ := hSw
        go_simp
        try simp [*]
        try (intro hh; exfalso; omega)
        try omega
      try simp only [Act.put, List.setIfInBounds_toArray, List.set_cons_zero, List.set_cons_succ, List.getElem_toArray, List.getElem_cons_succ, List.getElem_cons_zero]
      refine wpAnyH_take (i := 5) (oi := _) (v := Value.int .i64 (k : Int)) rfl (by kernel_rfl) (by kernel_rfl) (by kernel_rfl) (fun _ _ _ h => h) (Or.inl ⟨by rfl, fun w' hSw => ?_⟩) hHeld ?_
      · obtain ⟨t0, t1, t2, t3⟩ := hSw
        go_simp
        try simp [*]
        try (intro hh; exfalso; omega)
        try omega
      try simp only [Act.put, List.setIfInBounds_toArray, List.set_cons_zero, List.set_cons_succ, List.getElem_toArray, List.getElem_cons_succ, List.getElem_cons_zero]
      refine wpAnyH_take (i := 6) (oi := _) (v := Value.pointer (some ⟨b4, off4 + k * 2, none⟩)) rfl (by kernel_rfl) (by kernel_rfl) (by kernel_rfl) (fun _ _ _ h => h) (Or.inl ⟨by rfl, fun w' hSw => ?_⟩) hHeld ?_
      · obtain ⟨t0, t1, t2, t3⟩ := hSw
        go_simp
        try simp [*]
        try (intro hh; exfalso; omega)
        try omega
      try simp only [Act.put, List.setIfInBounds_toArray, List.set_cons_zero, List.set_cons_succ, List.getElem_toArray, List.getElem_cons_succ, List.getElem_cons_zero]
      refine wpAnyH_take (i := 7) (oi := _) (v := Value.agg #[Value.int .i64 s0, Value.int .i64 s1]) rfl (by kernel_rfl) (by kernel_rfl) (by kernel_rfl) (fun _ _ _ h => h) (Or.inl ⟨by rfl, fun w' hSw => ?_⟩) hHeld ?_
      · obtain ⟨t0, t1, t2, t3⟩ := hSw
        go_simp
        try simp [*]
        try (intro hh; exfalso; omega)
        try omega
      try simp only [Act.put, List.setIfInBounds_toArray, List.set_cons_zero, List.set_cons_succ, List.getElem_toArray, List.getElem_cons_succ, List.getElem_cons_zero]
      refine wpAnyH_take (i := 8) (oi := _) (v := Value.bool false) rfl (by kernel_rfl) (by kernel_rfl) (by kernel_rfl) (fun _ _ _ h => h) (Or.inl ⟨by rfl, fun w' hSw => ?_⟩) hHeld ?_
      · obtain ⟨t0, t1, t2, t3⟩ := hSw
        go_simp
        try simp [*]
        try (intro hh; exfalso; omega)
        try omega
      try simp only [Act.put, List.setIfInBounds_toArray, List.set_cons_zero, List.set_cons_succ, List.getElem_toArray, List.getElem_cons_succ, List.getElem_cons_zero]
      refine wpAnyH_done (by kernel_rfl) ?_ _
      clear hHeld
      go_wp2_with fail
      go_roundw
      case rel => exact ⟨k + 1, by omega, by go_num, by first | exact HB.out.drew | exact HB.out⟩
      case measure => simp [intOf]; omega
    · obtain rfl : k = n := by omega
      clear hB
      go_wp2_with fail
      go_ret
      exact ⟨rfl, HB.out⟩
theorem great_any (lv : Value) (cs : List Cl) (w : World) (hC : Cls w.heap.size w lv cs) :
    Calls Try.prog 36 #[lv] w fun e w' => ∃ b : Bool, e = .returned (.bool b) ∧ Below w.heap.size w w' := by
  obtain ⟨a, cap, rfl, -, hcc⟩ := hC
  have HC := Lib.hid hcc
  clear hcc
  generalize cs.length = len at *
  have HRT := Lib.hid (show ∀ (b : Bool) W, Below w.heap.size w W → (fun (e : Ending) (w' : World) => ∃ b : Bool, e = .returned (.bool b) ∧ Below w.heap.size w w') (.returned (.bool b)) W from fun b W h => ⟨b, rfl, h⟩)
  generalize (fun (e : Ending) (w' : World) => ∃ b : Bool, e = .returned (.bool b) ∧ Below w.heap.size w w') = POST at *
  by_cases h40 : (40 : Int) < (len : Int)
  · have h6 : (6 : Int) < (len : Int) := by omega
    have h32 : ¬ (len : Int) ≤ 32 := by omega
    go_enter Try.func36, Try.ntmps36
    go_wp2_with fail
    exact HRT.out true _ (Below.refl _ _)
  by_cases hmid : (6 : Int) < (len : Int) ∧ (len : Int) ≤ 32
  · obtain ⟨h6, h32⟩ := hmid
    go_enter Try.func36, Try.ntmps36
    go_wp2_with fail
    exact HRT.out true _ (Below.refl _ _)
  have main : Calls Try.prog 36 #[.slice a len cap] w POST := by
    by_cases h6 : (6 : Int) < (len : Int)
    · have h32 : ¬ (len : Int) ≤ 32 := by omega
      go_enter Try.func36, Try.ntmps36
      go_wp2_with fail
      go_loopw [3] (fun iv wr => ∃ k : Nat, k ≤ len ∧ iv = .int .i64 k ∧ Below w.heap.size w wr) (fun iv _ => len - (intOf iv).toNat)
      case atStart => exact ⟨0, Nat.zero_le _, rfl, Below.refl _ _⟩
      case round =>
        obtain ⟨k, hk, rfl, hB⟩ := hrel
        have HB := Lib.hid hB
        by_cases hlt : k < len
        · have hki : (k : Int) < (len : Int) := by omega
          obtain ⟨b, off, s, hab, hb, e0, e1, e2, hx⟩ := HC.out k hlt
          subst hab
          have m0 := (hB.cell (p := ⟨b, off + k * 3, none⟩) hb).trans e0
          have m1 := (hB.cell (p := ⟨b, off + k * 3 + 1, none⟩) hb).trans e1
          have m2 := (hB.cell (p := ⟨b, off + k * 3 + 2, none⟩) hb).trans e2
          have c20 := Lib.hid (long_any (cl cs k).p (cl cs k).r s (cl cs k).xs wr (hx.mono hB hB.size))
          obtain ⟨a5, c5, hs⟩ := hx.form
          subst hs
          clear e0 e1 e2 hx hB
          generalize lngB (cl cs k).xs.length = lb at *
          generalize (cl cs k).p = p at *
          generalize (cl cs k).r = r at *
          generalize (cl cs k).xs.length = n5 at *
          go_wp2_with fail
          refine c20.out.mono ?_
          rintro e w2 ⟨rfl, hb2⟩
          have HB2 := Lib.hid (HB.out.trans (hb2.mono HB.out.size))
          clear hb2
          cases lb
          · go_wp2_with fail
            go_roundw
            case rel => exact ⟨k + 1, by omega, by go_num, HB2.out⟩
            case measure => simp [intOf]; omega
          · go_wp2_with fail
            exact HRT.out true _ HB2.out
        · obtain rfl : k = len := by omega
          clear hB
          go_wp2_with fail
          exact HRT.out false _ HB.out
    · go_enter Try.func36, Try.ntmps36
      go_wp2_with fail
      go_loopw [3] (fun iv wr => ∃ k : Nat, k ≤ len ∧ iv = .int .i64 k ∧ Below w.heap.size w wr) (fun iv _ => len - (intOf iv).toNat)
      case atStart => exact ⟨0, Nat.zero_le _, rfl, Below.refl _ _⟩
      case round =>
        obtain ⟨k, hk, rfl, hB⟩ := hrel
        have HB := Lib.hid hB
        by_cases hlt : k < len
        · have hki : (k : Int) < (len : Int) := by omega
          obtain ⟨b, off, s, hab, hb, e0, e1, e2, hx⟩ := HC.out k hlt
          subst hab
          have m0 := (hB.cell (p := ⟨b, off + k * 3, none⟩) hb).trans e0
          have m1 := (hB.cell (p := ⟨b, off + k * 3 + 1, none⟩) hb).trans e1
          have m2 := (hB.cell (p := ⟨b, off + k * 3 + 2, none⟩) hb).trans e2
          have c20 := Lib.hid (long_any (cl cs k).p (cl cs k).r s (cl cs k).xs wr (hx.mono hB hB.size))
          obtain ⟨a5, c5, hs⟩ := hx.form
          subst hs
          clear e0 e1 e2 hx hB
          generalize lngB (cl cs k).xs.length = lb at *
          generalize (cl cs k).p = p at *
          generalize (cl cs k).r = r at *
          generalize (cl cs k).xs.length = n5 at *
          go_wp2_with fail
          refine c20.out.mono ?_
          rintro e w2 ⟨rfl, hb2⟩
          have HB2 := Lib.hid (HB.out.trans (hb2.mono HB.out.size))
          clear hb2
          cases lb
          · go_wp2_with fail
            go_roundw
            case rel => exact ⟨k + 1, by omega, by go_num, HB2.out⟩
            case measure => simp [intOf]; omega
          · go_wp2_with fail
            exact HRT.out true _ HB2.out
        · obtain rfl : k = len := by omega
          clear hB
          go_wp2_with fail
          exact HRT.out false _ HB.out
  exact main
theorem law_times (lv sv : Value) (cs : List Cl) (ss : List (Int × Int)) (w : World) (hC : Cls w.heap.size w lv cs) (hS : Sps w.heap.size w sv ss) :
    Calls Try.prog 5 #[lv, sv] w fun e w' => e = .returned (.bool true) ∧ Below w.heap.size w w' := by
  have c21 := fun W => works_any W
  have c36 := great_any lv cs w hC
  have c37 := Lib.hid (fun c t W (hb : Below w.heap.size w W) => time37_any lv cs c t W (hC.at hb))
  have c38 := Lib.hid (fun c t W (hb : Below w.heap.size w W) => rtime38_any lv cs c t W (hC.at hb))
  have c39 := Lib.hid (fun W (hb : Below w.heap.size w W) => times_any lv sv cs ss W (hC.at hb) (hS.at hb))
  have c40 := Lib.hid (fun W (hb : Below w.heap.size w W) => rtimes_any lv sv cs ss W (hC.at hb) (hS.at hb))
  have c41 := Lib.hid (fun W (hb : Below w.heap.size w W) => checkHouse_any lv cs W (hC.at hb))
  have c42 := Lib.hid (fun W (hb : Below w.heap.size w W) => rcheckHouse_any lv cs W (hC.at hb))
  have HTL := Lib.hid (show ss.length ≤ 140 → ∀ E : Int, (if E = 0 then tmTo cs ss ss.length else []).length ≤ 140 from fun h E => by
    by_cases q : E = 0
    · rw [if_pos q, tmTo_len]; exact h
    · rw [if_neg q]; exact Nat.zero_le _)
  unfold TmsR at c39 c40
  unfold R3.out at c37 c38
  obtain ⟨a, cap, hlv⟩ := hC.form
  subst hlv
  obtain ⟨a2, cap2, rfl, -, hcc⟩ := hS
  have HS := Lib.hid hcc
  clear hC hcc
  generalize tmsE cs ss = T at *
  generalize entE cs = E0 at *
  generalize cs.length = len at *
  generalize ss.length = n at *
  by_cases h20 : (20 : Int) < (n : Int) ∧ (n : Int) ≤ 128
  · obtain ⟨q1, q2⟩ := h20
    go_enter Try.func5, Try.ntmps5
    go_wp2_with fail
    refine c36.mono ?_
    rintro e w1 ⟨b, rfl, hb⟩
    have HB1 := Lib.hid hb
    clear hb
    cases b
    · go_wp2_with fail
      refine (c21 _).mono ?_
      rintro e wz ⟨rfl, hbz⟩
      have HBZ := Lib.hid (HB1.out.trans (hbz.mono HB1.out.size))
      clear hbz
      go_wp2_with fail
      go_ret
      exact ⟨rfl, HBZ.out⟩
    · go_wp2_with fail
      refine (c21 _).mono ?_
      rintro e wz ⟨rfl, hbz⟩
      have HBZ := Lib.hid (HB1.out.trans (hbz.mono HB1.out.size))
      clear hbz
      go_wp2_with fail
      go_ret
      exact ⟨rfl, HBZ.out⟩
  by_cases h140 : (140 : Int) < (n : Int)
  · have q1 : (20 : Int) < (n : Int) := by omega
    have q2 : ¬ (n : Int) ≤ 128 := by omega
    go_enter Try.func5, Try.ntmps5
    go_wp2_with fail
    refine c36.mono ?_
    rintro e w1 ⟨b, rfl, hb⟩
    have HB1 := Lib.hid hb
    clear hb
    cases b
    · go_wp2_with fail
      refine (c21 _).mono ?_
      rintro e wz ⟨rfl, hbz⟩
      have HBZ := Lib.hid (HB1.out.trans (hbz.mono HB1.out.size))
      clear hbz
      go_wp2_with fail
      go_ret
      exact ⟨rfl, HBZ.out⟩
    · go_wp2_with fail
      refine (c21 _).mono ?_
      rintro e wz ⟨rfl, hbz⟩
      have HBZ := Lib.hid (HB1.out.trans (hbz.mono HB1.out.size))
      clear hbz
      go_wp2_with fail
      go_ret
      exact ⟨rfl, HBZ.out⟩
  go_enter Try.func5, Try.ntmps5
  go_wp2_with fail
  refine c36.mono ?_
  rintro e w1 ⟨b, rfl, hb⟩
  have HB1 := Lib.hid hb
  clear hb
  cases b
  rotate_left
  · go_wp2_with fail
    refine (c21 _).mono ?_
    rintro e wz ⟨rfl, hbz⟩
    have HBZ := Lib.hid (HB1.out.trans (hbz.mono HB1.out.size))
    clear hbz
    go_wp2_with fail
    go_ret
    exact ⟨rfl, HBZ.out⟩
  by_cases q1 : (20 : Int) < (n : Int)
  · have q2 : ¬ (n : Int) ≤ 128 := by omega
    go_wp2_with fail
    go_loopw [5] (fun iv wr => ∃ k : Nat, k ≤ n ∧ k ≤ 20 ∧ iv = .int .i64 k ∧ Below w.heap.size w wr) (fun iv _ => n - (intOf iv).toNat)
    case atStart => exact ⟨0, Nat.zero_le _, by omega, rfl, HB1.out⟩
    case round =>
      obtain ⟨k, hk, hk20, rfl, hB⟩ := hrel
      have HB := Lib.hid hB
      by_cases hlt : k < n ∧ k < 20
      · obtain ⟨hl1, hl2⟩ := hlt
        have hki : (k : Int) < (n : Int) := by omega
        have hk2 : (k : Int) < 20 := by omega
        obtain ⟨b, off, hab, hbl, e0, e1⟩ := HS.out k hl1
        subst hab
        have KS := Lib.hid (show ∀ W, Below w.heap.size w W → W.cell? ⟨b, off + k * 2, none⟩ = some (.int .i64 (sp ss k).1) ∧ W.cell? ⟨b, off + k * 2 + 1, none⟩ = some (.int .i64 (sp ss k).2) from fun W h => ⟨(h.cell (p := ⟨b, off + k * 2, none⟩) hbl).trans e0, (h.cell (p := ⟨b, off + k * 2 + 1, none⟩) hbl).trans e1⟩)
        have HC7 := Lib.hid (fun W hb => c37.out (sp ss k).1 (sp ss k).2 W hb)
        have HC8 := Lib.hid (fun W hb => c38.out (sp ss k).1 (sp ss k).2 W hb)
        clear e0 e1 hB
        generalize timeR cs (sp ss k).1 (sp ss k).2 = q at *
        generalize (sp ss k).1 = s0 at *
        generalize (sp ss k).2 = s1 at *
        obtain ⟨z0, z1, ze⟩ := q
        dsimp only at HC7 HC8
        obtain ⟨m0, m1⟩ := KS.out _ HB.out
        go_wp2_with fail
        refine (HC7.out _ HB.out).mono ?_
        rintro e w2 ⟨rfl, hb2⟩
        have HB2 := Lib.hid (HB.out.trans (hb2.mono HB.out.size))
        clear hb2 m0 m1
        go_upto_region 7 with fail
        obtain ⟨V2, hV2⟩ : ∃ V2, V2 = w2.alloc (.cells #[.int .i64 z0, .int .i64 z1] 23) := ⟨_, rfl⟩
        try rw [← hV2]
        have HB2v := Lib.hid (show Below w.heap.size w V2 by rw [hV2]; exact HB2.out.alloc HB2.out.size _)
        have HX2 := Lib.hid (show Bx2 V2 w2.heap.size (.int .i64 z0) (.int .i64 z1) by rw [hV2]; exact Bx2.new _ _ _)
        clear hV2
        obtain ⟨m0, m1⟩ := KS.out _ HB2v.out
        go_wp2_with fail
        refine (HC8.out _ HB2v.out).mono ?_
        rintro e w3 ⟨rfl, hb3⟩
        have HB3 := Lib.hid (HB2v.out.trans (hb3.mono HB2v.out.size))
        have HX3 := Lib.hid (HX2.out.keep hb3)
        clear hb3 m0 m1
        go_upto_region 8 with fail
        obtain ⟨V3, hV3⟩ : ∃ V3, V3 = w3.alloc (.cells #[.int .i64 z0, .int .i64 z1] 23) := ⟨_, rfl⟩
        try rw [← hV3]
        have hbb : Below w3.heap.size w3 V3 := by rw [hV3]; exact (Below.refl _ _).alloc (Nat.le_refl _) _
        have HB3v := Lib.hid (HB3.out.trans (hbb.mono HB3.out.size))
        have HY3 := Lib.hid (show Bx2 V3 w3.heap.size (.int .i64 z0) (.int .i64 z1) by rw [hV3]; exact Bx2.new _ _ _)
        have HX3v := Lib.hid (HX3.out.keep hbb)
        clear hV3 hbb
        have g0 := HX3v.out.c0
        have g1 := HX3v.out.c1
        have g2 := HY3.out.c0
        have g3 := HY3.out.c1
        go_wp2_with fail
        go_roundw
        case rel => exact ⟨k + 1, by omega, by omega, by go_num, HB3v.out⟩
        case measure => simp [intOf]; omega
      · have HEND := Lib.hid (show True from trivial)
        by_cases hk1 : k < n
        · have hki : (k : Int) < (n : Int) := by omega
          have hk2 : ¬ (k : Int) < 20 := by omega
          clear hB
          go_wp2_with fail
          refine (c39.out _ HB.out).mono ?_
          rintro e w3 ⟨v3, E3, rfl, hE3, hS3, hb⟩
          subst hE3
          have HB3 := Lib.hid (HB.out.trans (hb.mono HB.out.size))
          have HS3 := Lib.hid hS3
          clear hb hS3
          go_wp2_with fail
          refine (c40.out _ HB3.out).mono ?_
          rintro e w4 ⟨v4, E4, rfl, hE4, hS4, hb⟩
          subst hE4
          have HB4 := Lib.hid (HB3.out.trans (hb.mono HB3.out.size))
          have HS4 := Lib.hid hS4
          have HS34 := Lib.hid (HS3.out.at hb)
          clear hb hS4 HS3
          go_wp2_with fail
          refine (c41.out _ HB4.out).mono ?_
          rintro e w5 ⟨rfl, hb⟩
          have HB5 := Lib.hid (HB4.out.trans (hb.mono HB4.out.size))
          have HS5a := Lib.hid (HS34.out.at hb)
          have HS5b := Lib.hid (HS4.out.at hb)
          clear hb
          go_wp2_with fail
          refine (c42.out _ HB5.out).mono ?_
          rintro e w6 ⟨rfl, hb⟩
          have HB6 := Lib.hid (HB5.out.trans (hb.mono HB5.out.size))
          have HC43 := Lib.hid (same_any v3 v4 _ (HTL.out (by omega) _) w6 (HS5a.out.at hb) (HS5b.out.at hb))
          clear hb
          go_wp2_with fail
          refine HC43.out.mono ?_
          rintro e w7 ⟨rfl, hb⟩
          have HB7 := Lib.hid (HB6.out.trans (hb.mono HB6.out.size))
          clear hb
          go_wp2_with fail
          refine (c21 _).mono ?_
          rintro e wz ⟨rfl, hbz⟩
          have HBZ := Lib.hid (HB7.out.trans (hbz.mono HB7.out.size))
          clear hbz
          go_wp2_with fail
          go_ret
          exact ⟨rfl, HBZ.out⟩
        · have hki : ¬ (k : Int) < (n : Int) := by omega
          clear hB
          go_wp2_with fail
          refine (c39.out _ HB.out).mono ?_
          rintro e w3 ⟨v3, E3, rfl, hE3, hS3, hb⟩
          subst hE3
          have HB3 := Lib.hid (HB.out.trans (hb.mono HB.out.size))
          have HS3 := Lib.hid hS3
          clear hb hS3
          go_wp2_with fail
          refine (c40.out _ HB3.out).mono ?_
          rintro e w4 ⟨v4, E4, rfl, hE4, hS4, hb⟩
          subst hE4
          have HB4 := Lib.hid (HB3.out.trans (hb.mono HB3.out.size))
          have HS4 := Lib.hid hS4
          have HS34 := Lib.hid (HS3.out.at hb)
          clear hb hS4 HS3
          go_wp2_with fail
          refine (c41.out _ HB4.out).mono ?_
          rintro e w5 ⟨rfl, hb⟩
          have HB5 := Lib.hid (HB4.out.trans (hb.mono HB4.out.size))
          have HS5a := Lib.hid (HS34.out.at hb)
          have HS5b := Lib.hid (HS4.out.at hb)
          clear hb
          go_wp2_with fail
          refine (c42.out _ HB5.out).mono ?_
          rintro e w6 ⟨rfl, hb⟩
          have HB6 := Lib.hid (HB5.out.trans (hb.mono HB5.out.size))
          have HC43 := Lib.hid (same_any v3 v4 _ (HTL.out (by omega) _) w6 (HS5a.out.at hb) (HS5b.out.at hb))
          clear hb
          go_wp2_with fail
          refine HC43.out.mono ?_
          rintro e w7 ⟨rfl, hb⟩
          have HB7 := Lib.hid (HB6.out.trans (hb.mono HB6.out.size))
          clear hb
          go_wp2_with fail
          refine (c21 _).mono ?_
          rintro e wz ⟨rfl, hbz⟩
          have HBZ := Lib.hid (HB7.out.trans (hbz.mono HB7.out.size))
          clear hbz
          go_wp2_with fail
          go_ret
          exact ⟨rfl, HBZ.out⟩
  · go_wp2_with fail
    go_loopw [5] (fun iv wr => ∃ k : Nat, k ≤ n ∧ k ≤ 20 ∧ iv = .int .i64 k ∧ Below w.heap.size w wr) (fun iv _ => n - (intOf iv).toNat)
    case atStart => exact ⟨0, Nat.zero_le _, by omega, rfl, HB1.out⟩
    case round =>
      obtain ⟨k, hk, hk20, rfl, hB⟩ := hrel
      have HB := Lib.hid hB
      by_cases hlt : k < n ∧ k < 20
      · obtain ⟨hl1, hl2⟩ := hlt
        have hki : (k : Int) < (n : Int) := by omega
        have hk2 : (k : Int) < 20 := by omega
        obtain ⟨b, off, hab, hbl, e0, e1⟩ := HS.out k hl1
        subst hab
        have KS := Lib.hid (show ∀ W, Below w.heap.size w W → W.cell? ⟨b, off + k * 2, none⟩ = some (.int .i64 (sp ss k).1) ∧ W.cell? ⟨b, off + k * 2 + 1, none⟩ = some (.int .i64 (sp ss k).2) from fun W h => ⟨(h.cell (p := ⟨b, off + k * 2, none⟩) hbl).trans e0, (h.cell (p := ⟨b, off + k * 2 + 1, none⟩) hbl).trans e1⟩)
        have HC7 := Lib.hid (fun W hb => c37.out (sp ss k).1 (sp ss k).2 W hb)
        have HC8 := Lib.hid (fun W hb => c38.out (sp ss k).1 (sp ss k).2 W hb)
        clear e0 e1 hB
        generalize timeR cs (sp ss k).1 (sp ss k).2 = q at *
        generalize (sp ss k).1 = s0 at *
        generalize (sp ss k).2 = s1 at *
        obtain ⟨z0, z1, ze⟩ := q
        dsimp only at HC7 HC8
        obtain ⟨m0, m1⟩ := KS.out _ HB.out
        go_wp2_with fail
        refine (HC7.out _ HB.out).mono ?_
        rintro e w2 ⟨rfl, hb2⟩
        have HB2 := Lib.hid (HB.out.trans (hb2.mono HB.out.size))
        clear hb2 m0 m1
        go_upto_region 7 with fail
        obtain ⟨V2, hV2⟩ : ∃ V2, V2 = w2.alloc (.cells #[.int .i64 z0, .int .i64 z1] 23) := ⟨_, rfl⟩
        try rw [← hV2]
        have HB2v := Lib.hid (show Below w.heap.size w V2 by rw [hV2]; exact HB2.out.alloc HB2.out.size _)
        have HX2 := Lib.hid (show Bx2 V2 w2.heap.size (.int .i64 z0) (.int .i64 z1) by rw [hV2]; exact Bx2.new _ _ _)
        clear hV2
        obtain ⟨m0, m1⟩ := KS.out _ HB2v.out
        go_wp2_with fail
        refine (HC8.out _ HB2v.out).mono ?_
        rintro e w3 ⟨rfl, hb3⟩
        have HB3 := Lib.hid (HB2v.out.trans (hb3.mono HB2v.out.size))
        have HX3 := Lib.hid (HX2.out.keep hb3)
        clear hb3 m0 m1
        go_upto_region 8 with fail
        obtain ⟨V3, hV3⟩ : ∃ V3, V3 = w3.alloc (.cells #[.int .i64 z0, .int .i64 z1] 23) := ⟨_, rfl⟩
        try rw [← hV3]
        have hbb : Below w3.heap.size w3 V3 := by rw [hV3]; exact (Below.refl _ _).alloc (Nat.le_refl _) _
        have HB3v := Lib.hid (HB3.out.trans (hbb.mono HB3.out.size))
        have HY3 := Lib.hid (show Bx2 V3 w3.heap.size (.int .i64 z0) (.int .i64 z1) by rw [hV3]; exact Bx2.new _ _ _)
        have HX3v := Lib.hid (HX3.out.keep hbb)
        clear hV3 hbb
        have g0 := HX3v.out.c0
        have g1 := HX3v.out.c1
        have g2 := HY3.out.c0
        have g3 := HY3.out.c1
        go_wp2_with fail
        go_roundw
        case rel => exact ⟨k + 1, by omega, by omega, by go_num, HB3v.out⟩
        case measure => simp [intOf]; omega
      · have HEND := Lib.hid (show True from trivial)
        by_cases hk1 : k < n
        · have hki : (k : Int) < (n : Int) := by omega
          have hk2 : ¬ (k : Int) < 20 := by omega
          clear hB
          go_wp2_with fail
          refine (c39.out _ HB.out).mono ?_
          rintro e w3 ⟨v3, E3, rfl, hE3, hS3, hb⟩
          subst hE3
          have HB3 := Lib.hid (HB.out.trans (hb.mono HB.out.size))
          have HS3 := Lib.hid hS3
          clear hb hS3
          go_wp2_with fail
          refine (c40.out _ HB3.out).mono ?_
          rintro e w4 ⟨v4, E4, rfl, hE4, hS4, hb⟩
          subst hE4
          have HB4 := Lib.hid (HB3.out.trans (hb.mono HB3.out.size))
          have HS4 := Lib.hid hS4
          have HS34 := Lib.hid (HS3.out.at hb)
          clear hb hS4 HS3
          go_wp2_with fail
          refine (c41.out _ HB4.out).mono ?_
          rintro e w5 ⟨rfl, hb⟩
          have HB5 := Lib.hid (HB4.out.trans (hb.mono HB4.out.size))
          have HS5a := Lib.hid (HS34.out.at hb)
          have HS5b := Lib.hid (HS4.out.at hb)
          clear hb
          go_wp2_with fail
          refine (c42.out _ HB5.out).mono ?_
          rintro e w6 ⟨rfl, hb⟩
          have HB6 := Lib.hid (HB5.out.trans (hb.mono HB5.out.size))
          have HC43 := Lib.hid (same_any v3 v4 _ (HTL.out (by omega) _) w6 (HS5a.out.at hb) (HS5b.out.at hb))
          clear hb
          go_wp2_with fail
          refine HC43.out.mono ?_
          rintro e w7 ⟨rfl, hb⟩
          have HB7 := Lib.hid (HB6.out.trans (hb.mono HB6.out.size))
          clear hb
          go_wp2_with fail
          refine (c21 _).mono ?_
          rintro e wz ⟨rfl, hbz⟩
          have HBZ := Lib.hid (HB7.out.trans (hbz.mono HB7.out.size))
          clear hbz
          go_wp2_with fail
          go_ret
          exact ⟨rfl, HBZ.out⟩
        · have hki : ¬ (k : Int) < (n : Int) := by omega
          clear hB
          go_wp2_with fail
          refine (c39.out _ HB.out).mono ?_
          rintro e w3 ⟨v3, E3, rfl, hE3, hS3, hb⟩
          subst hE3
          have HB3 := Lib.hid (HB.out.trans (hb.mono HB.out.size))
          have HS3 := Lib.hid hS3
          clear hb hS3
          go_wp2_with fail
          refine (c40.out _ HB3.out).mono ?_
          rintro e w4 ⟨v4, E4, rfl, hE4, hS4, hb⟩
          subst hE4
          have HB4 := Lib.hid (HB3.out.trans (hb.mono HB3.out.size))
          have HS4 := Lib.hid hS4
          have HS34 := Lib.hid (HS3.out.at hb)
          clear hb hS4 HS3
          go_wp2_with fail
          refine (c41.out _ HB4.out).mono ?_
          rintro e w5 ⟨rfl, hb⟩
          have HB5 := Lib.hid (HB4.out.trans (hb.mono HB4.out.size))
          have HS5a := Lib.hid (HS34.out.at hb)
          have HS5b := Lib.hid (HS4.out.at hb)
          clear hb
          go_wp2_with fail
          refine (c42.out _ HB5.out).mono ?_
          rintro e w6 ⟨rfl, hb⟩
          have HB6 := Lib.hid (HB5.out.trans (hb.mono HB5.out.size))
          have HC43 := Lib.hid (same_any v3 v4 _ (HTL.out (by omega) _) w6 (HS5a.out.at hb) (HS5b.out.at hb))
          clear hb
          go_wp2_with fail
          refine HC43.out.mono ?_
          rintro e w7 ⟨rfl, hb⟩
          have HB7 := Lib.hid (HB6.out.trans (hb.mono HB6.out.size))
          clear hb
          go_wp2_with fail
          refine (c21 _).mono ?_
          rintro e wz ⟨rfl, hbz⟩
          have HBZ := Lib.hid (HB7.out.trans (hbz.mono HB7.out.size))
          clear hbz
          go_wp2_with fail
          go_ret
          exact ⟨rfl, HBZ.out⟩
end
end Go.Proofs.Ytcchmjbedppfnaa

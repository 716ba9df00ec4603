/-
  BoundMembers: the walk.
-/
import Derived.Test.YtamelpfhbnkggaaOpenSpans
import Derived.Test.YtamelpfhbnkggaaSetAny
import Derived.Test.YtamelpfhbnkggaaSetHas
import Derived.Test.YtamelpfhbnkggaaRefCheck
import Derived.Test.YtamelpfhbnkggaaWorks
import Derived.Deep.RegionHeld3
import Derived.Deep.AppendLies
import Derived.Deep.CutRange
namespace Go.Proofs.Ytamelpfhbnkggaa
open Go.RowKit Go.Shelf
set_option linter.unusedSimpArgs false
theorem hasB_eq {zs : List (Int × Int)} {x : Int} {b : Bool} (h : InL x zs ↔ b = true) : hasB zs x = b := Bool.eq_iff_iff.2 ((hasB_iff zs x).trans h)
theorem hasV_ok {zs : List (Int × Int)} (h : setE zs = 0) (x : Int) : hasV zs x = hasB zs x := if_pos h
/-- what the three sets contain -/
structure MemP (s t : List (Int × Int)) (lo hi : Int) : Prop where
  uni : uniE s t = 0 → setE (uniV s t) = 0 ∧ ∀ x, hasV (uniV s t) x = (hasB s x || hasB t x)
  cut : cutE s t = 0 → setE (cutV s t) = 0 ∧ ∀ x, hasV (cutV s t) x = (hasB s x && hasB t x)
  out : outE s lo hi = 0 → setE (outV s lo hi) = 0 ∧ ∀ x, hasV (outV s lo hi) x = (!hasB s x && (decide (lo ≤ x) && decide (x ≤ hi)))
theorem mem_p {s t : List (Int × Int)} (lo hi : Int) (h1 : setE s = 0) (h2 : setE t = 0) : MemP s t lo hi := by
  obtain ⟨l1, n1⟩ := setE_zero h1
  obtain ⟨l2, n2⟩ := setE_zero h2
  obtain ⟨u1, u2⟩ := uni_spec n1 n2
  obtain ⟨c1, c2⟩ := cut_spec (t := t) n1
  have hb := bothE_ok h1 h2
  refine ⟨fun h => ?_, fun h => ?_, fun h => ?_⟩
  · unfold uniE at h
    rw [if_pos hb] at h
    have hl : ¬ 256 < (uniL s t).length := fun k => by rw [few_yes k] at h; exact absurd h (by decide)
    have hu : uniV s t = uniL s t := by unfold uniV; rw [if_pos hb]; exact (few_no hl).2
    have hs := setE_ok hl u1
    rw [hu]
    exact ⟨hs, fun x => by rw [hasV_ok hs]; exact hasB_eq (by rw [u2, Bool.or_eq_true, hasB_iff, hasB_iff])⟩
  · unfold cutE at h
    rw [if_pos hb] at h
    have hl : ¬ 256 < (cutL s t).length := fun k => by rw [few_yes k] at h; exact absurd h (by decide)
    have hu : cutV s t = cutL s t := by unfold cutV; rw [if_pos hb]; exact (few_no hl).2
    have hs := setE_ok hl c1
    rw [hu]
    exact ⟨hs, fun x => by rw [hasV_ok hs]; exact hasB_eq (by rw [c2, Bool.and_eq_true, hasB_iff, hasB_iff])⟩
  · unfold outE at h
    rw [if_pos h1] at h
    by_cases hv : vB lo hi = true
    · rw [if_pos hv] at h
      obtain ⟨o1, o2⟩ := out_spec (s := s) hv
      have hl : ¬ 256 < (outL s lo hi).length := fun k => by rw [few_yes k] at h; exact absurd h (by decide)
      have hu : outV s lo hi = outL s lo hi := by unfold outV; rw [if_pos h1, if_pos hv]; exact (few_no hl).2
      have hs := setE_ok hl o1
      rw [hu]
      exact ⟨hs, fun x => by
        rw [hasV_ok hs]
        refine hasB_eq ?_
        rw [o2, Bool.and_eq_true, Bool.and_eq_true, decide_eq_true_eq, decide_eq_true_eq, Bool.not_eq_true', ← Bool.not_eq_true, hasB_iff]
        exact ⟨fun ⟨a, b, c⟩ => ⟨c, a, b⟩, fun ⟨c, a, b⟩ => ⟨a, b, c⟩⟩⟩
    · rw [if_neg hv] at h
      exact absurd h (by decide)
theorem infoI : (Try.prog.info? 2).map (fun i => (i.zero, i.size, i.bytes)) = some (some (.int .i64 0), 1, 8) := by kernel_rfl
def nums (xs : List Int) : List Value := xs.map (.int .i64 ·)
theorem nums_len (xs : List Int) : (nums xs).length = xs.length := by simp [nums]
theorem four_new (W : World) (a b c d : Value) : ∀ (j : Nat) (u : Value), [a, b, c, d][j]? = some u → (W.alloc (.cells #[a, b, c, d] 2)).cell? ((⟨W.heap.size, 0, none⟩ : Addr).add j) = some u := by
  intro j u hj
  match j, hj with
  | 0, hj => simp at hj; subst hj; simp [Addr.add]
  | 1, hj => simp at hj; subst hj; simp [Addr.add]
  | 2, hj => simp at hj; subst hj; simp [Addr.add]
  | 3, hj => simp at hj; subst hj; simp [Addr.add]
theorem own_one (W : World) (base : Nat) (x : Int) (h : base ≤ W.heap.size) : (W.alloc (.cells #[.int .i64 x] 2)).ownsRow base 2 1 (.slice (some ⟨W.heap.size, 0, none⟩) 1 1) 1 (nums [x]) :=
  ⟨rfl, .inr ⟨_, 1, #[.int .i64 x], rfl, h, World.alloc_heap_new W _, Nat.le_refl _, by unfold maxLen; omega, rfl, rfl⟩⟩
/-- the numbers of a row of the call's own -/
theorem nums_at {W : World} {base : Nat} {v : Value} {xs : List Int} (h : W.ownsRow base 2 1 v xs.length (nums xs)) :
    ∃ a cap, v = .slice a xs.length cap ∧ ∀ j, j < xs.length → ∃ g y, a = some ⟨g, 0, none⟩ ∧ g < W.heap.size ∧ W.cell? ⟨g, j, none⟩ = some (.int .i64 y) := by
  rcases h.2 with ⟨rfl, h0⟩ | ⟨g, cap, cur, rfl, hb, hg, r1, r2, r3, r4⟩
  · exact ⟨none, 0, by rw [h0], fun j hj => by omega⟩
  · refine ⟨_, cap, rfl, fun j hj => ⟨g, xs[j], rfl, (Array.getElem?_eq_some_iff.1 hg).1, ?_⟩⟩
    have e : cur.toList[j]? = some (.int .i64 xs[j]) := by
      have h4 : (cur.toList.take (xs.length * 1))[j]? = (nums xs)[j]? := by rw [r4]
      rw [List.getElem?_take_of_lt (by omega)] at h4
      rw [h4]
      simp [nums, hj]
    simp only [World.cell?, hg]
    simpa using e
theorem neq_b {a : Int} (h : ¬ a = 0) : (a != 0) = true := by simpa using h
theorem eq_b {a : Int} (h : ¬ a = 0) : (a == 0) = false := by simpa using h

set_option maxRecDepth 100000 in
set_option maxHeartbeats 16000000 in
theorem law_members (sv tv : Value) (s t : List (Int × Int)) (lo hi x : Int) (w : World) (hS : Spans w.heap.size w sv s) (hT : Spans w.heap.size w tv t) :
    Calls Try.prog 13 #[sv, tv, .agg #[.int .i64 lo, .int .i64 hi], .int .i64 x] w fun e w' => e = .returned (.bool true) ∧ Below w.heap.size w w' := by
  have cW := fun w => works_any w
  obtain ⟨A, hA⟩ : ∃ A, A = w.alloc (.cells #[.int .i64 lo, .int .i64 hi] 23) := ⟨_, rfl⟩
  have hwA : Below w.heap.size w A := by rw [hA]; exact (Below.refl _ _).alloc (Nat.le_refl _) _
  have hwl : w.heap.size < A.heap.size := by rw [hA]; simp
  have zl0 : A.cell? ⟨w.heap.size, 0, none⟩ = some (.int .i64 lo) := by rw [hA]; exact (Boxed2.new w 23 _ _).c0
  have zl1 : A.cell? ⟨w.heap.size, 1, none⟩ = some (.int .i64 hi) := by rw [hA]; exact (Boxed2.new w 23 _ _).c1
  have hSA := hS.at hwA
  have hTA := hT.at hwA
  clear hS hT
  have r1 := fun w' (hb : Below A.heap.size A w') => rcheckSet_any sv s w' (hSA.at hb)
  have r2 := fun w' (hb : Below A.heap.size A w') => rcheckSet_any tv t w' (hTA.at hb)
  have cU := fun w' (hb : Below A.heap.size A w') => unite_any sv tv s t w' (hSA.at hb) (hTA.at hb)
  have cC := fun w' (hb : Below A.heap.size A w') => cut_any sv tv s t w' (hSA.at hb) (hTA.at hb)
  have cO := fun w' (hb : Below A.heap.size A w') => outside_any sv s lo hi w' (hSA.at hb)
  have k1 := fun y w' (hb : Below A.heap.size A w') => has_any sv s y w' (hSA.at hb)
  have k2 := fun y w' (hb : Below A.heap.size A w') => has_any tv t y w' (hTA.at hb)
  obtain ⟨a1, cap1, rfl, hcS⟩ := hSA.slice
  obtain ⟨a2, cap2, rfl, hcT⟩ := hTA.slice
  have HS := Lib.hid hcS
  have HT := Lib.hid hcT
  clear hSA hTA hcS hcT
  by_cases g1 : 256 < s.length
  · clear HS HT r1 r2 cU cC cO k1 k2
    generalize s.length = n1 at g1
    generalize t.length = n2
    go_enter Try.func13, Try.ntmps13
    go_wp2_with fail
    rw [← hA]
    refine (cW _).mono ?_
    rintro e w1 ⟨rfl, hb⟩
    go_wp2_with fail
    go_ret
    exact ⟨rfl, hwA.trans (hb.mono hwA.size)⟩
  by_cases g2 : 256 < t.length
  · clear HS HT r1 r2 cU cC cO k1 k2
    generalize s.length = n1 at g1
    generalize t.length = n2 at g2
    go_enter Try.func13, Try.ntmps13
    go_wp2_with fail
    rw [← hA]
    refine (cW _).mono ?_
    rintro e w1 ⟨rfl, hb⟩
    go_wp2_with fail
    go_ret
    exact ⟨rfl, hwA.trans (hb.mono hwA.size)⟩
  by_cases e1 : setE s = 0
  rotate_left
  · clear HS HT r2 cU cC cO k1 k2
    generalize setE s = x1 at r1 e1
    have e1b := neq_b e1
    generalize s.length = n1 at r1 g1
    generalize t.length = n2 at g2
    go_enter Try.func13, Try.ntmps13
    go_wp2_with fail
    rw [← hA]
    refine (r1 _ (Below.refl _ _)).mono ?_
    rintro e w1 ⟨rfl, hb⟩
    go_wp2_with fail
    refine (cW _).mono ?_
    rintro e w2 ⟨rfl, hb2⟩
    go_wp2_with fail
    go_ret
    exact ⟨rfl, hwA.trans ((hb.trans (hb2.mono hb.size)).mono hwA.size)⟩
  by_cases e2 : setE t = 0
  rotate_left
  · clear HS HT cU cC cO k1 k2
    rw [e1] at r1
    generalize setE t = x1 at r2 e2
    have e2b := neq_b e2
    generalize s.length = n1 at r1 g1
    generalize t.length = n2 at r2 g2
    go_enter Try.func13, Try.ntmps13
    go_wp2_with fail
    rw [← hA]
    refine (r1 _ (Below.refl _ _)).mono ?_
    rintro e w1 ⟨rfl, hb⟩
    go_wp2_with fail
    refine (r2 _ hb).mono ?_
    rintro e w2 ⟨rfl, hb2⟩
    have hB2 := hb.trans (hb2.mono hb.size)
    go_wp2_with fail
    refine (cW _).mono ?_
    rintro e w3 ⟨rfl, hb3⟩
    go_wp2_with fail
    go_ret
    exact ⟨rfl, hwA.trans ((hB2.trans (hb3.mono hB2.size)).mono hwA.size)⟩
  have MP := mem_p lo hi e1 e2
  have ad1 := Lib.hid (adj_of_nrm (setE_zero e1).2)
  have ad2 := Lib.hid (adj_of_nrm (setE_zero e2).2)
  rw [e1] at r1
  rw [e2] at r2
  simp only [hasV_ok e1, e1] at k1
  simp only [hasV_ok e2, e2] at k2
  obtain ⟨mu, mc, mo⟩ := MP
  have MU := Lib.hid mu
  have MC := Lib.hid mc
  have MO := Lib.hid mo
  clear mu mc mo e1 e2
  generalize uniE s t = uE at *
  generalize cutE s t = cE at *
  generalize outE s lo hi = oE at *
  generalize uniV s t = U at *
  generalize cutV s t = C at *
  generalize outV s lo hi = O at *
  generalize hL1 : s.length = n1 at *
  generalize hL2 : t.length = n2 at *
  have HL1 := Lib.hid hL1
  have HL2 := Lib.hid hL2
  clear hL1 hL2
  obtain ⟨i0, hi0, hz0, hz1, hz2⟩ := info_parts infoI
  go_enter Try.func13, Try.ntmps13
  go_wp2_with fail
  rw [← hA]
  refine (r1 _ (Below.refl _ _)).mono ?_
  rintro e w1 ⟨rfl, hB1⟩
  go_wp2_with fail
  refine (r2 _ hB1).mono ?_
  rintro e w2 ⟨rfl, hb2⟩
  have hB2 := hB1.trans (hb2.mono hB1.size)
  clear r1 r2 hB1 hb2 hA
  have ow := own_one w2 A.heap.size x hB2.size
  have hB3 := hB2.alloc hB2.size (.cells #[.int .i64 x] 2)
  go_wp2_with fail
  go_loopw [9, 10] (fun v i wr => ∃ (k : Nat) (xs : List Int), k ≤ n1 ∧ k ≤ 40 ∧ i = .int .i64 k ∧ xs.length ≤ 4 * k + 1 ∧ wr.ownsRow A.heap.size 2 1 v xs.length (nums xs) ∧ Below A.heap.size A wr)
    (fun _ i _ => n1 - (intOf i).toNat)
  case atStart => exact ⟨0, [x], Nat.zero_le _, Nat.zero_le _, rfl, by simp, ow, hB3⟩
  case round =>
    obtain ⟨k, xs, hk, hk40, rfl, hxl, hrow, hB⟩ := hrel
    have hsz := hB.size
    by_cases hin : k < n1 ∧ k < 40
    · obtain ⟨hlt, h40⟩ := hin
      · obtain ⟨b, off, rfl, hb, c0, c1⟩ := HS.out k hlt
        have c0' := (hB.cell (p := ⟨b, off + k * 2, none⟩) hb).trans c0
        have c1' := (hB.cell (p := ⟨b, off + k * 2 + 1, none⟩) hb).trans c1
        obtain ⟨⟨o1, o2, o3⟩, -⟩ := ad1.out k hlt
        unfold gt at o1 o2 o3
        generalize hzz : s[k]?.getD (0, 0) = z at c0 c1 c0' c1' o1 o2 o3
        clear hzz
        obtain ⟨p1, p2⟩ := z
        dsimp only at c0 c1 c0' c1' o1 o2 o3
        have hWa : IntKind.i64.wrap (p1 - 1) = p1 - 1 := by rw [IntKind.wrap_i64]; omega
        have hWb : IntKind.i64.wrap (p2 + 1) = p2 + 1 := by rw [IntKind.wrap_i64]; omega
        have keep : ∀ W', Below A.heap.size A W' → W'.cell? ⟨b, off + k * 2, none⟩ = some (.int .i64 p1) ∧ W'.cell? ⟨b, off + k * 2 + 1, none⟩ = some (.int .i64 p2) := fun W' h => ⟨(h.cell (p := ⟨b, off + k * 2, none⟩) hb).trans c0, (h.cell (p := ⟨b, off + k * 2 + 1, none⟩) hb).trans c1⟩
        obtain ⟨va, vcap, hve, -⟩ := nums_at hrow
        generalize hvl : xs.length = m at *
        have HVL := Lib.hid hvl
        clear hvl
        subst hve
        go_wp2_with fail
        refine wp_region_held_drew (S := fun w' => w'.cell? ⟨b, off + k * 2, none⟩ = some (.int .i64 p1) ∧ w'.cell? ⟨b, off + k * 2 + 1, none⟩ = some (.int .i64 p2)) (by kernel_rfl) ⟨c0', c1'⟩ (fun hHeld => ?_)
        refine wpAnyH_take (i := 0) (oi := _) (v := .slice va m vcap) rfl (by kernel_rfl) (by kernel_rfl) (by kernel_rfl) (fun _ _ _ h => h) (Or.inl ⟨by rfl, fun w' hSw => ?_⟩) hHeld ?_
        · obtain ⟨s1, s2⟩ := hSw
          go_simp
          try (intro hh; exfalso; omega)
          try omega
        try simp only [Act.put, List.setIfInBounds_toArray, List.set_cons_zero, List.set_cons_succ, List.getElem_toArray, List.getElem_cons_succ, List.getElem_cons_zero]
        refine wpAnyH_take (i := 1) (oi := _) (v := .slice (some ⟨b, off, none⟩) n1 cap1) rfl (by kernel_rfl) (by kernel_rfl) (by kernel_rfl) (fun _ _ _ h => h) (Or.inl ⟨by rfl, fun w' hSw => ?_⟩) hHeld ?_
        · obtain ⟨s1, s2⟩ := hSw
          go_simp
          try (intro hh; exfalso; omega)
          try omega
        try simp only [Act.put, List.setIfInBounds_toArray, List.set_cons_zero, List.set_cons_succ, List.getElem_toArray, List.getElem_cons_succ, List.getElem_cons_zero]
        refine wpAnyH_take (i := 2) (oi := _) (v := .int .i64 k) rfl (by kernel_rfl) (by kernel_rfl) (by kernel_rfl) (fun _ _ _ h => h) (Or.inl ⟨by rfl, fun w' hSw => ?_⟩) hHeld ?_
        · obtain ⟨s1, s2⟩ := hSw
          go_simp
          try (intro hh; exfalso; omega)
          try omega
        try simp only [Act.put, List.setIfInBounds_toArray, List.set_cons_zero, List.set_cons_succ, List.getElem_toArray, List.getElem_cons_succ, List.getElem_cons_zero]
        refine wpAnyH_take (i := 3) (oi := _) (v := .pointer (some ⟨b, off + k * 2, none⟩)) rfl (by kernel_rfl) (by kernel_rfl) (by kernel_rfl) (fun _ _ _ h => h) (Or.inl ⟨by rfl, fun w' hSw => ?_⟩) hHeld ?_
        · obtain ⟨s1, s2⟩ := hSw
          go_simp
          try (intro hh; exfalso; omega)
          try omega
        try simp only [Act.put, List.setIfInBounds_toArray, List.set_cons_zero, List.set_cons_succ, List.getElem_toArray, List.getElem_cons_succ, List.getElem_cons_zero]
        refine wpAnyH_take (i := 4) (oi := _) (v := .pointer (some ⟨b, off + k * 2, none⟩)) rfl (by kernel_rfl) (by kernel_rfl) (by kernel_rfl) (fun _ _ _ h => h) (Or.inl ⟨by rfl, fun w' hSw => ?_⟩) hHeld ?_
        · obtain ⟨s1, s2⟩ := hSw
          go_simp
          try (intro hh; exfalso; omega)
          try omega
        try simp only [Act.put, List.setIfInBounds_toArray, List.set_cons_zero, List.set_cons_succ, List.getElem_toArray, List.getElem_cons_succ, List.getElem_cons_zero]
        refine wpAnyH_take (i := 5) (oi := _) (v := .int .i64 p1) rfl (by kernel_rfl) (by kernel_rfl) (by kernel_rfl) (fun _ _ _ h => h) (Or.inl ⟨by rfl, fun w' hSw => ?_⟩) hHeld ?_
        · obtain ⟨s1, s2⟩ := hSw
          go_simp
          try (intro hh; exfalso; omega)
          try omega
        try simp only [Act.put, List.setIfInBounds_toArray, List.set_cons_zero, List.set_cons_succ, List.getElem_toArray, List.getElem_cons_succ, List.getElem_cons_zero]
        refine wpAnyH_take (i := 6) (oi := _) (v := .int .i64 (p1 - 1)) rfl (by kernel_rfl) (by kernel_rfl) (by kernel_rfl) (fun _ _ _ h => h) (Or.inl ⟨by rfl, fun w' hSw => ?_⟩) hHeld ?_
        · obtain ⟨s1, s2⟩ := hSw
          go_simp
          try (intro hh; exfalso; omega)
          try omega
        try simp only [Act.put, List.setIfInBounds_toArray, List.set_cons_zero, List.set_cons_succ, List.getElem_toArray, List.getElem_cons_succ, List.getElem_cons_zero]
        refine wpAnyH_take (i := 7) (oi := _) (v := .slice (some ⟨b, off, none⟩) n1 cap1) rfl (by kernel_rfl) (by kernel_rfl) (by kernel_rfl) (fun _ _ _ h => h) (Or.inl ⟨by rfl, fun w' hSw => ?_⟩) hHeld ?_
        · obtain ⟨s1, s2⟩ := hSw
          go_simp
          try (intro hh; exfalso; omega)
          try omega
        try simp only [Act.put, List.setIfInBounds_toArray, List.set_cons_zero, List.set_cons_succ, List.getElem_toArray, List.getElem_cons_succ, List.getElem_cons_zero]
        refine wpAnyH_take (i := 8) (oi := _) (v := .int .i64 k) rfl (by kernel_rfl) (by kernel_rfl) (by kernel_rfl) (fun _ _ _ h => h) (Or.inl ⟨by rfl, fun w' hSw => ?_⟩) hHeld ?_
        · obtain ⟨s1, s2⟩ := hSw
          go_simp
          try (intro hh; exfalso; omega)
          try omega
        try simp only [Act.put, List.setIfInBounds_toArray, List.set_cons_zero, List.set_cons_succ, List.getElem_toArray, List.getElem_cons_succ, List.getElem_cons_zero]
        refine wpAnyH_take (i := 9) (oi := _) (v := .pointer (some ⟨b, off + k * 2, none⟩)) rfl (by kernel_rfl) (by kernel_rfl) (by kernel_rfl) (fun _ _ _ h => h) (Or.inl ⟨by rfl, fun w' hSw => ?_⟩) hHeld ?_
        · obtain ⟨s1, s2⟩ := hSw
          go_simp
          try (intro hh; exfalso; omega)
          try omega
        try simp only [Act.put, List.setIfInBounds_toArray, List.set_cons_zero, List.set_cons_succ, List.getElem_toArray, List.getElem_cons_succ, List.getElem_cons_zero]
        refine wpAnyH_take (i := 10) (oi := _) (v := .pointer (some ⟨b, off + k * 2, none⟩)) rfl (by kernel_rfl) (by kernel_rfl) (by kernel_rfl) (fun _ _ _ h => h) (Or.inl ⟨by rfl, fun w' hSw => ?_⟩) hHeld ?_
        · obtain ⟨s1, s2⟩ := hSw
          go_simp
          try (intro hh; exfalso; omega)
          try omega
        try simp only [Act.put, List.setIfInBounds_toArray, List.set_cons_zero, List.set_cons_succ, List.getElem_toArray, List.getElem_cons_succ, List.getElem_cons_zero]
        refine wpAnyH_take (i := 11) (oi := _) (v := .int .i64 p1) rfl (by kernel_rfl) (by kernel_rfl) (by kernel_rfl) (fun _ _ _ h => h) (Or.inl ⟨by rfl, fun w' hSw => ?_⟩) hHeld ?_
        · obtain ⟨s1, s2⟩ := hSw
          go_simp
          try (intro hh; exfalso; omega)
          try omega
        try simp only [Act.put, List.setIfInBounds_toArray, List.set_cons_zero, List.set_cons_succ, List.getElem_toArray, List.getElem_cons_succ, List.getElem_cons_zero]
        refine wpAnyH_take (i := 12) (oi := _) (v := .slice (some ⟨b, off, none⟩) n1 cap1) rfl (by kernel_rfl) (by kernel_rfl) (by kernel_rfl) (fun _ _ _ h => h) (Or.inl ⟨by rfl, fun w' hSw => ?_⟩) hHeld ?_
        · obtain ⟨s1, s2⟩ := hSw
          go_simp
          try (intro hh; exfalso; omega)
          try omega
        try simp only [Act.put, List.setIfInBounds_toArray, List.set_cons_zero, List.set_cons_succ, List.getElem_toArray, List.getElem_cons_succ, List.getElem_cons_zero]
        refine wpAnyH_take (i := 13) (oi := _) (v := .int .i64 k) rfl (by kernel_rfl) (by kernel_rfl) (by kernel_rfl) (fun _ _ _ h => h) (Or.inl ⟨by rfl, fun w' hSw => ?_⟩) hHeld ?_
        · obtain ⟨s1, s2⟩ := hSw
          go_simp
          try (intro hh; exfalso; omega)
          try omega
        try simp only [Act.put, List.setIfInBounds_toArray, List.set_cons_zero, List.set_cons_succ, List.getElem_toArray, List.getElem_cons_succ, List.getElem_cons_zero]
        refine wpAnyH_take (i := 14) (oi := _) (v := .pointer (some ⟨b, off + k * 2, none⟩)) rfl (by kernel_rfl) (by kernel_rfl) (by kernel_rfl) (fun _ _ _ h => h) (Or.inl ⟨by rfl, fun w' hSw => ?_⟩) hHeld ?_
        · obtain ⟨s1, s2⟩ := hSw
          go_simp
          try (intro hh; exfalso; omega)
          try omega
        try simp only [Act.put, List.setIfInBounds_toArray, List.set_cons_zero, List.set_cons_succ, List.getElem_toArray, List.getElem_cons_succ, List.getElem_cons_zero]
        refine wpAnyH_take (i := 15) (oi := _) (v := .pointer (some ⟨b, off + k * 2 + 1, none⟩)) rfl (by kernel_rfl) (by kernel_rfl) (by kernel_rfl) (fun _ _ _ h => h) (Or.inl ⟨by rfl, fun w' hSw => ?_⟩) hHeld ?_
        · obtain ⟨s1, s2⟩ := hSw
          go_simp
          try (intro hh; exfalso; omega)
          try omega
        try simp only [Act.put, List.setIfInBounds_toArray, List.set_cons_zero, List.set_cons_succ, List.getElem_toArray, List.getElem_cons_succ, List.getElem_cons_zero]
        refine wpAnyH_take (i := 16) (oi := _) (v := .int .i64 p2) rfl (by kernel_rfl) (by kernel_rfl) (by kernel_rfl) (fun _ _ _ h => h) (Or.inl ⟨by rfl, fun w' hSw => ?_⟩) hHeld ?_
        · obtain ⟨s1, s2⟩ := hSw
          go_simp
          try (intro hh; exfalso; omega)
          try omega
        try simp only [Act.put, List.setIfInBounds_toArray, List.set_cons_zero, List.set_cons_succ, List.getElem_toArray, List.getElem_cons_succ, List.getElem_cons_zero]
        refine wpAnyH_take (i := 17) (oi := _) (v := .slice (some ⟨b, off, none⟩) n1 cap1) rfl (by kernel_rfl) (by kernel_rfl) (by kernel_rfl) (fun _ _ _ h => h) (Or.inl ⟨by rfl, fun w' hSw => ?_⟩) hHeld ?_
        · obtain ⟨s1, s2⟩ := hSw
          go_simp
          try (intro hh; exfalso; omega)
          try omega
        try simp only [Act.put, List.setIfInBounds_toArray, List.set_cons_zero, List.set_cons_succ, List.getElem_toArray, List.getElem_cons_succ, List.getElem_cons_zero]
        refine wpAnyH_take (i := 18) (oi := _) (v := .int .i64 k) rfl (by kernel_rfl) (by kernel_rfl) (by kernel_rfl) (fun _ _ _ h => h) (Or.inl ⟨by rfl, fun w' hSw => ?_⟩) hHeld ?_
        · obtain ⟨s1, s2⟩ := hSw
          go_simp
          try (intro hh; exfalso; omega)
          try omega
        try simp only [Act.put, List.setIfInBounds_toArray, List.set_cons_zero, List.set_cons_succ, List.getElem_toArray, List.getElem_cons_succ, List.getElem_cons_zero]
        refine wpAnyH_take (i := 19) (oi := _) (v := .pointer (some ⟨b, off + k * 2, none⟩)) rfl (by kernel_rfl) (by kernel_rfl) (by kernel_rfl) (fun _ _ _ h => h) (Or.inl ⟨by rfl, fun w' hSw => ?_⟩) hHeld ?_
        · obtain ⟨s1, s2⟩ := hSw
          go_simp
          try (intro hh; exfalso; omega)
          try omega
        try simp only [Act.put, List.setIfInBounds_toArray, List.set_cons_zero, List.set_cons_succ, List.getElem_toArray, List.getElem_cons_succ, List.getElem_cons_zero]
        refine wpAnyH_take (i := 20) (oi := _) (v := .pointer (some ⟨b, off + k * 2 + 1, none⟩)) rfl (by kernel_rfl) (by kernel_rfl) (by kernel_rfl) (fun _ _ _ h => h) (Or.inl ⟨by rfl, fun w' hSw => ?_⟩) hHeld ?_
        · obtain ⟨s1, s2⟩ := hSw
          go_simp
          try (intro hh; exfalso; omega)
          try omega
        try simp only [Act.put, List.setIfInBounds_toArray, List.set_cons_zero, List.set_cons_succ, List.getElem_toArray, List.getElem_cons_succ, List.getElem_cons_zero]
        refine wpAnyH_take (i := 21) (oi := _) (v := .int .i64 p2) rfl (by kernel_rfl) (by kernel_rfl) (by kernel_rfl) (fun _ _ _ h => h) (Or.inl ⟨by rfl, fun w' hSw => ?_⟩) hHeld ?_
        · obtain ⟨s1, s2⟩ := hSw
          go_simp
          try (intro hh; exfalso; omega)
          try omega
        try simp only [Act.put, List.setIfInBounds_toArray, List.set_cons_zero, List.set_cons_succ, List.getElem_toArray, List.getElem_cons_succ, List.getElem_cons_zero]
        refine wpAnyH_take (i := 22) (oi := _) (v := .int .i64 (p2 + 1)) rfl (by kernel_rfl) (by kernel_rfl) (by kernel_rfl) (fun _ _ _ h => h) (Or.inl ⟨by rfl, fun w' hSw => ?_⟩) hHeld ?_
        · obtain ⟨s1, s2⟩ := hSw
          go_simp
          try (intro hh; exfalso; omega)
          try omega
        try simp only [Act.put, List.setIfInBounds_toArray, List.set_cons_zero, List.set_cons_succ, List.getElem_toArray, List.getElem_cons_succ, List.getElem_cons_zero]
        refine wpAnyH_ready (rs := [23]) (by kernel_rfl) (by simp) ?_
        refine AllReadyH.cons (o := _) rfl (fun K hK => ?_) AllReadyH.nil
        go_simp
        clear hHeld
        refine hK.out _ _ (keep _ (hB.drew.alloc hsz _)) (fun hHeld => ?_)
        clear hK K
        try simp only [Act.put, List.setIfInBounds_toArray, List.set_cons_zero, List.set_cons_succ, List.getElem_toArray, List.getElem_cons_succ, List.getElem_cons_zero]
        refine wpAnyH_ready (rs := [24]) (by kernel_rfl) (by simp) ?_
        refine AllReadyH.cons (o := _) rfl (fun K hK => ?_) AllReadyH.nil
        refine step_append_lies _ rfl _ _ 78 rfl A.heap.size 2 i0 (.int .i64 0) 1 8 Try.underlying78 hi0 hz0 hz1 hz2 rfl (by decide) _ m (nums xs) rfl ((owns_below hrow ((Below.refl _ _).drew)).alloc _) ⟨wr.drew.heap.size, 0, none⟩ 4 4 [.int .i64 (p1 - 1), .int .i64 p1, .int .i64 p2, .int .i64 (p2 + 1)] rfl rfl (four_new _ _ _ _ _) (by simp [Value.oneCell']) (by decide) (by unfold maxLen; omega) (by omega) (by simp; omega) _ rfl ?_
        intro g cap w4 hrow' hgrow _ _
        have hB4 : Below A.heap.size A w4 := (hB.drew.alloc hsz _).grown hgrow (by simp; omega) (fun j hj => (hrow.lt j hj).1)
        clear hHeld
        refine hK.out _ _ (keep _ hB4) (fun hHeld => ?_)
        clear hK K
        try simp only [Act.put, List.setIfInBounds_toArray, List.set_cons_zero, List.set_cons_succ, List.getElem_toArray, List.getElem_cons_succ, List.getElem_cons_zero]
        refine wpAnyH_take (i := 25) (oi := _) (v := .slice (some ⟨g, 0, none⟩) (m + 4) cap) rfl (by kernel_rfl) (by kernel_rfl) (by kernel_rfl) (fun _ _ _ h => h) (Or.inl ⟨by rfl, fun w' hSw => ?_⟩) hHeld ?_
        · obtain ⟨s1, s2⟩ := hSw
          go_simp
          try (intro hh; exfalso; omega)
          try omega
        try simp only [Act.put, List.setIfInBounds_toArray, List.set_cons_zero, List.set_cons_succ, List.getElem_toArray, List.getElem_cons_succ, List.getElem_cons_zero]
        refine wpAnyH_done (by kernel_rfl) ?_ _
        clear hHeld
        go_wp2_with fail
        go_roundw
        case rel => exact ⟨k + 1, xs ++ [p1 - 1, p1, p2, p2 + 1], by omega, by omega, by go_num, by rw [List.length_append, HVL.out]; simp; omega, by rw [List.length_append, HVL.out]; simpa [nums] using hrow', hB4⟩
        case measure => simp [intOf]; omega
    · go_upto_region 5 with fail
      go_cut [57] from 50 to 57 (fun sc wc => sc = Value.bool false ∧ wc = wr)
      case first =>
        by_cases hlt : k < n1
        · have h40 : ¬ k < 40 := fun h => hin ⟨hlt, h⟩
          obtain rfl : k = 40 := by omega
          go_wp2_with fail
          go_meet
          case rel => exact ⟨rfl, rfl⟩
        · obtain rfl : k = n1 := by omega
          go_wp2_with fail
          go_meet
          case rel => exact ⟨rfl, rfl⟩
      case rest =>
        obtain ⟨rfl, rfl⟩ := hcut
        go_wp2_with fail
        clear hin
        go_loopw [9, 11] (fun v i wr => ∃ (k : Nat) (xs : List Int), k ≤ n2 ∧ k ≤ 40 ∧ i = .int .i64 k ∧ xs.length ≤ 4 * k + 161 ∧ wr.ownsRow A.heap.size 2 1 v xs.length (nums xs) ∧ Below A.heap.size A wr)
          (fun _ i _ => n2 - (intOf i).toNat)
        case atStart => exact ⟨0, xs, Nat.zero_le _, Nat.zero_le _, rfl, by omega, hrow, hB⟩
        case round =>
          obtain ⟨k, xs, hk, hk40, rfl, hxl, hrow, hB⟩ := hrel
          have hsz := hB.size
          by_cases hin : k < n2 ∧ k < 40
          · obtain ⟨hlt, h40⟩ := hin
            · obtain ⟨b, off, rfl, hb, c0, c1⟩ := HT.out k hlt
              have c0' := (hB.cell (p := ⟨b, off + k * 2, none⟩) hb).trans c0
              have c1' := (hB.cell (p := ⟨b, off + k * 2 + 1, none⟩) hb).trans c1
              obtain ⟨⟨o1, o2, o3⟩, -⟩ := ad2.out k hlt
              unfold gt at o1 o2 o3
              generalize hzz : t[k]?.getD (0, 0) = z at c0 c1 c0' c1' o1 o2 o3
              clear hzz
              obtain ⟨p1, p2⟩ := z
              dsimp only at c0 c1 c0' c1' o1 o2 o3
              have hWa : IntKind.i64.wrap (p1 - 1) = p1 - 1 := by rw [IntKind.wrap_i64]; omega
              have hWb : IntKind.i64.wrap (p2 + 1) = p2 + 1 := by rw [IntKind.wrap_i64]; omega
              have keep : ∀ W', Below A.heap.size A W' → W'.cell? ⟨b, off + k * 2, none⟩ = some (.int .i64 p1) ∧ W'.cell? ⟨b, off + k * 2 + 1, none⟩ = some (.int .i64 p2) := fun W' h => ⟨(h.cell (p := ⟨b, off + k * 2, none⟩) hb).trans c0, (h.cell (p := ⟨b, off + k * 2 + 1, none⟩) hb).trans c1⟩
              obtain ⟨va, vcap, hve, -⟩ := nums_at hrow
              generalize hvl : xs.length = m at *
              have HVL := Lib.hid hvl
              clear hvl
              subst hve
              go_wp2_with fail
              refine wp_region_held_drew (S := fun w' => w'.cell? ⟨b, off + k * 2, none⟩ = some (.int .i64 p1) ∧ w'.cell? ⟨b, off + k * 2 + 1, none⟩ = some (.int .i64 p2)) (by kernel_rfl) ⟨c0', c1'⟩ (fun hHeld => ?_)
              refine wpAnyH_take (i := 0) (oi := _) (v := .slice va m vcap) rfl (by kernel_rfl) (by kernel_rfl) (by kernel_rfl) (fun _ _ _ h => h) (Or.inl ⟨by rfl, fun w' hSw => ?_⟩) hHeld ?_
              · obtain ⟨s1, s2⟩ := hSw
                go_simp
                try (intro hh; exfalso; omega)
                try omega
              try simp only [Act.put, List.setIfInBounds_toArray, List.set_cons_zero, List.set_cons_succ, List.getElem_toArray, List.getElem_cons_succ, List.getElem_cons_zero]
              refine wpAnyH_take (i := 1) (oi := _) (v := .slice (some ⟨b, off, none⟩) n2 cap2) rfl (by kernel_rfl) (by kernel_rfl) (by kernel_rfl) (fun _ _ _ h => h) (Or.inl ⟨by rfl, fun w' hSw => ?_⟩) hHeld ?_
              · obtain ⟨s1, s2⟩ := hSw
                go_simp
                try (intro hh; exfalso; omega)
                try omega
              try simp only [Act.put, List.setIfInBounds_toArray, List.set_cons_zero, List.set_cons_succ, List.getElem_toArray, List.getElem_cons_succ, List.getElem_cons_zero]
              refine wpAnyH_take (i := 2) (oi := _) (v := .int .i64 k) rfl (by kernel_rfl) (by kernel_rfl) (by kernel_rfl) (fun _ _ _ h => h) (Or.inl ⟨by rfl, fun w' hSw => ?_⟩) hHeld ?_
              · obtain ⟨s1, s2⟩ := hSw
                go_simp
                try (intro hh; exfalso; omega)
                try omega
              try simp only [Act.put, List.setIfInBounds_toArray, List.set_cons_zero, List.set_cons_succ, List.getElem_toArray, List.getElem_cons_succ, List.getElem_cons_zero]
              refine wpAnyH_take (i := 3) (oi := _) (v := .pointer (some ⟨b, off + k * 2, none⟩)) rfl (by kernel_rfl) (by kernel_rfl) (by kernel_rfl) (fun _ _ _ h => h) (Or.inl ⟨by rfl, fun w' hSw => ?_⟩) hHeld ?_
              · obtain ⟨s1, s2⟩ := hSw
                go_simp
                try (intro hh; exfalso; omega)
                try omega
              try simp only [Act.put, List.setIfInBounds_toArray, List.set_cons_zero, List.set_cons_succ, List.getElem_toArray, List.getElem_cons_succ, List.getElem_cons_zero]
              refine wpAnyH_take (i := 4) (oi := _) (v := .pointer (some ⟨b, off + k * 2, none⟩)) rfl (by kernel_rfl) (by kernel_rfl) (by kernel_rfl) (fun _ _ _ h => h) (Or.inl ⟨by rfl, fun w' hSw => ?_⟩) hHeld ?_
              · obtain ⟨s1, s2⟩ := hSw
                go_simp
                try (intro hh; exfalso; omega)
                try omega
              try simp only [Act.put, List.setIfInBounds_toArray, List.set_cons_zero, List.set_cons_succ, List.getElem_toArray, List.getElem_cons_succ, List.getElem_cons_zero]
              refine wpAnyH_take (i := 5) (oi := _) (v := .int .i64 p1) rfl (by kernel_rfl) (by kernel_rfl) (by kernel_rfl) (fun _ _ _ h => h) (Or.inl ⟨by rfl, fun w' hSw => ?_⟩) hHeld ?_
              · obtain ⟨s1, s2⟩ := hSw
                go_simp
                try (intro hh; exfalso; omega)
                try omega
              try simp only [Act.put, List.setIfInBounds_toArray, List.set_cons_zero, List.set_cons_succ, List.getElem_toArray, List.getElem_cons_succ, List.getElem_cons_zero]
              refine wpAnyH_take (i := 6) (oi := _) (v := .int .i64 (p1 - 1)) rfl (by kernel_rfl) (by kernel_rfl) (by kernel_rfl) (fun _ _ _ h => h) (Or.inl ⟨by rfl, fun w' hSw => ?_⟩) hHeld ?_
              · obtain ⟨s1, s2⟩ := hSw
                go_simp
                try (intro hh; exfalso; omega)
                try omega
              try simp only [Act.put, List.setIfInBounds_toArray, List.set_cons_zero, List.set_cons_succ, List.getElem_toArray, List.getElem_cons_succ, List.getElem_cons_zero]
              refine wpAnyH_take (i := 7) (oi := _) (v := .slice (some ⟨b, off, none⟩) n2 cap2) rfl (by kernel_rfl) (by kernel_rfl) (by kernel_rfl) (fun _ _ _ h => h) (Or.inl ⟨by rfl, fun w' hSw => ?_⟩) hHeld ?_
              · obtain ⟨s1, s2⟩ := hSw
                go_simp
                try (intro hh; exfalso; omega)
                try omega
              try simp only [Act.put, List.setIfInBounds_toArray, List.set_cons_zero, List.set_cons_succ, List.getElem_toArray, List.getElem_cons_succ, List.getElem_cons_zero]
              refine wpAnyH_take (i := 8) (oi := _) (v := .int .i64 k) rfl (by kernel_rfl) (by kernel_rfl) (by kernel_rfl) (fun _ _ _ h => h) (Or.inl ⟨by rfl, fun w' hSw => ?_⟩) hHeld ?_
              · obtain ⟨s1, s2⟩ := hSw
                go_simp
                try (intro hh; exfalso; omega)
                try omega
              try simp only [Act.put, List.setIfInBounds_toArray, List.set_cons_zero, List.set_cons_succ, List.getElem_toArray, List.getElem_cons_succ, List.getElem_cons_zero]
              refine wpAnyH_take (i := 9) (oi := _) (v := .pointer (some ⟨b, off + k * 2, none⟩)) rfl (by kernel_rfl) (by kernel_rfl) (by kernel_rfl) (fun _ _ _ h => h) (Or.inl ⟨by rfl, fun w' hSw => ?_⟩) hHeld ?_
              · obtain ⟨s1, s2⟩ := hSw
                go_simp
                try (intro hh; exfalso; omega)
                try omega
              try simp only [Act.put, List.setIfInBounds_toArray, List.set_cons_zero, List.set_cons_succ, List.getElem_toArray, List.getElem_cons_succ, List.getElem_cons_zero]
              refine wpAnyH_take (i := 10) (oi := _) (v := .pointer (some ⟨b, off + k * 2, none⟩)) rfl (by kernel_rfl) (by kernel_rfl) (by kernel_rfl) (fun _ _ _ h => h) (Or.inl ⟨by rfl, fun w' hSw => ?_⟩) hHeld ?_
              · obtain ⟨s1, s2⟩ := hSw
                go_simp
                try (intro hh; exfalso; omega)
                try omega
              try simp only [Act.put, List.setIfInBounds_toArray, List.set_cons_zero, List.set_cons_succ, List.getElem_toArray, List.getElem_cons_succ, List.getElem_cons_zero]
              refine wpAnyH_take (i := 11) (oi := _) (v := .int .i64 p1) rfl (by kernel_rfl) (by kernel_rfl) (by kernel_rfl) (fun _ _ _ h => h) (Or.inl ⟨by rfl, fun w' hSw => ?_⟩) hHeld ?_
              · obtain ⟨s1, s2⟩ := hSw
                go_simp
                try (intro hh; exfalso; omega)
                try omega
              try simp only [Act.put, List.setIfInBounds_toArray, List.set_cons_zero, List.set_cons_succ, List.getElem_toArray, List.getElem_cons_succ, List.getElem_cons_zero]
              refine wpAnyH_take (i := 12) (oi := _) (v := .slice (some ⟨b, off, none⟩) n2 cap2) rfl (by kernel_rfl) (by kernel_rfl) (by kernel_rfl) (fun _ _ _ h => h) (Or.inl ⟨by rfl, fun w' hSw => ?_⟩) hHeld ?_
              · obtain ⟨s1, s2⟩ := hSw
                go_simp
                try (intro hh; exfalso; omega)
                try omega
              try simp only [Act.put, List.setIfInBounds_toArray, List.set_cons_zero, List.set_cons_succ, List.getElem_toArray, List.getElem_cons_succ, List.getElem_cons_zero]
              refine wpAnyH_take (i := 13) (oi := _) (v := .int .i64 k) rfl (by kernel_rfl) (by kernel_rfl) (by kernel_rfl) (fun _ _ _ h => h) (Or.inl ⟨by rfl, fun w' hSw => ?_⟩) hHeld ?_
              · obtain ⟨s1, s2⟩ := hSw
                go_simp
                try (intro hh; exfalso; omega)
                try omega
              try simp only [Act.put, List.setIfInBounds_toArray, List.set_cons_zero, List.set_cons_succ, List.getElem_toArray, List.getElem_cons_succ, List.getElem_cons_zero]
              refine wpAnyH_take (i := 14) (oi := _) (v := .pointer (some ⟨b, off + k * 2, none⟩)) rfl (by kernel_rfl) (by kernel_rfl) (by kernel_rfl) (fun _ _ _ h => h) (Or.inl ⟨by rfl, fun w' hSw => ?_⟩) hHeld ?_
              · obtain ⟨s1, s2⟩ := hSw
                go_simp
                try (intro hh; exfalso; omega)
                try omega
              try simp only [Act.put, List.setIfInBounds_toArray, List.set_cons_zero, List.set_cons_succ, List.getElem_toArray, List.getElem_cons_succ, List.getElem_cons_zero]
              refine wpAnyH_take (i := 15) (oi := _) (v := .pointer (some ⟨b, off + k * 2 + 1, none⟩)) rfl (by kernel_rfl) (by kernel_rfl) (by kernel_rfl) (fun _ _ _ h => h) (Or.inl ⟨by rfl, fun w' hSw => ?_⟩) hHeld ?_
              · obtain ⟨s1, s2⟩ := hSw
                go_simp
                try (intro hh; exfalso; omega)
                try omega
              try simp only [Act.put, List.setIfInBounds_toArray, List.set_cons_zero, List.set_cons_succ, List.getElem_toArray, List.getElem_cons_succ, List.getElem_cons_zero]
              refine wpAnyH_take (i := 16) (oi := _) (v := .int .i64 p2) rfl (by kernel_rfl) (by kernel_rfl) (by kernel_rfl) (fun _ _ _ h => h) (Or.inl ⟨by rfl, fun w' hSw => ?_⟩) hHeld ?_
              · obtain ⟨s1, s2⟩ := hSw
                go_simp
                try (intro hh; exfalso; omega)
                try omega
              try simp only [Act.put, List.setIfInBounds_toArray, List.set_cons_zero, List.set_cons_succ, List.getElem_toArray, List.getElem_cons_succ, List.getElem_cons_zero]
              refine wpAnyH_take (i := 17) (oi := _) (v := .slice (some ⟨b, off, none⟩) n2 cap2) rfl (by kernel_rfl) (by kernel_rfl) (by kernel_rfl) (fun _ _ _ h => h) (Or.inl ⟨by rfl, fun w' hSw => ?_⟩) hHeld ?_
              · obtain ⟨s1, s2⟩ := hSw
                go_simp
                try (intro hh; exfalso; omega)
                try omega
              try simp only [Act.put, List.setIfInBounds_toArray, List.set_cons_zero, List.set_cons_succ, List.getElem_toArray, List.getElem_cons_succ, List.getElem_cons_zero]
              refine wpAnyH_take (i := 18) (oi := _) (v := .int .i64 k) rfl (by kernel_rfl) (by kernel_rfl) (by kernel_rfl) (fun _ _ _ h => h) (Or.inl ⟨by rfl, fun w' hSw => ?_⟩) hHeld ?_
              · obtain ⟨s1, s2⟩ := hSw
                go_simp
                try (intro hh; exfalso; omega)
                try omega
              try simp only [Act.put, List.setIfInBounds_toArray, List.set_cons_zero, List.set_cons_succ, List.getElem_toArray, List.getElem_cons_succ, List.getElem_cons_zero]
              refine wpAnyH_take (i := 19) (oi := _) (v := .pointer (some ⟨b, off + k * 2, none⟩)) rfl (by kernel_rfl) (by kernel_rfl) (by kernel_rfl) (fun _ _ _ h => h) (Or.inl ⟨by rfl, fun w' hSw => ?_⟩) hHeld ?_
              · obtain ⟨s1, s2⟩ := hSw
                go_simp
                try (intro hh; exfalso; omega)
                try omega
              try simp only [Act.put, List.setIfInBounds_toArray, List.set_cons_zero, List.set_cons_succ, List.getElem_toArray, List.getElem_cons_succ, List.getElem_cons_zero]
              refine wpAnyH_take (i := 20) (oi := _) (v := .pointer (some ⟨b, off + k * 2 + 1, none⟩)) rfl (by kernel_rfl) (by kernel_rfl) (by kernel_rfl) (fun _ _ _ h => h) (Or.inl ⟨by rfl, fun w' hSw => ?_⟩) hHeld ?_
              · obtain ⟨s1, s2⟩ := hSw
                go_simp
                try (intro hh; exfalso; omega)
                try omega
              try simp only [Act.put, List.setIfInBounds_toArray, List.set_cons_zero, List.set_cons_succ, List.getElem_toArray, List.getElem_cons_succ, List.getElem_cons_zero]
              refine wpAnyH_take (i := 21) (oi := _) (v := .int .i64 p2) rfl (by kernel_rfl) (by kernel_rfl) (by kernel_rfl) (fun _ _ _ h => h) (Or.inl ⟨by rfl, fun w' hSw => ?_⟩) hHeld ?_
              · obtain ⟨s1, s2⟩ := hSw
                go_simp
                try (intro hh; exfalso; omega)
                try omega
              try simp only [Act.put, List.setIfInBounds_toArray, List.set_cons_zero, List.set_cons_succ, List.getElem_toArray, List.getElem_cons_succ, List.getElem_cons_zero]
              refine wpAnyH_take (i := 22) (oi := _) (v := .int .i64 (p2 + 1)) rfl (by kernel_rfl) (by kernel_rfl) (by kernel_rfl) (fun _ _ _ h => h) (Or.inl ⟨by rfl, fun w' hSw => ?_⟩) hHeld ?_
              · obtain ⟨s1, s2⟩ := hSw
                go_simp
                try (intro hh; exfalso; omega)
                try omega
              try simp only [Act.put, List.setIfInBounds_toArray, List.set_cons_zero, List.set_cons_succ, List.getElem_toArray, List.getElem_cons_succ, List.getElem_cons_zero]
              refine wpAnyH_ready (rs := [23]) (by kernel_rfl) (by simp) ?_
              refine AllReadyH.cons (o := _) rfl (fun K hK => ?_) AllReadyH.nil
              go_simp
              clear hHeld
              refine hK.out _ _ (keep _ (hB.drew.alloc hsz _)) (fun hHeld => ?_)
              clear hK K
              try simp only [Act.put, List.setIfInBounds_toArray, List.set_cons_zero, List.set_cons_succ, List.getElem_toArray, List.getElem_cons_succ, List.getElem_cons_zero]
              refine wpAnyH_ready (rs := [24]) (by kernel_rfl) (by simp) ?_
              refine AllReadyH.cons (o := _) rfl (fun K hK => ?_) AllReadyH.nil
              refine step_append_lies _ rfl _ _ 78 rfl A.heap.size 2 i0 (.int .i64 0) 1 8 Try.underlying78 hi0 hz0 hz1 hz2 rfl (by decide) _ m (nums xs) rfl ((owns_below hrow ((Below.refl _ _).drew)).alloc _) ⟨wr.drew.heap.size, 0, none⟩ 4 4 [.int .i64 (p1 - 1), .int .i64 p1, .int .i64 p2, .int .i64 (p2 + 1)] rfl rfl (four_new _ _ _ _ _) (by simp [Value.oneCell']) (by decide) (by unfold maxLen; omega) (by omega) (by simp; omega) _ rfl ?_
              intro g cap w4 hrow' hgrow _ _
              have hB4 : Below A.heap.size A w4 := (hB.drew.alloc hsz _).grown hgrow (by simp; omega) (fun j hj => (hrow.lt j hj).1)
              clear hHeld
              refine hK.out _ _ (keep _ hB4) (fun hHeld => ?_)
              clear hK K
              try simp only [Act.put, List.setIfInBounds_toArray, List.set_cons_zero, List.set_cons_succ, List.getElem_toArray, List.getElem_cons_succ, List.getElem_cons_zero]
              refine wpAnyH_take (i := 25) (oi := _) (v := .slice (some ⟨g, 0, none⟩) (m + 4) cap) rfl (by kernel_rfl) (by kernel_rfl) (by kernel_rfl) (fun _ _ _ h => h) (Or.inl ⟨by rfl, fun w' hSw => ?_⟩) hHeld ?_
              · obtain ⟨s1, s2⟩ := hSw
                go_simp
                try (intro hh; exfalso; omega)
                try omega
              try simp only [Act.put, List.setIfInBounds_toArray, List.set_cons_zero, List.set_cons_succ, List.getElem_toArray, List.getElem_cons_succ, List.getElem_cons_zero]
              refine wpAnyH_done (by kernel_rfl) ?_ _
              clear hHeld
              go_wp2_with fail
              go_roundw
              case rel => exact ⟨k + 1, xs ++ [p1 - 1, p1, p2, p2 + 1], by omega, by omega, by go_num, by rw [List.length_append, HVL.out]; simp; omega, by rw [List.length_append, HVL.out]; simpa [nums] using hrow', hB4⟩
              case measure => simp [intOf]; omega
          · go_upto_region 9 with fail
            go_cut [92] from 85 to 92 (fun sc wc => sc = Value.bool false ∧ wc = wr)
            case first =>
              by_cases hlt : k < n2
              · have h40 : ¬ k < 40 := fun h => hin ⟨hlt, h⟩
                obtain rfl : k = 40 := by omega
                go_wp2_with fail
                go_meet
                case rel => exact ⟨rfl, rfl⟩
              · obtain rfl : k = n2 := by omega
                go_wp2_with fail
                go_meet
                case rel => exact ⟨rfl, rfl⟩
            case rest =>
              obtain ⟨rfl, rfl⟩ := hcut
              obtain ⟨va, vcap, hve, hnear⟩ := nums_at hrow
              clear hrow
              generalize hvl : xs.length = m at hve hnear hxl
              clear hvl
              subst hve
              have hm400 : m ≤ 400 := by omega
              clear HS HT ad1 ad2 hin hxl HL1 HL2
              go_wp2_with fail
              refine (cU _ hB).mono ?_
              rintro e w3 ⟨uv, rfl, hU, hb3⟩
              have hB3' := hB.trans (hb3.mono hB.size)
              go_wp2_with fail
              refine (cC _ hB3').mono ?_
              rintro e w4 ⟨cv, rfl, hC, hb4⟩
              have hB4 := hB3'.trans (hb4.mono hB3'.size)
              have zl40 := (hB4.cell (p := ⟨w.heap.size, 0, none⟩) hwl).trans zl0
              have zl41 := (hB4.cell (p := ⟨w.heap.size, 1, none⟩) hwl).trans zl1
              go_wp2_with fail
              refine (cO _ hB4).mono ?_
              rintro e w5 ⟨ov, rfl, hO, hb5⟩
              have hB5 := hB4.trans (hb5.mono hB4.size)
              have hU5 := (hU.at hb4).at hb5
              have hC5 := hC.at hb5
              have hnear5 : ∀ j, j < m → ∃ g y, va = some ⟨g, 0, none⟩ ∧ g < w5.heap.size ∧ w5.cell? ⟨g, j, none⟩ = some (.int .i64 y) := fun j hj => by
                obtain ⟨g, y, h1, h2, h3⟩ := hnear j hj
                have s3 := hb3.size
                have s4 := hb4.size
                have s5 := hb5.size
                exact ⟨g, y, h1, by omega, (hb5.cell (p := ⟨g, j, none⟩) (by show g < _; omega)).trans ((hb4.cell (p := ⟨g, j, none⟩) (by show g < _; omega)).trans ((hb3.cell (p := ⟨g, j, none⟩) h2).trans h3))⟩
              have y0 := (hB5.cell (p := ⟨w.heap.size, 0, none⟩) hwl).trans zl0
              have y1 := (hB5.cell (p := ⟨w.heap.size, 1, none⟩) hwl).trans zl1
              have hw5 : w.heap.size < w5.heap.size := by have := hB5.size; omega
              have hfin : Below w.heap.size w w5 := hwA.trans (hB5.mono hwA.size)
              have q1 := fun y w' (hb : Below w5.heap.size w5 w') => k1 y w' (hB5.trans (hb.mono hB5.size))
              have q2 := fun y w' (hb : Below w5.heap.size w5 w') => k2 y w' (hB5.trans (hb.mono hB5.size))
              clear cU cC cO k1 k2 hb3 hb4 hb5 hU hC hnear hB hB3' hB4 hB5 zl40 zl41 zl0 zl1 hwA hwl ow hB3 hB2 hi0 hz0 hz1 hz2
              go_upto_region 15 with fail
              go_cut [162] from 138 to 162 (fun sc wc => sc = Value.bool false ∧ Below w5.heap.size w5 wc)
              case first => as_aux_lemma =>
                by_cases hu : uE = 0
                · by_cases hc : cE = 0
                  · by_cases ho : oE = 0
                    · subst hu
                      have zuE := fun w' (hb : Below w5.heap.size w5 w') => checkSet_any uv U w' (hU5.at hb)
                      rw [(MU.out rfl).1] at zuE
                      subst hc
                      have zcE := fun w' (hb : Below w5.heap.size w5 w') => checkSet_any cv C w' (hC5.at hb)
                      rw [(MC.out rfl).1] at zcE
                      subst ho
                      have zoE := fun w' (hb : Below w5.heap.size w5 w') => checkSet_any ov O w' (hO.at hb)
                      rw [(MO.out rfl).1] at zoE
                      clear MU MC MO hU5 hC5 hO hnear5 y0 y1 hw5 hfin q1 q2
                      have hX := Below.refl w5.heap.size w5
                      go_wp2_with fail
                      refine (zuE _ hX).mono ?_
                      rintro e wx ⟨rfl, hbx⟩
                      replace hX := hX.trans (hbx.mono hX.size)
                      clear hbx
                      go_wp2_with fail
                      refine (zcE _ hX).mono ?_
                      rintro e wx ⟨rfl, hbx⟩
                      replace hX := hX.trans (hbx.mono hX.size)
                      clear hbx
                      go_wp2_with fail
                      refine (zoE _ hX).mono ?_
                      rintro e wx ⟨rfl, hbx⟩
                      replace hX := hX.trans (hbx.mono hX.size)
                      clear hbx
                      go_wp2_with fail
                      go_meet
                      case rel => exact ⟨rfl, hX⟩
                    · subst hu
                      have zuE := fun w' (hb : Below w5.heap.size w5 w') => checkSet_any uv U w' (hU5.at hb)
                      rw [(MU.out rfl).1] at zuE
                      subst hc
                      have zcE := fun w' (hb : Below w5.heap.size w5 w') => checkSet_any cv C w' (hC5.at hb)
                      rw [(MC.out rfl).1] at zcE
                      have noE := eq_b ho
                      clear MU MC MO hU5 hC5 hO hnear5 y0 y1 hw5 hfin q1 q2
                      have hX := Below.refl w5.heap.size w5
                      go_wp2_with fail
                      refine (zuE _ hX).mono ?_
                      rintro e wx ⟨rfl, hbx⟩
                      replace hX := hX.trans (hbx.mono hX.size)
                      clear hbx
                      go_wp2_with fail
                      refine (zcE _ hX).mono ?_
                      rintro e wx ⟨rfl, hbx⟩
                      replace hX := hX.trans (hbx.mono hX.size)
                      clear hbx
                      go_wp2_with fail
                      go_meet
                      case rel => exact ⟨rfl, hX⟩
                  · by_cases ho : oE = 0
                    · subst hu
                      have zuE := fun w' (hb : Below w5.heap.size w5 w') => checkSet_any uv U w' (hU5.at hb)
                      rw [(MU.out rfl).1] at zuE
                      have ncE := eq_b hc
                      subst ho
                      have zoE := fun w' (hb : Below w5.heap.size w5 w') => checkSet_any ov O w' (hO.at hb)
                      rw [(MO.out rfl).1] at zoE
                      clear MU MC MO hU5 hC5 hO hnear5 y0 y1 hw5 hfin q1 q2
                      have hX := Below.refl w5.heap.size w5
                      go_wp2_with fail
                      refine (zuE _ hX).mono ?_
                      rintro e wx ⟨rfl, hbx⟩
                      replace hX := hX.trans (hbx.mono hX.size)
                      clear hbx
                      go_wp2_with fail
                      refine (zoE _ hX).mono ?_
                      rintro e wx ⟨rfl, hbx⟩
                      replace hX := hX.trans (hbx.mono hX.size)
                      clear hbx
                      go_wp2_with fail
                      go_meet
                      case rel => exact ⟨rfl, hX⟩
                    · subst hu
                      have zuE := fun w' (hb : Below w5.heap.size w5 w') => checkSet_any uv U w' (hU5.at hb)
                      rw [(MU.out rfl).1] at zuE
                      have ncE := eq_b hc
                      have noE := eq_b ho
                      clear MU MC MO hU5 hC5 hO hnear5 y0 y1 hw5 hfin q1 q2
                      have hX := Below.refl w5.heap.size w5
                      go_wp2_with fail
                      refine (zuE _ hX).mono ?_
                      rintro e wx ⟨rfl, hbx⟩
                      replace hX := hX.trans (hbx.mono hX.size)
                      clear hbx
                      go_wp2_with fail
                      go_meet
                      case rel => exact ⟨rfl, hX⟩
                · by_cases hc : cE = 0
                  · by_cases ho : oE = 0
                    · have nuE := eq_b hu
                      subst hc
                      have zcE := fun w' (hb : Below w5.heap.size w5 w') => checkSet_any cv C w' (hC5.at hb)
                      rw [(MC.out rfl).1] at zcE
                      subst ho
                      have zoE := fun w' (hb : Below w5.heap.size w5 w') => checkSet_any ov O w' (hO.at hb)
                      rw [(MO.out rfl).1] at zoE
                      clear MU MC MO hU5 hC5 hO hnear5 y0 y1 hw5 hfin q1 q2
                      have hX := Below.refl w5.heap.size w5
                      go_wp2_with fail
                      refine (zcE _ hX).mono ?_
                      rintro e wx ⟨rfl, hbx⟩
                      replace hX := hX.trans (hbx.mono hX.size)
                      clear hbx
                      go_wp2_with fail
                      refine (zoE _ hX).mono ?_
                      rintro e wx ⟨rfl, hbx⟩
                      replace hX := hX.trans (hbx.mono hX.size)
                      clear hbx
                      go_wp2_with fail
                      go_meet
                      case rel => exact ⟨rfl, hX⟩
                    · have nuE := eq_b hu
                      subst hc
                      have zcE := fun w' (hb : Below w5.heap.size w5 w') => checkSet_any cv C w' (hC5.at hb)
                      rw [(MC.out rfl).1] at zcE
                      have noE := eq_b ho
                      clear MU MC MO hU5 hC5 hO hnear5 y0 y1 hw5 hfin q1 q2
                      have hX := Below.refl w5.heap.size w5
                      go_wp2_with fail
                      refine (zcE _ hX).mono ?_
                      rintro e wx ⟨rfl, hbx⟩
                      replace hX := hX.trans (hbx.mono hX.size)
                      clear hbx
                      go_wp2_with fail
                      go_meet
                      case rel => exact ⟨rfl, hX⟩
                  · by_cases ho : oE = 0
                    · have nuE := eq_b hu
                      have ncE := eq_b hc
                      subst ho
                      have zoE := fun w' (hb : Below w5.heap.size w5 w') => checkSet_any ov O w' (hO.at hb)
                      rw [(MO.out rfl).1] at zoE
                      clear MU MC MO hU5 hC5 hO hnear5 y0 y1 hw5 hfin q1 q2
                      have hX := Below.refl w5.heap.size w5
                      go_wp2_with fail
                      refine (zoE _ hX).mono ?_
                      rintro e wx ⟨rfl, hbx⟩
                      replace hX := hX.trans (hbx.mono hX.size)
                      clear hbx
                      go_wp2_with fail
                      go_meet
                      case rel => exact ⟨rfl, hX⟩
                    · have nuE := eq_b hu
                      have ncE := eq_b hc
                      have noE := eq_b ho
                      clear MU MC MO hU5 hC5 hO hnear5 y0 y1 hw5 hfin q1 q2
                      have hX := Below.refl w5.heap.size w5
                      go_wp2_with fail
                      go_meet
                      case rel => exact ⟨rfl, hX⟩
              case rest => as_aux_lemma =>
                obtain ⟨rfl, hB6⟩ := hcut
                go_wp2_with fail
                go_loopw [18] (fun i wr => ∃ k : Nat, k ≤ m ∧ i = .int .i64 k ∧ Below w5.heap.size w5 wr) (fun i _ => m - (intOf i).toNat)
                case atStart => exact ⟨0, Nat.zero_le _, rfl, hB6⟩
                case round =>
                  obtain ⟨k, hk, rfl, hB7⟩ := hrel
                  clear hB6
                  by_cases hlt : k < m
                  · obtain ⟨gb, y, rfl, hg, cy⟩ := hnear5 k hlt
                    have cyr := (hB7.cell (p := ⟨gb, k, none⟩) hg).trans cy
                    have p1 := q1 y
                    have p2 := q2 y
                    have pU := fun w' (hb : Below w5.heap.size w5 w') => has_any uv U y w' (hU5.at hb)
                    have pC := fun w' (hb : Below w5.heap.size w5 w') => has_any cv C y w' (hC5.at hb)
                    have pO := fun w' (hb : Below w5.heap.size w5 w') => has_any ov O y w' (hO.at hb)
                    have MU' := Lib.hid (fun h => (⟨(MU.out h).1, (MU.out h).2 y⟩ : _ ∧ _))
                    have MC' := Lib.hid (fun h => (⟨(MC.out h).1, (MC.out h).2 y⟩ : _ ∧ _))
                    have MO' := Lib.hid (fun h => (⟨(MO.out h).1, (MO.out h).2 y⟩ : _ ∧ _))
                    have pH := fun w => holds_any lo hi y w
                    clear MU MC MO hnear5 q1 q2 hU5 hC5 hO
                    generalize hasB s y = P at *
                    generalize hasB t y = R at *
                    generalize (decide (lo ≤ y) && decide (y ≤ hi)) = D at *
                    generalize hasV U y = bU at *
                    generalize hasV C y = bC at *
                    generalize hasV O y = bO at *
                    generalize setE U = zU at *
                    generalize setE C = zC at *
                    generalize setE O = zO at *
                    go_wp2_with fail
                    refine (p1 _ hB7).mono ?_
                    rintro e v1 ⟨rfl, hb⟩
                    have hC1 := hB7.trans (hb.mono hB7.size)
                    have cy1 := (hC1.cell (p := ⟨gb, k, none⟩) hg).trans cy
                    clear hb cyr p1
                    go_wp2_with fail
                    refine (p2 _ hC1).mono ?_
                    rintro e v2 ⟨rfl, hb⟩
                    have hC2 := hC1.trans (hb.mono hC1.size)
                    have cy2 := (hC2.cell (p := ⟨gb, k, none⟩) hg).trans cy
                    clear hb cy1 p2 hC1
                    by_cases hu : uE = 0
                    · subst hu
                      obtain ⟨rfl, ebU⟩ := MU'.out rfl
                      subst ebU
                      go_wp2_with fail
                      refine (pU _ hC2).mono ?_
                      rintro e v3 ⟨rfl, hb⟩
                      have hC3 := hC2.trans (hb.mono hC2.size)
                      have cy3 := (hC3.cell (p := ⟨gb, k, none⟩) hg).trans cy
                      clear hb cy2
                      go_upto_region 26 with fail
                      go_cut [213] from 204 to 213 (fun sc wc => sc = Value.bool false ∧ Below w5.heap.size w5 wc)
                      case first => as_aux_lemma =>
                        clear pU pC pO pH
                        (try clear MU')
                        (try clear MC')
                        (try clear MO')
                        cases P <;> cases R
                        all_goals
                          go_wp2_with fail
                          go_meet
                          case rel => exact ⟨rfl, hC3⟩
                      case rest => as_aux_lemma =>
                        obtain ⟨rfl, hC4⟩ := hcut
                        have cy4 := (hC4.cell (p := ⟨gb, k, none⟩) hg).trans cy
                        by_cases hc : cE = 0
                        · subst hc
                          obtain ⟨rfl, ebC⟩ := MC'.out rfl
                          subst ebC
                          go_wp2_with fail
                          refine (pC _ hC4).mono ?_
                          rintro e v5 ⟨rfl, hb⟩
                          have hC5 := hC4.trans (hb.mono hC4.size)
                          have cy5 := (hC5.cell (p := ⟨gb, k, none⟩) hg).trans cy
                          clear hb cy4
                          go_upto_region 30 with fail
                          go_cut [234] from 225 to 234 (fun sc wc => sc = Value.bool false ∧ Below w5.heap.size w5 wc)
                          case first => as_aux_lemma =>
                            clear pU pC pO pH
                            (try clear MU')
                            (try clear MC')
                            (try clear MO')
                            cases P <;> cases R
                            all_goals
                              go_wp2_with fail
                              go_meet
                              case rel => exact ⟨rfl, hC5⟩
                          case rest => as_aux_lemma =>
                            obtain ⟨rfl, hC6⟩ := hcut
                            have cy6 := (hC6.cell (p := ⟨gb, k, none⟩) hg).trans cy
                            by_cases ho : oE = 0
                            · subst ho
                              obtain ⟨rfl, ebO⟩ := MO'.out rfl
                              subst ebO
                              go_wp2_with fail
                              refine (pO _ hC6).mono ?_
                              rintro e v7 ⟨rfl, hb⟩
                              have hC7 := hC6.trans (hb.mono hC6.size)
                              have cy7 := (hC7.cell (p := ⟨gb, k, none⟩) hg).trans cy
                              clear hb cy6
                              go_upto_region 34 with fail
                              go_cut [261] from 246 to 261 (fun sc wc => sc = Value.bool false ∧ Below w5.heap.size w5 wc)
                              case first => as_aux_lemma =>
                                clear pU pC pO
                                (try clear MU')
                                (try clear MC')
                                (try clear MO')
                                have x0 := (hC7.cell (p := ⟨w.heap.size, 0, none⟩) hw5).trans y0
                                have x1 := (hC7.cell (p := ⟨w.heap.size, 1, none⟩) hw5).trans y1
                                have keep : ∀ W', Below w5.heap.size w5 W' → W'.cell? ⟨w.heap.size, 0, none⟩ = some (.int .i64 lo) ∧ W'.cell? ⟨w.heap.size, 1, none⟩ = some (.int .i64 hi) ∧ W'.cell? ⟨gb, k, none⟩ = some (.int .i64 y) := fun W' h => ⟨(h.cell (p := ⟨w.heap.size, 0, none⟩) hw5).trans y0, (h.cell (p := ⟨w.heap.size, 1, none⟩) hw5).trans y1, (h.cell (p := ⟨gb, k, none⟩) hg).trans cy⟩
                                have hDD : (D != D) = false := by cases D <;> rfl
                                cases P
                                · simp only [Bool.not_false, Bool.true_and]
                                  refine wp_region_held_drew (S := fun w' => w'.cell? ⟨w.heap.size, 0, none⟩ = some (.int .i64 lo) ∧ w'.cell? ⟨w.heap.size, 1, none⟩ = some (.int .i64 hi) ∧ w'.cell? ⟨gb, k, none⟩ = some (.int .i64 y)) (by kernel_rfl) ⟨x0, x1, cy7⟩ (fun hHeld => ?_)
                                  refine wpAnyH_take (i := 0) (oi := _) (v := .int .i64 0) rfl (by kernel_rfl) (by kernel_rfl) (by kernel_rfl) (fun _ _ _ h => h) (Or.inl ⟨by rfl, fun w' hSw => ?_⟩) hHeld ?_
                                  · obtain ⟨s1, s2, s3⟩ := hSw
                                    go_simp
                                    try (intro hh; exfalso; omega)
                                    try omega
                                  try simp only [Act.put, List.setIfInBounds_toArray, List.set_cons_zero, List.set_cons_succ, List.getElem_toArray, List.getElem_cons_succ, List.getElem_cons_zero]
                                  refine wpAnyH_take (i := 1) (oi := _) (v := .bool false) rfl (by kernel_rfl) (by kernel_rfl) (by kernel_rfl) (fun _ _ _ h => h) (Or.inl ⟨by rfl, fun w' hSw => ?_⟩) hHeld ?_
                                  · obtain ⟨s1, s2, s3⟩ := hSw
                                    go_simp
                                    try (intro hh; exfalso; omega)
                                    try omega
                                  try simp only [Act.put, List.setIfInBounds_toArray, List.set_cons_zero, List.set_cons_succ, List.getElem_toArray, List.getElem_cons_succ, List.getElem_cons_zero]
                                  refine wpAnyH_take (i := 2) (oi := _) (v := .bool false) rfl (by kernel_rfl) (by kernel_rfl) (by kernel_rfl) (fun _ _ _ h => h) (Or.inl ⟨by rfl, fun w' hSw => ?_⟩) hHeld ?_
                                  · obtain ⟨s1, s2, s3⟩ := hSw
                                    go_simp
                                    try (intro hh; exfalso; omega)
                                    try omega
                                  try simp only [Act.put, List.setIfInBounds_toArray, List.set_cons_zero, List.set_cons_succ, List.getElem_toArray, List.getElem_cons_succ, List.getElem_cons_zero]
                                  refine wpAnyH_take (i := 3) (oi := _) (v := .bool D) rfl (by kernel_rfl) (by kernel_rfl) (by kernel_rfl) (fun _ _ _ h => h) (Or.inl ⟨by rfl, fun w' hSw => ?_⟩) hHeld ?_
                                  · obtain ⟨s1, s2, s3⟩ := hSw
                                    go_simp
                                    try (intro hh; exfalso; omega)
                                    try omega
                                  try simp only [Act.put, List.setIfInBounds_toArray, List.set_cons_zero, List.set_cons_succ, List.getElem_toArray, List.getElem_cons_succ, List.getElem_cons_zero]
                                  refine wpAnyH_take (i := 4) (oi := _) (v := .bool false) rfl (by kernel_rfl) (by kernel_rfl) (by kernel_rfl) (fun _ _ _ h => h) (Or.inl ⟨by rfl, fun w' hSw => ?_⟩) hHeld ?_
                                  · obtain ⟨s1, s2, s3⟩ := hSw
                                    go_simp
                                    try (intro hh; exfalso; omega)
                                    try omega
                                  try simp only [Act.put, List.setIfInBounds_toArray, List.set_cons_zero, List.set_cons_succ, List.getElem_toArray, List.getElem_cons_succ, List.getElem_cons_zero]
                                  refine wpAnyH_take (i := 5) (oi := _) (v := .bool true) rfl (by kernel_rfl) (by kernel_rfl) (by kernel_rfl) (fun _ _ _ h => h) (Or.inl ⟨by rfl, fun w' hSw => ?_⟩) hHeld ?_
                                  · obtain ⟨s1, s2, s3⟩ := hSw
                                    go_simp
                                    try (intro hh; exfalso; omega)
                                    try omega
                                  try simp only [Act.put, List.setIfInBounds_toArray, List.set_cons_zero, List.set_cons_succ, List.getElem_toArray, List.getElem_cons_succ, List.getElem_cons_zero]
                                  refine wpAnyH_take (i := 6) (oi := _) (v := .bool true) rfl (by kernel_rfl) (by kernel_rfl) (by kernel_rfl) (fun _ _ _ h => h) (Or.inl ⟨by rfl, fun w' hSw => ?_⟩) hHeld ?_
                                  · obtain ⟨s1, s2, s3⟩ := hSw
                                    go_simp
                                    try (intro hh; exfalso; omega)
                                    try omega
                                  try simp only [Act.put, List.setIfInBounds_toArray, List.set_cons_zero, List.set_cons_succ, List.getElem_toArray, List.getElem_cons_succ, List.getElem_cons_zero]
                                  refine wpAnyH_take (i := 7) (oi := _) (v := .agg #[.int .i64 lo, .int .i64 hi]) rfl (by kernel_rfl) (by kernel_rfl) (by kernel_rfl) (fun _ _ _ h => h) (Or.inl ⟨by rfl, fun w' hSw => ?_⟩) hHeld ?_
                                  · obtain ⟨s1, s2, s3⟩ := hSw
                                    go_simp
                                    try (intro hh; exfalso; omega)
                                    try omega
                                  try simp only [Act.put, List.setIfInBounds_toArray, List.set_cons_zero, List.set_cons_succ, List.getElem_toArray, List.getElem_cons_succ, List.getElem_cons_zero]
                                  refine wpAnyH_take (i := 8) (oi := _) (v := .slice (some ⟨gb, 0, none⟩) m vcap) rfl (by kernel_rfl) (by kernel_rfl) (by kernel_rfl) (fun _ _ _ h => h) (Or.inl ⟨by rfl, fun w' hSw => ?_⟩) hHeld ?_
                                  · obtain ⟨s1, s2, s3⟩ := hSw
                                    go_simp
                                    try (intro hh; exfalso; omega)
                                    try omega
                                  try simp only [Act.put, List.setIfInBounds_toArray, List.set_cons_zero, List.set_cons_succ, List.getElem_toArray, List.getElem_cons_succ, List.getElem_cons_zero]
                                  refine wpAnyH_take (i := 9) (oi := _) (v := .int .i64 k) rfl (by kernel_rfl) (by kernel_rfl) (by kernel_rfl) (fun _ _ _ h => h) (Or.inl ⟨by rfl, fun w' hSw => ?_⟩) hHeld ?_
                                  · obtain ⟨s1, s2, s3⟩ := hSw
                                    go_simp
                                    try (intro hh; exfalso; omega)
                                    try omega
                                  try simp only [Act.put, List.setIfInBounds_toArray, List.set_cons_zero, List.set_cons_succ, List.getElem_toArray, List.getElem_cons_succ, List.getElem_cons_zero]
                                  refine wpAnyH_take (i := 10) (oi := _) (v := .pointer (some ⟨gb, k, none⟩)) rfl (by kernel_rfl) (by kernel_rfl) (by kernel_rfl) (fun _ _ _ h => h) (Or.inl ⟨by rfl, fun w' hSw => ?_⟩) hHeld ?_
                                  · obtain ⟨s1, s2, s3⟩ := hSw
                                    go_simp
                                    try (intro hh; exfalso; omega)
                                    try omega
                                  try simp only [Act.put, List.setIfInBounds_toArray, List.set_cons_zero, List.set_cons_succ, List.getElem_toArray, List.getElem_cons_succ, List.getElem_cons_zero]
                                  refine wpAnyH_take (i := 11) (oi := _) (v := .int .i64 y) rfl (by kernel_rfl) (by kernel_rfl) (by kernel_rfl) (fun _ _ _ h => h) (Or.inl ⟨by rfl, fun w' hSw => ?_⟩) hHeld ?_
                                  · obtain ⟨s1, s2, s3⟩ := hSw
                                    go_simp
                                    try (intro hh; exfalso; omega)
                                    try omega
                                  try simp only [Act.put, List.setIfInBounds_toArray, List.set_cons_zero, List.set_cons_succ, List.getElem_toArray, List.getElem_cons_succ, List.getElem_cons_zero]
                                  refine wpAnyH_ready (rs := [12]) (by kernel_rfl) (by simp) ?_
                                  refine AllReadyH.cons (o := _) rfl (fun K hK => ?_) AllReadyH.nil
                                  go_simp
                                  refine (pH _).mono ?_
                                  rintro e vh ⟨rfl, hbh⟩
                                  have hCh := hC7.drew.trans (hbh.mono hC7.size)
                                  clear hHeld
                                  refine hK.out _ _ (keep _ hCh) (fun hHeld => ?_)
                                  clear hK K
                                  try simp only [Act.put, List.setIfInBounds_toArray, List.set_cons_zero, List.set_cons_succ, List.getElem_toArray, List.getElem_cons_succ, List.getElem_cons_zero]
                                  refine wpAnyH_take (i := 13) (oi := _) (v := .bool D) rfl (by kernel_rfl) (by kernel_rfl) (by kernel_rfl) (fun _ _ _ h => h) (Or.inl ⟨by rfl, fun w' hSw => ?_⟩) hHeld ?_
                                  · obtain ⟨s1, s2, s3⟩ := hSw
                                    go_simp
                                    try (intro hh; exfalso; omega)
                                    try omega
                                  try simp only [Act.put, List.setIfInBounds_toArray, List.set_cons_zero, List.set_cons_succ, List.getElem_toArray, List.getElem_cons_succ, List.getElem_cons_zero]
                                  refine wpAnyH_take (i := 14) (oi := _) (v := .bool false) rfl (by kernel_rfl) (by kernel_rfl) (by kernel_rfl) (fun _ _ _ h => h) (Or.inl ⟨by rfl, fun w' hSw => ?_⟩) hHeld ?_
                                  · obtain ⟨s1, s2, s3⟩ := hSw
                                    go_simp
                                    try (intro hh; exfalso; omega)
                                    try omega
                                  try simp only [Act.put, List.setIfInBounds_toArray, List.set_cons_zero, List.set_cons_succ, List.getElem_toArray, List.getElem_cons_succ, List.getElem_cons_zero]
                                  refine wpAnyH_take (i := 15) (oi := _) (v := .bool false) rfl (by kernel_rfl) (by kernel_rfl) (by kernel_rfl) (fun _ _ _ h => h) (Or.inl ⟨by rfl, fun w' hSw => ?_⟩) hHeld ?_
                                  · obtain ⟨s1, s2, s3⟩ := hSw
                                    go_simp
                                    try (intro hh; exfalso; omega)
                                    try omega
                                  try simp only [Act.put, List.setIfInBounds_toArray, List.set_cons_zero, List.set_cons_succ, List.getElem_toArray, List.getElem_cons_succ, List.getElem_cons_zero]
                                  refine wpAnyH_done (by kernel_rfl) ?_ _
                                  clear hHeld
                                  go_wp2_with fail
                                  go_meet
                                  case rel => exact ⟨rfl, hCh⟩
                                · simp only [Bool.not_true, Bool.false_and]
                                  refine wp_region_held_drew (S := fun w' => w'.cell? ⟨w.heap.size, 0, none⟩ = some (.int .i64 lo) ∧ w'.cell? ⟨w.heap.size, 1, none⟩ = some (.int .i64 hi) ∧ w'.cell? ⟨gb, k, none⟩ = some (.int .i64 y)) (by kernel_rfl) ⟨x0, x1, cy7⟩ (fun hHeld => ?_)
                                  refine wpAnyH_take (i := 0) (oi := _) (v := .int .i64 0) rfl (by kernel_rfl) (by kernel_rfl) (by kernel_rfl) (fun _ _ _ h => h) (Or.inl ⟨by rfl, fun w' hSw => ?_⟩) hHeld ?_
                                  · obtain ⟨s1, s2, s3⟩ := hSw
                                    go_simp
                                    try (intro hh; exfalso; omega)
                                    try omega
                                  try simp only [Act.put, List.setIfInBounds_toArray, List.set_cons_zero, List.set_cons_succ, List.getElem_toArray, List.getElem_cons_succ, List.getElem_cons_zero]
                                  refine wpAnyH_take (i := 1) (oi := _) (v := .bool false) rfl (by kernel_rfl) (by kernel_rfl) (by kernel_rfl) (fun _ _ _ h => h) (Or.inl ⟨by rfl, fun w' hSw => ?_⟩) hHeld ?_
                                  · obtain ⟨s1, s2, s3⟩ := hSw
                                    go_simp
                                    try (intro hh; exfalso; omega)
                                    try omega
                                  try simp only [Act.put, List.setIfInBounds_toArray, List.set_cons_zero, List.set_cons_succ, List.getElem_toArray, List.getElem_cons_succ, List.getElem_cons_zero]
                                  refine wpAnyH_take (i := 2) (oi := _) (v := .bool false) rfl (by kernel_rfl) (by kernel_rfl) (by kernel_rfl) (fun _ _ _ h => h) (Or.inl ⟨by rfl, fun w' hSw => ?_⟩) hHeld ?_
                                  · obtain ⟨s1, s2, s3⟩ := hSw
                                    go_simp
                                    try (intro hh; exfalso; omega)
                                    try omega
                                  try simp only [Act.put, List.setIfInBounds_toArray, List.set_cons_zero, List.set_cons_succ, List.getElem_toArray, List.getElem_cons_succ, List.getElem_cons_zero]
                                  refine wpAnyH_take (i := 3) (oi := _) (v := .bool false) rfl (by kernel_rfl) (by kernel_rfl) (by kernel_rfl) (fun _ _ _ h => h) (Or.inl ⟨by rfl, fun w' hSw => ?_⟩) hHeld ?_
                                  · obtain ⟨s1, s2, s3⟩ := hSw
                                    go_simp
                                    try (intro hh; exfalso; omega)
                                    try omega
                                  try simp only [Act.put, List.setIfInBounds_toArray, List.set_cons_zero, List.set_cons_succ, List.getElem_toArray, List.getElem_cons_succ, List.getElem_cons_zero]
                                  refine wpAnyH_take (i := 4) (oi := _) (v := .bool true) rfl (by kernel_rfl) (by kernel_rfl) (by kernel_rfl) (fun _ _ _ h => h) (Or.inl ⟨by rfl, fun w' hSw => ?_⟩) hHeld ?_
                                  · obtain ⟨s1, s2, s3⟩ := hSw
                                    go_simp
                                    try (intro hh; exfalso; omega)
                                    try omega
                                  try simp only [Act.put, List.setIfInBounds_toArray, List.set_cons_zero, List.set_cons_succ, List.getElem_toArray, List.getElem_cons_succ, List.getElem_cons_zero]
                                  refine wpAnyH_take (i := 5) (oi := _) (v := .bool false) rfl (by kernel_rfl) (by kernel_rfl) (by kernel_rfl) (fun _ _ _ h => h) (Or.inl ⟨by rfl, fun w' hSw => ?_⟩) hHeld ?_
                                  · obtain ⟨s1, s2, s3⟩ := hSw
                                    go_simp
                                    try (intro hh; exfalso; omega)
                                    try omega
                                  try simp only [Act.put, List.setIfInBounds_toArray, List.set_cons_zero, List.set_cons_succ, List.getElem_toArray, List.getElem_cons_succ, List.getElem_cons_zero]
                                  refine wpAnyH_take (i := 6) (oi := _) (v := .bool false) rfl (by kernel_rfl) (by kernel_rfl) (by kernel_rfl) (fun _ _ _ h => h) (Or.inl ⟨by rfl, fun w' hSw => ?_⟩) hHeld ?_
                                  · obtain ⟨s1, s2, s3⟩ := hSw
                                    go_simp
                                    try (intro hh; exfalso; omega)
                                    try omega
                                  try simp only [Act.put, List.setIfInBounds_toArray, List.set_cons_zero, List.set_cons_succ, List.getElem_toArray, List.getElem_cons_succ, List.getElem_cons_zero]
                                  refine wpAnyH_take (i := 7) (oi := _) (v := undef) rfl (by kernel_rfl) (by kernel_rfl) (by kernel_rfl) (fun _ _ _ h => h) (Or.inr ⟨by rfl, rfl⟩) hHeld ?_
                                  try simp only [Act.put, List.setIfInBounds_toArray, List.set_cons_zero, List.set_cons_succ, List.getElem_toArray, List.getElem_cons_succ, List.getElem_cons_zero]
                                  refine wpAnyH_take (i := 8) (oi := _) (v := undef) rfl (by kernel_rfl) (by kernel_rfl) (by kernel_rfl) (fun _ _ _ h => h) (Or.inr ⟨by rfl, rfl⟩) hHeld ?_
                                  try simp only [Act.put, List.setIfInBounds_toArray, List.set_cons_zero, List.set_cons_succ, List.getElem_toArray, List.getElem_cons_succ, List.getElem_cons_zero]
                                  refine wpAnyH_take (i := 9) (oi := _) (v := undef) rfl (by kernel_rfl) (by kernel_rfl) (by kernel_rfl) (fun _ _ _ h => h) (Or.inr ⟨by rfl, rfl⟩) hHeld ?_
                                  try simp only [Act.put, List.setIfInBounds_toArray, List.set_cons_zero, List.set_cons_succ, List.getElem_toArray, List.getElem_cons_succ, List.getElem_cons_zero]
                                  refine wpAnyH_take (i := 10) (oi := _) (v := undef) rfl (by kernel_rfl) (by kernel_rfl) (by kernel_rfl) (fun _ _ _ h => h) (Or.inr ⟨by rfl, rfl⟩) hHeld ?_
                                  try simp only [Act.put, List.setIfInBounds_toArray, List.set_cons_zero, List.set_cons_succ, List.getElem_toArray, List.getElem_cons_succ, List.getElem_cons_zero]
                                  refine wpAnyH_take (i := 11) (oi := _) (v := undef) rfl (by kernel_rfl) (by kernel_rfl) (by kernel_rfl) (fun _ _ _ h => h) (Or.inr ⟨by rfl, rfl⟩) hHeld ?_
                                  try simp only [Act.put, List.setIfInBounds_toArray, List.set_cons_zero, List.set_cons_succ, List.getElem_toArray, List.getElem_cons_succ, List.getElem_cons_zero]
                                  refine wpAnyH_take (i := 12) (oi := _) (v := undef) rfl (by kernel_rfl) (by kernel_rfl) (by kernel_rfl) (fun _ _ _ h => h) (Or.inr ⟨by rfl, rfl⟩) hHeld ?_
                                  try simp only [Act.put, List.setIfInBounds_toArray, List.set_cons_zero, List.set_cons_succ, List.getElem_toArray, List.getElem_cons_succ, List.getElem_cons_zero]
                                  refine wpAnyH_take (i := 13) (oi := _) (v := .bool false) rfl (by kernel_rfl) (by kernel_rfl) (by kernel_rfl) (fun _ _ _ h => h) (Or.inl ⟨by rfl, fun w' hSw => ?_⟩) hHeld ?_
                                  · obtain ⟨s1, s2, s3⟩ := hSw
                                    go_simp
                                    try (intro hh; exfalso; omega)
                                    try omega
                                  try simp only [Act.put, List.setIfInBounds_toArray, List.set_cons_zero, List.set_cons_succ, List.getElem_toArray, List.getElem_cons_succ, List.getElem_cons_zero]
                                  refine wpAnyH_take (i := 14) (oi := _) (v := .bool false) rfl (by kernel_rfl) (by kernel_rfl) (by kernel_rfl) (fun _ _ _ h => h) (Or.inl ⟨by rfl, fun w' hSw => ?_⟩) hHeld ?_
                                  · obtain ⟨s1, s2, s3⟩ := hSw
                                    go_simp
                                    try (intro hh; exfalso; omega)
                                    try omega
                                  try simp only [Act.put, List.setIfInBounds_toArray, List.set_cons_zero, List.set_cons_succ, List.getElem_toArray, List.getElem_cons_succ, List.getElem_cons_zero]
                                  refine wpAnyH_take (i := 15) (oi := _) (v := .bool false) rfl (by kernel_rfl) (by kernel_rfl) (by kernel_rfl) (fun _ _ _ h => h) (Or.inl ⟨by rfl, fun w' hSw => ?_⟩) hHeld ?_
                                  · obtain ⟨s1, s2, s3⟩ := hSw
                                    go_simp
                                    try (intro hh; exfalso; omega)
                                    try omega
                                  try simp only [Act.put, List.setIfInBounds_toArray, List.set_cons_zero, List.set_cons_succ, List.getElem_toArray, List.getElem_cons_succ, List.getElem_cons_zero]
                                  refine wpAnyH_done (by kernel_rfl) ?_ _
                                  clear hHeld
                                  go_wp2_with fail
                                  go_meet
                                  case rel => exact ⟨rfl, hC7.drew⟩
                              case rest => as_aux_lemma =>
                                obtain ⟨rfl, hC8⟩ := hcut
                                go_wp2_with fail
                                go_roundw
                                case rel => exact ⟨k + 1, by omega, by go_num, hC8⟩
                                case measure => simp [intOf]; omega
                            · have noE := eq_b ho
                              clear MO'
                              go_wp2_with fail
                              go_roundw
                              case rel => exact ⟨k + 1, by omega, by go_num, hC6⟩
                              case measure => simp [intOf]; omega
                        · have ncE := eq_b hc
                          clear MC'
                          by_cases ho : oE = 0
                          · subst ho
                            obtain ⟨rfl, ebO⟩ := MO'.out rfl
                            subst ebO
                            go_wp2_with fail
                            refine (pO _ hC4).mono ?_
                            rintro e v5 ⟨rfl, hb⟩
                            have hC5 := hC4.trans (hb.mono hC4.size)
                            have cy5 := (hC5.cell (p := ⟨gb, k, none⟩) hg).trans cy
                            clear hb cy4
                            go_upto_region 34 with fail
                            go_cut [261] from 246 to 261 (fun sc wc => sc = Value.bool false ∧ Below w5.heap.size w5 wc)
                            case first => as_aux_lemma =>
                              clear pU pC pO
                              (try clear MU')
                              (try clear MC')
                              (try clear MO')
                              have x0 := (hC5.cell (p := ⟨w.heap.size, 0, none⟩) hw5).trans y0
                              have x1 := (hC5.cell (p := ⟨w.heap.size, 1, none⟩) hw5).trans y1
                              have keep : ∀ W', Below w5.heap.size w5 W' → W'.cell? ⟨w.heap.size, 0, none⟩ = some (.int .i64 lo) ∧ W'.cell? ⟨w.heap.size, 1, none⟩ = some (.int .i64 hi) ∧ W'.cell? ⟨gb, k, none⟩ = some (.int .i64 y) := fun W' h => ⟨(h.cell (p := ⟨w.heap.size, 0, none⟩) hw5).trans y0, (h.cell (p := ⟨w.heap.size, 1, none⟩) hw5).trans y1, (h.cell (p := ⟨gb, k, none⟩) hg).trans cy⟩
                              have hDD : (D != D) = false := by cases D <;> rfl
                              cases P
                              · simp only [Bool.not_false, Bool.true_and]
                                refine wp_region_held_drew (S := fun w' => w'.cell? ⟨w.heap.size, 0, none⟩ = some (.int .i64 lo) ∧ w'.cell? ⟨w.heap.size, 1, none⟩ = some (.int .i64 hi) ∧ w'.cell? ⟨gb, k, none⟩ = some (.int .i64 y)) (by kernel_rfl) ⟨x0, x1, cy5⟩ (fun hHeld => ?_)
                                refine wpAnyH_take (i := 0) (oi := _) (v := .int .i64 0) rfl (by kernel_rfl) (by kernel_rfl) (by kernel_rfl) (fun _ _ _ h => h) (Or.inl ⟨by rfl, fun w' hSw => ?_⟩) hHeld ?_
                                · obtain ⟨s1, s2, s3⟩ := hSw
                                  go_simp
                                  try (intro hh; exfalso; omega)
                                  try omega
                                try simp only [Act.put, List.setIfInBounds_toArray, List.set_cons_zero, List.set_cons_succ, List.getElem_toArray, List.getElem_cons_succ, List.getElem_cons_zero]
                                refine wpAnyH_take (i := 1) (oi := _) (v := .bool false) rfl (by kernel_rfl) (by kernel_rfl) (by kernel_rfl) (fun _ _ _ h => h) (Or.inl ⟨by rfl, fun w' hSw => ?_⟩) hHeld ?_
                                · obtain ⟨s1, s2, s3⟩ := hSw
                                  go_simp
                                  try (intro hh; exfalso; omega)
                                  try omega
                                try simp only [Act.put, List.setIfInBounds_toArray, List.set_cons_zero, List.set_cons_succ, List.getElem_toArray, List.getElem_cons_succ, List.getElem_cons_zero]
                                refine wpAnyH_take (i := 2) (oi := _) (v := .bool false) rfl (by kernel_rfl) (by kernel_rfl) (by kernel_rfl) (fun _ _ _ h => h) (Or.inl ⟨by rfl, fun w' hSw => ?_⟩) hHeld ?_
                                · obtain ⟨s1, s2, s3⟩ := hSw
                                  go_simp
                                  try (intro hh; exfalso; omega)
                                  try omega
                                try simp only [Act.put, List.setIfInBounds_toArray, List.set_cons_zero, List.set_cons_succ, List.getElem_toArray, List.getElem_cons_succ, List.getElem_cons_zero]
                                refine wpAnyH_take (i := 3) (oi := _) (v := .bool D) rfl (by kernel_rfl) (by kernel_rfl) (by kernel_rfl) (fun _ _ _ h => h) (Or.inl ⟨by rfl, fun w' hSw => ?_⟩) hHeld ?_
                                · obtain ⟨s1, s2, s3⟩ := hSw
                                  go_simp
                                  try (intro hh; exfalso; omega)
                                  try omega
                                try simp only [Act.put, List.setIfInBounds_toArray, List.set_cons_zero, List.set_cons_succ, List.getElem_toArray, List.getElem_cons_succ, List.getElem_cons_zero]
                                refine wpAnyH_take (i := 4) (oi := _) (v := .bool false) rfl (by kernel_rfl) (by kernel_rfl) (by kernel_rfl) (fun _ _ _ h => h) (Or.inl ⟨by rfl, fun w' hSw => ?_⟩) hHeld ?_
                                · obtain ⟨s1, s2, s3⟩ := hSw
                                  go_simp
                                  try (intro hh; exfalso; omega)
                                  try omega
                                try simp only [Act.put, List.setIfInBounds_toArray, List.set_cons_zero, List.set_cons_succ, List.getElem_toArray, List.getElem_cons_succ, List.getElem_cons_zero]
                                refine wpAnyH_take (i := 5) (oi := _) (v := .bool true) rfl (by kernel_rfl) (by kernel_rfl) (by kernel_rfl) (fun _ _ _ h => h) (Or.inl ⟨by rfl, fun w' hSw => ?_⟩) hHeld ?_
                                · obtain ⟨s1, s2, s3⟩ := hSw
                                  go_simp
                                  try (intro hh; exfalso; omega)
                                  try omega
                                try simp only [Act.put, List.setIfInBounds_toArray, List.set_cons_zero, List.set_cons_succ, List.getElem_toArray, List.getElem_cons_succ, List.getElem_cons_zero]
                                refine wpAnyH_take (i := 6) (oi := _) (v := .bool true) rfl (by kernel_rfl) (by kernel_rfl) (by kernel_rfl) (fun _ _ _ h => h) (Or.inl ⟨by rfl, fun w' hSw => ?_⟩) hHeld ?_
                                · obtain ⟨s1, s2, s3⟩ := hSw
                                  go_simp
                                  try (intro hh; exfalso; omega)
                                  try omega
                                try simp only [Act.put, List.setIfInBounds_toArray, List.set_cons_zero, List.set_cons_succ, List.getElem_toArray, List.getElem_cons_succ, List.getElem_cons_zero]
                                refine wpAnyH_take (i := 7) (oi := _) (v := .agg #[.int .i64 lo, .int .i64 hi]) rfl (by kernel_rfl) (by kernel_rfl) (by kernel_rfl) (fun _ _ _ h => h) (Or.inl ⟨by rfl, fun w' hSw => ?_⟩) hHeld ?_
                                · obtain ⟨s1, s2, s3⟩ := hSw
                                  go_simp
                                  try (intro hh; exfalso; omega)
                                  try omega
                                try simp only [Act.put, List.setIfInBounds_toArray, List.set_cons_zero, List.set_cons_succ, List.getElem_toArray, List.getElem_cons_succ, List.getElem_cons_zero]
                                refine wpAnyH_take (i := 8) (oi := _) (v := .slice (some ⟨gb, 0, none⟩) m vcap) rfl (by kernel_rfl) (by kernel_rfl) (by kernel_rfl) (fun _ _ _ h => h) (Or.inl ⟨by rfl, fun w' hSw => ?_⟩) hHeld ?_
                                · obtain ⟨s1, s2, s3⟩ := hSw
                                  go_simp
                                  try (intro hh; exfalso; omega)
                                  try omega
                                try simp only [Act.put, List.setIfInBounds_toArray, List.set_cons_zero, List.set_cons_succ, List.getElem_toArray, List.getElem_cons_succ, List.getElem_cons_zero]
                                refine wpAnyH_take (i := 9) (oi := _) (v := .int .i64 k) rfl (by kernel_rfl) (by kernel_rfl) (by kernel_rfl) (fun _ _ _ h => h) (Or.inl ⟨by rfl, fun w' hSw => ?_⟩) hHeld ?_
                                · obtain ⟨s1, s2, s3⟩ := hSw
                                  go_simp
                                  try (intro hh; exfalso; omega)
                                  try omega
                                try simp only [Act.put, List.setIfInBounds_toArray, List.set_cons_zero, List.set_cons_succ, List.getElem_toArray, List.getElem_cons_succ, List.getElem_cons_zero]
                                refine wpAnyH_take (i := 10) (oi := _) (v := .pointer (some ⟨gb, k, none⟩)) rfl (by kernel_rfl) (by kernel_rfl) (by kernel_rfl) (fun _ _ _ h => h) (Or.inl ⟨by rfl, fun w' hSw => ?_⟩) hHeld ?_
                                · obtain ⟨s1, s2, s3⟩ := hSw
                                  go_simp
                                  try (intro hh; exfalso; omega)
                                  try omega
                                try simp only [Act.put, List.setIfInBounds_toArray, List.set_cons_zero, List.set_cons_succ, List.getElem_toArray, List.getElem_cons_succ, List.getElem_cons_zero]
                                refine wpAnyH_take (i := 11) (oi := _) (v := .int .i64 y) rfl (by kernel_rfl) (by kernel_rfl) (by kernel_rfl) (fun _ _ _ h => h) (Or.inl ⟨by rfl, fun w' hSw => ?_⟩) hHeld ?_
                                · obtain ⟨s1, s2, s3⟩ := hSw
                                  go_simp
                                  try (intro hh; exfalso; omega)
                                  try omega
                                try simp only [Act.put, List.setIfInBounds_toArray, List.set_cons_zero, List.set_cons_succ, List.getElem_toArray, List.getElem_cons_succ, List.getElem_cons_zero]
                                refine wpAnyH_ready (rs := [12]) (by kernel_rfl) (by simp) ?_
                                refine AllReadyH.cons (o := _) rfl (fun K hK => ?_) AllReadyH.nil
                                go_simp
                                refine (pH _).mono ?_
                                rintro e vh ⟨rfl, hbh⟩
                                have hCh := hC5.drew.trans (hbh.mono hC5.size)
                                clear hHeld
                                refine hK.out _ _ (keep _ hCh) (fun hHeld => ?_)
                                clear hK K
                                try simp only [Act.put, List.setIfInBounds_toArray, List.set_cons_zero, List.set_cons_succ, List.getElem_toArray, List.getElem_cons_succ, List.getElem_cons_zero]
                                refine wpAnyH_take (i := 13) (oi := _) (v := .bool D) rfl (by kernel_rfl) (by kernel_rfl) (by kernel_rfl) (fun _ _ _ h => h) (Or.inl ⟨by rfl, fun w' hSw => ?_⟩) hHeld ?_
                                · obtain ⟨s1, s2, s3⟩ := hSw
                                  go_simp
                                  try (intro hh; exfalso; omega)
                                  try omega
                                try simp only [Act.put, List.setIfInBounds_toArray, List.set_cons_zero, List.set_cons_succ, List.getElem_toArray, List.getElem_cons_succ, List.getElem_cons_zero]
                                refine wpAnyH_take (i := 14) (oi := _) (v := .bool false) rfl (by kernel_rfl) (by kernel_rfl) (by kernel_rfl) (fun _ _ _ h => h) (Or.inl ⟨by rfl, fun w' hSw => ?_⟩) hHeld ?_
                                · obtain ⟨s1, s2, s3⟩ := hSw
                                  go_simp
                                  try (intro hh; exfalso; omega)
                                  try omega
                                try simp only [Act.put, List.setIfInBounds_toArray, List.set_cons_zero, List.set_cons_succ, List.getElem_toArray, List.getElem_cons_succ, List.getElem_cons_zero]
                                refine wpAnyH_take (i := 15) (oi := _) (v := .bool false) rfl (by kernel_rfl) (by kernel_rfl) (by kernel_rfl) (fun _ _ _ h => h) (Or.inl ⟨by rfl, fun w' hSw => ?_⟩) hHeld ?_
                                · obtain ⟨s1, s2, s3⟩ := hSw
                                  go_simp
                                  try (intro hh; exfalso; omega)
                                  try omega
                                try simp only [Act.put, List.setIfInBounds_toArray, List.set_cons_zero, List.set_cons_succ, List.getElem_toArray, List.getElem_cons_succ, List.getElem_cons_zero]
                                refine wpAnyH_done (by kernel_rfl) ?_ _
                                clear hHeld
                                go_wp2_with fail
                                go_meet
                                case rel => exact ⟨rfl, hCh⟩
                              · simp only [Bool.not_true, Bool.false_and]
                                refine wp_region_held_drew (S := fun w' => w'.cell? ⟨w.heap.size, 0, none⟩ = some (.int .i64 lo) ∧ w'.cell? ⟨w.heap.size, 1, none⟩ = some (.int .i64 hi) ∧ w'.cell? ⟨gb, k, none⟩ = some (.int .i64 y)) (by kernel_rfl) ⟨x0, x1, cy5⟩ (fun hHeld => ?_)
                                refine wpAnyH_take (i := 0) (oi := _) (v := .int .i64 0) rfl (by kernel_rfl) (by kernel_rfl) (by kernel_rfl) (fun _ _ _ h => h) (Or.inl ⟨by rfl, fun w' hSw => ?_⟩) hHeld ?_
                                · obtain ⟨s1, s2, s3⟩ := hSw
                                  go_simp
                                  try (intro hh; exfalso; omega)
                                  try omega
                                try simp only [Act.put, List.setIfInBounds_toArray, List.set_cons_zero, List.set_cons_succ, List.getElem_toArray, List.getElem_cons_succ, List.getElem_cons_zero]
                                refine wpAnyH_take (i := 1) (oi := _) (v := .bool false) rfl (by kernel_rfl) (by kernel_rfl) (by kernel_rfl) (fun _ _ _ h => h) (Or.inl ⟨by rfl, fun w' hSw => ?_⟩) hHeld ?_
                                · obtain ⟨s1, s2, s3⟩ := hSw
                                  go_simp
                                  try (intro hh; exfalso; omega)
                                  try omega
                                try simp only [Act.put, List.setIfInBounds_toArray, List.set_cons_zero, List.set_cons_succ, List.getElem_toArray, List.getElem_cons_succ, List.getElem_cons_zero]
                                refine wpAnyH_take (i := 2) (oi := _) (v := .bool false) rfl (by kernel_rfl) (by kernel_rfl) (by kernel_rfl) (fun _ _ _ h => h) (Or.inl ⟨by rfl, fun w' hSw => ?_⟩) hHeld ?_
                                · obtain ⟨s1, s2, s3⟩ := hSw
                                  go_simp
                                  try (intro hh; exfalso; omega)
                                  try omega
                                try simp only [Act.put, List.setIfInBounds_toArray, List.set_cons_zero, List.set_cons_succ, List.getElem_toArray, List.getElem_cons_succ, List.getElem_cons_zero]
                                refine wpAnyH_take (i := 3) (oi := _) (v := .bool false) rfl (by kernel_rfl) (by kernel_rfl) (by kernel_rfl) (fun _ _ _ h => h) (Or.inl ⟨by rfl, fun w' hSw => ?_⟩) hHeld ?_
                                · obtain ⟨s1, s2, s3⟩ := hSw
                                  go_simp
                                  try (intro hh; exfalso; omega)
                                  try omega
                                try simp only [Act.put, List.setIfInBounds_toArray, List.set_cons_zero, List.set_cons_succ, List.getElem_toArray, List.getElem_cons_succ, List.getElem_cons_zero]
                                refine wpAnyH_take (i := 4) (oi := _) (v := .bool true) rfl (by kernel_rfl) (by kernel_rfl) (by kernel_rfl) (fun _ _ _ h => h) (Or.inl ⟨by rfl, fun w' hSw => ?_⟩) hHeld ?_
                                · obtain ⟨s1, s2, s3⟩ := hSw
                                  go_simp
                                  try (intro hh; exfalso; omega)
                                  try omega
                                try simp only [Act.put, List.setIfInBounds_toArray, List.set_cons_zero, List.set_cons_succ, List.getElem_toArray, List.getElem_cons_succ, List.getElem_cons_zero]
                                refine wpAnyH_take (i := 5) (oi := _) (v := .bool false) rfl (by kernel_rfl) (by kernel_rfl) (by kernel_rfl) (fun _ _ _ h => h) (Or.inl ⟨by rfl, fun w' hSw => ?_⟩) hHeld ?_
                                · obtain ⟨s1, s2, s3⟩ := hSw
                                  go_simp
                                  try (intro hh; exfalso; omega)
                                  try omega
                                try simp only [Act.put, List.setIfInBounds_toArray, List.set_cons_zero, List.set_cons_succ, List.getElem_toArray, List.getElem_cons_succ, List.getElem_cons_zero]
                                refine wpAnyH_take (i := 6) (oi := _) (v := .bool false) rfl (by kernel_rfl) (by kernel_rfl) (by kernel_rfl) (fun _ _ _ h => h) (Or.inl ⟨by rfl, fun w' hSw => ?_⟩) hHeld ?_
                                · obtain ⟨s1, s2, s3⟩ := hSw
                                  go_simp
                                  try (intro hh; exfalso; omega)
                                  try omega
                                try simp only [Act.put, List.setIfInBounds_toArray, List.set_cons_zero, List.set_cons_succ, List.getElem_toArray, List.getElem_cons_succ, List.getElem_cons_zero]
                                refine wpAnyH_take (i := 7) (oi := _) (v := undef) rfl (by kernel_rfl) (by kernel_rfl) (by kernel_rfl) (fun _ _ _ h => h) (Or.inr ⟨by rfl, rfl⟩) hHeld ?_
                                try simp only [Act.put, List.setIfInBounds_toArray, List.set_cons_zero, List.set_cons_succ, List.getElem_toArray, List.getElem_cons_succ, List.getElem_cons_zero]
                                refine wpAnyH_take (i := 8) (oi := _) (v := undef) rfl (by kernel_rfl) (by kernel_rfl) (by kernel_rfl) (fun _ _ _ h => h) (Or.inr ⟨by rfl, rfl⟩) hHeld ?_
                                try simp only [Act.put, List.setIfInBounds_toArray, List.set_cons_zero, List.set_cons_succ, List.getElem_toArray, List.getElem_cons_succ, List.getElem_cons_zero]
                                refine wpAnyH_take (i := 9) (oi := _) (v := undef) rfl (by kernel_rfl) (by kernel_rfl) (by kernel_rfl) (fun _ _ _ h => h) (Or.inr ⟨by rfl, rfl⟩) hHeld ?_
                                try simp only [Act.put, List.setIfInBounds_toArray, List.set_cons_zero, List.set_cons_succ, List.getElem_toArray, List.getElem_cons_succ, List.getElem_cons_zero]
                                refine wpAnyH_take (i := 10) (oi := _) (v := undef) rfl (by kernel_rfl) (by kernel_rfl) (by kernel_rfl) (fun _ _ _ h => h) (Or.inr ⟨by rfl, rfl⟩) hHeld ?_
                                try simp only [Act.put, List.setIfInBounds_toArray, List.set_cons_zero, List.set_cons_succ, List.getElem_toArray, List.getElem_cons_succ, List.getElem_cons_zero]
                                refine wpAnyH_take (i := 11) (oi := _) (v := undef) rfl (by kernel_rfl) (by kernel_rfl) (by kernel_rfl) (fun _ _ _ h => h) (Or.inr ⟨by rfl, rfl⟩) hHeld ?_
                                try simp only [Act.put, List.setIfInBounds_toArray, List.set_cons_zero, List.set_cons_succ, List.getElem_toArray, List.getElem_cons_succ, List.getElem_cons_zero]
                                refine wpAnyH_take (i := 12) (oi := _) (v := undef) rfl (by kernel_rfl) (by kernel_rfl) (by kernel_rfl) (fun _ _ _ h => h) (Or.inr ⟨by rfl, rfl⟩) hHeld ?_
                                try simp only [Act.put, List.setIfInBounds_toArray, List.set_cons_zero, List.set_cons_succ, List.getElem_toArray, List.getElem_cons_succ, List.getElem_cons_zero]
                                refine wpAnyH_take (i := 13) (oi := _) (v := .bool false) rfl (by kernel_rfl) (by kernel_rfl) (by kernel_rfl) (fun _ _ _ h => h) (Or.inl ⟨by rfl, fun w' hSw => ?_⟩) hHeld ?_
                                · obtain ⟨s1, s2, s3⟩ := hSw
                                  go_simp
                                  try (intro hh; exfalso; omega)
                                  try omega
                                try simp only [Act.put, List.setIfInBounds_toArray, List.set_cons_zero, List.set_cons_succ, List.getElem_toArray, List.getElem_cons_succ, List.getElem_cons_zero]
                                refine wpAnyH_take (i := 14) (oi := _) (v := .bool false) rfl (by kernel_rfl) (by kernel_rfl) (by kernel_rfl) (fun _ _ _ h => h) (Or.inl ⟨by rfl, fun w' hSw => ?_⟩) hHeld ?_
                                · obtain ⟨s1, s2, s3⟩ := hSw
                                  go_simp
                                  try (intro hh; exfalso; omega)
                                  try omega
                                try simp only [Act.put, List.setIfInBounds_toArray, List.set_cons_zero, List.set_cons_succ, List.getElem_toArray, List.getElem_cons_succ, List.getElem_cons_zero]
                                refine wpAnyH_take (i := 15) (oi := _) (v := .bool false) rfl (by kernel_rfl) (by kernel_rfl) (by kernel_rfl) (fun _ _ _ h => h) (Or.inl ⟨by rfl, fun w' hSw => ?_⟩) hHeld ?_
                                · obtain ⟨s1, s2, s3⟩ := hSw
                                  go_simp
                                  try (intro hh; exfalso; omega)
                                  try omega
                                try simp only [Act.put, List.setIfInBounds_toArray, List.set_cons_zero, List.set_cons_succ, List.getElem_toArray, List.getElem_cons_succ, List.getElem_cons_zero]
                                refine wpAnyH_done (by kernel_rfl) ?_ _
                                clear hHeld
                                go_wp2_with fail
                                go_meet
                                case rel => exact ⟨rfl, hC5.drew⟩
                            case rest => as_aux_lemma =>
                              obtain ⟨rfl, hC6⟩ := hcut
                              go_wp2_with fail
                              go_roundw
                              case rel => exact ⟨k + 1, by omega, by go_num, hC6⟩
                              case measure => simp [intOf]; omega
                          · have noE := eq_b ho
                            clear MO'
                            go_wp2_with fail
                            go_roundw
                            case rel => exact ⟨k + 1, by omega, by go_num, hC4⟩
                            case measure => simp [intOf]; omega
                    · have nuE := eq_b hu
                      clear MU'
                      by_cases hc : cE = 0
                      · subst hc
                        obtain ⟨rfl, ebC⟩ := MC'.out rfl
                        subst ebC
                        go_wp2_with fail
                        refine (pC _ hC2).mono ?_
                        rintro e v3 ⟨rfl, hb⟩
                        have hC3 := hC2.trans (hb.mono hC2.size)
                        have cy3 := (hC3.cell (p := ⟨gb, k, none⟩) hg).trans cy
                        clear hb cy2
                        go_upto_region 30 with fail
                        go_cut [234] from 225 to 234 (fun sc wc => sc = Value.bool false ∧ Below w5.heap.size w5 wc)
                        case first => as_aux_lemma =>
                          clear pU pC pO pH
                          (try clear MU')
                          (try clear MC')
                          (try clear MO')
                          cases P <;> cases R
                          all_goals
                            go_wp2_with fail
                            go_meet
                            case rel => exact ⟨rfl, hC3⟩
                        case rest => as_aux_lemma =>
                          obtain ⟨rfl, hC4⟩ := hcut
                          have cy4 := (hC4.cell (p := ⟨gb, k, none⟩) hg).trans cy
                          by_cases ho : oE = 0
                          · subst ho
                            obtain ⟨rfl, ebO⟩ := MO'.out rfl
                            subst ebO
                            go_wp2_with fail
                            refine (pO _ hC4).mono ?_
                            rintro e v5 ⟨rfl, hb⟩
                            have hC5 := hC4.trans (hb.mono hC4.size)
                            have cy5 := (hC5.cell (p := ⟨gb, k, none⟩) hg).trans cy
                            clear hb cy4
                            go_upto_region 34 with fail
                            go_cut [261] from 246 to 261 (fun sc wc => sc = Value.bool false ∧ Below w5.heap.size w5 wc)
                            case first => as_aux_lemma =>
                              clear pU pC pO
                              (try clear MU')
                              (try clear MC')
                              (try clear MO')
                              have x0 := (hC5.cell (p := ⟨w.heap.size, 0, none⟩) hw5).trans y0
                              have x1 := (hC5.cell (p := ⟨w.heap.size, 1, none⟩) hw5).trans y1
                              have keep : ∀ W', Below w5.heap.size w5 W' → W'.cell? ⟨w.heap.size, 0, none⟩ = some (.int .i64 lo) ∧ W'.cell? ⟨w.heap.size, 1, none⟩ = some (.int .i64 hi) ∧ W'.cell? ⟨gb, k, none⟩ = some (.int .i64 y) := fun W' h => ⟨(h.cell (p := ⟨w.heap.size, 0, none⟩) hw5).trans y0, (h.cell (p := ⟨w.heap.size, 1, none⟩) hw5).trans y1, (h.cell (p := ⟨gb, k, none⟩) hg).trans cy⟩
                              have hDD : (D != D) = false := by cases D <;> rfl
                              cases P
                              · simp only [Bool.not_false, Bool.true_and]
                                refine wp_region_held_drew (S := fun w' => w'.cell? ⟨w.heap.size, 0, none⟩ = some (.int .i64 lo) ∧ w'.cell? ⟨w.heap.size, 1, none⟩ = some (.int .i64 hi) ∧ w'.cell? ⟨gb, k, none⟩ = some (.int .i64 y)) (by kernel_rfl) ⟨x0, x1, cy5⟩ (fun hHeld => ?_)
                                refine wpAnyH_take (i := 0) (oi := _) (v := .int .i64 0) rfl (by kernel_rfl) (by kernel_rfl) (by kernel_rfl) (fun _ _ _ h => h) (Or.inl ⟨by rfl, fun w' hSw => ?_⟩) hHeld ?_
                                · obtain ⟨s1, s2, s3⟩ := hSw
                                  go_simp
                                  try (intro hh; exfalso; omega)
                                  try omega
                                try simp only [Act.put, List.setIfInBounds_toArray, List.set_cons_zero, List.set_cons_succ, List.getElem_toArray, List.getElem_cons_succ, List.getElem_cons_zero]
                                refine wpAnyH_take (i := 1) (oi := _) (v := .bool false) rfl (by kernel_rfl) (by kernel_rfl) (by kernel_rfl) (fun _ _ _ h => h) (Or.inl ⟨by rfl, fun w' hSw => ?_⟩) hHeld ?_
                                · obtain ⟨s1, s2, s3⟩ := hSw
                                  go_simp
                                  try (intro hh; exfalso; omega)
                                  try omega
                                try simp only [Act.put, List.setIfInBounds_toArray, List.set_cons_zero, List.set_cons_succ, List.getElem_toArray, List.getElem_cons_succ, List.getElem_cons_zero]
                                refine wpAnyH_take (i := 2) (oi := _) (v := .bool false) rfl (by kernel_rfl) (by kernel_rfl) (by kernel_rfl) (fun _ _ _ h => h) (Or.inl ⟨by rfl, fun w' hSw => ?_⟩) hHeld ?_
                                · obtain ⟨s1, s2, s3⟩ := hSw
                                  go_simp
                                  try (intro hh; exfalso; omega)
                                  try omega
                                try simp only [Act.put, List.setIfInBounds_toArray, List.set_cons_zero, List.set_cons_succ, List.getElem_toArray, List.getElem_cons_succ, List.getElem_cons_zero]
                                refine wpAnyH_take (i := 3) (oi := _) (v := .bool D) rfl (by kernel_rfl) (by kernel_rfl) (by kernel_rfl) (fun _ _ _ h => h) (Or.inl ⟨by rfl, fun w' hSw => ?_⟩) hHeld ?_
                                · obtain ⟨s1, s2, s3⟩ := hSw
                                  go_simp
                                  try (intro hh; exfalso; omega)
                                  try omega
                                try simp only [Act.put, List.setIfInBounds_toArray, List.set_cons_zero, List.set_cons_succ, List.getElem_toArray, List.getElem_cons_succ, List.getElem_cons_zero]
                                refine wpAnyH_take (i := 4) (oi := _) (v := .bool false) rfl (by kernel_rfl) (by kernel_rfl) (by kernel_rfl) (fun _ _ _ h => h) (Or.inl ⟨by rfl, fun w' hSw => ?_⟩) hHeld ?_
                                · obtain ⟨s1, s2, s3⟩ := hSw
                                  go_simp
                                  try (intro hh; exfalso; omega)
                                  try omega
                                try simp only [Act.put, List.setIfInBounds_toArray, List.set_cons_zero, List.set_cons_succ, List.getElem_toArray, List.getElem_cons_succ, List.getElem_cons_zero]
                                refine wpAnyH_take (i := 5) (oi := _) (v := .bool true) rfl (by kernel_rfl) (by kernel_rfl) (by kernel_rfl) (fun _ _ _ h => h) (Or.inl ⟨by rfl, fun w' hSw => ?_⟩) hHeld ?_
                                · obtain ⟨s1, s2, s3⟩ := hSw
                                  go_simp
                                  try (intro hh; exfalso; omega)
                                  try omega
                                try simp only [Act.put, List.setIfInBounds_toArray, List.set_cons_zero, List.set_cons_succ, List.getElem_toArray, List.getElem_cons_succ, List.getElem_cons_zero]
                                refine wpAnyH_take (i := 6) (oi := _) (v := .bool true) rfl (by kernel_rfl) (by kernel_rfl) (by kernel_rfl) (fun _ _ _ h => h) (Or.inl ⟨by rfl, fun w' hSw => ?_⟩) hHeld ?_
                                · obtain ⟨s1, s2, s3⟩ := hSw
                                  go_simp
                                  try (intro hh; exfalso; omega)
                                  try omega
                                try simp only [Act.put, List.setIfInBounds_toArray, List.set_cons_zero, List.set_cons_succ, List.getElem_toArray, List.getElem_cons_succ, List.getElem_cons_zero]
                                refine wpAnyH_take (i := 7) (oi := _) (v := .agg #[.int .i64 lo, .int .i64 hi]) rfl (by kernel_rfl) (by kernel_rfl) (by kernel_rfl) (fun _ _ _ h => h) (Or.inl ⟨by rfl, fun w' hSw => ?_⟩) hHeld ?_
                                · obtain ⟨s1, s2, s3⟩ := hSw
                                  go_simp
                                  try (intro hh; exfalso; omega)
                                  try omega
                                try simp only [Act.put, List.setIfInBounds_toArray, List.set_cons_zero, List.set_cons_succ, List.getElem_toArray, List.getElem_cons_succ, List.getElem_cons_zero]
                                refine wpAnyH_take (i := 8) (oi := _) (v := .slice (some ⟨gb, 0, none⟩) m vcap) rfl (by kernel_rfl) (by kernel_rfl) (by kernel_rfl) (fun _ _ _ h => h) (Or.inl ⟨by rfl, fun w' hSw => ?_⟩) hHeld ?_
                                · obtain ⟨s1, s2, s3⟩ := hSw
                                  go_simp
                                  try (intro hh; exfalso; omega)
                                  try omega
                                try simp only [Act.put, List.setIfInBounds_toArray, List.set_cons_zero, List.set_cons_succ, List.getElem_toArray, List.getElem_cons_succ, List.getElem_cons_zero]
                                refine wpAnyH_take (i := 9) (oi := _) (v := .int .i64 k) rfl (by kernel_rfl) (by kernel_rfl) (by kernel_rfl) (fun _ _ _ h => h) (Or.inl ⟨by rfl, fun w' hSw => ?_⟩) hHeld ?_
                                · obtain ⟨s1, s2, s3⟩ := hSw
                                  go_simp
                                  try (intro hh; exfalso; omega)
                                  try omega
                                try simp only [Act.put, List.setIfInBounds_toArray, List.set_cons_zero, List.set_cons_succ, List.getElem_toArray, List.getElem_cons_succ, List.getElem_cons_zero]
                                refine wpAnyH_take (i := 10) (oi := _) (v := .pointer (some ⟨gb, k, none⟩)) rfl (by kernel_rfl) (by kernel_rfl) (by kernel_rfl) (fun _ _ _ h => h) (Or.inl ⟨by rfl, fun w' hSw => ?_⟩) hHeld ?_
                                · obtain ⟨s1, s2, s3⟩ := hSw
                                  go_simp
                                  try (intro hh; exfalso; omega)
                                  try omega
                                try simp only [Act.put, List.setIfInBounds_toArray, List.set_cons_zero, List.set_cons_succ, List.getElem_toArray, List.getElem_cons_succ, List.getElem_cons_zero]
                                refine wpAnyH_take (i := 11) (oi := _) (v := .int .i64 y) rfl (by kernel_rfl) (by kernel_rfl) (by kernel_rfl) (fun _ _ _ h => h) (Or.inl ⟨by rfl, fun w' hSw => ?_⟩) hHeld ?_
                                · obtain ⟨s1, s2, s3⟩ := hSw
                                  go_simp
                                  try (intro hh; exfalso; omega)
                                  try omega
                                try simp only [Act.put, List.setIfInBounds_toArray, List.set_cons_zero, List.set_cons_succ, List.getElem_toArray, List.getElem_cons_succ, List.getElem_cons_zero]
                                refine wpAnyH_ready (rs := [12]) (by kernel_rfl) (by simp) ?_
                                refine AllReadyH.cons (o := _) rfl (fun K hK => ?_) AllReadyH.nil
                                go_simp
                                refine (pH _).mono ?_
                                rintro e vh ⟨rfl, hbh⟩
                                have hCh := hC5.drew.trans (hbh.mono hC5.size)
                                clear hHeld
                                refine hK.out _ _ (keep _ hCh) (fun hHeld => ?_)
                                clear hK K
                                try simp only [Act.put, List.setIfInBounds_toArray, List.set_cons_zero, List.set_cons_succ, List.getElem_toArray, List.getElem_cons_succ, List.getElem_cons_zero]
                                refine wpAnyH_take (i := 13) (oi := _) (v := .bool D) rfl (by kernel_rfl) (by kernel_rfl) (by kernel_rfl) (fun _ _ _ h => h) (Or.inl ⟨by rfl, fun w' hSw => ?_⟩) hHeld ?_
                                · obtain ⟨s1, s2, s3⟩ := hSw
                                  go_simp
                                  try (intro hh; exfalso; omega)
                                  try omega
                                try simp only [Act.put, List.setIfInBounds_toArray, List.set_cons_zero, List.set_cons_succ, List.getElem_toArray, List.getElem_cons_succ, List.getElem_cons_zero]
                                refine wpAnyH_take (i := 14) (oi := _) (v := .bool false) rfl (by kernel_rfl) (by kernel_rfl) (by kernel_rfl) (fun _ _ _ h => h) (Or.inl ⟨by rfl, fun w' hSw => ?_⟩) hHeld ?_
                                · obtain ⟨s1, s2, s3⟩ := hSw
                                  go_simp
                                  try (intro hh; exfalso; omega)
                                  try omega
                                try simp only [Act.put, List.setIfInBounds_toArray, List.set_cons_zero, List.set_cons_succ, List.getElem_toArray, List.getElem_cons_succ, List.getElem_cons_zero]
                                refine wpAnyH_take (i := 15) (oi := _) (v := .bool false) rfl (by kernel_rfl) (by kernel_rfl) (by kernel_rfl) (fun _ _ _ h => h) (Or.inl ⟨by rfl, fun w' hSw => ?_⟩) hHeld ?_
                                · obtain ⟨s1, s2, s3⟩ := hSw
                                  go_simp
                                  try (intro hh; exfalso; omega)
                                  try omega
                                try simp only [Act.put, List.setIfInBounds_toArray, List.set_cons_zero, List.set_cons_succ, List.getElem_toArray, List.getElem_cons_succ, List.getElem_cons_zero]
                                refine wpAnyH_done (by kernel_rfl) ?_ _
                                clear hHeld
                                go_wp2_with fail
                                go_meet
                                case rel => exact ⟨rfl, hCh⟩
                              · simp only [Bool.not_true, Bool.false_and]
                                refine wp_region_held_drew (S := fun w' => w'.cell? ⟨w.heap.size, 0, none⟩ = some (.int .i64 lo) ∧ w'.cell? ⟨w.heap.size, 1, none⟩ = some (.int .i64 hi) ∧ w'.cell? ⟨gb, k, none⟩ = some (.int .i64 y)) (by kernel_rfl) ⟨x0, x1, cy5⟩ (fun hHeld => ?_)
                                refine wpAnyH_take (i := 0) (oi := _) (v := .int .i64 0) rfl (by kernel_rfl) (by kernel_rfl) (by kernel_rfl) (fun _ _ _ h => h) (Or.inl ⟨by rfl, fun w' hSw => ?_⟩) hHeld ?_
                                · obtain ⟨s1, s2, s3⟩ := hSw
                                  go_simp
                                  try (intro hh; exfalso; omega)
                                  try omega
                                try simp only [Act.put, List.setIfInBounds_toArray, List.set_cons_zero, List.set_cons_succ, List.getElem_toArray, List.getElem_cons_succ, List.getElem_cons_zero]
                                refine wpAnyH_take (i := 1) (oi := _) (v := .bool false) rfl (by kernel_rfl) (by kernel_rfl) (by kernel_rfl) (fun _ _ _ h => h) (Or.inl ⟨by rfl, fun w' hSw => ?_⟩) hHeld ?_
                                · obtain ⟨s1, s2, s3⟩ := hSw
                                  go_simp
                                  try (intro hh; exfalso; omega)
                                  try omega
                                try simp only [Act.put, List.setIfInBounds_toArray, List.set_cons_zero, List.set_cons_succ, List.getElem_toArray, List.getElem_cons_succ, List.getElem_cons_zero]
                                refine wpAnyH_take (i := 2) (oi := _) (v := .bool false) rfl (by kernel_rfl) (by kernel_rfl) (by kernel_rfl) (fun _ _ _ h => h) (Or.inl ⟨by rfl, fun w' hSw => ?_⟩) hHeld ?_
                                · obtain ⟨s1, s2, s3⟩ := hSw
                                  go_simp
                                  try (intro hh; exfalso; omega)
                                  try omega
                                try simp only [Act.put, List.setIfInBounds_toArray, List.set_cons_zero, List.set_cons_succ, List.getElem_toArray, List.getElem_cons_succ, List.getElem_cons_zero]
                                refine wpAnyH_take (i := 3) (oi := _) (v := .bool false) rfl (by kernel_rfl) (by kernel_rfl) (by kernel_rfl) (fun _ _ _ h => h) (Or.inl ⟨by rfl, fun w' hSw => ?_⟩) hHeld ?_
                                · obtain ⟨s1, s2, s3⟩ := hSw
                                  go_simp
                                  try (intro hh; exfalso; omega)
                                  try omega
                                try simp only [Act.put, List.setIfInBounds_toArray, List.set_cons_zero, List.set_cons_succ, List.getElem_toArray, List.getElem_cons_succ, List.getElem_cons_zero]
                                refine wpAnyH_take (i := 4) (oi := _) (v := .bool true) rfl (by kernel_rfl) (by kernel_rfl) (by kernel_rfl) (fun _ _ _ h => h) (Or.inl ⟨by rfl, fun w' hSw => ?_⟩) hHeld ?_
                                · obtain ⟨s1, s2, s3⟩ := hSw
                                  go_simp
                                  try (intro hh; exfalso; omega)
                                  try omega
                                try simp only [Act.put, List.setIfInBounds_toArray, List.set_cons_zero, List.set_cons_succ, List.getElem_toArray, List.getElem_cons_succ, List.getElem_cons_zero]
                                refine wpAnyH_take (i := 5) (oi := _) (v := .bool false) rfl (by kernel_rfl) (by kernel_rfl) (by kernel_rfl) (fun _ _ _ h => h) (Or.inl ⟨by rfl, fun w' hSw => ?_⟩) hHeld ?_
                                · obtain ⟨s1, s2, s3⟩ := hSw
                                  go_simp
                                  try (intro hh; exfalso; omega)
                                  try omega
                                try simp only [Act.put, List.setIfInBounds_toArray, List.set_cons_zero, List.set_cons_succ, List.getElem_toArray, List.getElem_cons_succ, List.getElem_cons_zero]
                                refine wpAnyH_take (i := 6) (oi := _) (v := .bool false) rfl (by kernel_rfl) (by kernel_rfl) (by kernel_rfl) (fun _ _ _ h => h) (Or.inl ⟨by rfl, fun w' hSw => ?_⟩) hHeld ?_
                                · obtain ⟨s1, s2, s3⟩ := hSw
                                  go_simp
                                  try (intro hh; exfalso; omega)
                                  try omega
                                try simp only [Act.put, List.setIfInBounds_toArray, List.set_cons_zero, List.set_cons_succ, List.getElem_toArray, List.getElem_cons_succ, List.getElem_cons_zero]
                                refine wpAnyH_take (i := 7) (oi := _) (v := undef) rfl (by kernel_rfl) (by kernel_rfl) (by kernel_rfl) (fun _ _ _ h => h) (Or.inr ⟨by rfl, rfl⟩) hHeld ?_
                                try simp only [Act.put, List.setIfInBounds_toArray, List.set_cons_zero, List.set_cons_succ, List.getElem_toArray, List.getElem_cons_succ, List.getElem_cons_zero]
                                refine wpAnyH_take (i := 8) (oi := _) (v := undef) rfl (by kernel_rfl) (by kernel_rfl) (by kernel_rfl) (fun _ _ _ h => h) (Or.inr ⟨by rfl, rfl⟩) hHeld ?_
                                try simp only [Act.put, List.setIfInBounds_toArray, List.set_cons_zero, List.set_cons_succ, List.getElem_toArray, List.getElem_cons_succ, List.getElem_cons_zero]
                                refine wpAnyH_take (i := 9) (oi := _) (v := undef) rfl (by kernel_rfl) (by kernel_rfl) (by kernel_rfl) (fun _ _ _ h => h) (Or.inr ⟨by rfl, rfl⟩) hHeld ?_
                                try simp only [Act.put, List.setIfInBounds_toArray, List.set_cons_zero, List.set_cons_succ, List.getElem_toArray, List.getElem_cons_succ, List.getElem_cons_zero]
                                refine wpAnyH_take (i := 10) (oi := _) (v := undef) rfl (by kernel_rfl) (by kernel_rfl) (by kernel_rfl) (fun _ _ _ h => h) (Or.inr ⟨by rfl, rfl⟩) hHeld ?_
                                try simp only [Act.put, List.setIfInBounds_toArray, List.set_cons_zero, List.set_cons_succ, List.getElem_toArray, List.getElem_cons_succ, List.getElem_cons_zero]
                                refine wpAnyH_take (i := 11) (oi := _) (v := undef) rfl (by kernel_rfl) (by kernel_rfl) (by kernel_rfl) (fun _ _ _ h => h) (Or.inr ⟨by rfl, rfl⟩) hHeld ?_
                                try simp only [Act.put, List.setIfInBounds_toArray, List.set_cons_zero, List.set_cons_succ, List.getElem_toArray, List.getElem_cons_succ, List.getElem_cons_zero]
                                refine wpAnyH_take (i := 12) (oi := _) (v := undef) rfl (by kernel_rfl) (by kernel_rfl) (by kernel_rfl) (fun _ _ _ h => h) (Or.inr ⟨by rfl, rfl⟩) hHeld ?_
                                try simp only [Act.put, List.setIfInBounds_toArray, List.set_cons_zero, List.set_cons_succ, List.getElem_toArray, List.getElem_cons_succ, List.getElem_cons_zero]
                                refine wpAnyH_take (i := 13) (oi := _) (v := .bool false) rfl (by kernel_rfl) (by kernel_rfl) (by kernel_rfl) (fun _ _ _ h => h) (Or.inl ⟨by rfl, fun w' hSw => ?_⟩) hHeld ?_
                                · obtain ⟨s1, s2, s3⟩ := hSw
                                  go_simp
                                  try (intro hh; exfalso; omega)
                                  try omega
                                try simp only [Act.put, List.setIfInBounds_toArray, List.set_cons_zero, List.set_cons_succ, List.getElem_toArray, List.getElem_cons_succ, List.getElem_cons_zero]
                                refine wpAnyH_take (i := 14) (oi := _) (v := .bool false) rfl (by kernel_rfl) (by kernel_rfl) (by kernel_rfl) (fun _ _ _ h => h) (Or.inl ⟨by rfl, fun w' hSw => ?_⟩) hHeld ?_
                                · obtain ⟨s1, s2, s3⟩ := hSw
                                  go_simp
                                  try (intro hh; exfalso; omega)
                                  try omega
                                try simp only [Act.put, List.setIfInBounds_toArray, List.set_cons_zero, List.set_cons_succ, List.getElem_toArray, List.getElem_cons_succ, List.getElem_cons_zero]
                                refine wpAnyH_take (i := 15) (oi := _) (v := .bool false) rfl (by kernel_rfl) (by kernel_rfl) (by kernel_rfl) (fun _ _ _ h => h) (Or.inl ⟨by rfl, fun w' hSw => ?_⟩) hHeld ?_
                                · obtain ⟨s1, s2, s3⟩ := hSw
                                  go_simp
                                  try (intro hh; exfalso; omega)
                                  try omega
                                try simp only [Act.put, List.setIfInBounds_toArray, List.set_cons_zero, List.set_cons_succ, List.getElem_toArray, List.getElem_cons_succ, List.getElem_cons_zero]
                                refine wpAnyH_done (by kernel_rfl) ?_ _
                                clear hHeld
                                go_wp2_with fail
                                go_meet
                                case rel => exact ⟨rfl, hC5.drew⟩
                            case rest => as_aux_lemma =>
                              obtain ⟨rfl, hC6⟩ := hcut
                              go_wp2_with fail
                              go_roundw
                              case rel => exact ⟨k + 1, by omega, by go_num, hC6⟩
                              case measure => simp [intOf]; omega
                          · have noE := eq_b ho
                            clear MO'
                            go_wp2_with fail
                            go_roundw
                            case rel => exact ⟨k + 1, by omega, by go_num, hC4⟩
                            case measure => simp [intOf]; omega
                      · have ncE := eq_b hc
                        clear MC'
                        by_cases ho : oE = 0
                        · subst ho
                          obtain ⟨rfl, ebO⟩ := MO'.out rfl
                          subst ebO
                          go_wp2_with fail
                          refine (pO _ hC2).mono ?_
                          rintro e v3 ⟨rfl, hb⟩
                          have hC3 := hC2.trans (hb.mono hC2.size)
                          have cy3 := (hC3.cell (p := ⟨gb, k, none⟩) hg).trans cy
                          clear hb cy2
                          go_upto_region 34 with fail
                          go_cut [261] from 246 to 261 (fun sc wc => sc = Value.bool false ∧ Below w5.heap.size w5 wc)
                          case first => as_aux_lemma =>
                            clear pU pC pO
                            (try clear MU')
                            (try clear MC')
                            (try clear MO')
                            have x0 := (hC3.cell (p := ⟨w.heap.size, 0, none⟩) hw5).trans y0
                            have x1 := (hC3.cell (p := ⟨w.heap.size, 1, none⟩) hw5).trans y1
                            have keep : ∀ W', Below w5.heap.size w5 W' → W'.cell? ⟨w.heap.size, 0, none⟩ = some (.int .i64 lo) ∧ W'.cell? ⟨w.heap.size, 1, none⟩ = some (.int .i64 hi) ∧ W'.cell? ⟨gb, k, none⟩ = some (.int .i64 y) := fun W' h => ⟨(h.cell (p := ⟨w.heap.size, 0, none⟩) hw5).trans y0, (h.cell (p := ⟨w.heap.size, 1, none⟩) hw5).trans y1, (h.cell (p := ⟨gb, k, none⟩) hg).trans cy⟩
                            have hDD : (D != D) = false := by cases D <;> rfl
                            cases P
                            · simp only [Bool.not_false, Bool.true_and]
                              refine wp_region_held_drew (S := fun w' => w'.cell? ⟨w.heap.size, 0, none⟩ = some (.int .i64 lo) ∧ w'.cell? ⟨w.heap.size, 1, none⟩ = some (.int .i64 hi) ∧ w'.cell? ⟨gb, k, none⟩ = some (.int .i64 y)) (by kernel_rfl) ⟨x0, x1, cy3⟩ (fun hHeld => ?_)
                              refine wpAnyH_take (i := 0) (oi := _) (v := .int .i64 0) rfl (by kernel_rfl) (by kernel_rfl) (by kernel_rfl) (fun _ _ _ h => h) (Or.inl ⟨by rfl, fun w' hSw => ?_⟩) hHeld ?_
                              · obtain ⟨s1, s2, s3⟩ := hSw
                                go_simp
                                try (intro hh; exfalso; omega)
                                try omega
                              try simp only [Act.put, List.setIfInBounds_toArray, List.set_cons_zero, List.set_cons_succ, List.getElem_toArray, List.getElem_cons_succ, List.getElem_cons_zero]
                              refine wpAnyH_take (i := 1) (oi := _) (v := .bool false) rfl (by kernel_rfl) (by kernel_rfl) (by kernel_rfl) (fun _ _ _ h => h) (Or.inl ⟨by rfl, fun w' hSw => ?_⟩) hHeld ?_
                              · obtain ⟨s1, s2, s3⟩ := hSw
                                go_simp
                                try (intro hh; exfalso; omega)
                                try omega
                              try simp only [Act.put, List.setIfInBounds_toArray, List.set_cons_zero, List.set_cons_succ, List.getElem_toArray, List.getElem_cons_succ, List.getElem_cons_zero]
                              refine wpAnyH_take (i := 2) (oi := _) (v := .bool false) rfl (by kernel_rfl) (by kernel_rfl) (by kernel_rfl) (fun _ _ _ h => h) (Or.inl ⟨by rfl, fun w' hSw => ?_⟩) hHeld ?_
                              · obtain ⟨s1, s2, s3⟩ := hSw
                                go_simp
                                try (intro hh; exfalso; omega)
                                try omega
                              try simp only [Act.put, List.setIfInBounds_toArray, List.set_cons_zero, List.set_cons_succ, List.getElem_toArray, List.getElem_cons_succ, List.getElem_cons_zero]
                              refine wpAnyH_take (i := 3) (oi := _) (v := .bool D) rfl (by kernel_rfl) (by kernel_rfl) (by kernel_rfl) (fun _ _ _ h => h) (Or.inl ⟨by rfl, fun w' hSw => ?_⟩) hHeld ?_
                              · obtain ⟨s1, s2, s3⟩ := hSw
                                go_simp
                                try (intro hh; exfalso; omega)
                                try omega
                              try simp only [Act.put, List.setIfInBounds_toArray, List.set_cons_zero, List.set_cons_succ, List.getElem_toArray, List.getElem_cons_succ, List.getElem_cons_zero]
                              refine wpAnyH_take (i := 4) (oi := _) (v := .bool false) rfl (by kernel_rfl) (by kernel_rfl) (by kernel_rfl) (fun _ _ _ h => h) (Or.inl ⟨by rfl, fun w' hSw => ?_⟩) hHeld ?_
                              · obtain ⟨s1, s2, s3⟩ := hSw
                                go_simp
                                try (intro hh; exfalso; omega)
                                try omega
                              try simp only [Act.put, List.setIfInBounds_toArray, List.set_cons_zero, List.set_cons_succ, List.getElem_toArray, List.getElem_cons_succ, List.getElem_cons_zero]
                              refine wpAnyH_take (i := 5) (oi := _) (v := .bool true) rfl (by kernel_rfl) (by kernel_rfl) (by kernel_rfl) (fun _ _ _ h => h) (Or.inl ⟨by rfl, fun w' hSw => ?_⟩) hHeld ?_
                              · obtain ⟨s1, s2, s3⟩ := hSw
                                go_simp
                                try (intro hh; exfalso; omega)
                                try omega
                              try simp only [Act.put, List.setIfInBounds_toArray, List.set_cons_zero, List.set_cons_succ, List.getElem_toArray, List.getElem_cons_succ, List.getElem_cons_zero]
                              refine wpAnyH_take (i := 6) (oi := _) (v := .bool true) rfl (by kernel_rfl) (by kernel_rfl) (by kernel_rfl) (fun _ _ _ h => h) (Or.inl ⟨by rfl, fun w' hSw => ?_⟩) hHeld ?_
                              · obtain ⟨s1, s2, s3⟩ := hSw
                                go_simp
                                try (intro hh; exfalso; omega)
                                try omega
                              try simp only [Act.put, List.setIfInBounds_toArray, List.set_cons_zero, List.set_cons_succ, List.getElem_toArray, List.getElem_cons_succ, List.getElem_cons_zero]
                              refine wpAnyH_take (i := 7) (oi := _) (v := .agg #[.int .i64 lo, .int .i64 hi]) rfl (by kernel_rfl) (by kernel_rfl) (by kernel_rfl) (fun _ _ _ h => h) (Or.inl ⟨by rfl, fun w' hSw => ?_⟩) hHeld ?_
                              · obtain ⟨s1, s2, s3⟩ := hSw
                                go_simp
                                try (intro hh; exfalso; omega)
                                try omega
                              try simp only [Act.put, List.setIfInBounds_toArray, List.set_cons_zero, List.set_cons_succ, List.getElem_toArray, List.getElem_cons_succ, List.getElem_cons_zero]
                              refine wpAnyH_take (i := 8) (oi := _) (v := .slice (some ⟨gb, 0, none⟩) m vcap) rfl (by kernel_rfl) (by kernel_rfl) (by kernel_rfl) (fun _ _ _ h => h) (Or.inl ⟨by rfl, fun w' hSw => ?_⟩) hHeld ?_
                              · obtain ⟨s1, s2, s3⟩ := hSw
                                go_simp
                                try (intro hh; exfalso; omega)
                                try omega
                              try simp only [Act.put, List.setIfInBounds_toArray, List.set_cons_zero, List.set_cons_succ, List.getElem_toArray, List.getElem_cons_succ, List.getElem_cons_zero]
                              refine wpAnyH_take (i := 9) (oi := _) (v := .int .i64 k) rfl (by kernel_rfl) (by kernel_rfl) (by kernel_rfl) (fun _ _ _ h => h) (Or.inl ⟨by rfl, fun w' hSw => ?_⟩) hHeld ?_
                              · obtain ⟨s1, s2, s3⟩ := hSw
                                go_simp
                                try (intro hh; exfalso; omega)
                                try omega
                              try simp only [Act.put, List.setIfInBounds_toArray, List.set_cons_zero, List.set_cons_succ, List.getElem_toArray, List.getElem_cons_succ, List.getElem_cons_zero]
                              refine wpAnyH_take (i := 10) (oi := _) (v := .pointer (some ⟨gb, k, none⟩)) rfl (by kernel_rfl) (by kernel_rfl) (by kernel_rfl) (fun _ _ _ h => h) (Or.inl ⟨by rfl, fun w' hSw => ?_⟩) hHeld ?_
                              · obtain ⟨s1, s2, s3⟩ := hSw
                                go_simp
                                try (intro hh; exfalso; omega)
                                try omega
                              try simp only [Act.put, List.setIfInBounds_toArray, List.set_cons_zero, List.set_cons_succ, List.getElem_toArray, List.getElem_cons_succ, List.getElem_cons_zero]
                              refine wpAnyH_take (i := 11) (oi := _) (v := .int .i64 y) rfl (by kernel_rfl) (by kernel_rfl) (by kernel_rfl) (fun _ _ _ h => h) (Or.inl ⟨by rfl, fun w' hSw => ?_⟩) hHeld ?_
                              · obtain ⟨s1, s2, s3⟩ := hSw
                                go_simp
                                try (intro hh; exfalso; omega)
                                try omega
                              try simp only [Act.put, List.setIfInBounds_toArray, List.set_cons_zero, List.set_cons_succ, List.getElem_toArray, List.getElem_cons_succ, List.getElem_cons_zero]
                              refine wpAnyH_ready (rs := [12]) (by kernel_rfl) (by simp) ?_
                              refine AllReadyH.cons (o := _) rfl (fun K hK => ?_) AllReadyH.nil
                              go_simp
                              refine (pH _).mono ?_
                              rintro e vh ⟨rfl, hbh⟩
                              have hCh := hC3.drew.trans (hbh.mono hC3.size)
                              clear hHeld
                              refine hK.out _ _ (keep _ hCh) (fun hHeld => ?_)
                              clear hK K
                              try simp only [Act.put, List.setIfInBounds_toArray, List.set_cons_zero, List.set_cons_succ, List.getElem_toArray, List.getElem_cons_succ, List.getElem_cons_zero]
                              refine wpAnyH_take (i := 13) (oi := _) (v := .bool D) rfl (by kernel_rfl) (by kernel_rfl) (by kernel_rfl) (fun _ _ _ h => h) (Or.inl ⟨by rfl, fun w' hSw => ?_⟩) hHeld ?_
                              · obtain ⟨s1, s2, s3⟩ := hSw
                                go_simp
                                try (intro hh; exfalso; omega)
                                try omega
                              try simp only [Act.put, List.setIfInBounds_toArray, List.set_cons_zero, List.set_cons_succ, List.getElem_toArray, List.getElem_cons_succ, List.getElem_cons_zero]
                              refine wpAnyH_take (i := 14) (oi := _) (v := .bool false) rfl (by kernel_rfl) (by kernel_rfl) (by kernel_rfl) (fun _ _ _ h => h) (Or.inl ⟨by rfl, fun w' hSw => ?_⟩) hHeld ?_
                              · obtain ⟨s1, s2, s3⟩ := hSw
                                go_simp
                                try (intro hh; exfalso; omega)
                                try omega
                              try simp only [Act.put, List.setIfInBounds_toArray, List.set_cons_zero, List.set_cons_succ, List.getElem_toArray, List.getElem_cons_succ, List.getElem_cons_zero]
                              refine wpAnyH_take (i := 15) (oi := _) (v := .bool false) rfl (by kernel_rfl) (by kernel_rfl) (by kernel_rfl) (fun _ _ _ h => h) (Or.inl ⟨by rfl, fun w' hSw => ?_⟩) hHeld ?_
                              · obtain ⟨s1, s2, s3⟩ := hSw
                                go_simp
                                try (intro hh; exfalso; omega)
                                try omega
                              try simp only [Act.put, List.setIfInBounds_toArray, List.set_cons_zero, List.set_cons_succ, List.getElem_toArray, List.getElem_cons_succ, List.getElem_cons_zero]
                              refine wpAnyH_done (by kernel_rfl) ?_ _
                              clear hHeld
                              go_wp2_with fail
                              go_meet
                              case rel => exact ⟨rfl, hCh⟩
                            · simp only [Bool.not_true, Bool.false_and]
                              refine wp_region_held_drew (S := fun w' => w'.cell? ⟨w.heap.size, 0, none⟩ = some (.int .i64 lo) ∧ w'.cell? ⟨w.heap.size, 1, none⟩ = some (.int .i64 hi) ∧ w'.cell? ⟨gb, k, none⟩ = some (.int .i64 y)) (by kernel_rfl) ⟨x0, x1, cy3⟩ (fun hHeld => ?_)
                              refine wpAnyH_take (i := 0) (oi := _) (v := .int .i64 0) rfl (by kernel_rfl) (by kernel_rfl) (by kernel_rfl) (fun _ _ _ h => h) (Or.inl ⟨by rfl, fun w' hSw => ?_⟩) hHeld ?_
                              · obtain ⟨s1, s2, s3⟩ := hSw
                                go_simp
                                try (intro hh; exfalso; omega)
                                try omega
                              try simp only [Act.put, List.setIfInBounds_toArray, List.set_cons_zero, List.set_cons_succ, List.getElem_toArray, List.getElem_cons_succ, List.getElem_cons_zero]
                              refine wpAnyH_take (i := 1) (oi := _) (v := .bool false) rfl (by kernel_rfl) (by kernel_rfl) (by kernel_rfl) (fun _ _ _ h => h) (Or.inl ⟨by rfl, fun w' hSw => ?_⟩) hHeld ?_
                              · obtain ⟨s1, s2, s3⟩ := hSw
                                go_simp
                                try (intro hh; exfalso; omega)
                                try omega
                              try simp only [Act.put, List.setIfInBounds_toArray, List.set_cons_zero, List.set_cons_succ, List.getElem_toArray, List.getElem_cons_succ, List.getElem_cons_zero]
                              refine wpAnyH_take (i := 2) (oi := _) (v := .bool false) rfl (by kernel_rfl) (by kernel_rfl) (by kernel_rfl) (fun _ _ _ h => h) (Or.inl ⟨by rfl, fun w' hSw => ?_⟩) hHeld ?_
                              · obtain ⟨s1, s2, s3⟩ := hSw
                                go_simp
                                try (intro hh; exfalso; omega)
                                try omega
                              try simp only [Act.put, List.setIfInBounds_toArray, List.set_cons_zero, List.set_cons_succ, List.getElem_toArray, List.getElem_cons_succ, List.getElem_cons_zero]
                              refine wpAnyH_take (i := 3) (oi := _) (v := .bool false) rfl (by kernel_rfl) (by kernel_rfl) (by kernel_rfl) (fun _ _ _ h => h) (Or.inl ⟨by rfl, fun w' hSw => ?_⟩) hHeld ?_
                              · obtain ⟨s1, s2, s3⟩ := hSw
                                go_simp
                                try (intro hh; exfalso; omega)
                                try omega
                              try simp only [Act.put, List.setIfInBounds_toArray, List.set_cons_zero, List.set_cons_succ, List.getElem_toArray, List.getElem_cons_succ, List.getElem_cons_zero]
                              refine wpAnyH_take (i := 4) (oi := _) (v := .bool true) rfl (by kernel_rfl) (by kernel_rfl) (by kernel_rfl) (fun _ _ _ h => h) (Or.inl ⟨by rfl, fun w' hSw => ?_⟩) hHeld ?_
                              · obtain ⟨s1, s2, s3⟩ := hSw
                                go_simp
                                try (intro hh; exfalso; omega)
                                try omega
                              try simp only [Act.put, List.setIfInBounds_toArray, List.set_cons_zero, List.set_cons_succ, List.getElem_toArray, List.getElem_cons_succ, List.getElem_cons_zero]
                              refine wpAnyH_take (i := 5) (oi := _) (v := .bool false) rfl (by kernel_rfl) (by kernel_rfl) (by kernel_rfl) (fun _ _ _ h => h) (Or.inl ⟨by rfl, fun w' hSw => ?_⟩) hHeld ?_
                              · obtain ⟨s1, s2, s3⟩ := hSw
                                go_simp
                                try (intro hh; exfalso; omega)
                                try omega
                              try simp only [Act.put, List.setIfInBounds_toArray, List.set_cons_zero, List.set_cons_succ, List.getElem_toArray, List.getElem_cons_succ, List.getElem_cons_zero]
                              refine wpAnyH_take (i := 6) (oi := _) (v := .bool false) rfl (by kernel_rfl) (by kernel_rfl) (by kernel_rfl) (fun _ _ _ h => h) (Or.inl ⟨by rfl, fun w' hSw => ?_⟩) hHeld ?_
                              · obtain ⟨s1, s2, s3⟩ := hSw
                                go_simp
                                try (intro hh; exfalso; omega)
                                try omega
                              try simp only [Act.put, List.setIfInBounds_toArray, List.set_cons_zero, List.set_cons_succ, List.getElem_toArray, List.getElem_cons_succ, List.getElem_cons_zero]
                              refine wpAnyH_take (i := 7) (oi := _) (v := undef) rfl (by kernel_rfl) (by kernel_rfl) (by kernel_rfl) (fun _ _ _ h => h) (Or.inr ⟨by rfl, rfl⟩) hHeld ?_
                              try simp only [Act.put, List.setIfInBounds_toArray, List.set_cons_zero, List.set_cons_succ, List.getElem_toArray, List.getElem_cons_succ, List.getElem_cons_zero]
                              refine wpAnyH_take (i := 8) (oi := _) (v := undef) rfl (by kernel_rfl) (by kernel_rfl) (by kernel_rfl) (fun _ _ _ h => h) (Or.inr ⟨by rfl, rfl⟩) hHeld ?_
                              try simp only [Act.put, List.setIfInBounds_toArray, List.set_cons_zero, List.set_cons_succ, List.getElem_toArray, List.getElem_cons_succ, List.getElem_cons_zero]
                              refine wpAnyH_take (i := 9) (oi := _) (v := undef) rfl (by kernel_rfl) (by kernel_rfl) (by kernel_rfl) (fun _ _ _ h => h) (Or.inr ⟨by rfl, rfl⟩) hHeld ?_
                              try simp only [Act.put, List.setIfInBounds_toArray, List.set_cons_zero, List.set_cons_succ, List.getElem_toArray, List.getElem_cons_succ, List.getElem_cons_zero]
                              refine wpAnyH_take (i := 10) (oi := _) (v := undef) rfl (by kernel_rfl) (by kernel_rfl) (by kernel_rfl) (fun _ _ _ h => h) (Or.inr ⟨by rfl, rfl⟩) hHeld ?_
                              try simp only [Act.put, List.setIfInBounds_toArray, List.set_cons_zero, List.set_cons_succ, List.getElem_toArray, List.getElem_cons_succ, List.getElem_cons_zero]
                              refine wpAnyH_take (i := 11) (oi := _) (v := undef) rfl (by kernel_rfl) (by kernel_rfl) (by kernel_rfl) (fun _ _ _ h => h) (Or.inr ⟨by rfl, rfl⟩) hHeld ?_
                              try simp only [Act.put, List.setIfInBounds_toArray, List.set_cons_zero, List.set_cons_succ, List.getElem_toArray, List.getElem_cons_succ, List.getElem_cons_zero]
                              refine wpAnyH_take (i := 12) (oi := _) (v := undef) rfl (by kernel_rfl) (by kernel_rfl) (by kernel_rfl) (fun _ _ _ h => h) (Or.inr ⟨by rfl, rfl⟩) hHeld ?_
                              try simp only [Act.put, List.setIfInBounds_toArray, List.set_cons_zero, List.set_cons_succ, List.getElem_toArray, List.getElem_cons_succ, List.getElem_cons_zero]
                              refine wpAnyH_take (i := 13) (oi := _) (v := .bool false) rfl (by kernel_rfl) (by kernel_rfl) (by kernel_rfl) (fun _ _ _ h => h) (Or.inl ⟨by rfl, fun w' hSw => ?_⟩) hHeld ?_
                              · obtain ⟨s1, s2, s3⟩ := hSw
                                go_simp
                                try (intro hh; exfalso; omega)
                                try omega
                              try simp only [Act.put, List.setIfInBounds_toArray, List.set_cons_zero, List.set_cons_succ, List.getElem_toArray, List.getElem_cons_succ, List.getElem_cons_zero]
                              refine wpAnyH_take (i := 14) (oi := _) (v := .bool false) rfl (by kernel_rfl) (by kernel_rfl) (by kernel_rfl) (fun _ _ _ h => h) (Or.inl ⟨by rfl, fun w' hSw => ?_⟩) hHeld ?_
                              · obtain ⟨s1, s2, s3⟩ := hSw
                                go_simp
                                try (intro hh; exfalso; omega)
                                try omega
                              try simp only [Act.put, List.setIfInBounds_toArray, List.set_cons_zero, List.set_cons_succ, List.getElem_toArray, List.getElem_cons_succ, List.getElem_cons_zero]
                              refine wpAnyH_take (i := 15) (oi := _) (v := .bool false) rfl (by kernel_rfl) (by kernel_rfl) (by kernel_rfl) (fun _ _ _ h => h) (Or.inl ⟨by rfl, fun w' hSw => ?_⟩) hHeld ?_
                              · obtain ⟨s1, s2, s3⟩ := hSw
                                go_simp
                                try (intro hh; exfalso; omega)
                                try omega
                              try simp only [Act.put, List.setIfInBounds_toArray, List.set_cons_zero, List.set_cons_succ, List.getElem_toArray, List.getElem_cons_succ, List.getElem_cons_zero]
                              refine wpAnyH_done (by kernel_rfl) ?_ _
                              clear hHeld
                              go_wp2_with fail
                              go_meet
                              case rel => exact ⟨rfl, hC3.drew⟩
                          case rest => as_aux_lemma =>
                            obtain ⟨rfl, hC4⟩ := hcut
                            go_wp2_with fail
                            go_roundw
                            case rel => exact ⟨k + 1, by omega, by go_num, hC4⟩
                            case measure => simp [intOf]; omega
                        · have noE := eq_b ho
                          clear MO'
                          go_wp2_with fail
                          go_roundw
                          case rel => exact ⟨k + 1, by omega, by go_num, hC2⟩
                          case measure => simp [intOf]; omega
                  · obtain rfl : k = m := by omega
                    go_wp2_with fail
                    refine (cW _).mono ?_
                    rintro e v9 ⟨rfl, hb⟩
                    go_wp2_with fail
                    go_ret
                    exact ⟨rfl, hfin.trans ((hB7.trans (hb.mono hB7.size)).mono hfin.size)⟩
end Go.Proofs.Ytamelpfhbnkggaa

/-
  Clock: events: spans in memory; which event is before another one; lists of events are checked.
-/
import Derived.Test.YtcchmjbedppfnaaLawCtr
namespace Go.Proofs.Ytcchmjbedppfnaa
open Go.RowKit Go.Shelf
set_option linter.unusedSimpArgs false
def sp (zs : List (Int × Int)) (k : Nat) : Int × Int := zs[k]?.getD (0, 0)
def Sps (n₀ : Nat) (W : World) (sv : Value) (zs : List (Int × Int)) : Prop :=
  ∃ a cap, sv = .slice a zs.length cap ∧ zs.length ≤ cap ∧ ∀ k, k < zs.length → ∃ b off, a = some ⟨b, off, none⟩ ∧ b < n₀ ∧
    W.cell? ⟨b, off + k * 2, none⟩ = some (.int .i64 (sp zs k).1) ∧ W.cell? ⟨b, off + k * 2 + 1, none⟩ = some (.int .i64 (sp zs k).2)
theorem Sps.mono {n₀ m : Nat} {W W' : World} {sv : Value} {zs : List (Int × Int)} (h : Sps n₀ W sv zs) (hb : Below n₀ W W') (hm : n₀ ≤ m) : Sps m W' sv zs := by
  obtain ⟨a, cap, e, hl, hc⟩ := h
  refine ⟨a, cap, e, hl, fun k hk => ?_⟩
  obtain ⟨b, off, h1, h2, c0, c1⟩ := hc k hk
  exact ⟨b, off, h1, Nat.lt_of_lt_of_le h2 hm, (hb.cell (p := ⟨b, _, none⟩) h2).trans c0, (hb.cell (p := ⟨b, _, none⟩) h2).trans c1⟩
theorem Sps.at {W W' : World} {sv : Value} {zs : List (Int × Int)} (h : Sps W.heap.size W sv zs) (hb : Below W.heap.size W W') : Sps W'.heap.size W' sv zs := h.mono hb hb.size
theorem Sps.form {n₀ : Nat} {W : World} {sv : Value} {zs : List (Int × Int)} (h : Sps n₀ W sv zs) : ∃ a c, sv = .slice a zs.length c := by
  obtain ⟨a, c, rfl, -, -⟩ := h
  exact ⟨a, c, rfl⟩
/-- whether an event is before another one -/
def befS (a b : Int × Int) : Int := if a.2 < b.1 then 2 else if b.2 ≤ a.1 then 0 else 1
section
set_option maxRecDepth 100000
set_option maxHeartbeats 4000000
theorem before_any (a b : Int × Int) (w : World) : Calls Try.prog 101 #[spv a, spv b] w fun e w' => e = .returned (.int .i64 (befS a b)) ∧ Below w.heap.size w w' := by
  obtain ⟨a0, a1⟩ := a
  obtain ⟨b0, b1⟩ := b
  unfold spv befS
  dsimp only
  have HA := Lib.hid (show Below w.heap.size w ((w.alloc (.cells #[.int .i64 a0, .int .i64 a1] 23)).alloc (.cells #[.int .i64 b0, .int .i64 b1] 23)) from ((Below.refl _ _).alloc (Nat.le_refl _) _).alloc (by simp) _)
  by_cases h1 : a1 < b0
  · rw [if_pos h1]
    go_enter Try.func101, Try.ntmps101
    go_wp2_with fail
    go_ret
    exact ⟨rfl, HA.out⟩
  rw [if_neg h1]
  by_cases h2 : b1 ≤ a0
  · rw [if_pos h2]
    go_enter Try.func101, Try.ntmps101
    go_wp2_with fail
    go_ret
    exact ⟨rfl, HA.out⟩
  · rw [if_neg h2]
    go_enter Try.func101, Try.ntmps101
    go_wp2_with fail
    go_ret
    exact ⟨rfl, HA.out⟩
theorem rbefore_any (a b : Int × Int) (w : World) : Calls Try.prog 102 #[spv a, spv b] w fun e w' => e = .returned (.int .i64 (befS a b)) ∧ Below w.heap.size w w' := by
  obtain ⟨a0, a1⟩ := a
  obtain ⟨b0, b1⟩ := b
  unfold spv befS
  dsimp only
  have HA := Lib.hid (show Below w.heap.size w ((w.alloc (.cells #[.int .i64 a0, .int .i64 a1] 23)).alloc (.cells #[.int .i64 b0, .int .i64 b1] 23)) from ((Below.refl _ _).alloc (Nat.le_refl _) _).alloc (by simp) _)
  by_cases h1 : a1 < b0
  · rw [if_pos h1]
    go_enter Try.func102, Try.ntmps102
    go_wp2_with fail
    go_ret
    exact ⟨rfl, HA.out⟩
  rw [if_neg h1]
  by_cases h2 : b1 ≤ a0
  · rw [if_pos h2]
    go_enter Try.func102, Try.ntmps102
    go_wp2_with fail
    go_ret
    exact ⟨rfl, HA.out⟩
  · rw [if_neg h2]
    go_enter Try.func102, Try.ntmps102
    go_wp2_with fail
    go_ret
    exact ⟨rfl, HA.out⟩
/-- what Before returns -/
def BefR (a b : Int × Int) : Int × Int := if a.1 ≤ a.2 then (if b.1 ≤ b.2 then (befS a b, 0) else (0, 2)) else (0, 2)
theorem before44_any (a b : Int × Int) (w : World) : Calls Try.prog 44 #[spv a, spv b] w fun e w' => e = .returned (.tuple #[.int .i64 (BefR a b).1, .int .i64 (BefR a b).2]) ∧ Below w.heap.size w w' := by
  have cB := fun W => before_any a b W
  have HR := Lib.hid (show BefR a b = if a.1 ≤ a.2 then (if b.1 ≤ b.2 then (befS a b, 0) else (0, 2)) else (0, 2) from rfl)
  have cE := fun W => exists_any a.1 a.2 W
  have cF := fun W => exists_any b.1 b.2 W
  generalize BefR a b = R at *
  generalize befS a b = bf at *
  obtain ⟨a0, a1⟩ := a
  obtain ⟨b0, b1⟩ := b
  unfold spv at *
  dsimp only at *
  obtain ⟨A, hA⟩ : ∃ A, A = (w.alloc (.cells #[.int .i64 a0, .int .i64 a1] 23)).alloc (.cells #[.int .i64 b0, .int .i64 b1] 23) := ⟨_, rfl⟩
  have HA := Lib.hid (show Below w.heap.size w A by rw [hA]; exact ((Below.refl _ _).alloc (Nat.le_refl _) _).alloc (by simp) _)
  have k1 : Bx2 A w.heap.size (.int .i64 a0) (.int .i64 a1) := by rw [hA]; exact (Bx2.new w _ _).keep ((Below.refl _ _).alloc (Nat.le_refl _) _)
  have k2 : Bx2 A (w.heap.size + 1) (.int .i64 b0) (.int .i64 b1) := by
    rw [hA]
    have q := Bx2.new (w.alloc (.cells #[.int .i64 a0, .int .i64 a1] 23)) (.int .i64 b0) (.int .i64 b1)
    rwa [World.size_alloc] at q
  have K1 := Lib.hid k1
  have K2 := Lib.hid k2
  have q0 := k1.c0
  have q1 := k1.c1
  have q2 := k2.c0
  have q3 := k2.c1
  clear k1 k2
  by_cases h1 : a0 ≤ a1
  rotate_left
  · rw [decide_eq_false h1] at cE
    have hR : R = (0, 2) := by rw [HR.out, if_neg h1]
    subst hR
    go_enter Try.func44, Try.ntmps44
    go_wp2_with fail
    try rw [← hA]
    clear hA
    refine (cE _).mono ?_
    rintro e w1 ⟨rfl, hb⟩
    have HB1 := Lib.hid (HA.out.trans (hb.mono HA.out.size))
    clear hb
    go_wp2_with fail
    go_ret2
    exact ⟨rfl, HB1.out⟩
  rw [decide_eq_true h1] at cE
  by_cases h2 : b0 ≤ b1
  rotate_left
  · rw [decide_eq_false h2] at cF
    have hR : R = (0, 2) := by rw [HR.out, if_pos h1, if_neg h2]
    subst hR
    go_enter Try.func44, Try.ntmps44
    go_wp2_with fail
    try rw [← hA]
    clear hA
    refine (cE _).mono ?_
    rintro e w1 ⟨rfl, hb⟩
    have HB1 := Lib.hid (HA.out.trans (hb.mono HA.out.size))
    have q2 := (K2.out.keep hb).c0
    have q3 := (K2.out.keep hb).c1
    clear hb
    go_wp2_with fail
    refine (cF _).mono ?_
    rintro e w2 ⟨rfl, hb⟩
    have HB2 := Lib.hid (HB1.out.trans (hb.mono HB1.out.size))
    clear hb
    go_wp2_with fail
    go_ret2
    exact ⟨rfl, HB2.out⟩
  rw [decide_eq_true h2] at cF
  have hR : R = (bf, 0) := by rw [HR.out, if_pos h1, if_pos h2]
  subst hR
  go_enter Try.func44, Try.ntmps44
  go_wp2_with fail
  try rw [← hA]
  clear hA
  refine (cE _).mono ?_
  rintro e w1 ⟨rfl, hb⟩
  have HB1 := Lib.hid (HA.out.trans (hb.mono HA.out.size))
  have K11 := Lib.hid (K1.out.keep hb)
  have K21 := Lib.hid (K2.out.keep hb)
  have q2 := K21.out.c0
  have q3 := K21.out.c1
  clear hb
  go_wp2_with fail
  refine (cF _).mono ?_
  rintro e w2 ⟨rfl, hb⟩
  have HB2 := Lib.hid (HB1.out.trans (hb.mono HB1.out.size))
  have q0 := (K11.out.keep hb).c0
  have q1 := (K11.out.keep hb).c1
  have q2 := (K21.out.keep hb).c0
  have q3 := (K21.out.keep hb).c1
  clear hb
  go_wp2_with fail
  refine (cB _).mono ?_
  rintro e w3 ⟨rfl, hb⟩
  have HB3 := Lib.hid (HB2.out.trans (hb.mono HB2.out.size))
  clear hb
  go_wp2_with fail
  go_ret2
  exact ⟨rfl, HB3.out⟩
theorem before45_any (a b : Int × Int) (w : World) : Calls Try.prog 45 #[spv a, spv b] w fun e w' => e = .returned (.tuple #[.int .i64 (BefR a b).1, .int .i64 (BefR a b).2]) ∧ Below w.heap.size w w' := by
  have cB := fun W => rbefore_any a b W
  have HR := Lib.hid (show BefR a b = if a.1 ≤ a.2 then (if b.1 ≤ b.2 then (befS a b, 0) else (0, 2)) else (0, 2) from rfl)
  generalize BefR a b = R at *
  generalize befS a b = bf at *
  obtain ⟨a0, a1⟩ := a
  obtain ⟨b0, b1⟩ := b
  unfold spv at *
  dsimp only at *
  obtain ⟨A, hA⟩ : ∃ A, A = (w.alloc (.cells #[.int .i64 a0, .int .i64 a1] 23)).alloc (.cells #[.int .i64 b0, .int .i64 b1] 23) := ⟨_, rfl⟩
  have HA := Lib.hid (show Below w.heap.size w A by rw [hA]; exact ((Below.refl _ _).alloc (Nat.le_refl _) _).alloc (by simp) _)
  have k1 : Bx2 A w.heap.size (.int .i64 a0) (.int .i64 a1) := by rw [hA]; exact (Bx2.new w _ _).keep ((Below.refl _ _).alloc (Nat.le_refl _) _)
  have k2 : Bx2 A (w.heap.size + 1) (.int .i64 b0) (.int .i64 b1) := by
    rw [hA]
    have q := Bx2.new (w.alloc (.cells #[.int .i64 a0, .int .i64 a1] 23)) (.int .i64 b0) (.int .i64 b1)
    rwa [World.size_alloc] at q
  have K1 := Lib.hid k1
  have K2 := Lib.hid k2
  have q0 := k1.c0
  have q1 := k1.c1
  have q2 := k2.c0
  have q3 := k2.c1
  clear k1 k2
  by_cases h1 : a1 < a0
  · have hR : R = (0, 2) := by rw [HR.out, if_neg (by omega)]
    subst hR
    go_enter Try.func45, Try.ntmps45
    go_wp2_with fail
    try rw [← hA]
    clear hA
    go_ret2
    exact ⟨rfl, HA.out⟩
  by_cases h2 : b1 < b0
  · have hR : R = (0, 2) := by rw [HR.out, if_pos (by omega), if_neg (by omega)]
    subst hR
    go_enter Try.func45, Try.ntmps45
    go_wp2_with fail
    try rw [← hA]
    clear hA
    go_ret2
    exact ⟨rfl, HA.out⟩
  have hR : R = (bf, 0) := by rw [HR.out, if_pos (by omega), if_pos (by omega)]
  subst hR
  go_enter Try.func45, Try.ntmps45
  go_wp2_with fail
  try rw [← hA]
  clear hA
  refine (cB _).mono ?_
  rintro e w3 ⟨rfl, hb⟩
  have HB3 := Lib.hid (HA.out.trans (hb.mono HA.out.size))
  clear hb
  go_wp2_with fail
  go_ret2
  exact ⟨rfl, HB3.out⟩
/-- the error of a list of events -/
def evE (zs : List (Int × Int)) : Int := if 128 < zs.length then 6 else if (zs.all fun z => decide (z.1 ≤ z.2)) = true then 0 else 2
theorem evE_bad {zs : List (Int × Int)} {k : Nat} (hl : ¬ 128 < zs.length) (hk : k < zs.length) (h : ¬ (sp zs k).1 ≤ (sp zs k).2) : evE zs = 2 := by
  unfold evE
  rw [if_neg hl, if_neg]
  intro q
  have := of_decide_eq_true (List.all_eq_true.1 q zs[k] (List.getElem_mem hk))
  unfold sp at h
  rw [List.getElem?_eq_getElem hk, Option.getD_some] at h
  exact h this
theorem evE_ok {zs : List (Int × Int)} (hl : ¬ 128 < zs.length) (h : ∀ k, k < zs.length → (sp zs k).1 ≤ (sp zs k).2) : evE zs = 0 := by
  unfold evE
  rw [if_neg hl, if_pos]
  refine List.all_eq_true.2 fun z hz => ?_
  obtain ⟨k, hk, rfl⟩ := List.getElem_of_mem hz
  have := h k hk
  unfold sp at this
  rw [List.getElem?_eq_getElem hk, Option.getD_some] at this
  exact decide_eq_true this
theorem evE_get {zs : List (Int × Int)} (h : evE zs = 0) : zs.length ≤ 128 ∧ ∀ k, k < zs.length → (sp zs k).1 ≤ (sp zs k).2 := by
  unfold evE at h
  split at h
  · exact absurd h (by decide)
  split at h
  · rename_i h1 h2
    refine ⟨by omega, fun k hk => ?_⟩
    have := of_decide_eq_true (List.all_eq_true.1 h2 zs[k] (List.getElem_mem hk))
    unfold sp
    rwa [List.getElem?_eq_getElem hk, Option.getD_some]
  · exact absurd h (by decide)
theorem checkEvents_any (sv : Value) (zs : List (Int × Int)) (w : World) (hZ : Sps w.heap.size w sv zs) : Calls Try.prog 103 #[sv] w fun e w' => e = .returned (.int .i64 (evE zs)) ∧ Below w.heap.size w w' := by
  obtain ⟨a, cap, rfl, -, hcc⟩ := hZ
  have HC := Lib.hid hcc
  have HBAD := Lib.hid (fun k hl hk h => evE_bad (zs := zs) (k := k) hl hk h)
  have HOK := Lib.hid (fun hl h => evE_ok (zs := zs) hl h)
  have H6 := Lib.hid (show 128 < zs.length → evE zs = 6 from fun h => by unfold evE; rw [if_pos h])
  clear hcc
  generalize evE zs = E at *
  generalize zs.length = len at *
  by_cases hl : (128 : Int) < (len : Int)
  · have hE := H6.out (by omega)
    subst hE
    go_enter Try.func103, Try.ntmps103
    go_wp2_with fail
    go_ret
    exact ⟨rfl, Below.refl _ _⟩
  have HBAD2 := Lib.hid (fun k hk h => HBAD.out k (by omega) hk h)
  have HOK2 := Lib.hid (fun h => HOK.out (by omega) h)
  clear HBAD HOK H6
  go_enter Try.func103, Try.ntmps103
  go_wp2_with fail
  go_loopw [10] (fun iv wr => ∃ k : Nat, k ≤ len ∧ iv = .int .i64 k ∧ (∀ j, j < k → (sp zs j).1 ≤ (sp zs j).2) ∧ Below w.heap.size w wr) (fun iv _ => len - (intOf iv).toNat)
  case atStart => exact ⟨0, Nat.zero_le _, rfl, fun j hj => absurd hj (Nat.not_lt_zero _), Below.refl _ _⟩
  case round =>
    obtain ⟨k, hk, rfl, hin, hB⟩ := hrel
    have HIN := Lib.hid hin
    have HB := Lib.hid hB
    clear hin
    by_cases hlt : k < len
    · have hki : (k : Int) < (len : Int) := by omega
      obtain ⟨b, off, hab, hb, e0, e1⟩ := HC.out k hlt
      subst hab
      have m0 := (hB.cell (p := ⟨b, off + k * 2, none⟩) hb).trans e0
      have m1 := (hB.cell (p := ⟨b, off + k * 2 + 1, none⟩) hb).trans e1
      have HBk := Lib.hid (HBAD2.out k hlt)
      clear e0 e1 hB
      generalize hs : sp zs k = s at *
      have HS := Lib.hid hs
      clear hs
      obtain ⟨s0, s1⟩ := s
      dsimp only at *
      have cE := exists_any s0 s1 (wr.alloc (.cells #[.int .i64 s0, .int .i64 s1] 23))
      have HBa := Lib.hid (HB.out.alloc HB.out.size (.cells #[.int .i64 s0, .int .i64 s1] 23))
      by_cases hv : s0 ≤ s1
      · rw [decide_eq_true hv] at cE
        go_wp2_with fail
        refine cE.mono ?_
        rintro e w2 ⟨rfl, hb2⟩
        have HB2 := Lib.hid (HBa.out.trans (hb2.mono HBa.out.size))
        clear hb2
        go_wp2_with fail
        go_roundw
        case rel => exact ⟨k + 1, by omega, by go_num, fun j hj => (by by_cases e : j = k; (subst e; rw [HS.out]; exact hv); exact HIN.out j (by omega)), HB2.out⟩
        case measure => simp [intOf]; omega
      · rw [decide_eq_false hv] at cE
        have hE := HBk.out (by omega)
        subst hE
        go_wp2_with fail
        refine cE.mono ?_
        rintro e w2 ⟨rfl, hb2⟩
        have HB2 := Lib.hid (HBa.out.trans (hb2.mono HBa.out.size))
        clear hb2
        go_wp2_with fail
        go_ret
        exact ⟨rfl, HB2.out⟩
    · obtain rfl : k = len := by omega
      have hE := HOK2.out HIN.out
      subst hE
      clear hB
      go_wp2_with fail
      go_ret
      exact ⟨rfl, HB.out⟩
theorem rspans_any (sv : Value) (zs : List (Int × Int)) (w : World) (hZ : Sps w.heap.size w sv zs) : Calls Try.prog 105 #[sv] w fun e w' => e = .returned (.int .i64 (evE zs)) ∧ Below w.heap.size w w' := by
  obtain ⟨a, cap, rfl, -, hcc⟩ := hZ
  have HC := Lib.hid hcc
  have HBAD := Lib.hid (fun k hl hk h => evE_bad (zs := zs) (k := k) hl hk h)
  have HOK := Lib.hid (fun hl h => evE_ok (zs := zs) hl h)
  have H6 := Lib.hid (show 128 < zs.length → evE zs = 6 from fun h => by unfold evE; rw [if_pos h])
  clear hcc
  generalize evE zs = E at *
  generalize zs.length = len at *
  by_cases hl : (128 : Int) < (len : Int)
  · have hE := H6.out (by omega)
    subst hE
    go_enter Try.func105, Try.ntmps105
    go_wp2_with fail
    go_ret
    exact ⟨rfl, Below.refl _ _⟩
  have HBAD2 := Lib.hid (fun k hk h => HBAD.out k (by omega) hk h)
  have HOK2 := Lib.hid (fun h => HOK.out (by omega) h)
  clear HBAD HOK H6
  go_enter Try.func105, Try.ntmps105
  go_wp2_with fail
  go_loopw [3] (fun iv wr => ∃ k : Nat, k ≤ len ∧ iv = .int .i64 k ∧ (∀ j, j < k → (sp zs j).1 ≤ (sp zs j).2) ∧ Below w.heap.size w wr) (fun iv _ => len - (intOf iv).toNat)
  case atStart => exact ⟨0, Nat.zero_le _, rfl, fun j hj => absurd hj (Nat.not_lt_zero _), Below.refl _ _⟩
  case round =>
    obtain ⟨k, hk, rfl, hin, hB⟩ := hrel
    have HIN := Lib.hid hin
    have HB := Lib.hid hB
    clear hin
    by_cases hlt : k < len
    · have hki : (k : Int) < (len : Int) := by omega
      obtain ⟨b, off, hab, hb, e0, e1⟩ := HC.out k hlt
      subst hab
      have m0 := (hB.cell (p := ⟨b, off + k * 2, none⟩) hb).trans e0
      have m1 := (hB.cell (p := ⟨b, off + k * 2 + 1, none⟩) hb).trans e1
      have HBk := Lib.hid (HBAD2.out k hlt)
      clear e0 e1 hB
      generalize hs : sp zs k = s at *
      have HS := Lib.hid hs
      clear hs
      obtain ⟨s0, s1⟩ := s
      dsimp only at *
      have HBd := Lib.hid (show Below w.heap.size w wr.drew from HB.out.drew)
      by_cases hv : s1 < s0
      · have hE := HBk.out (by omega)
        subst hE
        go_wp2_with fail
        refine wp_region_held_drew (S := fun w' => w'.cell? ⟨b, off + k * 2, none⟩ = some (.int .i64 s0) ∧ w'.cell? ⟨b, off + k * 2 + 1, none⟩ = some (.int .i64 s1)) (by kernel_rfl) ⟨by simpa [go_sem] using m0, by simpa [go_sem] using m1⟩ (fun hHeld => ?_)
        refine wpAnyH_take (i := 0) (oi := _) (v := Value.slice (some ⟨b, off, none⟩) len cap) rfl (by kernel_rfl) (by kernel_rfl) (by kernel_rfl) (fun _ _ _ h => h) (Or.inl ⟨by rfl, fun w' hSw => ?_⟩) hHeld ?_
        · obtain ⟨t0, t1⟩ := hSw
          go_simp
          try simp [*]
          try (intro hh; exfalso; omega)
          try omega
        try simp only [Act.put, List.setIfInBounds_toArray, List.set_cons_zero, List.set_cons_succ, List.getElem_toArray, List.getElem_cons_succ, List.getElem_cons_zero]
        refine wpAnyH_take (i := 1) (oi := _) (v := Value.int .i64 (k : Int)) rfl (by kernel_rfl) (by kernel_rfl) (by kernel_rfl) (fun _ _ _ h => h) (Or.inl ⟨by rfl, fun w' hSw => ?_⟩) hHeld ?_
        · obtain ⟨t0, t1⟩ := hSw
          go_simp
          try simp [*]
          try (intro hh; exfalso; omega)
          try omega
        try simp only [Act.put, List.setIfInBounds_toArray, List.set_cons_zero, List.set_cons_succ, List.getElem_toArray, List.getElem_cons_succ, List.getElem_cons_zero]
        refine wpAnyH_take (i := 2) (oi := _) (v := Value.pointer (some ⟨b, off + k * 2, none⟩)) rfl (by kernel_rfl) (by kernel_rfl) (by kernel_rfl) (fun _ _ _ h => h) (Or.inl ⟨by rfl, fun w' hSw => ?_⟩) hHeld ?_
        · obtain ⟨t0, t1⟩ := hSw
          go_simp
          try simp [*]
          try (intro hh; exfalso; omega)
          try omega
        try simp only [Act.put, List.setIfInBounds_toArray, List.set_cons_zero, List.set_cons_succ, List.getElem_toArray, List.getElem_cons_succ, List.getElem_cons_zero]
        refine wpAnyH_take (i := 3) (oi := _) (v := Value.pointer (some ⟨b, off + k * 2, none⟩)) rfl (by kernel_rfl) (by kernel_rfl) (by kernel_rfl) (fun _ _ _ h => h) (Or.inl ⟨by rfl, fun w' hSw => ?_⟩) hHeld ?_
        · obtain ⟨t0, t1⟩ := hSw
          go_simp
          try simp [*]
          try (intro hh; exfalso; omega)
          try omega
        try simp only [Act.put, List.setIfInBounds_toArray, List.set_cons_zero, List.set_cons_succ, List.getElem_toArray, List.getElem_cons_succ, List.getElem_cons_zero]
        refine wpAnyH_take (i := 4) (oi := _) (v := Value.int .i64 s0) rfl (by kernel_rfl) (by kernel_rfl) (by kernel_rfl) (fun _ _ _ h => h) (Or.inl ⟨by rfl, fun w' hSw => ?_⟩) hHeld ?_
        · obtain ⟨t0, t1⟩ := hSw
          go_simp
          try simp [*]
          try (intro hh; exfalso; omega)
          try omega
        try simp only [Act.put, List.setIfInBounds_toArray, List.set_cons_zero, List.set_cons_succ, List.getElem_toArray, List.getElem_cons_succ, List.getElem_cons_zero]
        refine wpAnyH_take (i := 5) (oi := _) (v := Value.slice (some ⟨b, off, none⟩) len cap) rfl (by kernel_rfl) (by kernel_rfl) (by kernel_rfl) (fun _ _ _ h => h) (Or.inl ⟨by rfl, fun w' hSw => ?_⟩) hHeld ?_
        · obtain ⟨t0, t1⟩ := hSw
          go_simp
          try simp [*]
          try (intro hh; exfalso; omega)
          try omega
        try simp only [Act.put, List.setIfInBounds_toArray, List.set_cons_zero, List.set_cons_succ, List.getElem_toArray, List.getElem_cons_succ, List.getElem_cons_zero]
        refine wpAnyH_take (i := 6) (oi := _) (v := Value.int .i64 (k : Int)) rfl (by kernel_rfl) (by kernel_rfl) (by kernel_rfl) (fun _ _ _ h => h) (Or.inl ⟨by rfl, fun w' hSw => ?_⟩) hHeld ?_
        · obtain ⟨t0, t1⟩ := hSw
          go_simp
          try simp [*]
          try (intro hh; exfalso; omega)
          try omega
        try simp only [Act.put, List.setIfInBounds_toArray, List.set_cons_zero, List.set_cons_succ, List.getElem_toArray, List.getElem_cons_succ, List.getElem_cons_zero]
        refine wpAnyH_take (i := 7) (oi := _) (v := Value.pointer (some ⟨b, off + k * 2, none⟩)) rfl (by kernel_rfl) (by kernel_rfl) (by kernel_rfl) (fun _ _ _ h => h) (Or.inl ⟨by rfl, fun w' hSw => ?_⟩) hHeld ?_
        · obtain ⟨t0, t1⟩ := hSw
          go_simp
          try simp [*]
          try (intro hh; exfalso; omega)
          try omega
        try simp only [Act.put, List.setIfInBounds_toArray, List.set_cons_zero, List.set_cons_succ, List.getElem_toArray, List.getElem_cons_succ, List.getElem_cons_zero]
        refine wpAnyH_take (i := 8) (oi := _) (v := Value.pointer (some ⟨b, off + k * 2 + 1, none⟩)) rfl (by kernel_rfl) (by kernel_rfl) (by kernel_rfl) (fun _ _ _ h => h) (Or.inl ⟨by rfl, fun w' hSw => ?_⟩) hHeld ?_
        · obtain ⟨t0, t1⟩ := hSw
          go_simp
          try simp [*]
          try (intro hh; exfalso; omega)
          try omega
        try simp only [Act.put, List.setIfInBounds_toArray, List.set_cons_zero, List.set_cons_succ, List.getElem_toArray, List.getElem_cons_succ, List.getElem_cons_zero]
        refine wpAnyH_take (i := 9) (oi := _) (v := Value.int .i64 s1) rfl (by kernel_rfl) (by kernel_rfl) (by kernel_rfl) (fun _ _ _ h => h) (Or.inl ⟨by rfl, fun w' hSw => ?_⟩) hHeld ?_
        · obtain ⟨t0, t1⟩ := hSw
          go_simp
          try simp [*]
          try (intro hh; exfalso; omega)
          try omega
        try simp only [Act.put, List.setIfInBounds_toArray, List.set_cons_zero, List.set_cons_succ, List.getElem_toArray, List.getElem_cons_succ, List.getElem_cons_zero]
        refine wpAnyH_take (i := 10) (oi := _) (v := Value.bool true) rfl (by kernel_rfl) (by kernel_rfl) (by kernel_rfl) (fun _ _ _ h => h) (Or.inl ⟨by rfl, fun w' hSw => ?_⟩) hHeld ?_
        · obtain ⟨t0, t1⟩ := hSw
          go_simp
          try simp [*]
          try (intro hh; exfalso; omega)
          try omega
        try simp only [Act.put, List.setIfInBounds_toArray, List.set_cons_zero, List.set_cons_succ, List.getElem_toArray, List.getElem_cons_succ, List.getElem_cons_zero]
        refine wpAnyH_done (by kernel_rfl) ?_ _
        clear hHeld
        go_wp2_with fail
        go_ret
        exact ⟨rfl, by first | exact HBd.out | exact HB.out⟩
      · go_wp2_with fail
        refine wp_region_held_drew (S := fun w' => w'.cell? ⟨b, off + k * 2, none⟩ = some (.int .i64 s0) ∧ w'.cell? ⟨b, off + k * 2 + 1, none⟩ = some (.int .i64 s1)) (by kernel_rfl) ⟨by simpa [go_sem] using m0, by simpa [go_sem] using m1⟩ (fun hHeld => ?_)
        refine wpAnyH_take (i := 0) (oi := _) (v := Value.slice (some ⟨b, off, none⟩) len cap) rfl (by kernel_rfl) (by kernel_rfl) (by kernel_rfl) (fun _ _ _ h => h) (Or.inl ⟨by rfl, fun w' hSw => ?_⟩) hHeld ?_
        · obtain ⟨t0, t1⟩ := hSw
          go_simp
          try simp [*]
          try (intro hh; exfalso; omega)
          try omega
        try simp only [Act.put, List.setIfInBounds_toArray, List.set_cons_zero, List.set_cons_succ, List.getElem_toArray, List.getElem_cons_succ, List.getElem_cons_zero]
        refine wpAnyH_take (i := 1) (oi := _) (v := Value.int .i64 (k : Int)) rfl (by kernel_rfl) (by kernel_rfl) (by kernel_rfl) (fun _ _ _ h => h) (Or.inl ⟨by rfl, fun w' hSw => ?_⟩) hHeld ?_
        · obtain ⟨t0, t1⟩ := hSw
          go_simp
          try simp [*]
          try (intro hh; exfalso; omega)
          try omega
        try simp only [Act.put, List.setIfInBounds_toArray, List.set_cons_zero, List.set_cons_succ, List.getElem_toArray, List.getElem_cons_succ, List.getElem_cons_zero]
        refine wpAnyH_take (i := 2) (oi := _) (v := Value.pointer (some ⟨b, off + k * 2, none⟩)) rfl (by kernel_rfl) (by kernel_rfl) (by kernel_rfl) (fun _ _ _ h => h) (Or.inl ⟨by rfl, fun w' hSw => ?_⟩) hHeld ?_
        · obtain ⟨t0, t1⟩ := hSw
          go_simp
          try simp [*]
          try (intro hh; exfalso; omega)
          try omega
        try simp only [Act.put, List.setIfInBounds_toArray, List.set_cons_zero, List.set_cons_succ, List.getElem_toArray, List.getElem_cons_succ, List.getElem_cons_zero]
        refine wpAnyH_take (i := 3) (oi := _) (v := Value.pointer (some ⟨b, off + k * 2, none⟩)) rfl (by kernel_rfl) (by kernel_rfl) (by kernel_rfl) (fun _ _ _ h => h) (Or.inl ⟨by rfl, fun w' hSw => ?_⟩) hHeld ?_
        · obtain ⟨t0, t1⟩ := hSw
          go_simp
          try simp [*]
          try (intro hh; exfalso; omega)
          try omega
        try simp only [Act.put, List.setIfInBounds_toArray, List.set_cons_zero, List.set_cons_succ, List.getElem_toArray, List.getElem_cons_succ, List.getElem_cons_zero]
        refine wpAnyH_take (i := 4) (oi := _) (v := Value.int .i64 s0) rfl (by kernel_rfl) (by kernel_rfl) (by kernel_rfl) (fun _ _ _ h => h) (Or.inl ⟨by rfl, fun w' hSw => ?_⟩) hHeld ?_
        · obtain ⟨t0, t1⟩ := hSw
          go_simp
          try simp [*]
          try (intro hh; exfalso; omega)
          try omega
        try simp only [Act.put, List.setIfInBounds_toArray, List.set_cons_zero, List.set_cons_succ, List.getElem_toArray, List.getElem_cons_succ, List.getElem_cons_zero]
        refine wpAnyH_take (i := 5) (oi := _) (v := Value.slice (some ⟨b, off, none⟩) len cap) rfl (by kernel_rfl) (by kernel_rfl) (by kernel_rfl) (fun _ _ _ h => h) (Or.inl ⟨by rfl, fun w' hSw => ?_⟩) hHeld ?_
        · obtain ⟨t0, t1⟩ := hSw
          go_simp
          try simp [*]
          try (intro hh; exfalso; omega)
          try omega
        try simp only [Act.put, List.setIfInBounds_toArray, List.set_cons_zero, List.set_cons_succ, List.getElem_toArray, List.getElem_cons_succ, List.getElem_cons_zero]
        refine wpAnyH_take (i := 6) (oi := _) (v := Value.int .i64 (k : Int)) rfl (by kernel_rfl) (by kernel_rfl) (by kernel_rfl) (fun _ _ _ h => h) (Or.inl ⟨by rfl, fun w' hSw => ?_⟩) hHeld ?_
        · obtain ⟨t0, t1⟩ := hSw
          go_simp
          try simp [*]
          try (intro hh; exfalso; omega)
          try omega
        try simp only [Act.put, List.setIfInBounds_toArray, List.set_cons_zero, List.set_cons_succ, List.getElem_toArray, List.getElem_cons_succ, List.getElem_cons_zero]
        refine wpAnyH_take (i := 7) (oi := _) (v := Value.pointer (some ⟨b, off + k * 2, none⟩)) rfl (by kernel_rfl) (by kernel_rfl) (by kernel_rfl) (fun _ _ _ h => h) (Or.inl ⟨by rfl, fun w' hSw => ?_⟩) hHeld ?_
        · obtain ⟨t0, t1⟩ := hSw
          go_simp
          try simp [*]
          try (intro hh; exfalso; omega)
          try omega
        try simp only [Act.put, List.setIfInBounds_toArray, List.set_cons_zero, List.set_cons_succ, List.getElem_toArray, List.getElem_cons_succ, List.getElem_cons_zero]
        refine wpAnyH_take (i := 8) (oi := _) (v := Value.pointer (some ⟨b, off + k * 2 + 1, none⟩)) rfl (by kernel_rfl) (by kernel_rfl) (by kernel_rfl) (fun _ _ _ h => h) (Or.inl ⟨by rfl, fun w' hSw => ?_⟩) hHeld ?_
        · obtain ⟨t0, t1⟩ := hSw
          go_simp
          try simp [*]
          try (intro hh; exfalso; omega)
          try omega
        try simp only [Act.put, List.setIfInBounds_toArray, List.set_cons_zero, List.set_cons_succ, List.getElem_toArray, List.getElem_cons_succ, List.getElem_cons_zero]
        refine wpAnyH_take (i := 9) (oi := _) (v := Value.int .i64 s1) rfl (by kernel_rfl) (by kernel_rfl) (by kernel_rfl) (fun _ _ _ h => h) (Or.inl ⟨by rfl, fun w' hSw => ?_⟩) hHeld ?_
        · obtain ⟨t0, t1⟩ := hSw
          go_simp
          try simp [*]
          try (intro hh; exfalso; omega)
          try omega
        try simp only [Act.put, List.setIfInBounds_toArray, List.set_cons_zero, List.set_cons_succ, List.getElem_toArray, List.getElem_cons_succ, List.getElem_cons_zero]
        refine wpAnyH_take (i := 10) (oi := _) (v := Value.bool false) rfl (by kernel_rfl) (by kernel_rfl) (by kernel_rfl) (fun _ _ _ h => h) (Or.inl ⟨by rfl, fun w' hSw => ?_⟩) hHeld ?_
        · obtain ⟨t0, t1⟩ := hSw
          go_simp
          try simp [*]
          try (intro hh; exfalso; omega)
          try omega
        try simp only [Act.put, List.setIfInBounds_toArray, List.set_cons_zero, List.set_cons_succ, List.getElem_toArray, List.getElem_cons_succ, List.getElem_cons_zero]
        refine wpAnyH_done (by kernel_rfl) ?_ _
        clear hHeld
        go_wp2_with fail
        go_roundw
        case rel => exact ⟨k + 1, by omega, by go_num, fun j hj => (by by_cases e : j = k; (subst e; rw [HS.out]; show s0 ≤ s1; omega); exact HIN.out j (by omega)), by first | exact HBd.out | exact HB.out⟩
        case measure => simp [intOf]; omega
    · obtain rfl : k = len := by omega
      have hE := HOK2.out HIN.out
      subst hE
      clear hB
      go_wp2_with fail
      go_ret
      exact ⟨rfl, HB.out⟩
end
end Go.Proofs.Ytcchmjbedppfnaa

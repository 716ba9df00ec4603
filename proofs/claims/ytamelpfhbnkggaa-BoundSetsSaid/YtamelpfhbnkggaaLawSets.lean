/-
  BoundSets: the walk.
-/
import Derived.Test.YtamelpfhbnkggaaOpenSpans
import Derived.Test.YtamelpfhbnkggaaSame
import Derived.Test.YtamelpfhbnkggaaRefUnite
import Derived.Test.YtamelpfhbnkggaaRefCut
import Derived.Test.YtamelpfhbnkggaaRefOutside
import Derived.Test.YtamelpfhbnkggaaWorks
namespace Go.Proofs.Ytamelpfhbnkggaa
open Go.RowKit Go.Shelf
set_option linter.unusedSimpArgs false
set_option maxHeartbeats 2000000 in
theorem same_long (sv tv : Value) (s : List (Int × Int)) (hl : s.length ≤ 2147483649) (w : World) (hS : Spans w.heap.size w sv s) (hT : Spans w.heap.size w tv s) :
    Calls Try.prog 55 #[sv, tv] w fun e w' => e = .returned (.bool true) ∧ Below w.heap.size w w' := by
  obtain ⟨a1, cap1, rfl, hcS⟩ := hS.slice
  obtain ⟨a2, cap2, rfl, hcT⟩ := hT.slice
  have HS := Lib.hid hcS
  have HT := Lib.hid hcT
  clear hS hT hcS hcT
  generalize s.length = len at *
  go_enter Try.func55, Try.ntmps55
  go_wp2_with fail
  go_loopw [5] (fun i wr => ∃ k : Nat, k ≤ len ∧ i = .int .i64 k ∧ Below w.heap.size w wr) (fun i _ => len - (intOf i).toNat)
  case atStart => exact ⟨0, Nat.zero_le _, rfl, Below.refl _ _⟩
  case round =>
    obtain ⟨k, hk, rfl, hB⟩ := hrel
    by_cases hlt : k < len
    · obtain ⟨b1, off1, rfl, hb1, c0, c1⟩ := HS.out k hlt
      obtain ⟨b2, off2, rfl, hb2, c2, c3⟩ := HT.out k hlt
      have k0 := (hB.cell (p := ⟨b1, off1 + k * 2, none⟩) hb1).trans c0
      have k1 := (hB.cell (p := ⟨b1, off1 + k * 2 + 1, none⟩) hb1).trans c1
      have k2 := (hB.cell (p := ⟨b2, off2 + k * 2, none⟩) hb2).trans c2
      have k3 := (hB.cell (p := ⟨b2, off2 + k * 2 + 1, none⟩) hb2).trans c3
      clear c0 c1 c2 c3
      generalize s[k]?.getD (0, 0) = z at k0 k1 k2 k3
      obtain ⟨zl, zh⟩ := z
      dsimp only at k0 k1 k2 k3
      go_wp2_with fail
      go_quiet (fail)
      go_wp2_with fail
      go_roundw
      case rel => exact ⟨k + 1, by omega, by go_num, below_drewN hB _⟩
      case measure => simp [intOf]; omega
    · go_wp2_with fail
      go_ret
      exact ⟨rfl, hB⟩
/-- Outside in the example -/

theorem few_len (cs : List (Int × Int)) : (fewL cs).length ≤ 2147483649 := by
  unfold fewL
  split
  · simp
  · omega
theorem uniV_len (s t : List (Int × Int)) : (uniV s t).length ≤ 2147483649 := by unfold uniV; split; exact few_len _; simp
theorem cutV_len (s t : List (Int × Int)) : (cutV s t).length ≤ 2147483649 := by unfold cutV; split; exact few_len _; simp
theorem outV_len (s : List (Int × Int)) (lo hi : Int) : (outV s lo hi).length ≤ 2147483649 := by
  unfold outV; split
  · split; exact few_len _; simp
  · simp
theorem covV_len (s : List (Int × Int)) : (covV s).length ≤ 2147483649 := by
  by_cases h1 : 256 < s.length
  · rw [(covV_many h1).2]; simp
  · by_cases h2 : ∀ z ∈ s, vB z.1 z.2 = true
    · rw [(covV_ok h1 h2).2]; exact nrm_len (cov_nrm h2).1
    · rw [(covV_bad h1 h2).2]; simp
set_option maxRecDepth 100000 in
set_option maxHeartbeats 16000000 in
theorem law_sets (sv tv : Value) (s t : List (Int × Int)) (lo hi x : Int) (w : World) (hS : Spans w.heap.size w sv s) (hT : Spans w.heap.size w tv t) :
    Calls Try.prog 6 #[sv, tv, .agg #[.int .i64 lo, .int .i64 hi], .int .i64 x] w fun e w' => e = .returned (.bool true) ∧ Below w.heap.size w w' := by
  have cW := fun w => works_any w
  obtain ⟨A, hA⟩ : ∃ A, A = w.alloc (.cells #[.int .i64 lo, .int .i64 hi] 23) := ⟨_, rfl⟩
  have hwA : Below w.heap.size w A := by rw [hA]; exact (Below.refl _ _).alloc (Nat.le_refl _) _
  have hwl : w.heap.size < A.heap.size := by rw [hA]; simp
  have zl0 : A.cell? ⟨w.heap.size, 0, none⟩ = some (.int .i64 lo) := by rw [hA]; exact (Boxed2.new w 23 _ _).c0
  have zl1 : A.cell? ⟨w.heap.size, 1, none⟩ = some (.int .i64 hi) := by rw [hA]; exact (Boxed2.new w 23 _ _).c1
  have hSA := hS.at hwA
  have hTA := hT.at hwA
  clear hS hT
  have c41 := fun w' (hb : Below A.heap.size A w') => cover_any sv s w' (hSA.at hb)
  have c42 := fun w' (hb : Below A.heap.size A w') => rcover_any sv s w' (hSA.at hb)
  have c43 := fun w' (hb : Below A.heap.size A w') => unite_any sv tv s t w' (hSA.at hb) (hTA.at hb)
  have c44 := fun w' (hb : Below A.heap.size A w') => runite_any sv tv s t w' (hSA.at hb) (hTA.at hb)
  have c45 := fun w' (hb : Below A.heap.size A w') => cut_any sv tv s t w' (hSA.at hb) (hTA.at hb)
  have c46 := fun w' (hb : Below A.heap.size A w') => rcut_any sv tv s t w' (hSA.at hb) (hTA.at hb)
  have c47 := fun w' (hb : Below A.heap.size A w') => outside_any sv s lo hi w' (hSA.at hb)
  have c48 := fun w' (hb : Below A.heap.size A w') => routside_any sv s lo hi w' (hSA.at hb)
  have c49 := fun w' (hb : Below A.heap.size A w') => has_any sv s x w' (hSA.at hb)
  have c50 := fun w' (hb : Below A.heap.size A w') => rhas_any sv s x w' (hSA.at hb)
  have c51 := fun w' (hb : Below A.heap.size A w') => count_any sv s w' (hSA.at hb)
  have c52 := fun w' (hb : Below A.heap.size A w') => rcount_any sv s w' (hSA.at hb)
  have c53 := fun w' (hb : Below A.heap.size A w') => checkSet_any sv s w' (hSA.at hb)
  have c54 := fun w' (hb : Below A.heap.size A w') => rcheckSet_any sv s w' (hSA.at hb)
  have q1 := covV_len s
  have q2 := uniV_len s t
  have q3 := cutV_len s t
  have q4 := outV_len s lo hi
  obtain ⟨a1, cap1, rfl, -⟩ := hSA.slice
  obtain ⟨a2, cap2, rfl, -⟩ := hTA.slice
  clear hSA hTA
  generalize covE s = E1 at *
  generalize covV s = V1 at *
  generalize uniE s t = E2 at *
  generalize uniV s t = V2 at *
  generalize cutE s t = E3 at *
  generalize cutV s t = V3 at *
  generalize outE s lo hi = E4 at *
  generalize outV s lo hi = V4 at *
  generalize hasV s x = H1 at *
  generalize countV s = N1 at *
  generalize setE s = X1 at *
  generalize s.length = n1 at *
  generalize t.length = n2 at *
  have m1 := fun sv tv w (hS : Spans w.heap.size w sv V1) (hT : Spans w.heap.size w tv V1) => same_long sv tv V1 q1 w hS hT
  have m2 := fun sv tv w (hS : Spans w.heap.size w sv V2) (hT : Spans w.heap.size w tv V2) => same_long sv tv V2 q2 w hS hT
  have m3 := fun sv tv w (hS : Spans w.heap.size w sv V3) (hT : Spans w.heap.size w tv V3) => same_long sv tv V3 q3 w hS hT
  have m4 := fun sv tv w (hS : Spans w.heap.size w sv V4) (hT : Spans w.heap.size w tv V4) => same_long sv tv V4 q4 w hS hT
  clear q1 q2 q3 q4
  by_cases g1 : 300 < n1
  · clear c41 c42 c43 c44 c45 c46 c47 c48 c49 c50 c51 c52 c53 c54
    go_enter Try.func6, Try.ntmps6
    go_wp2_with fail
    rw [← hA]
    refine (cW _).mono ?_
    rintro e w1 ⟨rfl, hb⟩
    go_wp2_with fail
    go_ret
    exact ⟨rfl, hwA.trans (hb.mono hwA.size)⟩
  by_cases g2 : 300 < n2
  · clear c41 c42 c43 c44 c45 c46 c47 c48 c49 c50 c51 c52 c53 c54
    go_enter Try.func6, Try.ntmps6
    go_wp2_with fail
    rw [← hA]
    refine (cW _).mono ?_
    rintro e w1 ⟨rfl, hb⟩
    go_wp2_with fail
    go_ret
    exact ⟨rfl, hwA.trans (hb.mono hwA.size)⟩
  go_enter Try.func6, Try.ntmps6
  go_wp2_with fail
  rw [← hA]
  have hB0 := Below.refl A.heap.size A
  clear hA
  refine (c41 _ hB0).mono ?_
  rintro e w1 ⟨va, rfl, ha, hbel⟩
  have hB1 := hB0.trans (hbel.mono hB0.size)
  clear hbel
  go_wp2_with fail
  refine (c42 _ hB1).mono ?_
  rintro e w2 ⟨vb, rfl, hb, hbel⟩
  have hB2 := hB1.trans (hbel.mono hB1.size)
  replace ha := ha.at hbel
  clear hbel
  go_wp2_with fail
  refine (c43 _ hB2).mono ?_
  rintro e w3 ⟨vc, rfl, hc, hbel⟩
  have hB3 := hB2.trans (hbel.mono hB2.size)
  replace ha := ha.at hbel
  replace hb := hb.at hbel
  clear hbel
  go_wp2_with fail
  refine (c44 _ hB3).mono ?_
  rintro e w4 ⟨vd, rfl, hd, hbel⟩
  have hB4 := hB3.trans (hbel.mono hB3.size)
  replace ha := ha.at hbel
  replace hb := hb.at hbel
  replace hc := hc.at hbel
  clear hbel
  go_wp2_with fail
  refine (c45 _ hB4).mono ?_
  rintro e w5 ⟨vg, rfl, hg, hbel⟩
  have hB5 := hB4.trans (hbel.mono hB4.size)
  replace ha := ha.at hbel
  replace hb := hb.at hbel
  replace hc := hc.at hbel
  replace hd := hd.at hbel
  clear hbel
  go_wp2_with fail
  refine (c46 _ hB5).mono ?_
  rintro e w6 ⟨vh, rfl, hh, hbel⟩
  have hB6 := hB5.trans (hbel.mono hB5.size)
  replace ha := ha.at hbel
  replace hb := hb.at hbel
  replace hc := hc.at hbel
  replace hd := hd.at hbel
  replace hg := hg.at hbel
  clear hbel
  have b0 := (hB6.cell (p := ⟨w.heap.size, 0, none⟩) hwl).trans zl0
  have b1 := (hB6.cell (p := ⟨w.heap.size, 1, none⟩) hwl).trans zl1
  go_wp2_with fail
  clear b0 b1
  refine (c47 _ hB6).mono ?_
  rintro e w7 ⟨vi, rfl, hi, hbel⟩
  have hB7 := hB6.trans (hbel.mono hB6.size)
  replace ha := ha.at hbel
  replace hb := hb.at hbel
  replace hc := hc.at hbel
  replace hd := hd.at hbel
  replace hg := hg.at hbel
  replace hh := hh.at hbel
  clear hbel
  have b0 := (hB7.cell (p := ⟨w.heap.size, 0, none⟩) hwl).trans zl0
  have b1 := (hB7.cell (p := ⟨w.heap.size, 1, none⟩) hwl).trans zl1
  go_wp2_with fail
  clear b0 b1
  refine (c48 _ hB7).mono ?_
  rintro e w8 ⟨vj, rfl, hj, hbel⟩
  have hB8 := hB7.trans (hbel.mono hB7.size)
  replace ha := ha.at hbel
  replace hb := hb.at hbel
  replace hc := hc.at hbel
  replace hd := hd.at hbel
  replace hg := hg.at hbel
  replace hh := hh.at hbel
  replace hi := hi.at hbel
  clear hbel
  go_wp2_with fail
  refine (c49 _ hB8).mono ?_
  rintro e w9 ⟨rfl, hbel⟩
  have hB9 := hB8.trans (hbel.mono hB8.size)
  replace ha := ha.at hbel
  replace hb := hb.at hbel
  replace hc := hc.at hbel
  replace hd := hd.at hbel
  replace hg := hg.at hbel
  replace hh := hh.at hbel
  replace hi := hi.at hbel
  replace hj := hj.at hbel
  clear hbel
  go_wp2_with fail
  refine (c50 _ hB9).mono ?_
  rintro e w10 ⟨rfl, hbel⟩
  have hB10 := hB9.trans (hbel.mono hB9.size)
  replace ha := ha.at hbel
  replace hb := hb.at hbel
  replace hc := hc.at hbel
  replace hd := hd.at hbel
  replace hg := hg.at hbel
  replace hh := hh.at hbel
  replace hi := hi.at hbel
  replace hj := hj.at hbel
  clear hbel
  go_wp2_with fail
  refine (c51 _ hB10).mono ?_
  rintro e w11 ⟨rfl, hbel⟩
  have hB11 := hB10.trans (hbel.mono hB10.size)
  replace ha := ha.at hbel
  replace hb := hb.at hbel
  replace hc := hc.at hbel
  replace hd := hd.at hbel
  replace hg := hg.at hbel
  replace hh := hh.at hbel
  replace hi := hi.at hbel
  replace hj := hj.at hbel
  clear hbel
  go_wp2_with fail
  refine (c52 _ hB11).mono ?_
  rintro e w12 ⟨rfl, hbel⟩
  have hB12 := hB11.trans (hbel.mono hB11.size)
  replace ha := ha.at hbel
  replace hb := hb.at hbel
  replace hc := hc.at hbel
  replace hd := hd.at hbel
  replace hg := hg.at hbel
  replace hh := hh.at hbel
  replace hi := hi.at hbel
  replace hj := hj.at hbel
  clear hbel
  go_wp2_with fail
  refine (c53 _ hB12).mono ?_
  rintro e w13 ⟨rfl, hbel⟩
  have hB13 := hB12.trans (hbel.mono hB12.size)
  replace ha := ha.at hbel
  replace hb := hb.at hbel
  replace hc := hc.at hbel
  replace hd := hd.at hbel
  replace hg := hg.at hbel
  replace hh := hh.at hbel
  replace hi := hi.at hbel
  replace hj := hj.at hbel
  clear hbel
  go_wp2_with fail
  refine (c54 _ hB13).mono ?_
  rintro e w14 ⟨rfl, hbel⟩
  have hB14 := hB13.trans (hbel.mono hB13.size)
  replace ha := ha.at hbel
  replace hb := hb.at hbel
  replace hc := hc.at hbel
  replace hd := hd.at hbel
  replace hg := hg.at hbel
  replace hh := hh.at hbel
  replace hi := hi.at hbel
  replace hj := hj.at hbel
  clear hbel
  go_wp2_with fail
  refine (m1 _ _ _ ha hb).mono ?_
  rintro e w15 ⟨rfl, hbel⟩
  have hB15 := hB14.trans (hbel.mono hB14.size)
  replace ha := ha.at hbel
  replace hb := hb.at hbel
  replace hc := hc.at hbel
  replace hd := hd.at hbel
  replace hg := hg.at hbel
  replace hh := hh.at hbel
  replace hi := hi.at hbel
  replace hj := hj.at hbel
  clear hbel
  go_wp2_with fail
  refine (m2 _ _ _ hc hd).mono ?_
  rintro e w16 ⟨rfl, hbel⟩
  have hB16 := hB15.trans (hbel.mono hB15.size)
  replace hc := hc.at hbel
  replace hd := hd.at hbel
  replace hg := hg.at hbel
  replace hh := hh.at hbel
  replace hi := hi.at hbel
  replace hj := hj.at hbel
  clear hbel
  go_wp2_with fail
  refine (m3 _ _ _ hg hh).mono ?_
  rintro e w17 ⟨rfl, hbel⟩
  have hB17 := hB16.trans (hbel.mono hB16.size)
  replace hg := hg.at hbel
  replace hh := hh.at hbel
  replace hi := hi.at hbel
  replace hj := hj.at hbel
  clear hbel
  go_wp2_with fail
  refine (m4 _ _ _ hi hj).mono ?_
  rintro e w18 ⟨rfl, hbel⟩
  have hB18 := hB17.trans (hbel.mono hB17.size)
  replace hi := hi.at hbel
  replace hj := hj.at hbel
  clear hbel
  go_wp2_with fail
  refine (cW _).mono ?_
  rintro e w19 ⟨rfl, hbel⟩
  have hB19 := hB18.trans (hbel.mono hB18.size)
  clear hbel
  go_wp2_with fail
  go_ret
  exact ⟨rfl, hwA.trans (hB19.mono hwA.size)⟩
end Go.Proofs.Ytamelpfhbnkggaa

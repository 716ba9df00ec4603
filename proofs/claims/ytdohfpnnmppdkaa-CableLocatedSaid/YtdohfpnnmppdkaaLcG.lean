/-
  Cables: what the lengths are, and where a cable is touched.
-/
import Derived.Test.YtdohfpnnmppdkaaLcF
namespace Go.Proofs.Ytdohfpnnmppdkaa
open Go.RowKit Go.Shelf
set_option linter.unusedSimpArgs false
open Go.RowKit Go.Shelf
set_option linter.unusedSimpArgs false
attribute [local go_sem] Oper.semAt_some
set_option maxHeartbeats 2000000 in
theorem upTo_any (v : Value) (zs : List Int) (most : Int) (w : World) (hI : Il w.heap.size w v zs) (hl : zs.length ≤ 1000) :
    Calls Try.prog 121 #[v, .int .i64 most] w fun e w' => e = .returned (.bool (decide (∀ k, k < zs.length → 0 ≤ ti zs k ∧ ti zs k ≤ most))) ∧ w' = w := by
  obtain ⟨a, cap, rfl, -, hc⟩ := hI
  have HC := Lib.hid hc
  have HY := Lib.hid (show ∀ k, k < zs.length → ¬ (0 ≤ ti zs k ∧ ti zs k ≤ most) → decide (∀ k, k < zs.length → 0 ≤ ti zs k ∧ ti zs k ≤ most) = false from fun k hk e => decide_eq_false fun h => e (h k hk))
  have HN := Lib.hid (show (∀ k, k < zs.length → 0 ≤ ti zs k ∧ ti zs k ≤ most) → decide (∀ k, k < zs.length → 0 ≤ ti zs k ∧ ti zs k ≤ most) = true from fun h => decide_eq_true h)
  generalize decide (∀ k, k < zs.length → 0 ≤ ti zs k ∧ ti zs k ≤ most) = M at *
  generalize hn : zs.length = n at *
  clear hc hn
  go_enter Try.func121, Try.ntmps121
  go_wp2_with fail
  go_loop [9] (fun iv => ∃ k : Nat, k ≤ n ∧ iv = .int .i64 k ∧ (∀ j, j < k → 0 ≤ ti zs j ∧ ti zs j ≤ most)) (fun iv => n - (intOf iv).toNat)
  case atStart => exact ⟨0, Nat.zero_le _, rfl, fun j hj => absurd hj (Nat.not_lt_zero _)⟩
  case round =>
    obtain ⟨k, hk, rfl, hv⟩ := hrel
    have HV := Lib.hid hv
    clear hv
    by_cases hlt : k < n
    · obtain ⟨b, off, rfl, hb, c0⟩ := HC.out k hlt
      have hki : (k : Int) < (n : Int) := by omega
      by_cases he : 0 ≤ ti zs k ∧ ti zs k ≤ most
      rotate_left
      · have hM := HY.out k hlt he
        subst hM
        have c1 := fun W => withinL (ti zs k) 0 most W
        rw [decide_eq_false he] at c1
        generalize ti zs k = t at *
        clear he
        go_wp2_with fail
        refine (c1 _).mono ?_
        rintro e w1 ⟨rfl, rfl⟩
        go_wp2_with fail
        go_ret
        exact ⟨rfl, rfl⟩
      · have c1 := fun W => withinL (ti zs k) 0 most W
        rw [decide_eq_true he] at c1
        have HX := Lib.hid (show ∀ j, j < k + 1 → 0 ≤ ti zs j ∧ ti zs j ≤ most from fun j hj => by
          rcases (show j < k ∨ j = k by omega) with h | h
          · exact HV.out j h
          · rw [h]; exact he)
        generalize ti zs k = t at *
        clear he
        go_wp2_with fail
        refine (c1 _).mono ?_
        rintro e w1 ⟨rfl, rfl⟩
        go_wp2_with fail
        go_round
        case rel => exact ⟨k + 1, by omega, by go_num, HX.out⟩
        case measure => simp [intOf]; omega
    · obtain rfl : k = n := by omega
      have hM := HN.out HV.out
      subst hM
      go_wp2_with fail
      go_ret
      exact ⟨rfl, rfl⟩
set_option maxHeartbeats 2000000 in
theorem lengths_any (v : Value) (zs : List Int) (w : World) (hI : Il w.heap.size w v zs) (hl : zs.length ≤ 1000) (h0 : 0 < zs.length) :
    Calls Try.prog 116 #[v] w fun e w' => e = .returned (.bool (lenB zs)) ∧ w' = w := by
  have c1 := fun (h : True) => upTo_any v zs 1048576 w hI hl
  obtain ⟨a, cap, rfl, -, hc⟩ := hI
  obtain ⟨b, off, rfl, -, c0⟩ := hc 0 h0
  rw [Nat.add_zero] at c0
  have e1 : lenB zs = (decide (∀ k, k < zs.length → 0 ≤ ti zs k ∧ ti zs k ≤ 1048576) && decide (ti zs 0 = 0)) := by
    unfold lenB
    by_cases q1 : ti zs 0 = 0 <;> by_cases q2 : ∀ k, k < zs.length → 0 ≤ ti zs k ∧ ti zs k ≤ 1048576 <;> simp [q1, q2]
  rw [e1]
  generalize decide (∀ k, k < zs.length → 0 ≤ ti zs k ∧ ti zs k ≤ 1048576) = M at *
  clear hc e1
  generalize zs.length = n at *
  have c2 := Lib.hid (c1 trivial)
  have hn0 : (0 : Int) < (n : Int) := by omega
  clear c1
  by_cases h : ti zs 0 = 0
  · rw [h] at c0 ⊢
    cases M
    · go_enter Try.func116, Try.ntmps116
      go_upto_region 1 with fail
      go_wp2_with (refine c2.out.mono ?_; rintro e w1 ⟨rfl, rfl⟩)
      go_ret
      exact ⟨rfl, rfl⟩
    · go_enter Try.func116, Try.ntmps116
      go_upto_region 1 with fail
      go_wp2_with (refine c2.out.mono ?_; rintro e w1 ⟨rfl, rfl⟩)
      go_ret
      exact ⟨rfl, rfl⟩
  · have hb : (ti zs 0 == 0) = false := beq_eq_false_iff_ne.2 h
    rw [decide_eq_false h]
    generalize ti zs 0 = t at *
    cases M
    · go_enter Try.func116, Try.ntmps116
      go_upto_region 1 with fail
      go_wp2_with (refine c2.out.mono ?_; rintro e w1 ⟨rfl, rfl⟩)
      go_ret
      exact ⟨rfl, rfl⟩
    · go_enter Try.func116, Try.ntmps116
      go_upto_region 1 with fail
      go_wp2_with (refine c2.out.mono ?_; rintro e w1 ⟨rfl, rfl⟩)
      go_ret
      exact ⟨rfl, rfl⟩
end Go.Proofs.Ytdohfpnnmppdkaa

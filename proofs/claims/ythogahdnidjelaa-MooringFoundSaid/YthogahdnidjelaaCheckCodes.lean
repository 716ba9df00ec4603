/-
  Codes in memory; isCode, checkCodes.
-/
import Derived.Test.YthogahdnidjelaaCodes
namespace Go.Proofs.Ythogahdnidjelaa
open Go.RowKit Go.Shelf
set_option linter.unusedSimpArgs false
/-- the slice value holds these numbers (64 bits each), in a block below n₀; or it is nil -/
def Nums (n₀ : Nat) (W : World) (sv : Value) (zs : List Int) : Prop :=
  ∃ a cap, sv = .slice a zs.length cap ∧ zs.length ≤ cap ∧ ∀ k, k < zs.length → ∃ b off, a = some ⟨b, off, none⟩ ∧ b < n₀ ∧ W.cell? ⟨b, off + k, none⟩ = some (.int .i64 (zs[k]?.getD 0))
theorem Nums.at {W W' : World} {sv : Value} {zs : List Int} (h : Nums W.heap.size W sv zs) (hb : Below W.heap.size W W') : Nums W'.heap.size W' sv zs := by
  obtain ⟨a, cap, e, hl, hc⟩ := h
  refine ⟨a, cap, e, hl, fun k hk => ?_⟩
  obtain ⟨b, off, h1, h2, h3⟩ := hc k hk
  exact ⟨b, off, h1, Nat.lt_of_lt_of_le h2 hb.size, (hb.cell (p := ⟨b, off + k, none⟩) h2).trans h3⟩
theorem ret_bool {a b : Bool} (h : a = b) : Ending.returned (.bool a) = .returned (.bool b) := by rw [h]
theorem ret_int {k : IntKind} {a b : Int} (h : a = b) : Ending.returned (.int k a) = .returned (.int k b) := by rw [h]
def isC (x : Int) : Bool := decide (0 ≤ x) && decide (x ≤ 65535)
theorem isC_iff (x : Int) : isC x = true ↔ 0 ≤ x ∧ x ≤ 65535 := by simp [isC]
set_option maxHeartbeats 400000 in
theorem withinI_any (x lo hi : Int) (w : World) :
    Calls Try.prog 80 #[.int .i64 x, .int .i64 lo, .int .i64 hi] w fun e w' => e = .returned (.bool (decide (lo ≤ x) && decide (x ≤ hi))) ∧ w' = w := by
  go_enter Try.func80, Try.ntmps80
  go_wp2
  all_goals
    go_ret
    exact ⟨ret_bool (by simp <;> omega), rfl⟩
set_option maxHeartbeats 400000 in
theorem isCode_any (x : Int) (w : World) : Calls Try.prog 79 #[.int .i64 x] w fun e w' => e = .returned (.bool (isC x)) ∧ w' = w := by
  have c := fun w => withinI_any x 0 65535 w
  change ∀ w, Calls Try.prog 80 #[.int .i64 x, .int .i64 0, .int .i64 65535] w fun e w' => e = .returned (.bool (isC x)) ∧ w' = w at c
  generalize isC x = r at c ⊢
  go_enter Try.func79, Try.ntmps79
  go_wp2_with fail
  refine (c _).mono ?_
  rintro e w1 ⟨rfl, rfl⟩
  go_wp2_with fail
  go_ret
  exact ⟨rfl, rfl⟩
/-- the error of a list of codes -/
def codE (zs : List Int) : Int := if 64 < zs.length then 6 else if zs.all isC = true then 0 else 2
theorem codE_zero {zs : List Int} (h : codE zs = 0) : zs.length ≤ 64 ∧ ∀ z ∈ zs, 0 ≤ z ∧ z ≤ 65535 := by
  unfold codE at h
  split at h
  · exact absurd h (by decide)
  · split at h
    · rename_i h1 h2
      refine ⟨by omega, fun z hz => (isC_iff z).1 (List.all_eq_true.1 h2 z hz)⟩
    · exact absurd h (by decide)
theorem codE_bad {zs : List Int} (hl : ¬ 64 < zs.length) {k : Nat} (hk : k < zs.length) (h : isC (zs[k]?.getD 0) = false) : codE zs = 2 := by
  unfold codE
  rw [if_neg hl, if_neg]
  intro h2
  have := List.all_eq_true.1 h2 zs[k] (List.getElem_mem hk)
  rw [List.getElem?_eq_getElem hk, Option.getD_some, this] at h
  exact absurd h (by decide)
theorem codE_ok {zs : List Int} (hl : ¬ 64 < zs.length) (h : ∀ k, k < zs.length → isC (zs[k]?.getD 0) = true) : codE zs = 0 := by
  unfold codE
  rw [if_neg hl, if_pos]
  refine List.all_eq_true.2 fun z hz => ?_
  obtain ⟨k, hk, rfl⟩ := List.getElem_of_mem hz
  have := h k hk
  rwa [List.getElem?_eq_getElem hk, Option.getD_some] at this
set_option maxHeartbeats 1000000 in
theorem checkCodes_any (sv : Value) (zs : List Int) (w : World) (hI : Nums w.heap.size w sv zs) :
    Calls Try.prog 76 #[sv] w fun e w' => e = .returned (.int .i64 (codE zs)) ∧ w' = w := by
  obtain ⟨a, cap, rfl, -, hcell⟩ := hI
  by_cases hl : 64 < zs.length
  · rw [show codE zs = 6 from if_pos hl]
    clear hcell
    generalize zs.length = len at hl
    go_enter Try.func76, Try.ntmps76
    go_wp2_with fail
    go_ret
    exact ⟨rfl, rfl⟩
  · have HB := Lib.hid (fun k hk h => codE_bad (zs := zs) hl (k := k) hk h)
    have HO := Lib.hid (fun h => codE_ok (zs := zs) hl h)
    have HC := Lib.hid hcell
    clear hcell
    generalize codE zs = r at HB HO ⊢
    generalize zs.length = len at *
    go_enter Try.func76, Try.ntmps76
    go_wp2_with fail
    go_loopw [10] (fun i wr => ∃ k : Nat, k ≤ len ∧ i = .int .i64 k ∧ (∀ j, j < k → isC (zs[j]?.getD 0) = true) ∧ wr = w) (fun i _ => len - (intOf i).toNat)
    case atStart => exact ⟨0, Nat.zero_le _, rfl, fun j hj => absurd hj (Nat.not_lt_zero j), rfl⟩
    case round =>
      obtain ⟨k, hk, rfl, hall, rfl⟩ := hrel
      have HALL := Lib.hid hall
      clear hall
      by_cases hlt : k < len
      · obtain ⟨b, off, rfl, hb, c0⟩ := HC.out k hlt
        have HBk := Lib.hid (HB.out k hlt)
        generalize hx : zs[k]?.getD 0 = x at c0 HBk
        have HX := Lib.hid hx
        clear hx
        have cc := fun w => isCode_any x w
        by_cases hi : isC x = true
        · rw [hi] at cc
          have HI := Lib.hid hi
          clear hi
          go_wp2_with fail
          refine (cc _).mono ?_
          rintro e w1 ⟨rfl, rfl⟩
          go_wp2_with fail
          go_roundw
          case rel =>
            refine ⟨k + 1, by omega, by go_num, fun j hj => ?_, by first | rfl | trivial⟩
            rcases Nat.lt_or_ge j k with h | h
            · exact HALL.out j h
            · obtain rfl : j = k := by omega
              rw [HX.out]; exact HI.out
          case measure => simp [intOf]; omega
        · rw [Bool.not_eq_true] at hi
          have hr := HBk.out hi
          rw [hi] at cc
          clear HB HBk HO hi
          subst hr
          go_wp2_with fail
          refine (cc _).mono ?_
          rintro e w1 ⟨rfl, rfl⟩
          go_wp2_with fail
          go_ret
          exact ⟨rfl, rfl⟩
      · obtain rfl : k = len := by omega
        have hr := HO.out HALL.out
        clear HB HO hlt
        subst hr
        go_wp2_with fail
        go_ret
        exact ⟨rfl, rfl⟩
end Go.Proofs.Ythogahdnidjelaa

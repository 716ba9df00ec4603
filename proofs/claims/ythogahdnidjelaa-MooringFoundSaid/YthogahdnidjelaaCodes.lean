/-
  Codes: in how many bits two numbers differ.
-/
import Derived.Lib.Zigzag
import Derived.Shelf.Abstract
import Derived.Shelf.RegionOpen
import Derived.Lib.Hide
import Derived.WalkSpells
import Derived.WalkLawsBesides
import Derived.WalkSmall
import Derived.Below
import Derived.RangeFuncBox
import Derived.OwnWalkIn
import Derived.Test.YthogahdnidjelaaProg
import Derived.WalkKit
namespace Go.Proofs.Ythogahdnidjelaa
set_option linter.unusedSimpArgs false
open Go.RowKit
/-- bit number i of a number -/
def bitAt (x i : Nat) : Nat := x / 2 ^ i % 2
theorem bitAt_lt (x i : Nat) : bitAt x i < 2 := Nat.mod_lt _ (by decide)
theorem bitAt_succ (x i : Nat) : bitAt (x / 2) i = bitAt x (i + 1) := by
  unfold bitAt
  rw [Nat.div_div_eq_div_mul, Nat.pow_succ, Nat.mul_comm]
theorem bitAt_zero (x : Nat) : bitAt x 0 = x % 2 := by simp [bitAt]
theorem bitAt_testBit (x i : Nat) : bitAt x i = (x.testBit i).toNat := by
  unfold bitAt
  rw [Nat.toNat_testBit]
theorem bitAt_xor (x y i : Nat) : bitAt (x ^^^ y) i = if bitAt x i = bitAt y i then 0 else 1 := by
  rw [bitAt_testBit, bitAt_testBit, bitAt_testBit, Nat.testBit_xor]
  cases x.testBit i <;> cases y.testBit i <;> rfl
/-- in how many of the first B bits two numbers differ -/
def apart (x y : Nat) : Nat → Nat
  | 0 => 0
  | B + 1 => apart x y B + if bitAt x B = bitAt y B then 0 else 1
theorem apart_le (x y : Nat) : ∀ B, apart x y B ≤ B
  | 0 => Nat.le_refl _
  | B + 1 => by have := apart_le x y B; simp only [apart]; split <;> omega
theorem apart_self (x : Nat) : ∀ B, apart x x B = 0
  | 0 => rfl
  | B + 1 => by simp only [apart, apart_self x B]; simp
theorem apart_comm (x y : Nat) : ∀ B, apart x y B = apart y x B
  | 0 => rfl
  | B + 1 => by
    simp only [apart, apart_comm x y B]
    by_cases h : bitAt x B = bitAt y B
    · rw [if_pos h, if_pos h.symm]
    · rw [if_neg h, if_neg (fun k => h k.symm)]
/-- to go by a third code is no shorter -/
theorem apart_tri (x y z : Nat) : ∀ B, apart x z B ≤ apart x y B + apart y z B
  | 0 => Nat.le_refl _
  | B + 1 => by
    have ih := apart_tri x y z B
    simp only [apart]
    by_cases h1 : bitAt x B = bitAt y B
    · by_cases h2 : bitAt y B = bitAt z B
      · rw [if_pos h1, if_pos h2, if_pos (h1.trans h2)]; omega
      · rw [if_pos h1, if_neg h2]; split <;> omega
    · rw [if_neg h1]
      split <;> split <;> omega
/-- from the lowest bit on: what the reference counts -/
theorem apart_half (x y : Nat) : ∀ B, apart x y (B + 1) = (if x % 2 = y % 2 then 0 else 1) + apart (x / 2) (y / 2) B
  | 0 => by simp [apart, bitAt_zero]
  | B + 1 => by
    have ih := apart_half x y B
    rw [show apart x y (B + 1 + 1) = apart x y (B + 1) + (if bitAt x (B + 1) = bitAt y (B + 1) then 0 else 1) from rfl, ih,
      show apart (x / 2) (y / 2) (B + 1) = apart (x / 2) (y / 2) B + (if bitAt (x / 2) B = bitAt (y / 2) B then 0 else 1) from rfl, bitAt_succ, bitAt_succ]
    omega
/-- the same bits turned in both: as far apart -/
theorem apart_flip (x y f : Nat) : ∀ B, apart (x ^^^ f) (y ^^^ f) B = apart x y B
  | 0 => rfl
  | B + 1 => by
    simp only [apart, apart_flip x y f B]
    congr 1
    rw [bitAt_xor, bitAt_xor]
    have a := bitAt_lt x B
    have b := bitAt_lt y B
    have c := bitAt_lt f B
    by_cases h1 : bitAt x B = bitAt f B <;> by_cases h2 : bitAt y B = bitAt f B <;> by_cases h3 : bitAt x B = bitAt y B <;> simp [h1, h2, h3] <;> omega
/-- among codes that are 2 e + 1 apart at most one lies within e of whatever is heard -/
theorem apart_unique {x y h B d e : Nat} (hd : d ≤ apart x y B) (he : 2 * e + 1 ≤ d) (h1 : apart x h B ≤ e) (h2 : apart y h B ≤ e) : False := by
  have := apart_tri x h y B
  rw [apart_comm h y] at this
  omega
theorem xor_i64 (x y : Nat) (hx : x < 9223372036854775808) (hy : y < 9223372036854775808) : bits .xor .i64 (x : Int) (y : Int) = ((x ^^^ y : Nat) : Int) := by
  show IntKind.i64.wrap ((BitVec.ofInt 64 (x : Int) ^^^ BitVec.ofInt 64 (y : Int)).toNat : Int) = _
  have h1 : (BitVec.ofInt 64 (x : Int)).toNat = x := by
    rw [BitVec.ofInt_natCast, BitVec.toNat_ofNat]; exact Nat.mod_eq_of_lt (by omega)
  have h2 : (BitVec.ofInt 64 (y : Int)).toNat = y := by
    rw [BitVec.ofInt_natCast, BitVec.toNat_ofNat]; exact Nat.mod_eq_of_lt (by omega)
  have h3 : x ^^^ y < 2 ^ 63 := Nat.xor_lt_two_pow (by omega) (by omega)
  rw [BitVec.toNat_xor, h1, h2, IntKind.wrap_i64]
  omega

theorem and1_i64 (x : Nat) (hx : x < 9223372036854775808) : bits .and .i64 (x : Int) 1 = ((x % 2 : Nat) : Int) := by
  show IntKind.i64.wrap ((BitVec.ofInt 64 (x : Int) &&& BitVec.ofInt 64 1).toNat : Int) = _
  have h1 : (BitVec.ofInt 64 (x : Int)).toNat = x := by
    rw [BitVec.ofInt_natCast, BitVec.toNat_ofNat]; exact Nat.mod_eq_of_lt (by omega)
  have h2 : (BitVec.ofInt 64 1).toNat = 1 := by decide
  rw [BitVec.toNat_and, h1, h2, IntKind.wrap_i64, Nat.and_one_is_mod]
  omega
theorem bit_i64 (a b k : Nat) (ha : a < 65536) (hb : b < 65536) : bits .and .i64 (bits .xor .i64 (a : Int) (b : Int) / 2 ^ k) 1 = ((if bitAt a k = bitAt b k then 0 else 1 : Nat) : Int) := by
  have hx : a ^^^ b < 2 ^ 16 := Nat.xor_lt_two_pow (by omega) (by omega)
  rw [xor_i64 a b (by omega) (by omega)]
  have e : (((a ^^^ b : Nat) : Int) / 2 ^ k) = (((a ^^^ b) / 2 ^ k : Nat) : Int) := by
    rw [Int.natCast_ediv]; simp
  rw [e, and1_i64 _ (by have := Nat.div_le_self (a ^^^ b) (2 ^ k); omega)]
  have := bitAt_xor a b k
  unfold bitAt at this ⊢
  rw [this]
set_option maxHeartbeats 1000000 in
theorem distance_any (a b : Nat) (ha : a < 65536) (hb : b < 65536) (w : World) :
    Calls Try.prog 77 #[.int .i64 a, .int .i64 b] w fun e w' => e = .returned (.int .i64 (apart a b 16)) ∧ w' = w := by
  have HB := Lib.hid (fun k => bit_i64 a b k ha hb)
  go_enter Try.func77, Try.ntmps77
  go_wp2_with fail
  go_loopw [5, 7] (fun n i wr => ∃ k : Nat, k ≤ 16 ∧ i = .int .i64 k ∧ n = .int .i64 (apart a b k) ∧ wr = w) (fun _ i _ => 16 - (intOf i).toNat)
  case atStart => exact ⟨0, by decide, rfl, rfl, rfl⟩
  case round =>
    obtain ⟨k, hk, rfl, rfl, rfl⟩ := hrel
    by_cases hlt : k < 16
    · have hle := apart_le a b k
      have hst : apart a b (k + 1) = apart a b k + if bitAt a k = bitAt b k then 0 else 1 := rfl
      have hbit := HB.out k
      have hd : (if bitAt a k = bitAt b k then 0 else 1 : Nat) ≤ 1 := by split <;> omega
      generalize (if bitAt a k = bitAt b k then 0 else 1 : Nat) = d at hst hbit hd
      have HST := Lib.hid hst
      generalize apart a b k = m at hle HST ⊢
      clear hst
      go_wp2_with fail
      go_roundw
      case rel => exact ⟨k + 1, by omega, by go_num, by rw [HST.out]; go_num, by first | rfl | trivial⟩
      case measure => simp [intOf]; omega
    · obtain rfl : k = 16 := by omega
      go_wp2_with fail
      go_ret
      exact ⟨rfl, rfl⟩
set_option maxHeartbeats 1000000 in
theorem rapart_any (a b : Nat) (ha : a < 65536) (hb : b < 65536) (w : World) :
    Calls Try.prog 50 #[.int .i64 a, .int .i64 b] w fun e w' => e = .returned (.int .i64 (apart a b 16)) ∧ w' = w := by
  go_enter Try.func50, Try.ntmps50
  go_wp2_with fail
  go_loopw [0, 1, 5, 6] (fun x y n i wr => ∃ (k p q m : Nat), k ≤ 16 ∧ i = .int .i64 k ∧ x = .int .i64 p ∧ y = .int .i64 q ∧ p < 65536 ∧ q < 65536 ∧ n = .int .i64 m ∧ m ≤ k ∧ m + apart p q (16 - k) = apart a b 16 ∧ wr = w) (fun _ _ _ i _ => 16 - (intOf i).toNat)
  case atStart => exact ⟨0, a, b, 0, by decide, rfl, rfl, rfl, ha, hb, rfl, Nat.le_refl _, by simp, rfl⟩
  case round =>
    obtain ⟨k, p, q, m, hk, rfl, rfl, rfl, hp, hq, rfl, hm, hs, rfl⟩ := hrel
    have HS := Lib.hid hs
    clear hs
    by_cases hlt : k < 16
    · have hh := Lib.hid (apart_half p q (16 - (k + 1)))
      have ep : (p : Int).tmod 2 = ((p % 2 : Nat) : Int) := by rw [Int.tmod_eq_emod_of_nonneg (by omega)]; omega
      have eq : (q : Int).tmod 2 = ((q % 2 : Nat) : Int) := by rw [Int.tmod_eq_emod_of_nonneg (by omega)]; omega
      have dp : (p : Int).tdiv 2 = ((p / 2 : Nat) : Int) := by rw [Int.tdiv_eq_ediv_of_nonneg (by omega)]; omega
      have dq : (q : Int).tdiv 2 = ((q / 2 : Nat) : Int) := by rw [Int.tdiv_eq_ediv_of_nonneg (by omega)]; omega
      by_cases hpq : p % 2 = q % 2
      · go_wp2_with fail
        go_roundw
        case rel => exact ⟨k + 1, p / 2, q / 2, m, by omega, by go_num, by first | rw [dp] | simp [dp], by first | rw [dq] | simp [dq], by omega, by omega, rfl, by omega, by have h := hh.out; have s := HS.out; rw [show 16 - (k + 1) + 1 = 16 - k by omega, if_pos hpq] at h; omega, by first | rfl | trivial⟩
        case measure => simp [intOf]; omega
      · go_wp2_with fail
        go_roundw
        case rel => exact ⟨k + 1, p / 2, q / 2, m + 1, by omega, by go_num, by first | rw [dp] | simp [dp], by first | rw [dq] | simp [dq], by omega, by omega, by go_num, by omega, by have h := hh.out; have s := HS.out; rw [show 16 - (k + 1) + 1 = 16 - k by omega, if_neg hpq] at h; omega, by first | rfl | trivial⟩
        case measure => simp [intOf]; omega
    · obtain rfl : k = 16 := by omega
      have hr : m = apart a b 16 := by have := HS.out; simpa [apart] using this
      have HR := Lib.hid hr
      go_wp2_with fail
      go_ret
      exact ⟨by rw [← HR.out]; rfl, rfl⟩
end Go.Proofs.Ythogahdnidjelaa

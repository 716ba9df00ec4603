/-
  slices.Min over numbers of 64 bits.
-/
import Derived.Test.YthogahdnidjelaaSmallM
namespace Go.Proofs.Ythogahdnidjelaa
open Go.RowKit Go.Shelf
set_option linter.unusedSimpArgs false
def nth (zs : List Int) (k : Nat) : Int := zs[k]?.getD 0
/-- the least of the first k + 1 numbers -/
def leastTo (zs : List Int) : Nat → Int
  | 0 => nth zs 0
  | k + 1 => min (leastTo zs k) (nth zs (k + 1))
set_option maxHeartbeats 1000000 in
theorem sliceMin_any (sv : Value) (zs : List Int) (h0 : 0 < zs.length) (hl : zs.length ≤ 2147483649) (w : World) (hI : Nums w.heap.size w sv zs) :
    Calls Try.prog 111 #[sv] w fun e w' => e = .returned (.int .i64 (leastTo zs (zs.length - 1))) ∧ w' = w := by
  obtain ⟨a, cap, rfl, -, hcell⟩ := hI
  have HC := Lib.hid (show ∀ k, k < zs.length → ∃ b off, a = some ⟨b, off, none⟩ ∧ b < w.heap.size ∧ w.cell? ⟨b, off + k, none⟩ = some (.int .i64 (nth zs k)) from hcell)
  have HS := Lib.hid (show ∀ k, leastTo zs (k + 1) = min (leastTo zs k) (nth zs (k + 1)) from fun _ => rfl)
  have HZ := Lib.hid (show leastTo zs 0 = nth zs 0 from rfl)
  clear hcell
  generalize zs.length = len at *
  obtain ⟨b, off, rfl, hb, c0⟩ := HC.out 0 h0
  simp only [Nat.add_zero] at c0
  rw [← HZ.out] at c0
  go_enter Try.func111, Try.ntmps111
  go_wp2_with fail
  go_loopw [3, 4] (fun m i wr => ∃ k : Nat, k + 1 ≤ len ∧ i = .int .i64 (k + 1 : Nat) ∧ m = .int .i64 (leastTo zs k) ∧ wr = w) (fun _ i _ => len - (intOf i).toNat)
  case atStart => exact ⟨0, by omega, rfl, rfl, rfl⟩
  case round =>
    obtain ⟨k, hk, rfl, rfl, rfl⟩ := hrel
    by_cases hlt : k + 1 < len
    · obtain ⟨b2, off2, e2, hb2, c1⟩ := HC.out (k + 1) hlt
      simp at e2
      obtain ⟨rfl, rfl⟩ := e2
      have HSk := Lib.hid (HS.out k)
      generalize nth zs (k + 1) = y at c1 HSk
      generalize leastTo zs k = x at HSk ⊢
      go_wp2_with fail
      all_goals
        go_roundw
        case rel => exact ⟨k + 1, by omega, by go_num, by rw [HSk.out]; congr 1; omega, by first | rfl | trivial⟩
        case measure => simp [intOf]; omega
    · have e : len - 1 = k := by omega
      have HE := Lib.hid e
      clear e
      go_wp2_with fail
      go_ret
      exact ⟨by rw [HE.out]; rfl, rfl⟩
end Go.Proofs.Ythogahdnidjelaa

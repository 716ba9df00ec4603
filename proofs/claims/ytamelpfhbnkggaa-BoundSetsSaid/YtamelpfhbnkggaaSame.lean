/-
  Same, for equal lists.
-/
import Derived.Test.YtamelpfhbnkggaaSetOut
namespace Go.Proofs.Ytamelpfhbnkggaa
open Go.RowKit Go.Shelf
set_option maxHeartbeats 2000000 in
theorem same_yes (sv tv : Value) (s : List (Int × Int)) (hl : s.length ≤ 1000) (w : World) (hS : Spans w.heap.size w sv s) (hT : Spans w.heap.size w tv s) :
    Calls Try.prog 55 #[sv, tv] w fun e w' => e = .returned (.bool true) ∧ Below w.heap.size w w' := by
  obtain ⟨a1, cap1, rfl, hcS⟩ := hS.slice
  obtain ⟨a2, cap2, rfl, hcT⟩ := hT.slice
  have HS := Lib.hid hcS
  have HT := Lib.hid hcT
  clear hS hT hcS hcT
  generalize s.length = len at *
  go_enter Try.func55, Try.ntmps55
  go_wp2_with fail
  go_loopw [5] (fun i wr => ∃ k : Nat, k ≤ len ∧ i = .int .i64 k ∧ Below w.heap.size w wr) (fun i _ => len - (intOf i).toNat)
  case atStart => exact ⟨0, Nat.zero_le _, rfl, Below.refl _ _⟩
  case round =>
    obtain ⟨k, hk, rfl, hB⟩ := hrel
    by_cases hlt : k < len
    · obtain ⟨b1, off1, rfl, hb1, c0, c1⟩ := HS.out k hlt
      obtain ⟨b2, off2, rfl, hb2, c2, c3⟩ := HT.out k hlt
      have k0 := (hB.cell (p := ⟨b1, off1 + k * 2, none⟩) hb1).trans c0
      have k1 := (hB.cell (p := ⟨b1, off1 + k * 2 + 1, none⟩) hb1).trans c1
      have k2 := (hB.cell (p := ⟨b2, off2 + k * 2, none⟩) hb2).trans c2
      have k3 := (hB.cell (p := ⟨b2, off2 + k * 2 + 1, none⟩) hb2).trans c3
      clear c0 c1 c2 c3
      generalize s[k]?.getD (0, 0) = z at k0 k1 k2 k3
      obtain ⟨zl, zh⟩ := z
      dsimp only at k0 k1 k2 k3
      go_wp2_with fail
      go_quiet (fail)
      go_wp2_with fail
      go_roundw
      case rel => exact ⟨k + 1, by omega, by go_num, below_drewN hB _⟩
      case measure => simp [intOf]; omega
    · go_wp2_with fail
      go_ret
      exact ⟨rfl, hB⟩
/-- Outside in the example -/
theorem out_known : outL [(1, 3), (5, 6)] 0 7 = [(0, 0), (4, 4), (7, 7)] := by
  refine nset_eq ⟨?_, ?_⟩ fun x => ?_
  · intro p hp
    simp at hp
    rcases hp with rfl | rfl | rfl <;> exact ⟨by decide, by decide, by decide⟩
  · simp
  · simp only [inL_cons]
    constructor
    · rintro (h | h | h | h)
      · exact ⟨by omega, by omega, by rintro (h | h | h); omega; omega; exact inL_nil _ h⟩
      · exact ⟨by omega, by omega, by rintro (h | h | h); omega; omega; exact inL_nil _ h⟩
      · exact ⟨by omega, by omega, by rintro (h | h | h); omega; omega; exact inL_nil _ h⟩
      · exact absurd h (inL_nil _)
    · rintro ⟨h1, h2, h3⟩
      have h4 : ¬ (1 ≤ x ∧ x ≤ 3) := fun h => h3 (.inl h)
      have h5 : ¬ (5 ≤ x ∧ x ≤ 6) := fun h => h3 (.inr (.inl h))
      omega
theorem set_known : setE [(1, 3), (5, 6)] = 0 := setE_ok (by simp) ⟨fun p hp => by
  simp at hp
  rcases hp with rfl | rfl <;> exact ⟨by decide, by decide, by decide⟩, by simp⟩
theorem outE_known : outE [(1, 3), (5, 6)] 0 7 = 0 := by
  unfold outE; rw [if_pos set_known, if_pos (by decide), out_known]; rfl
theorem outV_known : outV [(1, 3), (5, 6)] 0 7 = [(0, 0), (4, 4), (7, 7)] := by
  unfold outV; rw [if_pos set_known, if_pos (by decide), out_known]; rfl
end Go.Proofs.Ytamelpfhbnkggaa

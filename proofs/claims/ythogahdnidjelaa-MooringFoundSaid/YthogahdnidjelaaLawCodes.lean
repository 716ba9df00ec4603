/-
  MooringCodes: the walk, given that 'fine' returns true.
-/
import Derived.Test.YthogahdnidjelaaRefAnswers
import Derived.BigQuiet
import Derived.Deep.QuietTactic
namespace Go.Proofs.Ythogahdnidjelaa
open Go.RowKit Go.Shelf
set_option linter.unusedSimpArgs false
set_option maxHeartbeats 2000000 in
theorem numbers_yes (sv tv : Value) (zs : List Int) (hl : zs.length ≤ 2147483649) (w : World) (hS : Nums w.heap.size w sv zs) (hT : Nums w.heap.size w tv zs) :
    Calls Try.prog 39 #[sv, tv] w fun e w' => e = .returned (.bool true) ∧ Below w.heap.size w w' := by
  obtain ⟨a1, cap1, rfl, -, hcS⟩ := hS
  obtain ⟨a2, cap2, rfl, -, hcT⟩ := hT
  have HS := Lib.hid hcS
  have HT := Lib.hid hcT
  clear hcS hcT
  generalize zs.length = len at *
  go_enter Try.func39, Try.ntmps39
  go_wp2_with fail
  go_loopw [5] (fun i wr => ∃ k : Nat, k ≤ len ∧ i = .int .i64 k ∧ Below w.heap.size w wr) (fun i _ => len - (intOf i).toNat)
  case atStart => exact ⟨0, Nat.zero_le _, rfl, Below.refl _ _⟩
  case round =>
    obtain ⟨k, hk, rfl, hB⟩ := hrel
    by_cases hlt : k < len
    · obtain ⟨b1, off1, rfl, hb1, c0⟩ := HS.out k hlt
      obtain ⟨b2, off2, rfl, hb2, c1⟩ := HT.out k hlt
      have k0 := (hB.cell (p := ⟨b1, off1 + k, none⟩) hb1).trans c0
      have k1 := (hB.cell (p := ⟨b2, off2 + k, none⟩) hb2).trans c1
      clear c0 c1
      generalize zs[k]?.getD 0 = z at k0 k1
      go_wp2_with fail
      go_quiet (fail)
      go_wp2_with fail
      go_roundw
      case rel => exact ⟨k + 1, by omega, by go_num, below_drewN hB _⟩
      case measure => simp [intOf]; omega
    · go_wp2_with fail
      go_ret
      exact ⟨rfl, hB⟩
theorem ansV_len (zs : List Int) (h g : Int) : (ansV zs h g).length ≤ 2147483649 := by
  unfold ansV
  split
  · rename_i h1
    have := (codE_zero h1).1
    split
    · exact Nat.le_trans (ansTo_len zs _ _ _) (by omega)
    · simp
  · simp
set_option maxRecDepth 10000 in
set_option maxHeartbeats 4000000 in
theorem law_codes (hf : ∀ w, Calls Try.prog 15 #[] w fun e w' => e = .returned (.bool true) ∧ Below w.heap.size w w') (sv : Value) (zs : List Int) (heard wrong : Int) (w : World) (hI : Nums w.heap.size w sv zs) :
    Calls Try.prog 5 #[sv, .int .i64 heard, .int .i64 wrong] w fun e w' => e = .returned (.bool true) ∧ Below w.heap.size w w' := by
  have c35 := fun w' (hb : Below w.heap.size w w') => spacing_any sv zs w' (hI.at hb)
  have c36 := fun w' (hb : Below w.heap.size w w') => rspacing_any sv zs w' (hI.at hb)
  have c37 := fun w' (hb : Below w.heap.size w w') => answers_any sv zs heard wrong w' (hI.at hb)
  have c38 := fun w' (hb : Below w.heap.size w w') => ranswers_any sv zs heard wrong w' (hI.at hb)
  have cN := fun sv tv w (hS : Nums w.heap.size w sv (ansV zs heard wrong)) (hT : Nums w.heap.size w tv (ansV zs heard wrong)) => numbers_yes sv tv _ (ansV_len zs heard wrong) w hS hT
  obtain ⟨a, cap, rfl, -, -⟩ := hI
  generalize spcV zs = S at *
  generalize spcE zs = E at *
  generalize ansV zs heard wrong = V at *
  generalize ansE zs heard wrong = F at *
  generalize zs.length = len at *
  by_cases hl : 100 < len
  · clear c35 c36 c37 c38 cN
    go_enter Try.func5, Try.ntmps5
    go_wp2_with fail
    refine (hf _).mono ?_
    rintro e w1 ⟨rfl, hb⟩
    go_wp2_with fail
    go_ret
    exact ⟨rfl, hb⟩
  · go_enter Try.func5, Try.ntmps5
    go_wp2_with fail
    refine (c35 _ (Below.refl _ _)).mono ?_
    rintro e w1 ⟨rfl, rfl⟩
    go_wp2_with fail
    refine (c36 _ (Below.refl _ _)).mono ?_
    rintro e w2 ⟨rfl, hB2⟩
    go_wp2_with fail
    refine (c37 _ hB2).mono ?_
    rintro e w3 ⟨v3, rfl, h3, hb⟩
    have hB3 := hB2.trans (hb.mono hB2.size)
    go_wp2_with fail
    refine (c38 _ hB3).mono ?_
    rintro e w4 ⟨v4, rfl, h4, hb4⟩
    have hB4 := hB3.trans (hb4.mono hB3.size)
    have h34 := h3.at hb4
    go_wp2_with fail
    refine (cN _ _ _ h34 h4).mono ?_
    rintro e w5 ⟨rfl, hb5⟩
    have hB5 := hB4.trans (hb5.mono hB4.size)
    go_wp2_with fail
    refine (hf _).mono ?_
    rintro e w6 ⟨rfl, hb6⟩
    go_wp2_with fail
    go_ret
    exact ⟨rfl, hB5.trans (hb6.mono hB5.size)⟩
end Go.Proofs.Ythogahdnidjelaa

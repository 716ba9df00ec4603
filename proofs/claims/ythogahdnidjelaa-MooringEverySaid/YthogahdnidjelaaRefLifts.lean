/-
  The reference's within, lifts; Lifts of both sides, given Check.
-/
import Derived.Test.YthogahdnidjelaaLifts
namespace Go.Proofs.Ythogahdnidjelaa
open Go.RowKit Go.Shelf
set_option linter.unusedSimpArgs false
set_option maxHeartbeats 400000 in
theorem rwithin_any (x lo hi : Int) (w : World) :
    Calls Try.prog 56 #[.int .i64 x, .int .i64 lo, .int .i64 hi] w fun e w' => e = .returned (.bool (btw lo x hi)) ∧ w' = w := by
  unfold btw
  go_enter Try.func56, Try.ntmps56
  go_wp2
  all_goals
    go_ret
    exact ⟨ret_bool (by simp <;> omega), rfl⟩
set_option maxRecDepth 10000 in
set_option maxHeartbeats 4000000 in
theorem rlifts_any (d an fr : Int) (sv : Value) (zs : List El) (hl : zs.length ≤ 40) (hv : ∀ k, k < zs.length → -1048576 ≤ (el zs k).lift ∧ (el zs k).lift ≤ 1048576) (w : World) (hI : Els w.heap.size w sv zs) :
    Calls Try.prog 53 #[.agg #[.int .i64 d, sv, .int .i64 an, .int .i64 fr]] w fun e w' => ∃ v, e = .returned v ∧ Nums w'.heap.size w' v (lifL zs zs.length) ∧ Below w.heap.size w w' := by
  obtain ⟨a, cap, rfl, -, hcell⟩ := hI
  have HC := Lib.hid hcell
  have HV := Lib.hid hv
  have HD := Lib.hid (lifTo_bd zs hv)
  obtain ⟨i0, hi0, hz0, hz1, hz2⟩ := info_parts infoJ
  clear hcell hv
  generalize zs.length = len at *
  obtain ⟨A, hA⟩ : ∃ A, A = w.alloc (.cells #[.int .i64 d, .slice a len cap, .int .i64 an, .int .i64 fr] 24) := ⟨_, rfl⟩
  have hsl : A.cell? ⟨w.heap.size, 1, none⟩ = some (.slice a len cap) := by rw [hA]; simp [go_sem]
  have hzA : A.heap.size = w.heap.size + 1 := by rw [hA]; simp
  have hbA : Below w.heap.size w A := by rw [hA]; exact (Below.refl _ _).alloc (Nat.le_refl _) _
  have HSL := Lib.hid (fun W (h : Below (w.heap.size + 1) A W) => (h.cell (p := ⟨w.heap.size, 1, none⟩) (Nat.lt_succ_self _)).trans hsl)
  have HBA := Lib.hid hbA
  go_enter Try.func53, Try.ntmps53
  go_wp2_with fail
  try rw [← hA]
  clear hA hsl hbA
  go_loopw [3, 4, 5] (fun v s i wr => ∃ k : Nat, k ≤ len ∧ i = .int .i64 k ∧ s = .int .i64 (lifTo zs k) ∧ wr.ownsRow (w.heap.size + 1) 2 1 v k (numv (lifL zs k)) ∧ Below (w.heap.size + 1) A wr) (fun _ _ i _ => len - (intOf i).toNat)
  case atStart => exact ⟨0, Nat.zero_le _, rfl, rfl, World.ownsRow_nil _ _ _ _, Below.refl _ _⟩
  case round =>
    obtain ⟨k, hk, rfl, rfl, hrow, hB⟩ := hrel
    have hsz := hB.size
    have hs := HSL.out _ hB
    by_cases hlt : k < len
    · obtain ⟨b, off, rfl, hb, k0, k1, k2, k3⟩ := HC.out k hlt
      have hbd := HD.out k (by omega)
      have hv := HV.out k hlt
      have HT := Lib.hid (show lifTo zs (k + 1) = lifTo zs k + (el zs k).lift from rfl)
      have HL := Lib.hid (show lifL zs (k + 1) = lifL zs k ++ [lifTo zs (k + 1)] from rfl)
      generalize el zs k = x at *
      have hBw := HBA.out.trans (hB.mono (Nat.le_succ _))
      have m1 := (hBw.cell (p := ⟨b, off + k * 4 + 1, none⟩) hb).trans k1
      clear k0 k1 k2 k3 hBw
      generalize lifTo zs k = s at *
      generalize hnl : numv (lifL zs k) = nl at hrow
      have HNL := Lib.hid hnl
      clear hnl
      have hWs : IntKind.i64.wrap (s + x.lift) = s + x.lift := by rw [IntKind.wrap_i64]; omega
      go_wp2_with (at_builtin; refine wpList_append_own _ rfl _ _ 28 rfl (w.heap.size + 1) 2 i0 (.int .i64 0) 1 8 Try.underlying28 hi0 hz0 hz1 hz2 rfl (by decide) _ _ _ rfl (hrow.alloc _) ⟨wr.heap.size, 0, none⟩ 1 1 [.int .i64 (s + x.lift)] rfl rfl (one_new2 _ _) (by simp [Value.oneCell']) (by unfold maxLen; omega) (by omega) (by simp; omega) ?_; intro v' w5 hrow' hgrow _)
      have hB5 : Below (w.heap.size + 1) A w5 := (hB.alloc (by omega) _).grown hgrow (by simp; omega) (fun j hj => (hrow.lt j hj).1)
      go_roundw
      case rel => exact ⟨k + 1, by omega, by go_num, by rw [HT.out], by rw [HL.out, HT.out, numv_snoc, HNL.out]; exact hrow', hB5⟩
      case measure => simp [intOf]; omega
    · obtain rfl : k = len := by omega
      have hn := nums_of_owns2 (xs := lifL zs k) (by rw [lifL_len]; exact hrow)
      have HN := Lib.hid hn
      have HBw := Lib.hid (HBA.out.trans (hB.mono (Nat.le_succ _)))
      clear hn hrow hB
      go_wp2_with fail
      go_ret
      exact ⟨_, rfl, HN.out, HBw.out⟩
end Go.Proofs.Ythogahdnidjelaa

/-
  lifts.
-/
import Derived.Test.YthogahdnidjelaaCheckM
import Derived.Test.YthogahdnidjelaaAnswers
import Derived.OwnWalk
namespace Go.Proofs.Ythogahdnidjelaa
open Go.RowKit Go.Shelf
set_option linter.unusedSimpArgs false
theorem infoJ : (Try.prog.info? 2).map (fun i => (i.zero, i.size, i.bytes)) = some (some (.int .i64 0), 1, 8) := by kernel_rfl
theorem one_new2 (W : World) (x : Value) : ∀ (j : Nat) (u : Value), [x][j]? = some u → (W.alloc (.cells #[x] 2)).cell? ((⟨W.heap.size, 0, none⟩ : Addr).add j) = some u := by
  intro j u hj
  match j, hj with
  | 0, hj => simp at hj; subst hj; simp [Addr.add]
theorem nums_of_owns2 {W : World} {base : Nat} {v : Value} {xs : List Int} (h : W.ownsRow base 2 1 v xs.length (numv xs)) : Nums W.heap.size W v xs := by
  rcases h.2 with ⟨rfl, h0⟩ | ⟨g, cap, cur, rfl, hb, hg, r1, r2, r3, r4⟩
  · exact ⟨none, 0, by rw [h0], by omega, fun j hj => by omega⟩
  · refine ⟨_, cap, rfl, r1, fun j hj => ⟨g, 0, rfl, (Array.getElem?_eq_some_iff.1 hg).1, ?_⟩⟩
    have e : cur.toList[j]? = some (.int .i64 (xs[j]?.getD 0)) := by
      have h4 : (cur.toList.take (xs.length * 1))[j]? = (numv xs)[j]? := by rw [r4]
      rw [List.getElem?_take_of_lt (by omega)] at h4
      rw [h4]
      simp [numv, hj]
    rw [Nat.zero_add]
    simp only [World.cell?, hg]
    simpa using e
/-- the lift below the first k elements -/
def lifTo (zs : List El) : Nat → Int
  | 0 => 0
  | k + 1 => lifTo zs k + (el zs k).lift
/-- the lifts below the first k elements, each -/
def lifL (zs : List El) : Nat → List Int
  | 0 => []
  | k + 1 => lifL zs k ++ [lifTo zs (k + 1)]
theorem lifL_len (zs : List El) : ∀ k, (lifL zs k).length = k
  | 0 => rfl
  | k + 1 => by simp [lifL, lifL_len zs k]
theorem lifTo_bd (zs : List El) (h : ∀ k, k < zs.length → -1048576 ≤ (el zs k).lift ∧ (el zs k).lift ≤ 1048576) : ∀ k, k ≤ zs.length → -1048576 * (k : Int) ≤ lifTo zs k ∧ lifTo zs k ≤ 1048576 * (k : Int)
  | 0, _ => by simp [lifTo]
  | k + 1, hk => by
    have ih := lifTo_bd zs h k (by omega)
    have := h k (by omega)
    simp only [lifTo]
    omega
set_option maxRecDepth 10000 in
set_option maxHeartbeats 2000000 in
theorem lifts_any (d an fr : Int) (sv : Value) (zs : List El) (hl : zs.length ≤ 40) (hv : ∀ k, k < zs.length → -1048576 ≤ (el zs k).lift ∧ (el zs k).lift ≤ 1048576) (w : World) (hI : Els w.heap.size w sv zs) :
    Calls Try.prog 52 #[.agg #[.int .i64 d, sv, .int .i64 an, .int .i64 fr]] w fun e w' => ∃ v, e = .returned v ∧ Nums w'.heap.size w' v (lifL zs zs.length) ∧ Below w.heap.size w w' := by
  obtain ⟨a, cap, rfl, hcap, hcell⟩ := hI
  have HC := Lib.hid hcell
  have HV := Lib.hid hv
  have HD := Lib.hid (lifTo_bd zs hv)
  obtain ⟨i0, hi0, hz0, hz1, hz2⟩ := info_parts infoJ
  have hb8 : i0.bytes * zs.length ≤ 281474976710656 := by rw [hz2]; omega
  clear hcell hv
  generalize zs.length = len at *
  go_enter Try.func52, Try.ntmps52
  go_wp2_with (at_make; (refine wpList_make_own _ rfl _ _ 28 rfl w.heap.size 2 i0 (.int .i64 0) 1 Try.underlying28 hi0 hz0 hz1 _ _ _ len rfl rfl rfl hb8 (by unfold maxLen; omega) (by simp) ?_); intro w1 hown1 hgrow1; have hB1 : Below w.heap.size w w1 := ((Below.refl _ _).alloc (Nat.le_refl _) _).grown hgrow1 (by simp) (fun j hj => by cases hj); have hsl : w1.cell? ⟨w.heap.size, 1, none⟩ = some (.slice a len cap) := hgrow1.cell (by simp [go_sem]) (by simp))
  go_loopw [3, 4, 14] (fun v bl i wr => ∃ k : Nat, k ≤ len ∧ i = .int .i64 k ∧ bl = .int .i64 (lifTo zs k) ∧ wr.ownsRow w.heap.size 2 1 v k (numv (lifL zs k)) ∧ Below w.heap.size w wr) (fun _ _ i _ => len - (intOf i).toNat)
  case atStart => exact ⟨0, Nat.zero_le _, rfl, rfl, by rw [World.size_alloc] at hown1; exact hown1, hB1⟩
  case round =>
    obtain ⟨k, hk, rfl, rfl, hrow, hB⟩ := hrel
    have hsz := hB.size
    by_cases hlt : k < len
    · obtain ⟨b, off, rfl, hb, k0, k1, k2, k3⟩ := HC.out k hlt
      have hbd := HD.out k (by omega)
      have hv := HV.out k hlt
      have HT := Lib.hid (show lifTo zs (k + 1) = lifTo zs k + (el zs k).lift from rfl)
      have HL := Lib.hid (show lifL zs (k + 1) = lifL zs k ++ [lifTo zs (k + 1)] from rfl)
      generalize el zs k = x at *
      have m0 := (hB.cell (p := ⟨b, off + k * 4, none⟩) hb).trans k0
      have m1 := (hB.cell (p := ⟨b, off + k * 4 + 1, none⟩) hb).trans k1
      have m2 := (hB.cell (p := ⟨b, off + k * 4 + 2, none⟩) hb).trans k2
      have m3 := (hB.cell (p := ⟨b, off + k * 4 + 3, none⟩) hb).trans k3
      clear k0 k1 k2 k3
      generalize lifTo zs k = s at *
      generalize hnl : numv (lifL zs k) = nl at hrow
      have HNL := Lib.hid hnl
      clear hnl
      have hWs : IntKind.i64.wrap (s + x.lift) = s + x.lift := by rw [IntKind.wrap_i64]; omega
      go_wp2_with (at_builtin; refine wpList_append_own _ rfl _ _ 28 rfl w.heap.size 2 i0 (.int .i64 0) 1 8 Try.underlying28 hi0 hz0 hz1 hz2 rfl (by decide) _ _ _ rfl ((hrow.alloc _).alloc _) ⟨wr.heap.size + 1, 0, none⟩ 1 1 [.int .i64 (s + x.lift)] rfl rfl (by have := one_new2 (wr.alloc (.cells #[.int .i64 x.len, .int .i64 x.lift, .int .i64 x.drag, .int .i64 x.str] 71)) (.int .i64 (s + x.lift)); simpa using this) (by simp [Value.oneCell']) (by unfold maxLen; omega) (by omega) (by simp; omega) ?_; intro v' w5 hrow' hgrow _)
      have hB5 : Below w.heap.size w w5 := ((hB.alloc (by omega) _).alloc (by simp; omega) _).grown hgrow (by simp; omega) (fun j hj => (hrow.lt j hj).1)
      go_roundw
      case rel => exact ⟨k + 1, by omega, by go_num, by rw [HT.out], by rw [HL.out, HT.out, numv_snoc, HNL.out]; exact hrow', hB5⟩
      case measure => simp [intOf]; omega
    · obtain rfl : k = len := by omega
      have hn := nums_of_owns2 (xs := lifL zs k) (by rw [lifL_len]; exact hrow)
      go_wp2_with fail
      go_ret
      exact ⟨_, rfl, hn, hB⟩
end Go.Proofs.Ythogahdnidjelaa

/-
  Slices in memory, read; whether lists are equal; which moorings are too long.
-/
import Derived.Test.YthogahdnidjelaaForceMath
import Derived.Test.YthogahdnidjelaaRoot
import Derived.BigQuiet
import Derived.Deep.QuietTactic
namespace Go.Proofs.Ythogahdnidjelaa
open Go.RowKit Go.Shelf
set_option linter.unusedSimpArgs false
theorem Prs.form {n₀ : Nat} {W : World} {sv : Value} {cs : List Pr} (h : Prs n₀ W sv cs) : ∃ a c, sv = .slice a cs.length c := by
  obtain ⟨a, c, rfl, -, -⟩ := h
  exact ⟨a, c, rfl⟩
theorem Nums.form {n₀ : Nat} {W : World} {sv : Value} {cs : List Int} (h : Nums n₀ W sv cs) : ∃ a c, sv = .slice a cs.length c := by
  obtain ⟨a, c, rfl, -, -⟩ := h
  exact ⟨a, c, rfl⟩
theorem Prs.get {n₀ : Nat} {W : World} {a : Option Addr} {c n : Nat} {cs : List Pr} (h : Prs n₀ W (.slice a n c) cs) : ∀ k, k < cs.length → ∃ b off, a = some ⟨b, off, none⟩ ∧ b < n₀ ∧ W.cell? ⟨b, off + k * 2, none⟩ = some (.int .i64 (pr cs k).lo) ∧ W.cell? ⟨b, off + k * 2 + 1, none⟩ = some (.int .i64 (pr cs k).hi) := by
  obtain ⟨a', c', e, -, hh⟩ := h
  simp only [Value.slice.injEq] at e
  obtain ⟨rfl, -, -⟩ := e
  exact hh
theorem chainN {n : Nat} {A W W' : World} (hb : Below W.heap.size W W') (h : Below n A W) (hn : n ≤ A.heap.size) : Below n A W' := h.trans (hb.mono (Nat.le_trans hn h.size))
theorem Nums.get {n₀ : Nat} {W : World} {a : Option Addr} {c n : Nat} {cs : List Int} (h : Nums n₀ W (.slice a n c) cs) : ∀ k, k < cs.length → ∃ b off, a = some ⟨b, off, none⟩ ∧ b < n₀ ∧ W.cell? ⟨b, off + k, none⟩ = some (.int .i64 (cs[k]?.getD 0)) := by
  obtain ⟨a', c', e, -, hh⟩ := h
  simp only [Value.slice.injEq] at e
  obtain ⟨rfl, -, -⟩ := e
  exact hh
set_option maxHeartbeats 4000000 in
theorem spans_yes (sv tv : Value) (zs : List Pr) (hl : zs.length ≤ 2147483649) (w : World) (hS : Prs w.heap.size w sv zs) (hT : Prs w.heap.size w tv zs) :
    Calls Try.prog 22 #[sv, tv] w fun e w' => e = .returned (.bool true) ∧ Below w.heap.size w w' := by
  obtain ⟨a1, cap1, rfl, -, hcS⟩ := hS
  obtain ⟨a2, cap2, rfl, -, hcT⟩ := hT
  have HS := Lib.hid hcS
  have HT := Lib.hid hcT
  clear hcS hcT
  generalize zs.length = len at *
  go_enter Try.func22, Try.ntmps22
  go_wp2_with fail
  go_loopw [5] (fun i wr => ∃ k : Nat, k ≤ len ∧ i = .int .i64 k ∧ Below w.heap.size w wr) (fun i _ => len - (intOf i).toNat)
  case atStart => exact ⟨0, Nat.zero_le _, rfl, Below.refl _ _⟩
  case round =>
    obtain ⟨k, hk, rfl, hB⟩ := hrel
    by_cases hlt : k < len
    · obtain ⟨b1, off1, rfl, hb1, c0, c1⟩ := HS.out k hlt
      obtain ⟨b2, off2, rfl, hb2, d0, d1⟩ := HT.out k hlt
      have k0 := (hB.cell (p := ⟨b1, off1 + k * 2, none⟩) hb1).trans c0
      have k1 := (hB.cell (p := ⟨b1, off1 + k * 2 + 1, none⟩) hb1).trans c1
      have l0 := (hB.cell (p := ⟨b2, off2 + k * 2, none⟩) hb2).trans d0
      have l1 := (hB.cell (p := ⟨b2, off2 + k * 2 + 1, none⟩) hb2).trans d1
      clear c0 c1 d0 d1
      generalize pr zs k = z at *
      obtain ⟨z0, z1⟩ := z
      dsimp only at *
      go_wp2_with fail
      go_quiet (fail)
      go_wp2_with fail
      go_roundw
      case rel => exact ⟨k + 1, by omega, by go_num, below_drewN hB _⟩
      case measure => simp [intOf]; omega
    · go_wp2_with fail
      go_ret
      exact ⟨rfl, hB⟩
set_option maxHeartbeats 1000000 in
theorem long_any (d an fr : Int) (a c : Option Addr) (l1 l2 k1 k2 : Nat) (w : World) :
    Calls Try.prog 14 #[.agg #[.int .i64 d, .slice a l1 k1, .int .i64 an, .int .i64 fr], .slice c l2 k2] w fun e w' => e = .returned (.bool (decide ((60 : Int) < (l1 : Int)) || decide ((60 : Int) < (l2 : Int)))) ∧ Below w.heap.size w w' := by
  by_cases h : 60 < l1
  all_goals
    go_enter Try.func14, Try.ntmps14
    go_wp2_with fail
    go_ret
    exact ⟨ret_bool (by first | rfl | (simp [h]; done) | (simp; omega) | (rw [decide_eq_false (by omega)]; simp) | (rw [decide_eq_true (by omega)]; simp)), (Below.refl _ _).alloc (Nat.le_refl _) _⟩
theorem Els.form {n₀ : Nat} {W : World} {sv : Value} {zs : List El} (h : Els n₀ W sv zs) : ∃ a c, sv = .slice a zs.length c := by
  obtain ⟨a, c, rfl, -, -⟩ := h
  exact ⟨a, c, rfl⟩
theorem Els.get {n₀ : Nat} {W : World} {a : Option Addr} {c n : Nat} {zs : List El} (h : Els n₀ W (.slice a n c) zs) : ∀ k, k < zs.length → ∃ b off, a = some ⟨b, off, none⟩ ∧ b < n₀ ∧
    W.cell? ⟨b, off + k * 4, none⟩ = some (.int .i64 (el zs k).len) ∧ W.cell? ⟨b, off + k * 4 + 1, none⟩ = some (.int .i64 (el zs k).lift) ∧
    W.cell? ⟨b, off + k * 4 + 2, none⟩ = some (.int .i64 (el zs k).drag) ∧ W.cell? ⟨b, off + k * 4 + 3, none⟩ = some (.int .i64 (el zs k).str) := by
  obtain ⟨a', c', e, -, hh⟩ := h
  simp only [Value.slice.injEq] at e
  obtain ⟨rfl, -, -⟩ := e
  exact hh
end Go.Proofs.Ythogahdnidjelaa

/-
  mooring.Spacing.
-/
import Derived.Test.YthogahdnidjelaaCheckCodes
namespace Go.Proofs.Ythogahdnidjelaa
open Go.RowKit Go.Shelf
set_option linter.unusedSimpArgs false
/-- code number k -/
def cd (zs : List Int) (k : Nat) : Nat := (zs[k]?.getD 0).toNat
/-- the least distance of code number i and the first k, and of m -/
def rowS (zs : List Int) (i : Nat) (m : Nat) : Nat → Nat
  | 0 => m
  | k + 1 => min (rowS zs i m k) (apart (cd zs i) (cd zs k) 16)
def spc (zs : List Int) : Nat → Nat
  | 0 => 16
  | i + 1 => rowS zs i (spc zs i) i
theorem rowS_le (zs : List Int) (i m : Nat) : ∀ k, rowS zs i m k ≤ m
  | 0 => Nat.le_refl _
  | k + 1 => by have := rowS_le zs i m k; simp only [rowS]; omega
theorem spc_le (zs : List Int) : ∀ k, spc zs k ≤ 16
  | 0 => Nat.le_refl _
  | k + 1 => Nat.le_trans (rowS_le zs k _ k) (spc_le zs k)
def spcV (zs : List Int) : Int := if codE zs = 0 then (if zs.length < 2 then 0 else spc zs zs.length) else 0
def spcE (zs : List Int) : Int := if codE zs = 0 then (if zs.length < 2 then 5 else 0) else codE zs
set_option maxHeartbeats 2000000 in
theorem spacing_any (sv : Value) (zs : List Int) (w : World) (hI : Nums w.heap.size w sv zs) :
    Calls Try.prog 35 #[sv] w fun e w' => e = .returned (.tuple #[.int .i64 (spcV zs), .int .i64 (spcE zs)]) ∧ w' = w := by
  have c1 := checkCodes_any sv zs w hI
  obtain ⟨a, cap, rfl, hcap, hcell⟩ := hI
  by_cases he : codE zs = 0
  rotate_left
  · rw [show spcV zs = 0 from if_neg he, show spcE zs = codE zs from if_neg he]
    generalize codE zs = r at c1 he ⊢
    have hb : (r != 0) = true := by simpa using he
    clear hcell
    generalize zs.length = len at *
    go_enter Try.func35, Try.ntmps35
    go_wp2_with fail
    refine c1.mono ?_
    rintro e w1 ⟨rfl, rfl⟩
    go_wp2_with fail
    go_ret2
    exact ⟨rfl, rfl⟩
  · obtain ⟨hl, hall⟩ := codE_zero he
    rw [he] at c1
    by_cases h2 : zs.length < 2
    · rw [show spcV zs = 0 by unfold spcV; rw [if_pos he, if_pos h2], show spcE zs = 5 by unfold spcE; rw [if_pos he, if_pos h2]]
      clear hcell hall he
      generalize zs.length = len at *
      go_enter Try.func35, Try.ntmps35
      go_wp2_with fail
      refine c1.mono ?_
      rintro e w1 ⟨rfl, rfl⟩
      go_wp2_with fail
      go_ret2
      exact ⟨rfl, rfl⟩
    · have EV := Lib.hid (show spcV zs = spc zs zs.length by unfold spcV; rw [if_pos he, if_neg h2])
      rw [show spcE zs = 0 by unfold spcE; rw [if_pos he, if_neg h2]]
      have HC := Lib.hid (show ∀ k, k < zs.length → ∃ b off, a = some ⟨b, off, none⟩ ∧ b < w.heap.size ∧ w.cell? ⟨b, off + k, none⟩ = some (.int .i64 (cd zs k)) ∧ cd zs k < 65536 from fun k hk => by
        obtain ⟨b, off, h1, h2, h3⟩ := hcell k hk
        have hz := hall (zs[k]?.getD 0) (by rw [List.getElem?_eq_getElem hk, Option.getD_some]; exact List.getElem_mem hk)
        refine ⟨b, off, h1, h2, ?_, ?_⟩
        · rw [h3]; unfold cd; rw [Int.toNat_of_nonneg hz.1]
        · unfold cd; omega)
      clear hcell hall he
      generalize spcV zs = r at EV ⊢
      generalize zs.length = len at *
      go_enter Try.func35, Try.ntmps35
      go_wp2_with fail
      refine c1.mono ?_
      rintro e w1 ⟨rfl, rfl⟩
      clear c1
      go_wp2_with fail
      go_loopw [5, 20] (fun m i wr => ∃ k : Nat, k ≤ len ∧ i = .int .i64 k ∧ m = .int .i64 (spc zs k) ∧ wr = w1) (fun _ i _ => len - (intOf i).toNat)
      case atStart => exact ⟨0, Nat.zero_le _, rfl, rfl, rfl⟩
      case round =>
        obtain ⟨k, hk, rfl, rfl, rfl⟩ := hrel
        by_cases hlt : k < len
        · obtain ⟨b, off, rfl, hb, c0, hx⟩ := HC.out k hlt
          have hm := spc_le zs k
          have HRk := Lib.hid (show ∀ q, rowS zs k (spc zs k) (q + 1) = min (rowS zs k (spc zs k) q) (apart (cd zs k) (cd zs q) 16) from fun _ => rfl)
          have HR0 := Lib.hid (show rowS zs k (spc zs k) 0 = spc zs k from rfl)
          have HRe := Lib.hid (show spc zs (k + 1) = rowS zs k (spc zs k) k from rfl)
          have HRl := Lib.hid (fun q => rowS_le zs k (spc zs k) q)
          generalize spc zs k = s0 at *
          generalize cd zs k = x at *
          go_wp2_with fail
          go_loopw [5, 29] (fun m j wi => ∃ q : Nat, q ≤ k ∧ j = .int .i64 q ∧ m = .int .i64 (rowS zs k s0 q) ∧ wi = wr) (fun _ j _ => k - (intOf j).toNat)
          case atStart => exact ⟨0, Nat.zero_le _, rfl, by rw [HR0.out], rfl⟩
          case round =>
            obtain ⟨q, hq, rfl, rfl, rfl⟩ := hrel
            by_cases hqt : q < k
            · obtain ⟨b2, off2, e2, hb2, d0, hy⟩ := HC.out q (by omega)
              simp at e2
              obtain ⟨rfl, rfl⟩ := e2
              have HRq := Lib.hid (HRk.out q)
              have hlq := HRl.out q
              generalize cd zs q = y at *
              have cc := fun w => distance_any x y hx hy w
              have hap := apart_le x y 16
              generalize apart x y 16 = d at *
              generalize rowS zs k s0 q = m at *
              go_wp2_with fail
              refine (cc _).mono ?_
              rintro e w2 ⟨rfl, rfl⟩
              go_wp2_with fail
              go_roundw
              case rel => exact ⟨q + 1, by omega, by go_num, by rw [HRq.out]; congr 1; omega, by first | rfl | trivial⟩
              case measure => simp [intOf]; omega
            · obtain rfl : q = k := by omega
              go_wp2_with fail
              go_roundw
              case rel => exact ⟨q + 1, by omega, by go_num, by rw [HRe.out], by first | rfl | trivial⟩
              case measure => simp [intOf]; omega
        · obtain rfl : k = len := by omega
          have hr := EV.out
          clear EV hlt
          subst hr
          go_wp2_with fail
          go_ret2
          exact ⟨rfl, rfl⟩
end Go.Proofs.Ythogahdnidjelaa

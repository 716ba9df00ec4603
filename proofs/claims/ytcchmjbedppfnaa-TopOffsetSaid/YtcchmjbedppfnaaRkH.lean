/-
  Clock: the reference's contradiction.
-/
import Derived.Test.YtcchmjbedppfnaaRkG
import Derived.Test.YtcchmjbedppfnaaCkN
namespace Go.Proofs.Ytcchmjbedppfnaa
open Go.RowKit Go.Shelf
set_option linter.unusedSimpArgs false
/-- the reference's pair: -1 if there is none -/
def RctP (r : Int) (os : List Of) (i k : Int) : Prop := ∃ z, CdP r os z ∧ ((z = (0, 0) ∧ i = -1 ∧ k = -1) ∨ (z.1 < z.2 ∧ i = (z.1 : Int) ∧ k = (z.2 : Int)))
set_option maxRecDepth 100000 in
set_option maxHeartbeats 8000000 in
theorem rcontradiction_any (p r : Int) (sv : Value) (xs : List Xc) (h0 : lrnE p r xs = 0) (w : World) (hX : Xcs w.heap.size w sv xs) :
    Calls Try.prog 90 #[.agg #[.int .i64 p, .int .i64 r, sv]] w fun e w' => ∃ i k, e = .returned (.tuple #[.int .i64 i, .int .i64 k]) ∧ RctP r (ofA r xs) i k ∧ Below w.heap.size w w' := by
  obtain ⟨⟨hl1, hl2⟩, -, hr, hok⟩ := lrnE_ok h0
  have c97 := Lib.hid (fun (i k : Nat) (hi : i < xs.length) (hk : k < xs.length) W (hb : Below w.heap.size w W) => rcontradict_any p r sv xs hr hok i k hi hk hl2 W (hX.at hb))
  have HNO := Lib.hid (show (∀ i k, i < k → k < xs.length → cdB r (ofTo r xs xs.length) i k = false) → RctP r (ofA r xs) (-1) (-1) from fun h => ⟨(0, 0), .inl ⟨rfl, fun i k a b => h i k a (by rwa [show (ofA r xs).length = xs.length from ofTo_len r xs _] at b)⟩, .inl ⟨rfl, rfl, rfl⟩⟩)
  have HYES := Lib.hid (show ∀ j k : Nat, j < k → k < xs.length → cdB r (ofTo r xs xs.length) j k = true → (∀ i m, i < m → m < k → cdB r (ofTo r xs xs.length) i m = false) → (∀ i, i < j → cdB r (ofTo r xs xs.length) i k = false) → RctP r (ofA r xs) j k from fun j k h1 h2 h3 h4 h5 =>
    ⟨(j, k), .inr ⟨h1, by rw [show (ofA r xs).length = xs.length from ofTo_len r xs _]; exact h2, h3, fun i m a b c => by
      rcases c with c | ⟨rfl, c⟩
      · exact h4 i m a c
      · exact h5 i c⟩, .inr ⟨h1, rfl, rfl⟩⟩)
  generalize RctP r (ofA r xs) = PP at *
  obtain ⟨a, cap, hsv⟩ := hX.form
  subst hsv
  clear hok h0 hr hX
  generalize ofTo r xs xs.length = os at *
  generalize xs.length = len at *
  obtain ⟨A, hA⟩ : ∃ A, A = w.alloc (.cells #[.int .i64 p, .int .i64 r, .slice a len cap] 28) := ⟨_, rfl⟩
  have hzA : A.heap.size = w.heap.size + 1 := by rw [hA]; simp
  have HBA := Lib.hid (show Below w.heap.size w A by rw [hA]; exact (Below.refl _ _).alloc (Nat.le_refl _) _)
  have k0 : A.cell? ⟨w.heap.size, 0, none⟩ = some (.int .i64 p) := by rw [hA]; simp [go_sem]
  have k1 : A.cell? ⟨w.heap.size, 1, none⟩ = some (.int .i64 r) := by rw [hA]; simp [go_sem]
  have k2 : A.cell? ⟨w.heap.size, 2, none⟩ = some (.slice a len cap) := by rw [hA]; simp [go_sem]
  have KK := Lib.hid (show ∀ W, Below A.heap.size A W → W.cell? ⟨w.heap.size, 0, none⟩ = some (.int .i64 p) ∧ W.cell? ⟨w.heap.size, 1, none⟩ = some (.int .i64 r) ∧ W.cell? ⟨w.heap.size, 2, none⟩ = some (.slice a len cap) from fun W h => ⟨(h.cell (p := ⟨w.heap.size, 0, none⟩) (by show w.heap.size < A.heap.size; omega)).trans k0, (h.cell (p := ⟨w.heap.size, 1, none⟩) (by show w.heap.size < A.heap.size; omega)).trans k1, (h.cell (p := ⟨w.heap.size, 2, none⟩) (by show w.heap.size < A.heap.size; omega)).trans k2⟩)
  have HUP := Lib.hid (show ∀ W, Below A.heap.size A W → Below w.heap.size w W from fun W h => HBA.out.trans (h.mono HBA.out.size))
  clear k0 k1 k2 hzA
  go_enter Try.func90, Try.ntmps90
  go_wp2_with fail
  try rw [← hA]
  clear hA
  go_loopw [4] (fun iv wr => ∃ k : Nat, k ≤ len ∧ iv = .int .i64 k ∧ (∀ i m, i < m → m < k → cdB r os i m = false) ∧ Below A.heap.size A wr) (fun iv _ => len - (intOf iv).toNat)
  case atStart => exact ⟨0, Nat.zero_le _, rfl, fun i m _ h => absurd h (Nat.not_lt_zero _), Below.refl _ _⟩
  case round =>
    obtain ⟨k, hk, rfl, hin, hB⟩ := hrel
    have HIN := Lib.hid hin
    have HB := Lib.hid hB
    obtain ⟨g0, g1, g2⟩ := KK.out _ hB
    clear hin hB
    by_cases hlt : k < len
    · have hki : (k : Int) < (len : Int) := by omega
      go_wp2_with fail
      clear g0 g1 g2
      go_loopw [5] (fun jv wv => ∃ j : Nat, j ≤ k ∧ jv = .int .i64 j ∧ (∀ i, i < j → cdB r os i k = false) ∧ Below A.heap.size A wv) (fun jv _ => k - (intOf jv).toNat)
      case atStart => exact ⟨0, Nat.zero_le _, rfl, fun i h => absurd h (Nat.not_lt_zero _), HB.out⟩
      case round =>
        obtain ⟨j, hj, rfl, hjn, hB2⟩ := hrel
        have HJN := Lib.hid hjn
        have HB2 := Lib.hid hB2
        obtain ⟨g0, g1, g2⟩ := KK.out _ hB2
        clear hjn hB2
        by_cases hjk : j < k
        · have hji : (j : Int) < (k : Int) := by omega
          have HC := Lib.hid (c97.out j k (by omega) hlt _ (HUP.out _ HB2.out))
          have HYk := Lib.hid (HYES.out j k hjk hlt)
          generalize hcd : cdB r os j k = cd at *
          have HCD := Lib.hid hcd
          clear hcd
          go_wp2_with fail
          refine HC.out.mono ?_
          rintro e w4 ⟨rfl, hb4⟩
          have HB4 := Lib.hid (HB2.out.trans (hb4.mono HB2.out.size))
          clear hb4
          cases cd
          · go_wp2_with fail
            go_roundw
            case rel => exact ⟨j + 1, by omega, by go_num, fun i hi => (by by_cases e : i = j; (subst e; exact HCD.out); exact HJN.out i (by omega)), HB4.out⟩
            case measure => simp [intOf]; omega
          · go_wp2_with fail
            go_ret2
            exact ⟨(j : Int), (k : Int), rfl, HYk.out (by first | rfl | trivial) HIN.out HJN.out, HUP.out _ HB4.out⟩
        · obtain rfl : j = k := by omega
          go_wp2_with fail
          go_roundw
          case rel => exact ⟨j + 1, by omega, by go_num, fun i m h1 h2 => (by by_cases e : m = j; (subst e; exact HJN.out i h1); exact HIN.out i m h1 (by omega)), HB2.out⟩
          case measure => simp [intOf]; omega
    · obtain rfl : k = len := by omega
      go_wp2_with fail
      go_ret2
      exact ⟨-1, -1, rfl, HNO.out HIN.out, HUP.out _ HB.out⟩
end Go.Proofs.Ytcchmjbedppfnaa

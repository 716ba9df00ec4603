/-
  total.
-/
import Derived.Test.YthogahdnidjelaaMRows
import Derived.BigRegion
namespace Go.Proofs.Ythogahdnidjelaa
open Go.RowKit Go.Shelf
set_option linter.unusedSimpArgs false
def totLo (cs : List Pr) : Nat → Int
  | 0 => 0
  | k + 1 => totLo cs k + (pr cs k).lo
def totHi (cs : List Pr) : Nat → Int
  | 0 => 0
  | k + 1 => totHi cs k + (pr cs k).hi
theorem tot_bd {cs : List Pr} {m : Int} (hm : 0 ≤ m) (h : ∀ k, k < cs.length → 0 ≤ (pr cs k).lo ∧ (pr cs k).lo ≤ m ∧ 0 ≤ (pr cs k).hi ∧ (pr cs k).hi ≤ m) : ∀ k, k ≤ cs.length → 0 ≤ totLo cs k ∧ totLo cs k ≤ m * (k : Int) ∧ 0 ≤ totHi cs k ∧ totHi cs k ≤ m * (k : Int)
  | 0, _ => by simp [totLo, totHi]
  | k + 1, hk => by
    have ih := tot_bd hm h k (by omega)
    have := h k (by omega)
    have e : m * ((k + 1 : Nat) : Int) = m * (k : Int) + m := by rw [Int.natCast_add, Int.mul_add]; simp
    simp only [totLo, totHi]
    rw [e]
    omega
set_option maxRecDepth 10000 in
set_option maxHeartbeats 4000000 in
theorem total_any (cv : Value) (cs : List Pr) (hl : cs.length ≤ 40) (h : ∀ k, k < cs.length → 0 ≤ (pr cs k).lo ∧ (pr cs k).lo ≤ 1048576 ∧ 0 ≤ (pr cs k).hi ∧ (pr cs k).hi ≤ 1048576) (w : World) (hC : Prs w.heap.size w cv cs) :
    Calls Try.prog 74 #[cv] w fun e w' => e = .returned (.agg #[.int .i64 (totLo cs cs.length), .int .i64 (totHi cs cs.length)]) ∧ Below w.heap.size w w' := by
  obtain ⟨c, cap2, rfl, -, hcur⟩ := hC
  have HU := Lib.hid hcur
  have HD := Lib.hid (tot_bd (m := 1048576) (by decide) h)
  have HT := Lib.hid h
  clear hcur h
  generalize cs.length = len at *
  go_enter Try.func74, Try.ntmps74
  go_wp2_with fail
  go_loopw [8] (fun i wr => ∃ k : Nat, k ≤ len ∧ i = .int .i64 k ∧ wr.cell? ⟨w.heap.size + 1, 0, none⟩ = some (.int .i64 (totLo cs k)) ∧ wr.cell? ⟨w.heap.size + 1, 1, none⟩ = some (.int .i64 (totHi cs k)) ∧ wr.frozen? ⟨w.heap.size + 1, 0, none⟩ = false ∧ wr.frozen? ⟨w.heap.size + 1, 1, none⟩ = false ∧ wr.cell? ⟨w.heap.size, 0, none⟩ = some (.int .i64 0) ∧ wr.cell? ⟨w.heap.size, 1, none⟩ = some (.int .i64 0) ∧ wr.frozen? ⟨w.heap.size, 0, none⟩ = false ∧ wr.frozen? ⟨w.heap.size, 1, none⟩ = false ∧ w.heap.size + 2 ≤ wr.heap.size ∧ Below w.heap.size w wr) (fun i _ => len - (intOf i).toNat)
  case atStart => exact ⟨0, Nat.zero_le _, rfl, by simp [go_sem, totLo], by simp [go_sem, totHi], by simp [go_sem], by simp [go_sem], by simp [go_sem], by simp [go_sem], by simp [go_sem], by simp [go_sem], by simp, ((Below.refl _ _).alloc (Nat.le_refl _) _).alloc (by simp) _⟩
  case round =>
    obtain ⟨k, hk, rfl, t0, t1, f0, f1, r0, r1, g0, g1, hz, hB⟩ := hrel
    by_cases hlt : k < len
    · obtain ⟨b2, off2, rfl, hb2, u0, u1⟩ := HU.out k hlt
      have hbd := HD.out k (by omega)
      have hxx := HT.out k hlt
      have HL := Lib.hid (show totLo cs (k + 1) = totLo cs k + (pr cs k).lo from rfl)
      have HH := Lib.hid (show totHi cs (k + 1) = totHi cs k + (pr cs k).hi from rfl)
      generalize pr cs k = y at *
      obtain ⟨y0, y1⟩ := y
      dsimp only at *
      generalize totLo cs k = tl at *
      generalize totHi cs k = th at *
      have n0 := (hB.cell (p := ⟨b2, off2 + k * 2, none⟩) hb2).trans u0
      have n1 := (hB.cell (p := ⟨b2, off2 + k * 2 + 1, none⟩) hb2).trans u1
      clear u0 u1
      have W1 : IntKind.i64.wrap (tl + y0) = tl + y0 := by rw [IntKind.wrap_i64]; omega
      have W2 : IntKind.i64.wrap (th + y1) = th + y1 := by rw [IntKind.wrap_i64]; omega
      have z1 : w.heap.size < wr.heap.size := by omega
      have z2 : w.heap.size + 1 < wr.heap.size := by omega
      have q1 : ¬ wr.heap.size = w.heap.size := by omega
      have q2 : ¬ w.heap.size = wr.heap.size := by omega
      have q3 : ¬ wr.heap.size = w.heap.size + 1 := by omega
      have q4 : ¬ w.heap.size + 1 = wr.heap.size := by omega
      go_wp2_with fail
      go_region
      go_wp2_with fail
      go_roundw
      case rel => exact ⟨k + 1, by omega, by go_num, by rw [HL.out]; simp [go_sem, *], by rw [HH.out]; simp [go_sem, *], by simp [go_sem, *], by simp [go_sem, *], by simp [go_sem, *], by simp [go_sem, *], by simp [go_sem, *], by simp [go_sem, *], by simp; omega, by repeat (first | exact hB | refine Below.drew ?_ | refine Below.setCell ?_ (by simp) _ | refine Below.alloc ?_ (by first | omega | (simp; omega)) _)⟩
      case measure => simp [intOf]; omega
    · obtain rfl : k = len := by omega
      have z1 : w.heap.size < wr.heap.size := by omega
      go_wp2_with fail
      refine bodyPost_ret (v := .agg #[.int .i64 (totLo cs k), .int .i64 (totHi cs k)]) (by simp [results, Try.results74, go_sem, *]) rfl ⟨rfl, ?_⟩
      repeat (first | exact hB | refine Below.setCell ?_ (by simp) _)
end Go.Proofs.Ythogahdnidjelaa

/-
  Buffers: a slice of numbers, from the last one on.
-/
import Derived.Test.YtbbaehmfadpgeaaBfL
namespace Go.Proofs.Ytbbaehmfadpgeaa
open Go.RowKit Go.Shelf
set_option linter.unusedSimpArgs false
/-- the indexes of a list from the last one on -/
def bckL (n : Nat) : List (Fin n) := (List.finRange n).reverse
theorem bckL_length (n : Nat) : (bckL n).length = n := by simp [bckL]
theorem bck_take {n j : Nat} (hj : j < n) : (bckL n).take (j + 1) = (bckL n).take j ++ [⟨n - 1 - j, by omega⟩] := by
  rw [List.take_succ_eq_append_getElem (by rw [bckL_length]; exact hj)]
  congr 2
  unfold bckL
  simp
set_option maxRecDepth 100000 in
set_option maxHeartbeats 4000000 in
/-- the elements of a slice of numbers, from the last one on -/
theorem backward_in (Q : Nat → Prop) (n : Nat) (hn : 1 ≤ n) (l Bk g c len : Nat) (q : Nat → Int) (hlen : len ≤ 1000)
    (J Jx : List (Fin len) → World → Prop)
    (hY : ∀ pre (x : Fin len) W, J pre W → pre.length < 1000 → YieldAt Fence.wide (n - 1) Try.prog l #[.int .i64 (x.1 : Int), .int .i64 (q x.1)] W fun e W' =>
      (e = .returned (.bool true) ∧ J (pre ++ [x]) W' ∧ KeepQ Q W W') ∨ (e = .returned (.bool false) ∧ Jx (pre ++ [x]) W'))
    (W : World) (hQk : Q Bk) (hQg : Q g) (h1 : W.cell? ⟨Bk, 0, none⟩ = some (.slice (some ⟨g, 0, none⟩) len c))
    (hc : ∀ k, k < len → W.cell? ⟨g, k, none⟩ = some (.int .i64 (q k))) (hJ0 : J [] W) :
    CallsIn Fence.wide n Try.prog 112 #[.func (.yield l) #[] #[], .pointer (some ⟨Bk, 0, none⟩)] W fun e W' => (∃ v, e = .returned v) ∧
      ((∃ ys, ys = bckL len ∧ J ys W') ∨ (∃ pre, pre <+: bckL len ∧ Jx pre W')) := by
  have HC := Lib.hid (show ∀ j, j < len → ∃ (k : Nat) (x : Fin len), x.1 = k ∧ k = len - 1 - j ∧ W.cell? ⟨g, k, none⟩ = some (.int .i64 (q k)) ∧ (bckL len).take (j + 1) = (bckL len).take j ++ [x] from fun j hj => ⟨len - 1 - j, ⟨len - 1 - j, by omega⟩, rfl, rfl, hc _ (by omega), bck_take hj⟩)
  have HTK := Lib.hid (show (bckL len).take len = bckL len from List.take_of_length_le (by rw [bckL_length]; exact Nat.le_refl _))
  have HTL := Lib.hid (show ∀ k, k < len → ((bckL len).take k).length < 1000 from fun k hk => by rw [List.length_take]; omega)
  have HY := Lib.hid hY
  clear hc hY
  refine callsIn_of_wp Try.func112 rfl trivial ?_ rfl
  simp only [Try.ntmps112, List.size_toArray, List.length_cons, List.length_nil, Nat.reduceAdd, Nat.reduceSub, Array.replicate_succ, Array.replicate_zero, List.push_toArray, List.append_toArray, List.nil_append, List.cons_append]
  gi_wp2
  gi_loopw [3] (fun i wr => ∃ j : Nat, j ≤ len ∧ i = .int .i64 ((len : Int) - 1 - (j : Int)) ∧ J ((bckL len).take j) wr ∧ KeepQ Q W wr) (fun i _ => (intOf i + 1).toNat)
  case atStart => exact ⟨0, Nat.zero_le _, by go_num, by simpa using hJ0, fun _ _ => rfl⟩
  case round =>
    obtain ⟨j, hj, rfl, hJs, hnx⟩ := hrel
    by_cases hlt : j < len
    · obtain ⟨k, x, hxk, hk, hx, hTk⟩ := HC.out j hlt
      have m1 := (hnx.cell hQk 0).trans h1
      have mx := (hnx.cell hQg k).trans hx
      obtain ⟨fn, tmps, assign, body, hy, hR⟩ := HY.out _ x _ hJs (HTL.out j hlt)
      rw [hxk] at hy
      have HJs := Lib.hid hJs
      have HB := Lib.hid hnx
      have HTk := Lib.hid hTk
      have HK := Lib.hid hk
      have hkl : (k : Int) < (len : Int) := by omega
      rw [show (len : Int) - 1 - (j : Int) = (k : Int) by omega]
      clear hJs hnx hTk hx hk hxk
      generalize q k = z at *
      gi_wp2
      refine hR.mono ?_
      rintro e W3 (⟨rfl, hJ3, hk3⟩ | ⟨rfl, hJx3⟩)
      · have HB3 := Lib.hid (HB.out.trans hk3)
        gi_wp2
        go_roundw
        case rel => exact ⟨j + 1, by omega, by have := HK.out; go_num, by rw [HTk.out]; exact hJ3, HB3.out⟩
        case measure => first | (simp [intOf]; done) | (simp [intOf]; omega)
      · have HPF := Lib.hid (show (bckL len).take j ++ [x] <+: bckL len by rw [← HTk.out]; exact List.take_prefix _ _)
        gi_wp2
        refine bodyPost_ret (results_none rfl _ _ _) rfl ?_
        exact ⟨⟨_, rfl⟩, .inr ⟨_, HPF.out, hJx3⟩⟩
    · obtain rfl : j = len := by omega
      have HJs := Lib.hid hJs
      clear hJs hnx
      rw [show (j : Int) - 1 - (j : Int) = -1 by omega]
      gi_wp2
      go_end0
      exact ⟨⟨_, rfl⟩, .inl ⟨_, HTK.out, HJs.out⟩⟩
theorem backward_stops (Q : Nat → Prop) (n : Nat) (hn : 1 ≤ n) (Bk g c len : Nat) (q : Nat → Int) (hlen : len ≤ 1000) (w : World) (hQ : ∀ p, Q p → p < w.heap.size) (hQk : Q Bk) (hQg : Q g)
    (h1 : w.cell? ⟨Bk, 0, none⟩ = some (.slice (some ⟨g, 0, none⟩) len c)) (hc : ∀ k, k < len → w.cell? ⟨g, k, none⟩ = some (.int .i64 (q k))) :
    SeqStopsK Fence.wide n Try.prog 112 #[.pointer (some ⟨Bk, 0, none⟩)] (fun x : Fin len => #[.int .i64 (x.1 : Int), .int .i64 (q x.1)]) (KeepQ Q) (fun ys => ys = bckL len) (fun pre => pre <+: bckL len) 1000 w := fun l J Jx W hW _ _ hY h00 => by
  have hk0 : KeepQ Q w W := fun p hp => hW.block p (hQ p hp)
  exact backward_in Q n hn l Bk g c len q hlen J Jx hY W hQk hQg ((hk0.cell hQk 0).trans h1) (fun k hk => (hk0.cell hQg k).trans (hc k hk)) h00

end Go.Proofs.Ytbbaehmfadpgeaa

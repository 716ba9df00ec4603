/-
  Buffers: the records are yielded, the most important one first.
-/
import Derived.Test.YtbbaehmfadpgeaaBfJ
namespace Go.Proofs.Ytbbaehmfadpgeaa
open Go.RowKit Go.Shelf
set_option linter.unusedSimpArgs false
theorem cell_of_heap {W W' : World} {b : Nat} (h : W'.heap[b]? = W.heap[b]?) (o : Nat) : W'.cell? ⟨b, o, none⟩ = W.cell? ⟨b, o, none⟩ := World.cell?_of_block (a := ⟨b, o, none⟩) h
/-- some blocks are as they were -/
def KeepQ (Q : Nat → Prop) (W W' : World) : Prop := ∀ b, Q b → W'.heap[b]? = W.heap[b]?
theorem KeepQ.cell {Q : Nat → Prop} {W W' : World} (h : KeepQ Q W W') {b : Nat} (hb : Q b) (o : Nat) : W'.cell? ⟨b, o, none⟩ = W.cell? ⟨b, o, none⟩ := cell_of_heap (h b hb) o
theorem KeepQ.trans {Q : Nat → Prop} {A B C : World} (h : KeepQ Q A B) (k : KeepQ Q B C) : KeepQ Q A C := fun b hb => (k b hb).trans (h b hb)
theorem att_take {L : List Hd} {k : Nat} (hk : k < L.length) : L.attach.take (k + 1) = L.attach.take k ++ [⟨L[k], List.getElem_mem hk⟩] := by
  rw [List.take_succ_eq_append_getElem (by simpa using hk)]
  simp
set_option maxRecDepth 100000 in
set_option maxHeartbeats 4000000 in
/-- the records of a buffer, the most important one first, while the caller's body may write into the table -/
theorem ranked_in (Q : Nat → Prop) (n : Nat) (hn : 1 ≤ n) (l Bk b M g c : Nat) (L : List Hd) (hlen : L.length ≤ 1000)
    (J Jx : List {x // x ∈ L} → World → Prop)
    (hY : ∀ pre (x : {x // x ∈ L}) W, J pre W → pre.length < 1000 → YieldAt Fence.wide (n - 1) Try.prog l #[vH x.1] W fun e W' =>
      (e = .returned (.bool true) ∧ J (pre ++ [x]) W' ∧ KeepQ Q W W') ∨ (e = .returned (.bool false) ∧ Jx (pre ++ [x]) W'))
    (W : World) (hQk : Q Bk) (hQb : Q b) (hQg : Q g) (h1 : W.cell? ⟨Bk, 0, none⟩ = some (.pointer (some ⟨b, 0, none⟩))) (h3 : W.cell? ⟨b, 3, none⟩ = some (.map (some M))) (h4 : W.cell? ⟨b, 4, none⟩ = some (.slice (some ⟨g, 0, none⟩) L.length c))
    (hc : ∀ k (hk : k < L.length), W.cell? ⟨g, k, none⟩ = some (.int .i64 (L[k].r.id)))
    (hL : ∀ k (hk : k < L.length) W', J (L.attach.take k) W' → KeepQ Q W W' → (Instr.lookup 106 (.map (some M)) (.int .i64 (L[k].r.id)) false).run Try.prog W' = .ok (vH L[k]) W') (hJ0 : J [] W) :
    CallsIn Fence.wide n Try.prog 94 #[.func (.yield l) #[] #[], .pointer (some ⟨Bk, 0, none⟩)] W fun e W' => (∃ v, e = .returned v) ∧
      ((∃ ys, ys = L.attach ∧ J ys W') ∨ (∃ pre, pre <+: L.attach ∧ Jx pre W')) := by
  have HC := Lib.hid (show ∀ k, k < L.length → ∃ x : {x // x ∈ L}, W.cell? ⟨g, k, none⟩ = some (.int .i64 x.1.r.id) ∧ L.attach.take (k + 1) = L.attach.take k ++ [x] ∧ ∀ W', J (L.attach.take k) W' → KeepQ Q W W' → (Instr.lookup 106 (.map (some M)) (.int .i64 x.1.r.id) false).run Try.prog W' = .ok (vH x.1) W' from fun k hk => ⟨⟨L[k], List.getElem_mem hk⟩, hc k hk, att_take hk, hL k hk⟩)
  have HTK := Lib.hid (show ∀ k, k = L.length → L.attach.take k = L.attach from fun k e => by rw [List.take_of_length_le (by rw [e, List.length_attach]; exact Nat.le_refl _)])
  have HTL := Lib.hid (show ∀ k, k < L.length → (L.attach.take k).length < 1000 from fun k hk => by rw [List.length_take]; omega)
  have HY := Lib.hid hY
  clear hc hL hY
  generalize hll : L.length = len at *
  clear hll
  refine callsIn_of_wp Try.func94 rfl trivial ?_ rfl
  simp only [Try.ntmps94, List.size_toArray, List.length_cons, List.length_nil, Nat.reduceAdd, Nat.reduceSub, Array.replicate_succ, Array.replicate_zero, List.push_toArray, List.append_toArray, List.nil_append, List.cons_append]
  gi_wp2
  gi_loopw [10] (fun i wr => ∃ k : Nat, k ≤ len ∧ i = .int .i64 k ∧ J (L.attach.take k) wr ∧ KeepQ Q W wr) (fun i _ => len - (intOf i).toNat)
  case atStart => exact ⟨0, Nat.zero_le _, rfl, by simpa using hJ0, fun _ _ => rfl⟩
  case round =>
    obtain ⟨k, hk, rfl, hJs, hnx⟩ := hrel
    by_cases hlt : k < len
    · obtain ⟨x, hx, hTk, hlk⟩ := HC.out k hlt
      have m1 := (hnx.cell hQk 0).trans h1
      have m3 := (hnx.cell hQb 3).trans h3
      have mx := (hnx.cell hQg k).trans hx
      have hl := hlk _ hJs hnx
      have hlt2 : (k : Int) < (len : Int) := by omega
      obtain ⟨fn, tmps, assign, body, hy, hR⟩ := HY.out _ x _ hJs (HTL.out k hlt)
      have HJs := Lib.hid hJs
      have HB := Lib.hid hnx
      have HTk := Lib.hid hTk
      clear hJs hnx hTk hlk hx
      generalize hz : x.1.r.id = z at *
      generalize hvv : vH x.1 = vv at *
      clear hz hvv
      gi_wp2
      refine hR.mono ?_
      rintro e W3 (⟨rfl, hJ3, hk3⟩ | ⟨rfl, hJx3⟩)
      · have HB3 := Lib.hid (HB.out.trans hk3)
        gi_wp2
        go_roundw
        case rel => exact ⟨k + 1, by omega, by go_num, by rw [HTk.out]; exact hJ3, HB3.out⟩
        case measure => simp [intOf]; omega
      · have HPF := Lib.hid (show L.attach.take k ++ [x] <+: L.attach by rw [← HTk.out]; exact List.take_prefix _ _)
        gi_wp2
        refine bodyPost_ret (results_none rfl _ _ _) rfl ?_
        exact ⟨⟨_, rfl⟩, .inr ⟨_, HPF.out, hJx3⟩⟩
    · obtain rfl : k = len := by omega
      have HJs := Lib.hid hJs
      clear hJs hnx
      gi_wp2
      go_end0
      exact ⟨⟨_, rfl⟩, .inl ⟨_, HTK.out k (by first | rfl | trivial), HJs.out⟩⟩
theorem ranked_stops (Q : Nat → Prop) (n : Nat) (hn : 1 ≤ n) (Bk b M g c : Nat) (L : List Hd) (hlen : L.length ≤ 1000) (w : World) (hQ : ∀ q, Q q → q < w.heap.size)
    (hQk : Q Bk) (hQb : Q b) (hQg : Q g) (h1 : w.cell? ⟨Bk, 0, none⟩ = some (.pointer (some ⟨b, 0, none⟩))) (h3 : w.cell? ⟨b, 3, none⟩ = some (.map (some M))) (h4 : w.cell? ⟨b, 4, none⟩ = some (.slice (some ⟨g, 0, none⟩) L.length c))
    (hc : ∀ k (hk : k < L.length), w.cell? ⟨g, k, none⟩ = some (.int .i64 (L[k].r.id)))
    (hL : ∀ k (hk : k < L.length) W', KeepQ Q w W' → (Instr.lookup 106 (.map (some M)) (.int .i64 (L[k].r.id)) false).run Try.prog W' = .ok (vH L[k]) W') :
    SeqStopsK Fence.wide n Try.prog 94 #[.pointer (some ⟨Bk, 0, none⟩)] (fun x : {x // x ∈ L} => #[vH x.1]) (KeepQ Q) (fun ys => ys = L.attach) (fun pre => pre <+: L.attach) 1000 w := fun l J Jx W hW _ _ hY h00 => by
  have hk0 : KeepQ Q w W := fun q hq => hW.block q (hQ q hq)
  exact ranked_in Q n hn l Bk b M g c L hlen J Jx hY W hQk hQb hQg ((hk0.cell hQk 0).trans h1) ((hk0.cell hQb 3).trans h3) ((hk0.cell hQb 4).trans h4) (fun k hk => (hk0.cell hQg k).trans (hc k hk)) (fun k hk W' _ h => hL k hk W' (hk0.trans h)) h00

end Go.Proofs.Ytbbaehmfadpgeaa

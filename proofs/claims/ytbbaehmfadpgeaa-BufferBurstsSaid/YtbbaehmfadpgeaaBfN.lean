/-
  Buffers: the records are yielded, also those of a buffer that has none.
-/
import Derived.Test.YtbbaehmfadpgeaaBfL
namespace Go.Proofs.Ytbbaehmfadpgeaa
open Go.RowKit Go.Shelf
set_option linter.unusedSimpArgs false
set_option maxRecDepth 100000 in
set_option maxHeartbeats 4000000 in
/-- the records of a buffer, the most important one first, while the caller's body may write into the table -/
theorem rankG_in (Q : Nat → Prop) (n : Nat) (hn : 1 ≤ n) (l Bk b M c : Nat) (p : Option Addr) (L : List Hd) (hlen : L.length ≤ 1000)
    (J Jx : List {x // x ∈ L} → World → Prop)
    (hY : ∀ pre (x : {x // x ∈ L}) W, J pre W → pre.length < 1000 → YieldAt Fence.wide (n - 1) Try.prog l #[vH x.1] W fun e W' =>
      (e = .returned (.bool true) ∧ J (pre ++ [x]) W' ∧ KeepQ Q W W') ∨ (e = .returned (.bool false) ∧ Jx (pre ++ [x]) W'))
    (W : World) (hQk : Q Bk) (hQb : Q b) (h1 : W.cell? ⟨Bk, 0, none⟩ = some (.pointer (some ⟨b, 0, none⟩))) (h3 : W.cell? ⟨b, 3, none⟩ = some (.map (some M))) (h4 : W.cell? ⟨b, 4, none⟩ = some (.slice p L.length c))
    (hc : ∀ k (hk : k < L.length), ∃ g, p = some ⟨g, 0, none⟩ ∧ Q g ∧ W.cell? ⟨g, k, none⟩ = some (.int .i64 (L[k].r.id)))
    (hL : ∀ k (hk : k < L.length) W', J (L.attach.take k) W' → KeepQ Q W W' → (Instr.lookup 106 (.map (some M)) (.int .i64 (L[k].r.id)) false).run Try.prog W' = .ok (vH L[k]) W') (hJ0 : J [] W) :
    CallsIn Fence.wide n Try.prog 94 #[.func (.yield l) #[] #[], .pointer (some ⟨Bk, 0, none⟩)] W fun e W' => (∃ v, e = .returned v) ∧
      ((∃ ys, ys = L.attach ∧ J ys W') ∨ (∃ pre, pre <+: L.attach ∧ Jx pre W')) := by
  have HC := Lib.hid (show ∀ k, k < L.length → ∃ x : {x // x ∈ L}, (∃ g, p = some ⟨g, 0, none⟩ ∧ Q g ∧ W.cell? ⟨g, k, none⟩ = some (.int .i64 x.1.r.id)) ∧ L.attach.take (k + 1) = L.attach.take k ++ [x] ∧ ∀ W', J (L.attach.take k) W' → KeepQ Q W W' → (Instr.lookup 106 (.map (some M)) (.int .i64 x.1.r.id) false).run Try.prog W' = .ok (vH x.1) W' from fun k hk => ⟨⟨L[k], List.getElem_mem hk⟩, hc k hk, att_take hk, hL k hk⟩)
  have HTK := Lib.hid (show ∀ k, k = L.length → L.attach.take k = L.attach from fun k e => by rw [List.take_of_length_le (by rw [e, List.length_attach]; exact Nat.le_refl _)])
  have HTL := Lib.hid (show ∀ k, k < L.length → (L.attach.take k).length < 1000 from fun k hk => by rw [List.length_take]; omega)
  have HY := Lib.hid hY
  clear hc hL hY
  generalize hll : L.length = len at *
  clear hll
  refine callsIn_of_wp Try.func94 rfl trivial ?_ rfl
  simp only [Try.ntmps94, List.size_toArray, List.length_cons, List.length_nil, Nat.reduceAdd, Nat.reduceSub, Array.replicate_succ, Array.replicate_zero, List.push_toArray, List.append_toArray, List.nil_append, List.cons_append]
  gi_wp2
  gi_loopw [10] (fun i wr => ∃ k : Nat, k ≤ len ∧ i = .int .i64 k ∧ J (L.attach.take k) wr ∧ KeepQ Q W wr) (fun i _ => len - (intOf i).toNat)
  case atStart => exact ⟨0, Nat.zero_le _, rfl, by simpa using hJ0, fun _ _ => rfl⟩
  case round =>
    obtain ⟨k, hk, rfl, hJs, hnx⟩ := hrel
    by_cases hlt : k < len
    · obtain ⟨x, ⟨g, rfl, hQg, hx⟩, hTk, hlk⟩ := HC.out k hlt
      have m1 := (hnx.cell hQk 0).trans h1
      have m3 := (hnx.cell hQb 3).trans h3
      have mx := (hnx.cell hQg k).trans hx
      have hl := hlk _ hJs hnx
      have hlt2 : (k : Int) < (len : Int) := by omega
      obtain ⟨fn, tmps, assign, body, hy, hR⟩ := HY.out _ x _ hJs (HTL.out k hlt)
      have HJs := Lib.hid hJs
      have HB := Lib.hid hnx
      have HTk := Lib.hid hTk
      clear hJs hnx hTk hlk hx
      generalize hz : x.1.r.id = z at *
      generalize hvv : vH x.1 = vv at *
      clear hz hvv
      gi_wp2
      refine hR.mono ?_
      rintro e W3 (⟨rfl, hJ3, hk3⟩ | ⟨rfl, hJx3⟩)
      · have HB3 := Lib.hid (HB.out.trans hk3)
        gi_wp2
        go_roundw
        case rel => exact ⟨k + 1, by omega, by go_num, by rw [HTk.out]; exact hJ3, HB3.out⟩
        case measure => simp [intOf]; omega
      · have HPF := Lib.hid (show L.attach.take k ++ [x] <+: L.attach by rw [← HTk.out]; exact List.take_prefix _ _)
        gi_wp2
        refine bodyPost_ret (results_none rfl _ _ _) rfl ?_
        exact ⟨⟨_, rfl⟩, .inr ⟨_, HPF.out, hJx3⟩⟩
    · obtain rfl : k = len := by omega
      have HJs := Lib.hid hJs
      clear hJs hnx
      gi_wp2
      go_end0
      exact ⟨⟨_, rfl⟩, .inl ⟨_, HTK.out k (by first | rfl | trivial), HJs.out⟩⟩
theorem rankG_stops (Q : Nat → Prop) (n : Nat) (hn : 1 ≤ n) (Bk b M c : Nat) (p : Option Addr) (L : List Hd) (hlen : L.length ≤ 1000) (w : World) (hQ : ∀ q, Q q → q < w.heap.size)
    (hQk : Q Bk) (hQb : Q b) (h1 : w.cell? ⟨Bk, 0, none⟩ = some (.pointer (some ⟨b, 0, none⟩))) (h3 : w.cell? ⟨b, 3, none⟩ = some (.map (some M))) (h4 : w.cell? ⟨b, 4, none⟩ = some (.slice p L.length c))
    (hc : ∀ k (hk : k < L.length), ∃ g, p = some ⟨g, 0, none⟩ ∧ Q g ∧ w.cell? ⟨g, k, none⟩ = some (.int .i64 (L[k].r.id)))
    (hL : ∀ k (hk : k < L.length) W', KeepQ Q w W' → (Instr.lookup 106 (.map (some M)) (.int .i64 (L[k].r.id)) false).run Try.prog W' = .ok (vH L[k]) W') :
    SeqStopsK Fence.wide n Try.prog 94 #[.pointer (some ⟨Bk, 0, none⟩)] (fun x : {x // x ∈ L} => #[vH x.1]) (KeepQ Q) (fun ys => ys = L.attach) (fun pre => pre <+: L.attach) 1000 w := fun l J Jx W hW _ _ hY h00 => by
  have hk0 : KeepQ Q w W := fun q hq => hW.block q (hQ q hq)
  exact rankG_in Q n hn l Bk b M c p L hlen J Jx hY W hQk hQb ((hk0.cell hQk 0).trans h1) ((hk0.cell hQb 3).trans h3) ((hk0.cell hQb 4).trans h4) (fun k hk => by obtain ⟨g, e, hq, hx⟩ := hc k hk; exact ⟨g, e, hq, (hk0.cell hq k).trans hx⟩) (fun k hk W' _ h => hL k hk W' (hk0.trans h)) h00

/-- the records of a buffer, while its blocks stay as they are -/
theorem rank_buf {S : Nat → Prop} {b M : Nat} {v : Value} {cap time : Int} {L : List Hd} (n : Nat) (hn : 1 ≤ n) (Bk : Nat) (w : World) (h : BufAt w S b M v cap time L) (hlen : L.length ≤ 1000) (hBk : Bk < w.heap.size) (h1 : w.cell? ⟨Bk, 0, none⟩ = some (.pointer (some ⟨b, 0, none⟩))) :
    SeqStopsK Fence.wide n Try.prog 94 #[.pointer (some ⟨Bk, 0, none⟩)] (fun x : {x // x ∈ L} => #[vH x.1]) (KeepQ (fun q => q = Bk ∨ S q)) (fun ys => ys = L.attach) (fun pre => pre <+: L.attach) 1000 w := by
  obtain ⟨p, c, rfl, hp⟩ := own_slice h.row
  refine rankG_stops (fun q => q = Bk ∨ S q) n hn Bk b M c p L hlen w (fun q hq => by rcases hq with rfl | hq <;> first | exact hBk | exact h.lt q hq) (.inl rfl) (.inr h.sb) h1 h.all.2.2.2.1 h.all.2.2.2.2 (fun k hk => ?_) (fun k hk W' hW => ?_)
  · rcases h.row.2 with ⟨e, e2⟩ | ⟨g, c', cur, e, _, hb, h4, h5, h6, h7⟩
    · omega
    · simp only [Value.slice.injEq] at e
      obtain ⟨rfl, -, rfl⟩ := e
      refine ⟨g, rfl, .inr (h.sr g rfl), ?_⟩
      rw [cellH hb]
      have e2 : (cur.toList.take (L.length * 1))[k]? = some (.int .i64 (L[k].r.id)) := by
        rw [h7]
        unfold zv idsL
        simp [hk]
      rw [List.getElem?_take, if_pos (by omega)] at e2
      simpa using e2
  · have hx := h.ok _ (List.getElem_mem hk)
    have hm : MapH W' M L.length (atL L) := h.tab.same (hW M (.inr h.sm))
    have q := hm.look (x := L[k].r.id) (by unfold OkR at hx; omega) (by unfold OkR at hx; omega)
    rw [atL_get h.nd hk] at q
    exact q

end Go.Proofs.Ytbbaehmfadpgeaa

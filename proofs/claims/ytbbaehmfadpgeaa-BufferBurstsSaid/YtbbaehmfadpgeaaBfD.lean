/-
  Buffers: the least important record is dropped.
-/
import Derived.Test.YtbbaehmfadpgeaaBfC
namespace Go.Proofs.Ytbbaehmfadpgeaa
open Go.RowKit Go.Shelf
set_option linter.unusedSimpArgs false
/-- 'delete(m, k)' where its run is known -/
theorem wpList_delete_runI {P : Program} (w : World) {ops : Array Oper} {rest : List Oper} {o : Oper} {a : Act} {Q : Exit → Act → World → Prop} (hgd : o.guard = none) (d s : Operand) (t t' : TypeId)
    (ho : o.op = .call { callee := .builtin .delete, args := #[d, s], argTypes := #[t, t'] }) (v u : Value) (hd : a.eval d = v) (hs : a.eval s = u) {v' : Value} {w' : World}
    (hr : (Builtin.delete_ #[t, t'] o.type #[v, u]).run P w = .ok v' w') (h : wpList P ops Q rest (a.put o.dst v') w') : wpList P ops Q (o :: rest) a w := by
  refine wpList_plain hgd fun K' hK' => ?_
  unfold Oper.wp
  simp [execOp, ho, resolve, invoke, builtin, hd, hs, hr, Result.andThen]
  exact hK' _ _ h
theorem zv_append (a b : List Int) : zv (a ++ b) = zv a ++ zv b := by simp [zv]
theorem idsL_append (A B : List Hd) : idsL (A ++ B) = idsL A ++ idsL B := by simp [idsL]
theorem idsL_length (A : List Hd) : (idsL A).length = A.length := by simp [idsL]
theorem zv_length (a : List Int) : (zv a).length = a.length := by simp [zv]
/-- the blocks of a buffer are three -/
theorem BufAt.ne {W : World} {S : Nat → Prop} {b M : Nat} {v : Value} {cap time : Int} {L : List Hd} (h : BufAt W S b M v cap time L) : M ≠ b ∧ ∀ g, v.ownBlock = some g → g ≠ b ∧ g ≠ M := by
  have h1 := h.blk
  obtain ⟨D, ⟨es, clock, hb, hr⟩, h2⟩ := h.tab
  refine ⟨fun e => by subst e; rw [h1] at hb; simp at hb, fun g hg => ?_⟩
  rcases h.row.2 with ⟨rfl, _⟩ | ⟨g', c, cur, rfl, _, hc, _⟩
  · simp [Value.ownBlock] at hg
  · simp only [Value.ownBlock, Option.some.injEq] at hg
    subst hg
    exact ⟨fun e => by subst e; rw [h1] at hc; simp at hc, fun e => by subst e; rw [hb] at hc; simp at hc⟩
set_option maxHeartbeats 2000000 in
set_option maxRecDepth 100000 in
theorem drop_any {S : Nat → Prop} {b M : Nat} {v : Value} {cap time : Int} {A : List Hd} {x : Hd} (w : World) (h : BufAt w S b M v cap time (A ++ [x])) :
    Calls Try.prog 61 #[.pointer (some ⟨b, 0, none⟩)] w fun e w' => ∃ v', e = .returned (.int .i64 x.r.id) ∧ BufAt w' S b M v' cap time A ∧ FrS w w' S S := by
  obtain ⟨hMb, hgb⟩ := h.ne
  have hlen : (A ++ [x]).length = A.length + 1 := by simp
  have hids : zv (idsL (A ++ [x])) = zv (idsL A) ++ [.int .i64 x.r.id] := by simp [zv, idsL]
  obtain ⟨g, c, cur, hv, hg, hn, hc, hcs, htk⟩ : ∃ g c cur, v = .slice (some ⟨g, 0, none⟩) (A.length + 1) c ∧ w.heap[g]? = some (.cells cur 2 (0, 0)) ∧ A.length + 1 ≤ c ∧ c ≤ maxLen ∧ cur.size = c ∧ cur.toList.take (A.length + 1) = zv (idsL A) ++ [.int .i64 x.r.id] := by
    rcases h.row.2 with ⟨_, h2⟩ | ⟨g, c, cur, h1, _, h3, h4, h5, h6, h7⟩
    · omega
    · rw [hlen] at h1 h4 h7
      exact ⟨g, c, cur, h1, h3, h4, h5, by simpa using h6, by rw [← hids, ← h7, Nat.mul_one]⟩
  subst hv
  obtain ⟨hgb, hgM⟩ := hgb g rfl
  have hA : (zv (idsL A)).length = A.length := by rw [zv_length, idsL_length]
  have kx : w.cell? ⟨g, A.length, none⟩ = some (.int .i64 x.r.id) := by
    rw [cellH hg]
    have e : (cur.toList.take (A.length + 1))[A.length]? = some (.int .i64 x.r.id) := by rw [htk, List.getElem?_append_right (by omega), hA]; simp
    rw [List.getElem?_take, if_pos (by omega)] at e
    simpa using e
  have htk2 : cur.toList.take A.length = zv (idsL A) := by
    have e : cur.toList.take A.length = (cur.toList.take (A.length + 1)).take A.length := by rw [List.take_take]; congr 1; omega
    rw [e, htk, List.take_append_of_le_length (by omega), List.take_of_length_le (by omega)]
  obtain ⟨k0, k1, k2, k3, k4⟩ := h.all
  have f4 : w.frozen? ⟨b, 4, none⟩ = false := frozH h.blk 4
  have hx : OkR x.r := h.ok x (by simp)
  obtain ⟨W1, hW1⟩ : ∃ W1, W1 = w.setCell ⟨b, 4, none⟩ (.slice (some ⟨g, 0, none⟩) A.length c) := ⟨_, rfl⟩
  have hk1 : ∀ k, k ≠ b → W1.heap[k]? = w.heap[k]? := fun k hk => by rw [hW1]; exact Below.heap_setCell _ _ _ _ hk
  have hs1 : W1.heap.size = w.heap.size := by rw [hW1]; simp
  have hb1 : W1.heap[b]? = some (.cells #[.pointer (some ⟨b, 0, none⟩), .int .i64 cap, .int .i64 time, .map (some M), .slice (some ⟨g, 0, none⟩) A.length c] 108 (0, 0)) := by
    rw [hW1, heap_setCell_same _ _ _ _ _ _ h.blk]
    rfl
  have hB1 : Below b w W1 := by rw [hW1]; exact (Below.refl _ _).setCell (p := ⟨b, 4, none⟩) (Nat.le_refl _) _
  have HM1 : MapH W1 M (A ++ [x]).length (atL (A ++ [x])) := h.tab.same (hk1 M hMb)
  obtain ⟨W2, hrun, HM2, ht⟩ := HM1.del (x := x.r.id) (by unfold OkR at hx; omega) (by unfold OkR at hx; omega) 0
  have hgr := ht.grown
  have hsome : (atL (A ++ [x]) x.r.id).isSome = true := atL_isSome.2 (by simp [idsL])
  rw [if_pos hsome, hlen, ← atL_drop h.nd] at HM2
  have hk2 : ∀ k, k < w.heap.size → k ≠ M → W2.heap[k]? = W1.heap[k]? := fun k hk hne => hgr.block k (by omega) (by simpa using hne)
  have HEND : BufAt W2 S b M (.slice (some ⟨g, 0, none⟩) A.length c) cap time A ∧ FrS w W2 S S := by
    have hbl := h.lt b h.sb
    have hgl : g < w.heap.size := h.lt g (h.sr g rfl)
    refine ⟨⟨(hk2 b hbl hMb.symm).trans hb1, ⟨by rw [zv_length, idsL_length, Nat.mul_one], .inr ⟨g, c, cur, rfl, Nat.zero_le _, ((hk2 g hgl hgM).trans (hk1 g hgb)).trans hg, by omega, hc, by omega, by rw [Nat.mul_one]; exact htk2⟩⟩, HM2, h.sb, h.sm, h.sr, fun k hk => ?_, fun y hy => h.ok y (by simp [hy]), ?_, ?_⟩, ?_⟩
    · have := h.lt k hk
      have := hgr.size
      omega
    · exact (List.pairwise_append.1 h.ord).1
    · have e := h.nd
      rw [idsL_append, List.nodup_append] at e
      exact e.1
    · refine ⟨hgr.os.trans hB1.os, hgr.tape.trans hB1.tape, hgr.output.trans hB1.output, by have := hgr.size; omega, fun k hk hS => ?_, fun k hk => .inl hk⟩
      exact (hk2 k hk fun e => hS (e ▸ h.sm)).trans (hk1 k fun e => hS (e ▸ h.sb))
  have m3 : W1.cell? ⟨b, 3, none⟩ = some (.map (some M)) := (cellH hb1 3).trans (by simp)
  have HE := Lib.hid HEND
  clear HEND HM2 ht hgr hsome hk2 HM1 hb1 hB1 hs1 hk1 hg htk htk2 hids hlen hA h hMb hgb hgM hcs
  generalize hid : x.r.id = z at *
  generalize hAn : A.length = n at *
  unfold maxLen at hc
  clear hx hid
  have HAN := Lib.hid hAn
  clear hAn
  have hw : wrap64 ((n : Int) + 1 - 1) = (n : Int) := by rw [IntWalk.wrap64_in _ ⟨by omega, by omega⟩]; omega
  go_enter Try.func61, Try.ntmps61
  go_upto_region 4 with fail
  rw [← hW1]
  clear hW1
  go_wp2_with (at_builtin; refine wpList_delete_runI _ rfl _ _ _ _ rfl _ _ rfl rfl hrun ?_)
  go_ret
  exact ⟨_, rfl, HE.out⟩

end Go.Proofs.Ytbbaehmfadpgeaa

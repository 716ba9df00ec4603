/-
  Buffers in memory: New; whether one is valid or crowded; the bytes of a record.
-/
import Derived.LaidEqlPtr
import Derived.Carry
import Derived.Test.YtbbaehmfadpgeaaBfB
namespace Go.Proofs.Ytbbaehmfadpgeaa
open Go.RowKit Go.Shelf
set_option linter.unusedSimpArgs false
/-- what a call on a buffer leaves as it was: all but the buffer's own blocks -/
structure FrS (W W' : World) (S S' : Nat → Prop) : Prop where
  os : W'.os = W.os
  tape : W'.tape = W.tape
  output : W'.output = W.output
  size : W.heap.size ≤ W'.heap.size
  block : ∀ k, k < W.heap.size → ¬S k → W'.heap[k]? = W.heap[k]?
  own : ∀ k, S' k → S k ∨ (W.heap.size ≤ k ∧ k < W'.heap.size)
theorem FrS.refl (W : World) (S : Nat → Prop) : FrS W W S S := ⟨rfl, rfl, rfl, Nat.le_refl _, fun _ _ _ => rfl, fun _ h => .inl h⟩
theorem FrS.trans {W W' W'' : World} {S S' S'' : Nat → Prop} (h : FrS W W' S S') (k : FrS W' W'' S' S'') : FrS W W'' S S'' := by
  refine ⟨k.os.trans h.os, k.tape.trans h.tape, k.output.trans h.output, Nat.le_trans h.size k.size, fun i hi hn => ?_, fun i hi => ?_⟩
  · have h1 := h.size
    refine (k.block i (by omega) fun e => ?_).trans (h.block i hi hn)
    rcases h.own i e with e | e
    · exact hn e
    · omega
  · have h1 := h.size
    have h2 := k.size
    rcases k.own i hi with e | e
    · rcases h.own i e with e | e
      · exact .inl e
      · exact .inr (by omega)
    · exact .inr (by omega)
theorem FrS.of {W W' : World} (S : Nat → Prop) (h : Below W.heap.size W W') : FrS W W' S S := ⟨h.os, h.tape, h.output, h.size, fun k hk _ => h.block k hk, fun _ h => .inl h⟩
theorem FrS.below {W W' : World} {S S' : Nat → Prop} (h : FrS W W' S S') {N : Nat} (hS : ∀ k, S k → N ≤ k) (hN : N ≤ W.heap.size) : Below N W W' :=
  ⟨h.os, h.tape, h.output, h.size, fun k hk => h.block k (by omega) fun e => by have := hS k e; omega⟩
/-- numbers as values -/
def zv (l : List Int) : List Value := l.map fun z => .int .i64 z
/-- a buffer in memory -/
structure BufAt (W : World) (S : Nat → Prop) (b M : Nat) (v : Value) (cap time : Int) (L : List Hd) : Prop where
  blk : W.heap[b]? = some (.cells #[.pointer (some ⟨b, 0, none⟩), .int .i64 cap, .int .i64 time, .map (some M), v] 108 (0, 0))
  row : W.ownsRow 0 2 1 v L.length (zv (idsL L))
  tab : MapH W M L.length (atL L)
  sb : S b
  sm : S M
  sr : ∀ k, v.ownBlock = some k → S k
  lt : ∀ k, S k → k < W.heap.size
  ok : ∀ x ∈ L, OkR x.r
  ord : Ord L
  nd : (idsL L).Nodup
theorem own_same {W W' : World} {e : TypeId} {s n : Nat} {v : Value} {xs : List Value} (h : W.ownsRow 0 e s v n xs) (hk : ∀ k, v.ownBlock = some k → W'.heap[k]? = W.heap[k]?) : W'.ownsRow 0 e s v n xs := by
  refine ⟨h.1, ?_⟩
  rcases h.2 with h2 | ⟨g, cap, cur, rfl, hb, hg, h3⟩
  · exact .inl h2
  · exact .inr ⟨g, cap, cur, rfl, hb, (hk g rfl).trans hg, h3⟩
theorem BufAt.keep {W W' : World} {S : Nat → Prop} {b M : Nat} {v : Value} {cap time : Int} {L : List Hd} (h : BufAt W S b M v cap time L) (hs : W.heap.size ≤ W'.heap.size) (hk : ∀ k, S k → W'.heap[k]? = W.heap[k]?) : BufAt W' S b M v cap time L :=
  ⟨(hk b h.sb).trans h.blk, own_same h.row fun k e => hk k (h.sr k e), h.tab.same (hk M h.sm), h.sb, h.sm, h.sr, fun k e => Nat.lt_of_lt_of_le (h.lt k e) hs, h.ok, h.ord, h.nd⟩
theorem BufAt.below {W W' : World} {S : Nat → Prop} {b M : Nat} {v : Value} {cap time : Int} {L : List Hd} (h : BufAt W S b M v cap time L) (hb : Below W.heap.size W W') : BufAt W' S b M v cap time L :=
  h.keep hb.size fun k e => hb.block k (h.lt k e)
theorem BufAt.all {W : World} {S : Nat → Prop} {b M : Nat} {v : Value} {cap time : Int} {L : List Hd} (h : BufAt W S b M v cap time L) : W.cell? ⟨b, 0, none⟩ = some (.pointer (some ⟨b, 0, none⟩)) ∧ W.cell? ⟨b, 1, none⟩ = some (.int .i64 cap) ∧ W.cell? ⟨b, 2, none⟩ = some (.int .i64 time) ∧ W.cell? ⟨b, 3, none⟩ = some (.map (some M)) ∧ W.cell? ⟨b, 4, none⟩ = some v := by
  refine ⟨?_, ?_, ?_, ?_, ?_⟩
  · exact (cellH h.blk 0).trans (by simp)
  · exact (cellH h.blk 1).trans (by simp)
  · exact (cellH h.blk 2).trans (by simp)
  · exact (cellH h.blk 3).trans (by simp)
  · exact (cellH h.blk 4).trans (by simp)
/-- the row of a buffer: its slice -/
theorem own_slice {W : World} {e : TypeId} {v : Value} {n : Nat} {xs : List Value} (h : W.ownsRow 0 e 1 v n xs) : ∃ p c, v = .slice p n c ∧ (p = none → n = 0) := by
  rcases h.2 with ⟨rfl, rfl⟩ | ⟨g, cap, cur, rfl, h3⟩
  · exact ⟨none, 0, rfl, fun _ => rfl⟩
  · exact ⟨_, cap, rfl, fun h => by cases h⟩
set_option maxHeartbeats 1000000 in
theorem valid_any {S : Nat → Prop} {b M : Nat} {v : Value} {cap time : Int} {L : List Hd} (w : World) (h : BufAt w S b M v cap time L) : Calls Try.prog 56 #[.pointer (some ⟨b, 0, none⟩)] w fun e w' => e = .returned (.bool true) ∧ w' = w := by
  obtain ⟨k0, k1, k2, k3, k4⟩ := h.all
  clear h
  obtain ⟨j, hj⟩ := Option.isSome_iff_exists.1 (show (Try.prog.info? 108).isSome = true by kernel_rfl)
  have he := run_eql_ptr_same (P := Try.prog) w ⟨b, 0, none⟩ Try.underlying27 hj
  clear hj
  go_enter Try.func56, Try.ntmps56
  go_wp2_with fail
  go_ret
  exact ⟨by first | rfl | simp, rfl⟩
set_option maxHeartbeats 1000000 in
theorem crowded_any {S : Nat → Prop} {b M : Nat} {v : Value} {cap time : Int} {L : List Hd} (w : World) (h : BufAt w S b M v cap time L) : Calls Try.prog 58 #[.pointer (some ⟨b, 0, none⟩)] w fun e w' => e = .returned (.bool (decide (256 < L.length))) ∧ w' = w := by
  obtain ⟨k0, k1, k2, k3, k4⟩ := h.all
  obtain ⟨p, c, rfl, hp⟩ := own_slice h.row
  clear h hp
  have e : decide ((256 : Int) < (L.length : Int)) = decide (256 < L.length) := by
    rw [Bool.eq_iff_iff, decide_eq_true_iff, decide_eq_true_iff]; omega
  generalize L.length = n at *
  go_enter Try.func58, Try.ntmps58
  go_wp2_with fail
  all_goals (go_ret; exact ⟨by first | rfl | simp [*] | (rename_i h1; simp at h1; simp; omega), rfl⟩)
/-- a record in a buffer, in a block of its own -/
def BxH (W : World) (B : Nat) (h : Hd) : Prop := W.heap[B]? = some (.cells #[.int .i64 h.r.id, .int .i64 h.r.cls, .int .i64 h.r.made, .int .i64 h.r.size, .int .i64 h.r.packed, .bool h.small, .int .i64 h.sent] 82 (0, 0))
theorem BxH.lt {W : World} {B : Nat} {h : Hd} (k : BxH W B h) : B < W.heap.size := (Array.getElem?_eq_some_iff.1 k).1
theorem BxH.new (W : World) (h : Hd) : BxH (W.alloc (.cells #[.int .i64 h.r.id, .int .i64 h.r.cls, .int .i64 h.r.made, .int .i64 h.r.size, .int .i64 h.r.packed, .bool h.small, .int .i64 h.sent] 82)) W.heap.size h := World.alloc_heap_new W _
theorem BxH.keep {W W' : World} {B : Nat} {h : Hd} (k : BxH W B h) (hb : Below W.heap.size W W') : BxH W' B h := (hb.block B k.lt).trans k
set_option maxHeartbeats 1000000 in
theorem bytesOf_any (h : Hd) (w : World) : Calls Try.prog 87 #[vH h] w fun e w' => e = .returned (.int .i64 (byH h)) ∧ Below w.heap.size w w' := by
  obtain ⟨A, hA⟩ : ∃ A, A = w.alloc (.cells #[.int .i64 h.r.id, .int .i64 h.r.cls, .int .i64 h.r.made, .int .i64 h.r.size, .int .i64 h.r.packed, .bool h.small, .int .i64 h.sent] 82) := ⟨_, rfl⟩
  have HBA := Lib.hid (show Below w.heap.size w A by rw [hA]; exact ((Below.refl _ _).alloc (Nat.le_refl _) _))
  have HX := Lib.hid (show BxH A w.heap.size h by rw [hA]; exact BxH.new w h)
  have k3 : A.cell? ⟨w.heap.size, 3, none⟩ = some (.int .i64 h.r.size) := (cellH HX.out 3).trans (by simp)
  have k4 : A.cell? ⟨w.heap.size, 4, none⟩ = some (.int .i64 h.r.packed) := (cellH HX.out 4).trans (by simp)
  have k5 : A.cell? ⟨w.heap.size, 5, none⟩ = some (.bool h.small) := (cellH HX.out 5).trans (by simp)
  unfold vH byH
  cases hs : h.small
  · rw [hs] at hA k5
    rw [if_neg (by simp)]
    clear hs
    go_enter Try.func87, Try.ntmps87
    go_upto_region 1 with fail
    rw [← hA]
    clear hA
    go_wp2_with fail
    go_ret
    exact ⟨rfl, HBA.out⟩
  · rw [hs] at hA k5
    rw [if_pos rfl]
    clear hs
    go_enter Try.func87, Try.ntmps87
    go_upto_region 1 with fail
    rw [← hA]
    clear hA
    go_wp2_with fail
    go_ret
    exact ⟨rfl, HBA.out⟩
/-- New -/
def newE (cap : Int) : Int := if 1 ≤ cap ∧ cap ≤ 16777216 then 0 else 3
set_option maxHeartbeats 1000000 in
theorem new_bad (cap : Int) (h : ¬(1 ≤ cap ∧ cap ≤ 16777216)) (w : World) : Calls Try.prog 16 #[.int .i64 cap] w fun e w' => e = .returned (.tuple #[.pointer none, .int .i64 3]) ∧ w' = w := by
  have c1 := fun W => withinL cap 1 16777216 W
  rw [decide_eq_false h] at c1
  clear h
  go_enter Try.func16, Try.ntmps16
  go_wp2_with fail
  refine (c1 _).mono ?_
  rintro e w1 ⟨rfl, rfl⟩
  go_wp2_with fail
  exact bodyPost_ret (v := .tuple #[.pointer none, .int .i64 3]) (by simp [results, Try.results16, go_sem]) rfl ⟨rfl, rfl⟩
set_option maxHeartbeats 1000000 in
theorem new_ok (cap : Int) (h : 1 ≤ cap ∧ cap ≤ 16777216) (w : World) : Calls Try.prog 16 #[.int .i64 cap] w fun e w' => e = .returned (.tuple #[.pointer (some ⟨w.heap.size + 1, 0, none⟩), .int .i64 0]) ∧ BufAt w' (fun k => k = w.heap.size ∨ k = w.heap.size + 1) (w.heap.size + 1) w.heap.size (.slice none 0 0) cap 0 [] ∧ Below w.heap.size w w' := by
  have c1 := fun W => withinL cap 1 16777216 W
  rw [decide_eq_true h] at c1
  clear h
  obtain ⟨A, hA⟩ : ∃ A, A = (w.alloc (.map #[] 0)).alloc (.cells #[.pointer none, .int .i64 cap, .int .i64 0, .map (some w.heap.size), .slice none 0 0] 108) := ⟨_, rfl⟩
  have hsz : A.heap.size = w.heap.size + 2 := by rw [hA]; simp
  have hAb : A.heap[w.heap.size + 1]? = some (.cells #[.pointer none, .int .i64 cap, .int .i64 0, .map (some w.heap.size), .slice none 0 0] 108 (0, 0)) := by
    rw [hA]
    exact (show (w.alloc (.map #[] 0)).heap.size = w.heap.size + 1 by simp) ▸ World.alloc_heap_new (w.alloc (.map #[] 0)) _
  have HM := Lib.hid (show MapH A w.heap.size 0 (fun _ => none) by rw [hA]; exact (mapH_made w).keep ((Below.refl _ _).alloc (Nat.le_refl _) _))
  have HBA := Lib.hid (show Below w.heap.size w A by rw [hA]; exact (((Below.refl _ _).alloc (Nat.le_refl _) _).alloc (by simp) _))
  have k0 : A.cell? ⟨w.heap.size + 1, 0, none⟩ = some (.pointer none) := (cellH hAb 0).trans (by simp)
  have f0 : A.frozen? ⟨w.heap.size + 1, 0, none⟩ = false := frozH hAb 0
  have HA := Lib.hid hA
  have HS := Lib.hid hsz
  have HB := Lib.hid hAb
  clear hsz hAb
  have hmm := @run_makeMap Try.prog
  go_enter Try.func16, Try.ntmps16
  go_wp2_with fail
  refine (c1 _).mono ?_
  rintro e w1 ⟨rfl, rfl⟩
  go_upto_region 4 with fail
  rw [← hA]
  clear hA
  go_wp2_with fail
  refine bodyPost_ret (v := .tuple #[.pointer (some ⟨w1.heap.size + 1, 0, none⟩), .int .i64 0]) (by simp [results, Try.results16, go_sem]) rfl ⟨rfl, ?_, HBA.out.setCell (p := ⟨w1.heap.size + 1, 0, none⟩) (by show w1.heap.size ≤ w1.heap.size + 1; omega) _⟩
  have hs2 : (A.setCell ⟨w1.heap.size + 1, 0, none⟩ (.pointer (some ⟨w1.heap.size + 1, 0, none⟩))).heap.size = w1.heap.size + 2 := by simpa using HS.out
  refine ⟨?_, ⟨rfl, .inl ⟨rfl, rfl⟩⟩, ?_, .inr rfl, .inl rfl, fun k hk => (by cases hk), fun k hk => ?_, fun x hx => (by cases hx), List.Pairwise.nil, List.nodup_nil⟩
  · rw [heap_setCell_same _ _ _ _ _ _ HB.out]
    rfl
  · exact HM.out.same (Below.heap_setCell _ _ _ _ (by show w1.heap.size ≠ w1.heap.size + 1; omega))
  · rw [hs2]; omega
set_option maxHeartbeats 1000000 in
theorem rnew_bad (cap : Int) (h : ¬(1 ≤ cap ∧ cap ≤ 16777216)) (w : World) : Calls Try.prog 17 #[.int .i64 cap] w fun e w' => e = .returned (.tuple #[.pointer none, .int .i64 3]) ∧ w' = w := by
  by_cases h1 : cap < 1
  · go_enter Try.func17, Try.ntmps17
    go_wp2_with fail
    exact bodyPost_ret (v := .tuple #[.pointer none, .int .i64 3]) (by simp [results, Try.results17, go_sem]) rfl ⟨rfl, rfl⟩
  · have h2 : 16777216 < cap := by omega
    clear h
    go_enter Try.func17, Try.ntmps17
    go_wp2_with fail
    exact bodyPost_ret (v := .tuple #[.pointer none, .int .i64 3]) (by simp [results, Try.results17, go_sem]) rfl ⟨rfl, rfl⟩
set_option maxHeartbeats 1000000 in
theorem rnew_ok (cap : Int) (h : 1 ≤ cap ∧ cap ≤ 16777216) (w : World) : Calls Try.prog 17 #[.int .i64 cap] w fun e w' => e = .returned (.tuple #[.pointer (some ⟨w.heap.size, 0, none⟩), .int .i64 0]) ∧ w'.heap[w.heap.size]? = some (.cells #[.int .i64 cap, .int .i64 0, .slice none 0 0] 55 (0, 0)) ∧ Below w.heap.size w w' := by
  obtain ⟨h1, h2⟩ := h
  have h3 : ¬(cap < 1) := by omega
  have h4 : ¬(16777216 < cap) := by omega
  clear h1 h2
  go_enter Try.func17, Try.ntmps17
  go_wp2_with fail
  exact bodyPost_ret (v := .tuple #[.pointer (some ⟨w.heap.size, 0, none⟩), .int .i64 0]) (by simp [results, Try.results17, go_sem]) rfl ⟨rfl, World.alloc_heap_new w _, (Below.refl _ _).alloc (Nat.le_refl _) _⟩

end Go.Proofs.Ytbbaehmfadpgeaa

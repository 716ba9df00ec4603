/-
  Buffers: the example of the chapter holds.
-/
import Derived.Test.YtbbaehmfadpgeaaBfT
import Derived.Test.YtbbaehmfadpgeaaBfK
namespace Go.Proofs.Ytbbaehmfadpgeaa
open Go.RowKit Go.Shelf
set_option linter.unusedSimpArgs false
set_option maxHeartbeats 1000000 in
theorem Used_any {S : Nat → Prop} {b M : Nat} {v : Value} {cap time : Int} {L : List Hd} (w : World) (h : BufAt w S b M v cap time L) (hlen : L.length ≤ 1000) : Calls Try.prog 32 #[.pointer (some ⟨b, 0, none⟩)] w fun e w' => e = .returned (.int .i64 (usL L)) ∧ Below w.heap.size w w' := by
  have c56 := valid_any w h
  have c59 := used_any w h hlen
  clear h
  go_enter Try.func32, Try.ntmps32
  go_wp2_with fail
  refine c56.mono ?_
  rintro e w1 ⟨rfl, rfl⟩
  go_wp2_with fail
  refine c59.mono ?_
  rintro e w1 ⟨rfl, hb⟩
  go_wp2_with fail
  go_ret
  exact ⟨rfl, hb⟩
theorem own_cell {W : World} {base : Nat} {v : Value} {d : List Int} (h : W.ownsRow base 2 1 v d.length (zv d)) (hd : 0 < d.length) : ∃ g c, v = .slice (some ⟨g, 0, none⟩) d.length c ∧ base ≤ g ∧ ∀ k (hk : k < d.length), W.cell? ⟨g, k, none⟩ = some (.int .i64 d[k]) := by
  rcases h.2 with ⟨e, e2⟩ | ⟨g, c, cur, e, hg, hb, h4, h5, h6, h7⟩
  · omega
  · refine ⟨g, c, e, hg, fun k hk => ?_⟩
    rw [cellH hb]
    have e2 : (cur.toList.take (d.length * 1))[k]? = some (.int .i64 d[k]) := by
      rw [h7]
      unfold zv
      simp [hk]
    rw [List.getElem?_take, if_pos (by omega)] at e2
    simpa using e2
theorem put_fit {S : Nat → Prop} {b M : Nat} {v : Value} {cap time : Int} {L L' : List Hd} {D : List Int} (r : Rc) (w : World) (h : BufAt w S b M v cap time L) (hcap : 0 ≤ cap) (hlen : L.length ≤ 256) (hok : OkR r) (hid : r.id ∉ idsL L) (hlim : ¬(cap < r.packed)) (he : fitL cap (mu (insL r L)) (insL r L) [] = (L', D)) :
    Calls Try.prog 22 #[.pointer (some ⟨b, 0, none⟩), .agg #[.int .i64 r.id, .int .i64 r.cls, .int .i64 r.made, .int .i64 r.size, .int .i64 r.packed]] w fun e w' => ∃ v' S' dv, e = .returned (.tuple #[dv, .int .i64 0]) ∧ BufAt w' S' b M v' cap time L' ∧ FrS w w' S S' ∧ w'.ownsRow w.heap.size 2 1 dv D.length (zv D) ∧ (∀ k, dv.ownBlock = some k → ¬S' k) := by
  have q := put_ok r w h hcap hlen hok hid hlim
  rw [he] at q
  exact q
/-- the law's box of records stays, and what is the buffer's is new -/
theorem FrS.step {w w' : World} {S S' : Nat → Prop} {X N : Nat} {o : Obj} (h : FrS w w' S S') (hX : w.heap[X]? = some o) (hS : ∀ k, S k → N ≤ k ∧ k ≠ X) (hN : N ≤ w.heap.size) : w'.heap[X]? = some o ∧ (∀ k, S' k → N ≤ k ∧ k ≠ X) ∧ Below N w w' := by
  have hl := (Array.getElem?_eq_some_iff.1 hX).1
  refine ⟨(h.block X hl fun e => (hS X e).2 rfl).trans hX, fun k hk => ?_, h.below (fun k hk => (hS k hk).1) hN⟩
  rcases h.own k hk with e | e
  · exact hS k e
  · omega
set_option maxRecDepth 100000 in
set_option maxHeartbeats 4000000 in
theorem fine_any (w : World) : Calls Try.prog 20 #[] w fun e w' => e = .returned (.bool true) ∧ Below w.heap.size w w' := by
  go_enter Try.func20, Try.ntmps20
  go_wp2_with fail
  refine (new_ok 100 (by omega) _).mono ?_
  rintro e w1 ⟨rfl, hb1, hB1⟩
  have HB1 := Lib.hid hB1
  have hl1 := hb1.lt _ hb1.sb
  obtain ⟨w2, hw2⟩ : ∃ w2, w2 = w1.alloc (.cells #[.int .i64 1, .int .i64 5, .int .i64 10, .int .i64 60, .int .i64 30, .int .i64 2, .int .i64 3, .int .i64 20, .int .i64 50, .int .i64 40, .int .i64 3, .int .i64 5, .int .i64 30, .int .i64 80, .int .i64 50] 23) := ⟨_, rfl⟩
  have hX2 : w2.heap[w1.heap.size]? = some (.cells #[.int .i64 1, .int .i64 5, .int .i64 10, .int .i64 60, .int .i64 30, .int .i64 2, .int .i64 3, .int .i64 20, .int .i64 50, .int .i64 40, .int .i64 3, .int .i64 5, .int .i64 30, .int .i64 80, .int .i64 50] 23 (0, 0)) := by rw [hw2]; exact World.alloc_heap_new _ _
  have hB2 : Below w1.heap.size w1 w2 := by rw [hw2]; exact (Below.refl _ _).alloc (Nat.le_refl _) _
  have hb2 := hb1.below hB2
  have HW := Lib.hid hw2
  have HX2 := Lib.hid hX2
  have HS0 := Lib.hid (show ∀ k, (k = w.heap.size ∨ k = w.heap.size + 1) → w.heap.size ≤ k ∧ k ≠ w1.heap.size from fun k hk => by omega)
  have HBW := Lib.hid (hB1.trans (hB2.mono hB1.size))
  clear hw2 hB1 hB2 hX2 hb1 hl1
  obtain ⟨X, hX⟩ : ∃ X, X = w1.heap.size := ⟨_, rfl⟩
  have HXE := Lib.hid hX
  obtain ⟨p0, p1, p2, p3, p4⟩ : w2.cell? ⟨X, 0, none⟩ = some (.int .i64 1) ∧ w2.cell? ⟨X, 1, none⟩ = some (.int .i64 5) ∧ w2.cell? ⟨X, 2, none⟩ = some (.int .i64 10) ∧ w2.cell? ⟨X, 3, none⟩ = some (.int .i64 60) ∧ w2.cell? ⟨X, 4, none⟩ = some (.int .i64 30) := by
    rw [hX]
    exact ⟨(cellH HX2.out 0).trans (by simp), (cellH HX2.out 1).trans (by simp), (cellH HX2.out 2).trans (by simp), (cellH HX2.out 3).trans (by simp), (cellH HX2.out 4).trans (by simp)⟩
  have cE := examples_any w1
  rw [← HW.out, ← hX] at cE
  rw [← hX] at HX2 HS0
  clear hX
  have c1 : Calls Try.prog 22 #[.pointer (some ⟨w.heap.size + 1, 0, none⟩), .agg #[.int .i64 1, .int .i64 5, .int .i64 10, .int .i64 60, .int .i64 30]] w2 _ := put_fit exA w2 hb2 (by decide) (by simp) exA_ok (by simp [idsL]) (by decide) ex_one
  go_wp2_with fail
  refine cE.mono ?_
  rintro e w2' ⟨rfl, rfl⟩
  clear cE
  go_wp2_with fail
  refine c1.mono ?_
  rintro e w3 ⟨v1, S1, dv1, rfl, hb, hf, -, -⟩
  clear c1 p0 p1 p2 p3 p4
  obtain ⟨hX3, hS3, hB3⟩ := hf.step HX2.out HS0.out HBW.out.size
  have HX3 := Lib.hid hX3
  have HS3 := Lib.hid hS3
  have HB3 := Lib.hid (HBW.out.trans hB3)
  obtain ⟨p0, p1, p2, p3, p4⟩ : w3.cell? ⟨X, 5, none⟩ = some (.int .i64 2) ∧ w3.cell? ⟨X, 6, none⟩ = some (.int .i64 3) ∧ w3.cell? ⟨X, 7, none⟩ = some (.int .i64 20) ∧ w3.cell? ⟨X, 8, none⟩ = some (.int .i64 50) ∧ w3.cell? ⟨X, 9, none⟩ = some (.int .i64 40) := ⟨(cellH hX3 5).trans (by simp), (cellH hX3 6).trans (by simp), (cellH hX3 7).trans (by simp), (cellH hX3 8).trans (by simp), (cellH hX3 9).trans (by simp)⟩
  have c2 : Calls Try.prog 22 #[.pointer (some ⟨w.heap.size + 1, 0, none⟩), .agg #[.int .i64 2, .int .i64 3, .int .i64 20, .int .i64 50, .int .i64 40]] w3 _ := put_fit exB w3 hb (by decide) (by decide) exB_ok (by decide) (by decide) ex_two
  clear hX3 hS3 hB3 hf hb
  go_wp2_with fail
  refine c2.mono ?_
  rintro e w4 ⟨v2, S2, dv2, rfl, hb, hf, -, -⟩
  clear c2 p0 p1 p2 p3 p4
  obtain ⟨hX4, hS4, hB4⟩ := hf.step HX3.out HS3.out HB3.out.size
  have HB4 := Lib.hid (HB3.out.trans hB4)
  obtain ⟨p0, p1, p2, p3, p4⟩ : w4.cell? ⟨X, 10, none⟩ = some (.int .i64 3) ∧ w4.cell? ⟨X, 11, none⟩ = some (.int .i64 5) ∧ w4.cell? ⟨X, 12, none⟩ = some (.int .i64 30) ∧ w4.cell? ⟨X, 13, none⟩ = some (.int .i64 80) ∧ w4.cell? ⟨X, 14, none⟩ = some (.int .i64 50) := ⟨(cellH hX4 10).trans (by simp), (cellH hX4 11).trans (by simp), (cellH hX4 12).trans (by simp), (cellH hX4 13).trans (by simp), (cellH hX4 14).trans (by simp)⟩
  have c3 : Calls Try.prog 22 #[.pointer (some ⟨w.heap.size + 1, 0, none⟩), .agg #[.int .i64 3, .int .i64 5, .int .i64 30, .int .i64 80, .int .i64 50]] w4 _ := put_fit exC w4 hb (by decide) (by decide) exC_ok (by decide) (by decide) ex_three.1
  have HX4 := Lib.hid hX4
  have HS4 := Lib.hid hS4
  clear hX4 hS4 hB4 hf hb
  go_wp2_with fail
  refine c3.mono ?_
  rintro e w5 ⟨v3, S3, dv3, rfl, hb, hf, hrow, -⟩
  clear c3 p0 p1 p2 p3 p4
  obtain ⟨hX5, hS5, hB5⟩ := hf.step HX4.out HS4.out HB4.out.size
  have HB5 := Lib.hid (HB4.out.trans hB5)
  obtain ⟨g, c, rfl, hg, hc⟩ := own_cell hrow (by decide)
  have d0 : w5.cell? ⟨g, 0, none⟩ = some (.int .i64 2) := hc 0 (by decide)
  have c4 := Used_any w5 hb (by decide)
  rw [ex_three.2] at c4
  clear hX5 hS5 hB5 hf hb hrow hc hg
  skip
  go_wp2_with fail
  refine c4.mono ?_
  rintro e w6 ⟨rfl, hb6⟩
  have HB6 := Lib.hid (HB5.out.trans (hb6.mono HB5.out.size))
  clear hb6
  go_wp2_with fail
  go_ret
  exact ⟨by first | rfl | simp, HB6.out⟩

end Go.Proofs.Ytbbaehmfadpgeaa

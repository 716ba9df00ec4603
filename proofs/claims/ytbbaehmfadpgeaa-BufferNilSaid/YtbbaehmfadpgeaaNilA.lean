/-
  Buffers and inboxes that are not valid.
-/
import Derived.Test.YtbbaehmfadpgeaaBfV
namespace Go.Proofs.Ytbbaehmfadpgeaa
open Go.RowKit Go.Shelf
set_option linter.unusedSimpArgs false
/-- a pointer to a buffer, or to an inbox, that is not valid -/
def BadP (W : World) (p : Value) : Prop := p = .pointer none ∨ ∃ B, p = .pointer (some ⟨B, 0, none⟩) ∧ B < W.heap.size ∧ W.cell? ⟨B, 0, none⟩ = some (.pointer none)
theorem BadP.keep {W W' : World} {p : Value} (h : BadP W p) (hb : Below W.heap.size W W') : BadP W' p := by
  rcases h with h | ⟨B, e, h1, h2⟩
  · exact .inl h
  · exact .inr ⟨B, e, Nat.lt_of_lt_of_le h1 hb.size, (hb.cell (p := ⟨B, 0, none⟩) h1).trans h2⟩
theorem eql_nil_ptr (w : World) (a : Addr) {tp te : TypeId} (hp : Try.prog.underlying tp = some (.pointer te)) : (binOp .eql tp (.pointer none) (.pointer (some a))).run Try.prog w = .ok (.bool false) w := by
  have h : ∀ d : Nat, (Op.equalIn (d + 1) tp (.pointer none) (.pointer (some a))).run Try.prog w = .ok false w := fun d => by
    simp [Op.equalIn, run_underlying hp]
  simp only [binOp]
  simp [Op.equal, Op.maxDepth, h 9999]
set_option maxHeartbeats 1000000 in
set_option maxRecDepth 100000 in
theorem valid56_bad (p : Value) (w : World) (h : BadP w p) : Calls Try.prog 56 #[p] w fun e w' => e = .returned (.bool false) ∧ w' = w := by
  rcases h with rfl | ⟨B, rfl, _, k0⟩
  · go_enter Try.func56, Try.ntmps56
    go_wp2_with fail
    go_ret
    exact ⟨by first | rfl | simp, rfl⟩
  · have he := eql_nil_ptr w ⟨B, 0, none⟩ Try.underlying27
    go_enter Try.func56, Try.ntmps56
    go_wp2_with fail
    go_ret
    exact ⟨by first | rfl | simp, rfl⟩
set_option maxHeartbeats 1000000 in
set_option maxRecDepth 100000 in
theorem valid72_bad (p : Value) (w : World) (h : BadP w p) : Calls Try.prog 72 #[p] w fun e w' => e = .returned (.bool false) ∧ w' = w := by
  rcases h with rfl | ⟨B, rfl, _, k0⟩
  · go_enter Try.func72, Try.ntmps72
    go_wp2_with fail
    go_ret
    exact ⟨by first | rfl | simp, rfl⟩
  · have he := eql_nil_ptr w ⟨B, 0, none⟩ Try.underlying59
    go_enter Try.func72, Try.ntmps72
    go_wp2_with fail
    go_ret
    exact ⟨by first | rfl | simp, rfl⟩
set_option maxHeartbeats 1000000 in
set_option maxRecDepth 100000 in
theorem held_bad (p : Value) (w : World) (h : BadP w p) : Calls Try.prog 31 #[p] w fun e w' => e = .returned (.slice none 0 0) ∧ Below w.heap.size w w' := by
  have c := valid56_bad p w h
  clear h
  go_enter Try.func31, Try.ntmps31
  go_wp2_with fail
  refine c.mono ?_
  rintro e w1 ⟨rfl, rfl⟩
  go_wp2_with fail
  go_ret
  exact ⟨rfl, Below.refl _ _⟩
set_option maxHeartbeats 1000000 in
set_option maxRecDepth 100000 in
theorem used_bad (p : Value) (w : World) (h : BadP w p) : Calls Try.prog 32 #[p] w fun e w' => e = .returned (.int .i64 0) ∧ Below w.heap.size w w' := by
  have c := valid56_bad p w h
  clear h
  go_enter Try.func32, Try.ntmps32
  go_wp2_with fail
  refine c.mono ?_
  rintro e w1 ⟨rfl, rfl⟩
  go_wp2_with fail
  go_ret
  exact ⟨rfl, Below.refl _ _⟩
set_option maxHeartbeats 1000000 in
set_option maxRecDepth 100000 in
theorem copy_bad (p : Value) (w : World) (h : BadP w p) : Calls Try.prog 28 #[p] w fun e w' => e = .returned (.pointer none) ∧ Below w.heap.size w w' := by
  have c := valid56_bad p w h
  clear h
  go_enter Try.func28, Try.ntmps28
  go_wp2_with fail
  refine c.mono ?_
  rintro e w1 ⟨rfl, rfl⟩
  go_wp2_with fail
  go_ret
  exact ⟨rfl, Below.refl _ _⟩
set_option maxHeartbeats 1000000 in
set_option maxRecDepth 100000 in
theorem acks_bad (p : Value) (w : World) (h : BadP w p) : Calls Try.prog 38 #[p] w fun e w' => e = .returned (.slice none 0 0) ∧ Below w.heap.size w w' := by
  have c := valid72_bad p w h
  clear h
  go_enter Try.func38, Try.ntmps38
  go_wp2_with fail
  refine c.mono ?_
  rintro e w1 ⟨rfl, rfl⟩
  go_wp2_with fail
  go_ret
  exact ⟨rfl, Below.refl _ _⟩
set_option maxHeartbeats 1000000 in
set_option maxRecDepth 100000 in
theorem records_bad (p : Value) (w : World) (h : BadP w p) : Calls Try.prog 40 #[p] w fun e w' => e = .returned (.slice none 0 0) ∧ Below w.heap.size w w' := by
  have c := valid72_bad p w h
  clear h
  go_enter Try.func40, Try.ntmps40
  go_wp2_with fail
  refine c.mono ?_
  rintro e w1 ⟨rfl, rfl⟩
  go_wp2_with fail
  go_ret
  exact ⟨rfl, Below.refl _ _⟩
set_option maxHeartbeats 1000000 in
set_option maxRecDepth 100000 in
theorem icopy_bad (p : Value) (w : World) (h : BadP w p) : Calls Try.prog 35 #[p] w fun e w' => e = .returned (.pointer none) ∧ Below w.heap.size w w' := by
  have c := valid72_bad p w h
  clear h
  go_enter Try.func35, Try.ntmps35
  go_wp2_with fail
  refine c.mono ?_
  rintro e w1 ⟨rfl, rfl⟩
  go_wp2_with fail
  go_ret
  exact ⟨rfl, Below.refl _ _⟩
set_option maxHeartbeats 1000000 in
set_option maxRecDepth 100000 in
theorem ack_bad (p : Value) (w : World) (h : BadP w p) : Calls Try.prog 26 #[p, .slice none 0 0] w fun e w' => e = .returned (.tuple #[.int .i64 0, .int .i64 1]) ∧ Below w.heap.size w w' := by
  have c := valid56_bad p w h
  clear h
  go_enter Try.func26, Try.ntmps26
  go_wp2_with fail
  refine c.mono ?_
  rintro e w1 ⟨rfl, rfl⟩
  go_wp2_with fail
  exact bodyPost_ret (v := .tuple #[.int .i64 0, .int .i64 1]) (by simp [results, Try.results26, go_sem]) rfl ⟨rfl, Below.refl _ _⟩
set_option maxHeartbeats 1000000 in
set_option maxRecDepth 100000 in
theorem put_nil (p : Value) (r : Rc) (w : World) (h : BadP w p) : Calls Try.prog 22 #[p, .agg #[.int .i64 r.id, .int .i64 r.cls, .int .i64 r.made, .int .i64 r.size, .int .i64 r.packed]] w fun e w' => e = .returned (.tuple #[.slice none 0 0, .int .i64 1]) ∧ Below w.heap.size w w' := by
  obtain ⟨A, hA⟩ : ∃ A, A = (w).alloc (.cells #[.int .i64 r.id, .int .i64 r.cls, .int .i64 r.made, .int .i64 r.size, .int .i64 r.packed] 23) := ⟨_, rfl⟩
  have HBA := Lib.hid (show Below w.heap.size w A by rw [hA]; exact ((Below.refl _ _).alloc (Nat.le_refl _) _))
  have c := valid56_bad p A (h.keep HBA.out)
  clear h
  go_enter Try.func22, Try.ntmps22
  go_upto_region 1 with fail
  rw [← hA]
  clear hA
  go_wp2_with fail
  refine c.mono ?_
  rintro e w1 ⟨rfl, rfl⟩
  go_wp2_with fail
  exact bodyPost_ret (v := .tuple #[.slice none 0 0, .int .i64 1]) (by simp [results, Try.results22, go_sem]) rfl ⟨rfl, HBA.out⟩
set_option maxHeartbeats 1000000 in
set_option maxRecDepth 100000 in
theorem take_nil (p : Value) (r : Rc) (w : World) (h : BadP w p) : Calls Try.prog 36 #[p, .agg #[.int .i64 r.id, .int .i64 r.cls, .int .i64 r.made, .int .i64 r.size, .int .i64 r.packed]] w fun e w' => e = .returned (.tuple #[.bool false, .int .i64 1]) ∧ Below w.heap.size w w' := by
  obtain ⟨A, hA⟩ : ∃ A, A = (w).alloc (.cells #[.int .i64 r.id, .int .i64 r.cls, .int .i64 r.made, .int .i64 r.size, .int .i64 r.packed] 23) := ⟨_, rfl⟩
  have HBA := Lib.hid (show Below w.heap.size w A by rw [hA]; exact ((Below.refl _ _).alloc (Nat.le_refl _) _))
  have c := valid72_bad p A (h.keep HBA.out)
  clear h
  go_enter Try.func36, Try.ntmps36
  go_upto_region 1 with fail
  rw [← hA]
  clear hA
  go_wp2_with fail
  refine c.mono ?_
  rintro e w1 ⟨rfl, rfl⟩
  go_wp2_with fail
  exact bodyPost_ret (v := .tuple #[.bool false, .int .i64 1]) (by simp [results, Try.results36, go_sem]) rfl ⟨rfl, HBA.out⟩
set_option maxHeartbeats 1000000 in
set_option maxRecDepth 100000 in
theorem burst_nil (p : Value) (x y z : Int) (w : World) (h : BadP w p) : Calls Try.prog 24 #[p, .int .i64 x, .int .i64 y, .int .i64 z] w fun e w' => e = .returned (.tuple #[.slice none 0 0, .int .i64 1]) ∧ Below w.heap.size w w' := by
  obtain ⟨pp, rfl⟩ : ∃ pp, p = .pointer pp := by rcases h with h | ⟨B, h, _⟩ <;> exact ⟨_, h⟩
  obtain ⟨A, hA⟩ : ∃ A, A = ((w).alloc (.cells #[.pointer pp] 27)).alloc (.cells #[.int .i64 y] 2) := ⟨_, rfl⟩
  have HBA := Lib.hid (show Below w.heap.size w A by rw [hA]; exact (((Below.refl _ _).alloc (Nat.le_refl _) _).alloc (by simp) _))
  have c := valid56_bad (.pointer pp) A (h.keep HBA.out)
  have k0 : A.cell? ⟨w.heap.size, 0, none⟩ = some (.pointer pp) := by rw [hA]; simp [go_sem]
  clear h
  go_enter Try.func24, Try.ntmps24
  go_upto_region 1 with fail
  rw [← hA]
  clear hA
  go_wp2_with fail
  refine c.mono ?_
  rintro e w1 ⟨rfl, rfl⟩
  go_wp2_with fail
  exact bodyPost_ret (v := .tuple #[.slice none 0 0, .int .i64 1]) (by simp [results, Try.results24, go_sem]) rfl ⟨rfl, HBA.out⟩

end Go.Proofs.Ytbbaehmfadpgeaa

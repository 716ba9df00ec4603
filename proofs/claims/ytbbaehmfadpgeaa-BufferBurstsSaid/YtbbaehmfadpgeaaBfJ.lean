/-
  Buffers: what a law calls less important; the iterators are made.
-/
import Derived.Test.YtbbaehmfadpgeaaBfC
namespace Go.Proofs.Ytbbaehmfadpgeaa
open Go.RowKit Go.Shelf
set_option linter.unusedSimpArgs false
/-- what a law calls less important -/
def lessV (a b : Rc) : Bool := decide (lesE a b = 0) && lesV a b
set_option maxHeartbeats 1000000 in
set_option maxRecDepth 100000 in
theorem lesser_any (a b : Rc) (w : World) : Calls Try.prog 46 #[.agg #[.int .i64 a.id, .int .i64 a.cls, .int .i64 a.made, .int .i64 a.size, .int .i64 a.packed], .agg #[.int .i64 b.id, .int .i64 b.cls, .int .i64 b.made, .int .i64 b.size, .int .i64 b.packed]] w fun e w' => e = .returned (.bool (lessV a b)) ∧ Below w.heap.size w w' := by
  obtain ⟨A, hA⟩ : ∃ A, A = (w.alloc (.cells #[.int .i64 a.id, .int .i64 a.cls, .int .i64 a.made, .int .i64 a.size, .int .i64 a.packed] 23)).alloc (.cells #[.int .i64 b.id, .int .i64 b.cls, .int .i64 b.made, .int .i64 b.size, .int .i64 b.packed] 23) := ⟨_, rfl⟩
  have HBA := Lib.hid (show Below w.heap.size w A by rw [hA]; exact (((Below.refl _ _).alloc (Nat.le_refl _) _).alloc (by simp) _))
  have HX := Lib.hid (show BxR A w.heap.size a by rw [hA]; exact (BxR.new w a).keep ((Below.refl _ _).alloc (Nat.le_refl _) _))
  have HY := Lib.hid (show BxR A (w.heap.size + 1) b by rw [hA]; exact (show (w.alloc (.cells #[.int .i64 a.id, .int .i64 a.cls, .int .i64 a.made, .int .i64 a.size, .int .i64 a.packed] 23)).heap.size = w.heap.size + 1 by simp) ▸ BxR.new (w.alloc (.cells #[.int .i64 a.id, .int .i64 a.cls, .int .i64 a.made, .int .i64 a.size, .int .i64 a.packed] 23)) b)
  obtain ⟨k0, k1, k2, k3, k4⟩ := HX.out.all
  obtain ⟨j0, j1, j2, j3, j4⟩ := HY.out.all
  have c1 := fun W => Less_any a b W
  unfold lessV
  have he : lesE a b = 0 ∨ lesE a b = 2 := by unfold lesE; split <;> simp
  generalize lesV a b = x at *
  generalize lesE a b = y at *
  rcases he with rfl | rfl
  · rw [decide_eq_true rfl, Bool.true_and]
    go_enter Try.func46, Try.ntmps46
    go_upto_region 1 with fail
    rw [← hA]
    clear hA
    go_wp2_with fail
    refine (c1 _).mono ?_
    rintro e w1 ⟨rfl, hb⟩
    have HB := Lib.hid (HBA.out.trans (hb.mono HBA.out.size))
    clear hb
    go_wp2_with fail
    go_ret
    exact ⟨by first | rfl | simp, HB.out⟩
  · rw [decide_eq_false (by decide), Bool.false_and]
    go_enter Try.func46, Try.ntmps46
    go_upto_region 1 with fail
    rw [← hA]
    clear hA
    go_wp2_with fail
    refine (c1 _).mono ?_
    rintro e w1 ⟨rfl, hb⟩
    have HB := Lib.hid (HBA.out.trans (hb.mono HBA.out.size))
    clear hb
    go_wp2_with fail
    go_ret
    exact ⟨by first | rfl | simp, HB.out⟩
theorem ranked_any (b : Nat) (w : World) : Calls Try.prog 70 #[.pointer (some ⟨b, 0, none⟩)] w fun e w' => e = .returned (.func (.func 94) #[] #[.pointer (some ⟨w.heap.size, 0, none⟩)]) ∧ w' = w.alloc (.cells #[.pointer (some ⟨b, 0, none⟩)] 27) := by
  have hmf : ∀ (fn : Fn) (first cap : Array Value) (w : World), (Instr.makeFunc fn first cap).run Try.prog w = .ok (.func fn first cap) w := fun _ _ _ _ => rfl
  go_enter Try.func70, Try.ntmps70
  go_wp2_with fail
  go_ret
  exact ⟨rfl, rfl⟩
theorem backward_any (v : Value) (p : Option Addr) (n c : Nat) (w : World) (hv : v = .slice p n c) : Calls Try.prog 88 #[v] w fun e w' => e = .returned (.func (.func 112) #[] #[.pointer (some ⟨w.heap.size, 0, none⟩)]) ∧ w' = w.alloc (.cells #[v] 41) := by
  subst hv
  have hmf : ∀ (fn : Fn) (first cap : Array Value) (w : World), (Instr.makeFunc fn first cap).run Try.prog w = .ok (.func fn first cap) w := fun _ _ _ _ => rfl
  go_enter Try.func88, Try.ntmps88
  go_wp2_with fail
  go_ret
  exact ⟨rfl, rfl⟩

end Go.Proofs.Ytbbaehmfadpgeaa

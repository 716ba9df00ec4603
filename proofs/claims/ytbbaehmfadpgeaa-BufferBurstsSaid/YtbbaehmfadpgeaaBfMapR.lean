/-
  Buffers: a table of records by their IDs.
-/
import Derived.Test.YtbbaehmfadpgeaaBfMap
namespace Go.Proofs.Ytbbaehmfadpgeaa
open Go.RowKit Go.Shelf
set_option linter.unusedSimpArgs false
open Go.Maps
def dR (r : Rc) : DataW Unit := .agg [.lit (.int .i64 r.id), .lit (.int .i64 r.cls), .lit (.int .i64 r.made), .lit (.int .i64 r.size), .lit (.int .i64 r.packed)]
theorem vR_inj {a b : Rc} (h : vR a = vR b) : a = b := by
  obtain ⟨a1, a2, a3, a4, a5⟩ := a
  obtain ⟨b1, b2, b3, b4, b5⟩ := b
  simp [vR] at h
  simp [h]
theorem dR_inj {a b : Rc} (h : dR a = dR b) : a = b := by
  obtain ⟨a1, a2, a3, a4, a5⟩ := a
  obtain ⟨b1, b2, b3, b4, b5⟩ := b
  simp [dR] at h
  simp [h]
/-- how an element of the table reads -/
noncomputable def rdR (v : Value) : Option (DataW Unit × List MemPlace) := by
  classical
  exact if h : ∃ x, v = vR x then some (dR h.choose, []) else none
theorem rdR_mk (x : Rc) : rdR (vR x) = some (dR x, []) := by
  unfold rdR
  have h : ∃ y, vR x = vR y := ⟨x, rfl⟩
  rw [dif_pos h]
  have := vR_inj h.choose_spec
  rw [← this]
theorem rdR_inv {v : Value} {z : DataW Unit × List MemPlace} (h : rdR v = some z) : ∃ x, v = vR x ∧ z = (dR x, []) := by
  unfold rdR at h
  split at h
  · next hx => exact ⟨_, hx.choose_spec, by simpa using h.symm⟩
  · cases h
/-- the zero record -/
def zR : Rc := ⟨0, 0, 0, 0, 0⟩
set_option maxRecDepth 100000 in
theorem zeroR (w : World) : (zeroValue 23).run Try.prog w = .ok (vR zR) w := by kernel_rfl
/-- a table of the call's own with c records -/
def MapR (W : World) (M c : Nat) (f : Int → Option Rc) : Prop :=
  ∃ D : DataW Unit, W.ownsMap Try.prog 2 rdR M c D ∧ Maps.size D = c ∧ (∀ z : Int, has D (.int .i64 z) = (f z).isSome) ∧ ∀ (z : Int) (d : DataW Unit), D.atKey (.int .i64 z) d = ((f z).map dR).getD d
theorem ownsR_size {W : World} {M n : Nat} {D : DataW Unit} (h : W.ownsMap Try.prog 2 rdR M n D) : W.ownsMap Try.prog 2 rdR M (Maps.size D) D := by
  obtain ⟨es, clock, hb, F, hs, rfl⟩ := h
  exact ⟨es, clock, hb, F, by simp [Maps.size, length_sorted], rfl⟩
theorem mapR_made (W : World) : MapR (W.alloc (.map #[] 0)) W.heap.size 0 (fun _ => none) :=
  ⟨.map [], World.ownsMap_made W _ _ _, rfl, fun z => by simp [has], fun z d => rfl⟩
theorem MapR.lt {W : World} {M c : Nat} {f : Int → Option Rc} (h : MapR W M c f) : M < W.heap.size := by
  obtain ⟨D, h, _⟩ := h
  exact h.lt
theorem MapR.same {W W' : World} {M c : Nat} {f : Int → Option Rc} (h : MapR W M c f) (e : W'.heap[M]? = W.heap[M]?) : MapR W' M c f := by
  obtain ⟨D, ⟨es, clock, hb, hr⟩, h2⟩ := h
  exact ⟨D, ⟨es, clock, e.trans hb, hr⟩, h2⟩
theorem MapR.keep {W W' : World} {M c : Nat} {f : Int → Option Rc} (h : MapR W M c f) (hb : Below W.heap.size W W') : MapR W' M c f := h.same (hb.block M h.lt)
/-- what is looked up -/
theorem MapR.look {W : World} {M c : Nat} {f : Int → Option Rc} (h : MapR W M c f) {x : Int} (h0 : -9223372036854775808 ≤ x) (h1 : x ≤ 9223372036854775807) : (Instr.lookup 75 (.map (some M)) (.int .i64 x) false).run Try.prog W = .ok (vR ((f x).getD zR)) W := by
  obtain ⟨D, ho, hs, hh, ha⟩ := h
  obtain ⟨v, ps, hrun, hv⟩ := ho.lookup lawK Try.underlying75 (zeroR W) (rdR_mk zR) (keyI h0 h1)
  rw [ha] at hv
  obtain ⟨y, rfl, hy⟩ := rdR_inv hv
  rw [hrun]
  have : dR ((f x).getD zR) = dR y := by
    rw [Prod.mk.injEq] at hy
    rw [← hy.1]
    cases f x <;> rfl
  rw [dR_inj this]
theorem MapR.look_ok {W : World} {M c : Nat} {f : Int → Option Rc} (h : MapR W M c f) {x : Int} (h0 : -9223372036854775808 ≤ x) (h1 : x ≤ 9223372036854775807) : (Instr.lookup 75 (.map (some M)) (.int .i64 x) true).run Try.prog W = .ok (.tuple #[vR ((f x).getD zR), .bool (f x).isSome]) W := by
  obtain ⟨D, ho, hs, hh, ha⟩ := h
  obtain ⟨v, ps, hrun, hv⟩ := ho.look_ok lawK Try.underlying75 (zeroR W) (rdR_mk zR) (keyI h0 h1)
  rw [ha] at hv
  obtain ⟨y, rfl, hy⟩ := rdR_inv hv
  rw [hrun, hh]
  have : dR ((f x).getD zR) = dR y := by
    rw [Prod.mk.injEq] at hy
    rw [← hy.1]
    cases f x <;> rfl
  rw [dR_inj this]
/-- one record more, or another one in the place of one -/
theorem MapR.put {W : World} {M c : Nat} {f : Int → Option Rc} (h : MapR W M c f) (hc : c < maxLen) {x : Int} (h0 : -9223372036854775808 ≤ x) (h1 : x ≤ 9223372036854775807) (y : Rc) : ∃ W', (Instr.mapUpdate 75 (.map (some M)) (.int .i64 x) (vR y)).run Try.prog W = .ok () W' ∧ MapR W' M (if (f x).isSome then c else c + 1) (fun z => if z = x then some y else f z) ∧ W.grownBy W' (some M) := by
  obtain ⟨D, ho, hs, hh, ha⟩ := h
  obtain ⟨W', hrun, hown, hg⟩ := ho.update lawK Try.underlying75 hc (keyI h0 h1) (rdR_mk y)
  have hm : IsMap D := ho.isMap
  have hsz : Maps.size (D.put (.int .i64 x) (dR y)) = if (f x).isSome then c else c + 1 := by
    rw [size_put (ho.tidy lawK), hh, hs]
  refine ⟨W', hrun, ⟨_, hsz ▸ ownsR_size hown, hsz, fun z => ?_, fun z d => ?_⟩, hg⟩
  · by_cases hz : z = x
    · subst hz
      rw [has_put_same hm (isKey _)]
      simp
    · rw [has_put_other (key_ne hz), hh]
      simp [hz]
  · by_cases hz : z = x
    · subst hz
      rw [atKey_put_same hm (isKey _)]
      simp
    · rw [atKey_put_other (key_ne hz), ha]
      simp [hz]
/-- one record less -/
theorem MapR.del {W : World} {M c : Nat} {f : Int → Option Rc} (h : MapR W M c f) {x : Int} (h0 : -9223372036854775808 ≤ x) (h1 : x ≤ 9223372036854775807) (ty : TypeId) : ∃ W', (Builtin.delete_ #[75, 2] ty #[.map (some M), .int .i64 x]).run Try.prog W = .ok (.tuple #[]) W' ∧ MapR W' M (if (f x).isSome then c - 1 else c) (fun z => if z = x then none else f z) ∧ W.mapTurned W' M := by
  obtain ⟨D, ho, hs, hh, ha⟩ := h
  obtain ⟨W', hrun, hown, hg⟩ := ho.drop lawK Try.underlying75 (keyI h0 h1) ty
  have hsz : Maps.size (D.del (.int .i64 x)) = if (f x).isSome then c - 1 else c := by
    have := size_del (k := .int .i64 x) (ho.tidy lawK)
    rw [hh, hs] at this
    split at this <;> split <;> simp_all <;> omega
  refine ⟨W', hrun, ⟨_, hsz ▸ ownsR_size hown, hsz, fun z => ?_, fun z d => ?_⟩, hg⟩
  · by_cases hz : z = x
    · subst hz
      rw [has_del_same]
      simp
    · rw [has_del_other (key_ne hz), hh]
      simp [hz]
  · by_cases hz : z = x
    · subst hz
      rw [atKey_del_same]
      simp
    · rw [atKey_del_other (key_ne hz), ha]
      simp [hz]

end Go.Proofs.Ytbbaehmfadpgeaa

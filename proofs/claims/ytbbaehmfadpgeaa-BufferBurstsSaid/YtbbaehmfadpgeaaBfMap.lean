/-
  Buffers: the table of records by their IDs.
-/
import Derived.Test.YtbbaehmfadpgeaaProg
import Derived.Below
import Derived.BigQuiet
import Derived.Deep.Cut
import Derived.Deep.QuietTactic
import Derived.Deep.RegionHeld3
import Derived.Laws.AppendOwn
import Derived.Laws.EntriesVeiled
import Derived.Lib.Hide
import Derived.Lib.MinMax
import Derived.LoopIn
import Derived.LoopNIn
import Derived.OwnWalkIn
import Derived.RangeFuncBound
import Derived.RangeFuncBox
import Derived.RangeFuncCalls
import Derived.RangeFuncLeaves
import Derived.RangeFuncNested
import Derived.Shelf.Abstract
import Derived.Shelf.RegionOpen
import Derived.TacticsInMore
import Derived.WalkKit
import Derived.WalkLawsBesides
import Derived.WalkSmall
import Derived.WalkSpells
import Derived.Maps.Own
import Derived.Maps.OwnSet
import Derived.Maps.Views
import Derived.KernelRfl
import Derived.Test.YtbbaehmfadpgeaaBfMath
namespace Go.Proofs.Ytbbaehmfadpgeaa
open Go.RowKit Go.Shelf
set_option linter.unusedSimpArgs false
open Go.Maps
/-- the value of a record -/
def vR (r : Rc) : Value := .agg #[.int .i64 r.id, .int .i64 r.cls, .int .i64 r.made, .int .i64 r.size, .int .i64 r.packed]
/-- the value of a record in a buffer -/
def vH (h : Hd) : Value := .agg #[.int .i64 h.r.id, .int .i64 h.r.cls, .int .i64 h.r.made, .int .i64 h.r.size, .int .i64 h.r.packed, .bool h.small, .int .i64 h.sent]
def dH (h : Hd) : DataW Unit := .agg [.lit (.int .i64 h.r.id), .lit (.int .i64 h.r.cls), .lit (.int .i64 h.r.made), .lit (.int .i64 h.r.size), .lit (.int .i64 h.r.packed), .lit (.bool h.small), .lit (.int .i64 h.sent)]
theorem vH_inj {a b : Hd} (h : vH a = vH b) : a = b := by
  obtain ⟨⟨a1, a2, a3, a4, a5⟩, a6, a7⟩ := a
  obtain ⟨⟨b1, b2, b3, b4, b5⟩, b6, b7⟩ := b
  simp [vH] at h
  simp [h]
theorem dH_inj {a b : Hd} (h : dH a = dH b) : a = b := by
  obtain ⟨⟨a1, a2, a3, a4, a5⟩, a6, a7⟩ := a
  obtain ⟨⟨b1, b2, b3, b4, b5⟩, b6, b7⟩ := b
  simp [dH] at h
  simp [h]
/-- how an element of the table reads -/
noncomputable def rdH (v : Value) : Option (DataW Unit × List MemPlace) := by
  classical
  exact if h : ∃ x, v = vH x then some (dH h.choose, []) else none
theorem rdH_mk (x : Hd) : rdH (vH x) = some (dH x, []) := by
  unfold rdH
  have h : ∃ y, vH x = vH y := ⟨x, rfl⟩
  rw [dif_pos h]
  have := vH_inj h.choose_spec
  rw [← this]
theorem rdH_inv {v : Value} {z : DataW Unit × List MemPlace} (h : rdH v = some z) : ∃ x, v = vH x ∧ z = (dH x, []) := by
  unfold rdH at h
  split at h
  · next hx => exact ⟨_, hx.choose_spec, by simpa using h.symm⟩
  · cases h
/-- the zero record -/
def zH : Hd := ⟨⟨0, 0, 0, 0, 0⟩, false, 0⟩
set_option maxRecDepth 100000 in
theorem zeroH (w : World) : (zeroValue 82).run Try.prog w = .ok (vH zH) w := by kernel_rfl
/-- a table of the call's own with c records -/
def MapH (W : World) (M c : Nat) (f : Int → Option Hd) : Prop :=
  ∃ D : DataW Unit, W.ownsMap Try.prog 2 rdH M c D ∧ Maps.size D = c ∧ (∀ z : Int, has D (.int .i64 z) = (f z).isSome) ∧ ∀ (z : Int) (d : DataW Unit), D.atKey (.int .i64 z) d = ((f z).map dH).getD d
theorem lawK : Keyed Try.prog 2 := int_keyed Try.underlying2
theorem keyI {x : Int} (h : -9223372036854775808 ≤ x) (h' : x ≤ 9223372036854775807) : keyOf Try.prog 2 (.int .i64 x) = some (.int .i64 x) := keyOf_int_mk Try.underlying2 (WalkArith.wf_i64 (by omega))
theorem isKey (x : Int) : WideAt.IsKeyLit (.int .i64 x) := by first | trivial | decide | exact ⟨⟩
theorem key_ne {x z : Int} (h : z ≠ x) : (Lit.int .i64 z) ≠ .int .i64 x := fun e => h (by injection e)
theorem owns_size {W : World} {M n : Nat} {D : DataW Unit} (h : W.ownsMap Try.prog 2 rdH M n D) : W.ownsMap Try.prog 2 rdH M (Maps.size D) D := by
  obtain ⟨es, clock, hb, F, hs, rfl⟩ := h
  exact ⟨es, clock, hb, F, by simp [Maps.size, length_sorted], rfl⟩
theorem mapH_made (W : World) : MapH (W.alloc (.map #[] 0)) W.heap.size 0 (fun _ => none) :=
  ⟨.map [], World.ownsMap_made W _ _ _, rfl, fun z => by simp [has], fun z d => rfl⟩
theorem MapH.lt {W : World} {M c : Nat} {f : Int → Option Hd} (h : MapH W M c f) : M < W.heap.size := by
  obtain ⟨D, h, _⟩ := h
  exact h.lt
theorem MapH.same {W W' : World} {M c : Nat} {f : Int → Option Hd} (h : MapH W M c f) (e : W'.heap[M]? = W.heap[M]?) : MapH W' M c f := by
  obtain ⟨D, ⟨es, clock, hb, hr⟩, h2⟩ := h
  exact ⟨D, ⟨es, clock, e.trans hb, hr⟩, h2⟩
theorem MapH.keep {W W' : World} {M c : Nat} {f : Int → Option Hd} (h : MapH W M c f) (hb : Below W.heap.size W W') : MapH W' M c f := h.same (hb.block M h.lt)
/-- what is looked up -/
theorem MapH.look {W : World} {M c : Nat} {f : Int → Option Hd} (h : MapH W M c f) {x : Int} (h0 : -9223372036854775808 ≤ x) (h1 : x ≤ 9223372036854775807) : (Instr.lookup 106 (.map (some M)) (.int .i64 x) false).run Try.prog W = .ok (vH ((f x).getD zH)) W := by
  obtain ⟨D, ho, hs, hh, ha⟩ := h
  obtain ⟨v, ps, hrun, hv⟩ := ho.lookup lawK Try.underlying106 (zeroH W) (rdH_mk zH) (keyI h0 h1)
  rw [ha] at hv
  obtain ⟨y, rfl, hy⟩ := rdH_inv hv
  rw [hrun]
  have : dH ((f x).getD zH) = dH y := by
    rw [Prod.mk.injEq] at hy
    rw [← hy.1]
    cases f x <;> rfl
  rw [dH_inj this]
theorem MapH.look_ok {W : World} {M c : Nat} {f : Int → Option Hd} (h : MapH W M c f) {x : Int} (h0 : -9223372036854775808 ≤ x) (h1 : x ≤ 9223372036854775807) : (Instr.lookup 106 (.map (some M)) (.int .i64 x) true).run Try.prog W = .ok (.tuple #[vH ((f x).getD zH), .bool (f x).isSome]) W := by
  obtain ⟨D, ho, hs, hh, ha⟩ := h
  obtain ⟨v, ps, hrun, hv⟩ := ho.look_ok lawK Try.underlying106 (zeroH W) (rdH_mk zH) (keyI h0 h1)
  rw [ha] at hv
  obtain ⟨y, rfl, hy⟩ := rdH_inv hv
  rw [hrun, hh]
  have : dH ((f x).getD zH) = dH y := by
    rw [Prod.mk.injEq] at hy
    rw [← hy.1]
    cases f x <;> rfl
  rw [dH_inj this]
/-- one record more, or another one in the place of one -/
theorem MapH.put {W : World} {M c : Nat} {f : Int → Option Hd} (h : MapH W M c f) (hc : c < maxLen) {x : Int} (h0 : -9223372036854775808 ≤ x) (h1 : x ≤ 9223372036854775807) (y : Hd) : ∃ W', (Instr.mapUpdate 106 (.map (some M)) (.int .i64 x) (vH y)).run Try.prog W = .ok () W' ∧ MapH W' M (if (f x).isSome then c else c + 1) (fun z => if z = x then some y else f z) ∧ W.grownBy W' (some M) := by
  obtain ⟨D, ho, hs, hh, ha⟩ := h
  obtain ⟨W', hrun, hown, hg⟩ := ho.update lawK Try.underlying106 hc (keyI h0 h1) (rdH_mk y)
  have hm : IsMap D := ho.isMap
  have hsz : Maps.size (D.put (.int .i64 x) (dH y)) = if (f x).isSome then c else c + 1 := by
    rw [size_put (ho.tidy lawK), hh, hs]
  refine ⟨W', hrun, ⟨_, hsz ▸ owns_size hown, hsz, fun z => ?_, fun z d => ?_⟩, hg⟩
  · by_cases hz : z = x
    · subst hz
      rw [has_put_same hm (isKey _)]
      simp
    · rw [has_put_other (key_ne hz), hh]
      simp [hz]
  · by_cases hz : z = x
    · subst hz
      rw [atKey_put_same hm (isKey _)]
      simp
    · rw [atKey_put_other (key_ne hz), ha]
      simp [hz]
/-- one record less -/
theorem MapH.del {W : World} {M c : Nat} {f : Int → Option Hd} (h : MapH W M c f) {x : Int} (h0 : -9223372036854775808 ≤ x) (h1 : x ≤ 9223372036854775807) (ty : TypeId) : ∃ W', (Builtin.delete_ #[106, 2] ty #[.map (some M), .int .i64 x]).run Try.prog W = .ok (.tuple #[]) W' ∧ MapH W' M (if (f x).isSome then c - 1 else c) (fun z => if z = x then none else f z) ∧ W.mapTurned W' M := by
  obtain ⟨D, ho, hs, hh, ha⟩ := h
  obtain ⟨W', hrun, hown, hg⟩ := ho.drop lawK Try.underlying106 (keyI h0 h1) ty
  have hsz : Maps.size (D.del (.int .i64 x)) = if (f x).isSome then c - 1 else c := by
    have := size_del (k := .int .i64 x) (ho.tidy lawK)
    rw [hh, hs] at this
    split at this <;> split <;> simp_all <;> omega
  refine ⟨W', hrun, ⟨_, hsz ▸ owns_size hown, hsz, fun z => ?_, fun z d => ?_⟩, hg⟩
  · by_cases hz : z = x
    · subst hz
      rw [has_del_same]
      simp
    · rw [has_del_other (key_ne hz), hh]
      simp [hz]
  · by_cases hz : z = x
    · subst hz
      rw [atKey_del_same]
      simp
    · rw [atKey_del_other (key_ne hz), ha]
      simp [hz]

end Go.Proofs.Ytbbaehmfadpgeaa

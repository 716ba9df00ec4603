/-
  Searches: lists of cells, hours, the state of a search, the reference's side.
-/
import Derived.Deep.RegionHeld3
import Derived.RangeFuncNested
import Derived.RangeFuncLeaves
import Derived.RangeFuncBound
import Derived.OwnWalkIn
import Derived.Shelf.Abstract
import Derived.Shelf.RegionOpen
import Derived.WalkKit
import Derived.Test.YthogahdnidjelaaForms
import Derived.Test.YthogahdnidjelaaCur
import Derived.Deep.SlicePairs
import Derived.Test.YthogahdnidjelaaAnswers
import Derived.Deep.RegionHeld
import Derived.BigQuiet
import Derived.Deep.QuietTactic
namespace Go.Proofs.Ythogahdnidjelaa
open Go Go.RowKit
set_option linter.unusedSimpArgs false
section
variable {n : Nat} {P : Program} {ops : Array Oper} {Q : Exit → Act → World → Prop} {md : Region.Mode} {S : World → Prop}
/-- whatever order is drawn, S holds behind each operation, till number st has come up -/
def wpAnyS (n : Nat) (P : Program) (md : Region.Mode) (ops : Array Oper) (Q : Exit → Act → World → Prop) (S : World → Prop) (st : Nat) : Nat → Array Bool → Act → World → Prop
  | 0, listed, a, w => Region.ready md ops listed = [] ∧ Q .normal a w
  | fuel + 1, listed, a, w =>
    (Region.ready md ops listed = [] → Q .normal a w) ∧
    ∀ i ∈ Region.ready md ops listed, wpOpIn Fence.wide n P ops Q i (fun a' w' => ((listed.setIfInBounds i true).getD st false = false → S w') ∧ wpAnyS n P md ops Q S st fuel (listed.setIfInBounds i true) a' w') a w
theorem anyS_any {st : Nat} : ∀ (fuel : Nat) (listed : Array Bool) (a : Act) (w : World), wpAnyS n P md ops Q S st fuel listed a w → wpAnyIn Fence.wide n P md ops Q fuel listed a w
  | 0, _, _, _, h => h
  | fuel + 1, _, _, _, h => ⟨h.1, fun i hi => wpOpIn_mono (fun a' w' h' => anyS_any fuel _ a' w' h'.2) (h.2 i hi)⟩
theorem region_S (st : Nat) {id : Nat} {a : Act} {w : World} (hm : P.follows .mixedOrders = true) (hS : S w.drew)
    (h : S w.drew → wpAnyS n P .any ops Q S st ops.size (Array.replicate ops.size false) a w.drew) : (Code.region id ops true).wpIn Fence.wide n P Q a w :=
  wpIn_region_any hm (anyS_any _ _ _ _ (h hS))
/-- what has come up has come behind all that it waits for -/
def Closed (md : Region.Mode) (ops : Array Oper) (listed : Array Bool) : Prop :=
  ∀ (j : Nat) (oj : Oper), ops[j]? = some oj → listed.getD j false = true → ∀ e ∈ oj.after, Region.binds md e = true → listed.getD e.on false = true
def closedB (md : Region.Mode) (ops : Array Oper) (listed : Array Bool) : Bool :=
  (List.range ops.size).all fun j => !listed.getD j false || match ops[j]? with
    | some o => o.after.all fun e => !Region.binds md e || listed.getD e.on false
    | none => true
theorem closed_of {listed : Array Bool} (h : closedB md ops listed = true) : Closed md ops listed := fun j oj hj hl e he hb => by
  have g := List.all_eq_true.1 h j (List.mem_range.2 (Array.getElem?_eq_some_iff.1 hj).1)
  rw [hl, hj] at g
  simp only [Bool.not_true, Bool.false_or, Array.all_eq_true_iff_forall_mem] at g
  have g := g e he
  rw [hb] at g
  simpa using g
theorem getD_set_self {listed : Array Bool} {i : Nat} {d : Bool} (h : (listed.setIfInBounds i true).getD i d = d) (hd : d = false) : listed.size ≤ i := by
  subst hd
  rcases Nat.lt_or_ge i listed.size with g | g
  · simp [g] at h
  · exact g
theorem Closed.step {listed : Array Bool} (h : Closed md ops listed) {i : Nat} (hi : i ∈ Region.ready md ops listed) : Closed md ops (listed.setIfInBounds i true) := fun j oj hj hl e he hb => by
  obtain ⟨-, o, ho, hall⟩ := mem_ready.1 hi
  refine getD_set_true ?_
  by_cases hji : j = i
  · subst hji
    rw [hj] at ho
    cases ho
    exact hall e he hb
  · rw [getD_set_ne false (Ne.symm hji)] at hl
    exact h j oj hj hl e he hb
/-- number j waits for number i, through others -/
def waitsB (md : Region.Mode) (ops : Array Oper) : Nat → Nat → Nat → Bool
  | 0, _, _ => false
  | f + 1, j, i => match ops[j]? with
    | some o => o.after.any fun e => Region.binds md e && (e.on == i || waitsB md ops f e.on i)
    | none => false
theorem waits_of {listed : Array Bool} (hc : Closed md ops listed) {i : Nat} : ∀ {f j : Nat}, waitsB md ops f j i = true → listed.getD j false = true → listed.getD i false = true
  | 0, _, h, _ => by cases h
  | f + 1, j, h, hl => by
    unfold waitsB at h
    cases hj : ops[j]? with
    | none => rw [hj] at h; cases h
    | some o =>
      rw [hj] at h
      obtain ⟨e, he, g0⟩ := Array.any_eq_true'.1 h
      simp only [Bool.and_eq_true, Bool.or_eq_true, beq_iff_eq] at g0
      obtain ⟨hb, g⟩ := g0
      have q := hc j o hj hl e he hb
      rcases g with g | g
      · rwa [← g]
      · exact waits_of hc g q
theorem yieldsIf_now {i : Nat} {o : Oper} {v : Value} {a : Act} (hi : ops[i]? = some o) (hy : YieldsIf P ops S o v a)
    {K : Act → World → Prop} {w : World} (hS : S w) (h : K (a.put o.dst v) w) : wpOpIn Fence.wide n P ops Q i K a w := by
  unfold wpOpIn
  simp only [hi]
  rcases hy with ⟨hw, hv⟩ | ⟨hw, rfl⟩
  · rw [if_pos hw]
    refine ⟨fun _ _ => trivial, ?_⟩
    rw [show Fence.wide.round = none from rfl, Oper.semAt_none, hv w hS]
    exact h
  · rw [if_neg (by rw [hw]; decide)]
    exact ⟨fun _ _ => trivial, h⟩
/-- an operation apart from oi makes no difference to it, nor it to the other -/
theorem yieldsIf_later {j : Nat} {oi oj : Oper} {v : Value} (hj : ops[j]? = some oj) (hap : oi.apart ops oj = true)
    (hsi : ∀ cs b, oi.op ≠ .select cs b) (hsj : ∀ cs b, oj.op ≠ .select cs b)
    (hQ : ∀ c a w, Q (.panic c) (a.put oi.dst v) w → Q (.panic c) a w) {K : Act → World → Prop} {a : Act} {w : World}
    (hy : YieldsIf P ops S oi v a) (h : wpOpIn Fence.wide n P ops Q j K (a.put oi.dst v) w) :
    wpOpIn Fence.wide n P ops Q j (fun a' w' => YieldsIf P ops S oi v a' ∧ K (a'.put oi.dst v) w') a w := by
  obtain ⟨h1, h2, h3⟩ := Oper.apart_spec hap
  have keep : ∀ u, YieldsIf P ops S oi v (a.put oj.dst u) := fun u => hy.of_same (execOp_put oi hsi a oj.dst u h3) (wanted_put oi a oj.dst u h3)
  have keepD : ∀ d u, YieldsIf P ops S oi v (Act.put { a with defers := d :: a.defers } oj.dst u) := fun d u =>
    YieldsIf.of_same (a := { a with defers := d :: a.defers }) (hy.of_same rfl rfl) (execOp_put oi hsi _ oj.dst u h3) (wanted_put oi _ oj.dst u h3)
  unfold wpOpIn at *
  simp only [hj] at *
  rw [wanted_put oj a oi.dst v h1, about_put oj w a oi.dst v h1] at h
  by_cases hw : Region.wanted oj (yielded ops a.tmps) = true
  · rw [if_pos hw] at h ⊢
    obtain ⟨-, h⟩ := h
    refine ⟨fun _ _ => trivial, ?_⟩
    rw [show Fence.wide.round = none from rfl, Oper.semAt_none] at h ⊢
    rw [execOp_put oj hsj a oi.dst v h1] at h
    generalize (execOp a.eval oj).run P w = r at h ⊢
    rcases r with ⟨x, w'⟩ | ⟨x, w'⟩
    · cases x with
      | value u => exact ⟨keep u, by rw [← Act.put_comm a v u h2]; exact h⟩
      | skip => exact ⟨keep _, by rw [← Act.put_comm a v undef h2]; exact h⟩
      | defer d => exact ⟨keepD d _, by rw [← Act.put_comm _ v undef h2, ← Act.put_defers]; exact h⟩
      | enter f args =>
        refine ⟨h.1, CallsIn.mono h.2 fun e w'' he => ?_⟩
        cases e with
        | returned u => exact ⟨keep u, by rw [← Act.put_comm a v u h2]; exact he⟩
        | panicked c => exact hQ _ _ _ he
        | outgrown => exact he
      | row row args => exact ⟨h.1, RowsIn.mono h.2 fun u w'' he => ⟨keep u, by rw [← Act.put_comm a v u h2]; exact he⟩⟩
      | round l f tmps assign body =>
        refine ⟨h.1, RoundIn.mono h.2 fun e w'' he => ?_⟩
        cases e with
        | returned u => exact ⟨keep u, by rw [← Act.put_comm a v u h2]; exact he⟩
        | panicked c => exact hQ _ _ _ he
        | outgrown => exact he
      | _ => exact h.elim
    · cases x <;> first | exact hQ _ _ _ h | exact h.elim
  · rw [if_neg hw] at h ⊢
    exact ⟨fun _ _ => trivial, keep _, by rw [← Act.put_comm a v undef h2]; exact h.2⟩
theorem ready_no {listed : Array Bool} {i : Nat} (h : i ∈ Region.ready md ops listed) : listed.getD i false = false := by
  have g := (mem_ready.1 h).1
  rcases Nat.lt_or_ge i listed.size with q | q
  · simpa [q] using g
  · simp [Array.getElem?_eq_none q]
theorem anyS_first {st f : Nat} {i : Nat} {oi : Oper} {v : Value} (hi : ops[i]? = some oi) (hsel : ∀ (j : Nat) (o : Oper) cs b, ops[j]? = some o → o.op ≠ .select cs b)
    (hQ : ∀ c a w, Q (.panic c) (a.put oi.dst v) w → Q (.panic c) a w) (hwt : waitsB md ops f st i = true) (hsti : st ≠ i) :
    ∀ (fuel : Nat) (listed : Array Bool) (a : Act) (w : World), Closed md ops listed →
      (∀ j oj, ops[j]? = some oj → j ≠ i → listed.getD j true = false → (∀ e ∈ oj.after, Region.binds md e = true → e.on ≠ i) → oi.apart ops oj = true) →
      i ∈ Region.ready md ops listed → YieldsIf P ops S oi v a → S w →
      wpAnyS n P md ops Q S st fuel (listed.setIfInBounds i true) (a.put oi.dst v) w → wpAnyS n P md ops Q S st (fuel + 1) listed a w
  | 0, listed, a, w, _, _, hr, hy, hS, H => ⟨fun h => (by rw [h] at hr; cases hr), fun j hj => by
      by_cases hji : j = i
      · subst hji; exact yieldsIf_now hi hy hS ⟨fun _ => hS, H⟩
      · have := ready_mono hj hji
        rw [H.1] at this
        cases this⟩
  | fuel + 1, listed, a, w, hcl, hfree, hr, hy, hS, H => ⟨fun h => (by rw [h] at hr; cases hr), fun j hj => by
      by_cases hji : j = i
      · subst hji; exact yieldsIf_now hi hy hS ⟨fun _ => hS, H⟩
      · obtain ⟨hjun, oj, hoj, hall⟩ := mem_ready.1 hj
        have hun := ready_no hr
        have hnot : ∀ e ∈ oj.after, Region.binds md e = true → e.on ≠ i := fun e he hb heq => by
          have g := hall e he hb
          rw [heq, hun] at g
          cases g
        have hcl' := hcl.step hj
        have hno : (listed.setIfInBounds j true).getD st false = false := by
          cases q : (listed.setIfInBounds j true).getD st false with
          | false => rfl
          | true =>
            have q2 := waits_of hcl' hwt q
            rw [getD_set_ne false hji, hun] at q2
            cases q2
        have hno2 : ((listed.setIfInBounds i true).setIfInBounds j true).getD st false = false := by
          rw [Array.setIfInBounds_comm _ _ (Ne.symm hji), getD_set_ne false (Ne.symm hsti)]
          exact hno
        refine wpOpIn_mono (fun a' w' h3 => ?_) (yieldsIf_later hoj (hfree j oj hoj hji hjun hnot) (fun cs b => hsel i oi cs b hi) (fun cs b => hsel j oj cs b hoj) hQ hy (H.2 j (ready_mono hj hji)))
        have hSw := h3.2.1 hno2
        refine ⟨fun _ => hSw, anyS_first hi hsel hQ hwt hsti fuel _ a' w' hcl' (fun k ok hk hki hu hno => ?_) (ready_mono hr (Ne.symm hji)) h3.1 hSw ?_⟩
        · refine hfree k ok hk hki ?_ hno
          by_cases hjk : j = k
          · subst hjk; exact hjun
          · rwa [getD_set_ne true hjk] at hu
        · rw [Array.setIfInBounds_comm _ _ hji]
          exact h3.2.2⟩
/-- take number i first -/
theorem anyS_take {st : Nat} {i : Nat} {oi : Oper} {v : Value} {fuel : Nat} {listed : Array Bool} {a : Act} {w : World} (hi : ops[i]? = some oi)
    (hs : Region.noSelect ops = true) (hf : (Region.free md ops listed i && closedB md ops listed && waitsB md ops ops.size st i && !(st == i)) = true) (hr : (Region.ready md ops listed).contains i = true)
    (hQ : ∀ c a w, Q (.panic c) (a.put oi.dst v) w → Q (.panic c) a w) (hy : YieldsIf P ops S oi v a) (hS : S w)
    (h : wpAnyS n P md ops Q S st fuel (listed.setIfInBounds i true) (a.put oi.dst v) w) : wpAnyS n P md ops Q S st (fuel + 1) listed a w := by
  simp only [Bool.and_eq_true, Bool.not_eq_true', beq_eq_false_iff_ne] at hf
  exact anyS_first hi (Region.noSelect_spec hs) hQ hf.1.2 hf.2 fuel listed a w (closed_of hf.1.1.2) (Region.free_spec hi hf.1.1.1) (by simpa using hr) hy hS h
/-- one operation alone may come up -/
theorem anyS_one {st : Nat} {i : Nat} {o : Oper} {fuel : Nat} {listed : Array Bool} {a : Act} {w : World} (hr : Region.ready md ops listed = [i]) (ho : ops[i]? = some o) (hw : Region.wanted o (yielded ops a.tmps) = true) (hst : (listed.setIfInBounds i true).getD st false = true)
    (h : ∀ K' : Act → World → Prop, Shut (∀ a w, wpAnyS n P md ops Q S st fuel (listed.setIfInBounds i true) a w → K' a w) → Oper.wpIn Fence.wide n P o a w K' Q) : wpAnyS n P md ops Q S st (fuel + 1) listed a w :=
  ⟨fun h0 => (by rw [hr] at h0; cases h0), fun j hj => by
    rw [hr] at hj
    obtain rfl : j = i := by simpa using hj
    unfold wpOpIn
    simp only [ho]
    rw [if_pos hw]
    exact h _ (fun a w hW => ⟨fun q => (by rw [hst] at q; cases q), hW⟩)⟩
theorem anyS_done {st : Nat} {listed : Array Bool} {a : Act} {w : World} (hr : Region.ready md ops listed = []) (h : Q .normal a w) : ∀ fuel, wpAnyS n P md ops Q S st fuel listed a w
  | 0 => ⟨hr, h⟩
  | _ + 1 => ⟨fun _ => h, by rw [hr]; simp⟩
end
end Go.Proofs.Ythogahdnidjelaa
namespace Go.Proofs.Ythogahdnidjelaa
open Go.RowKit Go.Shelf
set_option linter.unusedSimpArgs false
/-- the marks ds are open in W, each in a block of its own from base on -/
def Marks (base : Nat) (W : World) : List Deferred → Prop
  | [] => True
  | d :: ds => (∃ D, base ≤ D ∧ d = { target := .collected D, args := #[] } ∧ W.heap[D]? = some (.deferred (some [])) ∧ ∀ d' ∈ ds, d' ≠ d) ∧ Marks base W ds
/-- what is a block of cells lies as it lay -/
def CellsKept (W W' : World) : Prop := ∀ (k : Nat) (o : Obj), W.heap[k]? = some o → o.isCells = true → W'.heap[k]? = some o
theorem Marks.keep {base : Nat} {W W' : World} : ∀ {ds : List Deferred}, Marks base W ds → (∀ d ∈ ds, ∀ D, d = { target := .collected D, args := #[] } → W.heap[D]? = some (.deferred (some [])) → W'.heap[D]? = some (.deferred (some []))) → Marks base W' ds
  | [], _, _ => trivial
  | _ :: _, ⟨⟨D, hb, he, hD, hn⟩, hs⟩, h => ⟨⟨D, hb, he, h _ (List.mem_cons_self ..) D he hD, hn⟩, hs.keep fun d hd => h d (List.mem_cons_of_mem _ hd)⟩
theorem Marks.from {base : Nat} {W W' : World} {B : Nat} {ds : List Deferred} (h : Marks base W ds) (hB : B ≤ base) (hk : KeepsFrom B W W') : Marks base W' ds := by
  induction ds with
  | nil => trivial
  | cons d ds ih =>
    obtain ⟨⟨D, hb, he, hD, hn⟩, hs⟩ := h
    exact ⟨⟨D, hb, he, hk.same D _ (by omega) hD rfl, hn⟩, ih hs⟩
theorem Marks.below {base n₀ : Nat} {W W' : World} {ds : List Deferred} (h : Marks base W ds) (hn : W.heap.size ≤ n₀) (hb : Below n₀ W W') : Marks base W' ds :=
  h.keep fun _ _ D _ hD => (hb.block D (by have := (Array.getElem?_eq_some_iff.1 hD).1; omega)).trans hD
/-- all marks are taken -/
theorem leaves_marks {F : Fence} {n : Nat} {P : Program} {fn : Func} {tmps : Array Value} {R : Ending → World → Prop} (base : Nat) : ∀ (ds : List Deferred) (W : World), base ≤ W.heap.size → Marks base W ds →
    (∀ W', Below base W W' → CellsKept W W' → ∃ v, (results fn tmps).run P W' = .ok v W' ∧ R (.returned v) W') → LeavesInM F n P fn tmps R ds .returning W
  | [], W, _, _, h => h W (Below.refl _ _) (fun _ _ h _ => h)
  | d :: ds, W, hz, ⟨⟨D, hb, he, hD, hn⟩, hs⟩, h => by
    subst he
    refine ⟨by simp, .inl ⟨D, _, rfl, run_takeDeferred hD, ?_⟩⟩
    have hl := (Array.getElem?_eq_some_iff.1 hD).1
    have hbb : Below base W (W.putObj D (.deferred none)) := (Below.refl base W).grown (grownBy_putObj' W D _) hz (fun k e => by cases e; omega)
    have hsame : ∀ (k : Nat) (o : Obj), W.heap[k]? = some o → k ≠ D → (W.putObj D (.deferred none)).heap[k]? = some o := fun k o hk hne => (World.putObj_heap_other hne).trans hk
    refine leaves_marks base ds _ (by simpa using hz) (hs.keep fun d hd D' he' hD' => hsame _ _ hD' (fun e => hn d hd (by rw [he', e]))) (fun W' hb' hk' => ?_)
    exact h W' (hbb.trans hb') (fun k o hk hc => hk' k o (hsame k o hk (fun e => by rw [e, hD] at hk; cases hk; cases hc)) hc)
/-- a body that ends in no panic -/
def bodyPostR (F : Fence) (n : Nat) (P : Program) (fn : Func) (R : Ending → World → Prop) : Exit → Act → World → Prop
  | .normal, a, w | .ret, a, w => LeavesInM F n P fn a.tmps R a.defers .returning w
  | _, _, _ => False
theorem calls_marks {P : Program} {f : FuncId} {fn : Func} {c : Code} {args : Array Value} {w : World} {R : Ending → World → Prop} (n : Nat)
    (hf : P.funcs[f]? = some fn) (hb : fn.body = some c)
    (h : c.wpIn Fence.wide n P (bodyPostR Fence.wide n P fn R) { tmps := args ++ Array.replicate (fn.ntmps - args.size) undef, defers := [] } w) : Calls P f args w R :=
  (callsIn_wide (n := n)).1 (callsIn_of_wp_marks hf hb trivial (Code.wpIn_mono (fun e _ _ q => by cases e <;> first | exact q | exact q.elim) h) rfl)
end Go.Proofs.Ythogahdnidjelaa
namespace Go.Proofs.Ythogahdnidjelaa
open Go.RowKit Go.Shelf

/-! ### a region that draws its order, in a round at the wide fence: from its walk outside of a fence -/
theorem wpOpIn_of_wpOp {l n : Nat} {P : Program} {ops : Array Oper} {Q : Exit → Act → World → Prop} {i : Nat} {K K' : Act → World → Prop} {a : Act} {w : World}
    (hnd : ∀ (j : Nat) (o : Oper), ops[j]? = some o → ∀ c, o.op ≠ .defer c) (hQ : ¬ LetsOut Q) (hK : ∀ a w, K a w → K' a w) (h : wpOp P ops Q i K a w) : wpOpIn (Fence.wide.inRound l) n P ops Q i K' a w := by
  unfold wpOp at h
  unfold wpOpIn
  cases ho : ops[i]? with
  | none => simp only [ho] at h ⊢; exact hK _ _ h
  | some o =>
    simp only [ho] at h ⊢
    by_cases hw : Region.wanted o (yielded ops a.tmps) = true
    · rw [if_pos hw] at h ⊢
      rcases h with h | ⟨_, h⟩
      · unfold Oper.wp at h
        refine ⟨fun _ _ => trivial, ?_⟩
        rw [Oper.semAt_eq _ _ _ (hnd i o ho)]
        generalize (execOp a.eval o).run P w = r at h ⊢
        cases r with
        | ok x w' =>
          cases x with
          | value v => exact hK _ _ h
          | skip => exact hK _ _ h
          | defer d => exact hK _ _ h
          | enter f args =>
            refine ⟨fun h0 => by simp [Fence.wide] at h0, CallsIn.inRound l (callsIn_wide.2 (Calls.mono h fun e w'' he => ?_))⟩
            cases e with
            | returned v => exact hK _ _ he
            | panicked c => exact he
            | outgrown => exact he
          | row row args =>
            refine ⟨fun h0 => by simp [Fence.wide] at h0, ?_⟩
            intro c cs _
            obtain ⟨v, w1, hv, hs⟩ := h c cs
            exact ⟨v, w1, hK _ _ hv, stepsIn_wide.2 hs⟩
          | _ => exact h.elim
        | halt x w' =>
          cases x <;> first | exact h | exact h.elim
      · exact absurd h hQ
    · rw [if_neg hw] at h ⊢
      exact ⟨fun _ _ => trivial, hK _ _ h⟩

theorem wpAnyIn_of_wpAny {l n : Nat} {P : Program} {md : Region.Mode} {ops : Array Oper} {Q : Exit → Act → World → Prop}
    (hnd : ∀ (j : Nat) (o : Oper), ops[j]? = some o → ∀ c, o.op ≠ .defer c) (hQ : ¬ LetsOut Q) :
    ∀ (fuel : Nat) (listed : Array Bool) (a : Act) (w : World), wpAny P md ops Q fuel listed a w → wpAnyIn (Fence.wide.inRound l) n P md ops Q fuel listed a w
  | 0, _, _, _, h => h
  | fuel + 1, _, _, _, h => ⟨h.1, fun i hi => wpOpIn_of_wpOp hnd hQ (fun a' w' h' => wpAnyIn_of_wpAny hnd hQ fuel _ a' w' h') (h.2 i hi)⟩

/-- which operations defer -/
def noDefer (ops : Array Oper) : Bool := ops.all fun o => match o.op with | .defer _ => false | _ => true
theorem noDefer_spec {ops : Array Oper} (h : noDefer ops = true) : ∀ (j : Nat) (o : Oper), ops[j]? = some o → ∀ c, o.op ≠ .defer c := by
  intro j o ho c hc
  have h1 := (Array.all_eq_true.1 h) j (Array.getElem?_eq_some_iff.1 ho).1
  rw [(Array.getElem?_eq_some_iff.1 ho).2, hc] at h1
  cases h1

theorem wpIn_round_held {l n : Nat} {P : Program} {id : Nat} {ops : Array Oper} {Q : Exit → Act → World → Prop} {a : Act} {w : World} (S : World → Prop)
    (hm : P.follows .mixedOrders = true) (hnd : noDefer ops = true) (hQ : ¬ LetsOut Q) (hS : S w.drew)
    (h : S w.drew → wpAnyH P .any ops Q S ops.size (Array.replicate ops.size false) a w.drew) : (Code.region id ops true).wpIn (Fence.wide.inRound l) n P Q a w :=
  wpIn_region_any hm (wpAnyIn_of_wpAny (noDefer_spec hnd) hQ _ _ _ _ (wpAny_of_held _ _ _ _ (h hS)))
end Go.Proofs.Ythogahdnidjelaa
namespace Go.Proofs.Ythogahdnidjelaa
open Go.RowKit Go.Shelf
set_option linter.unusedSimpArgs false
def vAt (l : List Int) (k : Nat) : Int := l[k]?.getD 0
/-- the number before the k-th one; -1 before the first -/
def lastTo (l : List Int) : Nat → Int
  | 0 => -1
  | k + 1 => vAt l k
def okAt (lim : Int) (l : List Int) (k : Nat) : Bool := decide (lastTo l k < vAt l k) && decide (vAt l k < lim)
/-- a strictly increasing list of cells -/
def areB (lim : Int) (l : List Int) : Bool := (List.range l.length).all (okAt lim l)
theorem areB_bad {lim : Int} {l : List Int} {k : Nat} (hk : k < l.length) (h : okAt lim l k = false) : areB lim l = false := by
  unfold areB
  rw [List.all_eq_false]
  exact ⟨k, List.mem_range.2 hk, by rw [h]; decide⟩
theorem areB_ok {lim : Int} {l : List Int} (h : ∀ k, k < l.length → okAt lim l k = true) : areB lim l = true := by
  unfold areB
  rw [List.all_eq_true]
  exact fun k hk => h k (List.mem_range.1 hk)
theorem areB_get {lim : Int} {l : List Int} (h : areB lim l = true) {k : Nat} (hk : k < l.length) : lastTo l k < vAt l k ∧ vAt l k < lim := by
  unfold areB at h
  rw [List.all_eq_true] at h
  have := h k (List.mem_range.2 hk)
  simpa [okAt] using this
def shB (lo hi : Int) : Bool := vB lo hi && (decide (-4 ≤ lo) && decide (hi ≤ 4))
set_option maxHeartbeats 1000000 in
theorem isShift_any (lo hi : Int) (w : World) :
    Calls Try.prog 104 #[.agg #[.int .i64 lo, .int .i64 hi]] w fun e w' => e = .returned (.bool (shB lo hi)) ∧ Below w.heap.size w w' := by
  have HB := Lib.hid (show shB lo hi = (vB lo hi && (decide (-4 ≤ lo) && decide (hi ≤ 4))) from rfl)
  generalize shB lo hi = B at *
  have hA : Below w.heap.size w (w.alloc (.cells #[.int .i64 lo, .int .i64 hi] 41)) := (Below.refl _ _).alloc (Nat.le_refl _) _
  have HA := Lib.hid hA
  clear hA
  by_cases hv : vB lo hi = true
  · have hb : B = (decide (-4 ≤ lo) && decide (hi ≤ 4)) := by rw [HB.out, hv]; rfl
    have c94 := fun W => bcheck_ok lo hi hv W
    by_cases h1 : -4 ≤ lo
    · by_cases h2 : hi ≤ 4
      · obtain rfl : B = true := by rw [hb, decide_eq_true h1, decide_eq_true h2]; rfl
        have d1 : decide (-4 ≤ lo) = true := decide_eq_true h1
        clear hb HB
        go_enter Try.func104, Try.ntmps104
        go_wp2_with fail
        refine (c94 _).mono ?_
        rintro e w1 ⟨rfl, hb⟩
        have k0 : w1.cell? ⟨w.heap.size, 0, none⟩ = some (.int .i64 lo) := (hb.cell (p := ⟨w.heap.size, 0, none⟩) (by simp)).trans (by simp [go_sem])
        have k1 : w1.cell? ⟨w.heap.size, 1, none⟩ = some (.int .i64 hi) := (hb.cell (p := ⟨w.heap.size, 1, none⟩) (by simp)).trans (by simp [go_sem])
        have HB1 := Lib.hid (HA.out.trans (hb.mono HA.out.size))
        clear hb c94
        go_wp2_with fail
        go_ret
        exact ⟨by first | rfl | (simp [*]; done) | (simp; omega), HB1.out⟩
      · obtain rfl : B = false := by rw [hb, decide_eq_true h1, decide_eq_false h2]; rfl
        have d1 : decide (-4 ≤ lo) = true := decide_eq_true h1
        clear hb HB
        go_enter Try.func104, Try.ntmps104
        go_wp2_with fail
        refine (c94 _).mono ?_
        rintro e w1 ⟨rfl, hb⟩
        have k0 : w1.cell? ⟨w.heap.size, 0, none⟩ = some (.int .i64 lo) := (hb.cell (p := ⟨w.heap.size, 0, none⟩) (by simp)).trans (by simp [go_sem])
        have k1 : w1.cell? ⟨w.heap.size, 1, none⟩ = some (.int .i64 hi) := (hb.cell (p := ⟨w.heap.size, 1, none⟩) (by simp)).trans (by simp [go_sem])
        have HB1 := Lib.hid (HA.out.trans (hb.mono HA.out.size))
        clear hb c94
        go_wp2_with fail
        go_ret
        exact ⟨by first | rfl | (simp [*]; done) | (simp; omega), HB1.out⟩
    · obtain rfl : B = false := by rw [hb, decide_eq_false h1]; rfl
      have d1 : decide (-4 ≤ lo) = false := decide_eq_false h1
      clear hb HB
      go_enter Try.func104, Try.ntmps104
      go_wp2_with fail
      refine (c94 _).mono ?_
      rintro e w1 ⟨rfl, hb⟩
      have k0 : w1.cell? ⟨w.heap.size, 0, none⟩ = some (.int .i64 lo) := (hb.cell (p := ⟨w.heap.size, 0, none⟩) (by simp)).trans (by simp [go_sem])
      have k1 : w1.cell? ⟨w.heap.size, 1, none⟩ = some (.int .i64 hi) := (hb.cell (p := ⟨w.heap.size, 1, none⟩) (by simp)).trans (by simp [go_sem])
      have HB1 := Lib.hid (HA.out.trans (hb.mono HA.out.size))
      clear hb c94
      go_wp2_with fail
      go_ret
      exact ⟨by first | rfl | (simp [*]; done) | (simp; omega), HB1.out⟩
  · obtain rfl : B = false := by rw [HB.out, Bool.eq_false_iff.2 hv]; rfl
    have c94 := fun W => bcheck_bad lo hi hv W
    clear HB
    go_enter Try.func104, Try.ntmps104
    go_wp2_with fail
    refine (c94 _).mono ?_
    rintro e w1 ⟨rfl, hb⟩
    have k0 : w1.cell? ⟨w.heap.size, 0, none⟩ = some (.int .i64 lo) := (hb.cell (p := ⟨w.heap.size, 0, none⟩) (by simp)).trans (by simp [go_sem])
    have k1 : w1.cell? ⟨w.heap.size, 1, none⟩ = some (.int .i64 hi) := (hb.cell (p := ⟨w.heap.size, 1, none⟩) (by simp)).trans (by simp [go_sem])
    have HB1 := Lib.hid (HA.out.trans (hb.mono HA.out.size))
    clear hb c94
    go_wp2_with fail
    go_ret
    exact ⟨by first | rfl | (simp [*]; done) | (simp; omega), HB1.out⟩
set_option maxRecDepth 100000 in
set_option maxHeartbeats 4000000 in
theorem areCells_any (wd hg : Int) (hw : 1 ≤ wd ∧ wd ≤ 24) (hh : 1 ≤ hg ∧ hg ≤ 24) (sv : Value) (l : List Int) (hll : l.length ≤ 2147483649) (w : World) (hI : Nums w.heap.size w sv l) :
    Calls Try.prog 103 #[.agg #[.int .i64 wd, .int .i64 hg], sv] w fun e w' => e = .returned (.bool (areB (wd * hg) l)) ∧ Below w.heap.size w w' := by
  have hlim : 1 ≤ wd * hg ∧ wd * hg ≤ 576 := by
    have a := Int.mul_le_mul hw.2 hh.2 (by omega) (by omega)
    have b := Int.mul_le_mul hw.1 hh.1 (by omega) (by omega)
    omega
  obtain ⟨lim, hL⟩ : ∃ lim, lim = wd * hg := ⟨_, rfl⟩
  have W1 : IntKind.i64.wrap (wd * hg) = lim := by rw [IntKind.wrap_i64]; omega
  have W1' : wrap64 (wd * hg) = lim := by unfold wrap64; omega
  rw [← hL] at hlim ⊢
  obtain ⟨a, cap, rfl, -, hc⟩ := hI
  have HC := Lib.hid hc
  have HBAD := Lib.hid (fun k hk h => areB_bad (lim := lim) (l := l) (k := k) hk h)
  have HOK := Lib.hid (fun h => areB_ok (lim := lim) (l := l) h)
  have HAT := Lib.hid (fun k => show okAt lim l k = (decide (lastTo l k < vAt l k) && decide (vAt l k < lim)) from rfl)
  clear hL
  generalize areB lim l = B at *
  clear hc
  generalize hlen : l.length = len at *
  have HLEN := Lib.hid hlen
  clear hlen
  obtain ⟨A, hA⟩ : ∃ A, A = w.alloc (.cells #[.int .i64 wd, .int .i64 hg] 54) := ⟨_, rfl⟩
  have k0 : A.cell? ⟨w.heap.size, 0, none⟩ = some (.int .i64 wd) := by rw [hA]; simp [go_sem]
  have k1 : A.cell? ⟨w.heap.size, 1, none⟩ = some (.int .i64 hg) := by rw [hA]; simp [go_sem]
  have HBA := Lib.hid (show Below w.heap.size w A from by rw [hA]; exact (Below.refl _ _).alloc (Nat.le_refl _) _)
  go_enter Try.func103, Try.ntmps103
  go_wp2_with fail
  try rw [← hA]
  clear hA
  go_loop [5, 10] (fun la i => ∃ k : Nat, k ≤ len ∧ i = .int .i64 k ∧ la = .int .i64 (lastTo l k) ∧ ∀ j, j < k → okAt lim l j = true) (fun _ i => len - (intOf i).toNat)
  case atStart => exact ⟨0, Nat.zero_le _, rfl, rfl, fun j hj => by omega⟩
  case round =>
    obtain ⟨k, hk, rfl, rfl, hall⟩ := hrel
    have HALL := Lib.hid hall
    clear hall
    by_cases hlt : k < len
    · obtain ⟨b, off, rfl, hb, e0⟩ := HC.out k hlt
      have m0 := (HBA.out.cell (p := ⟨b, off + k, none⟩) hb).trans e0
      have hki : (k : Int) < (len : Int) := by omega
      have hat := HAT.out k
      have HL2 := Lib.hid (show lastTo l (k + 1) = vAt l k from rfl)
      unfold vAt at hat HL2
      generalize l[k]?.getD 0 = x at *
      generalize hlk : lastTo l k = y at *
      clear e0
      by_cases h1 : x ≤ y
      · have hbad := HBAD.out k hlt (by rw [hat, decide_eq_false (by omega)]; rfl)
        subst hbad
        clear hat hlk
        go_wp2_with fail
        go_ret
        exact ⟨rfl, HBA.out⟩
      by_cases h2 : lim ≤ x
      · have hbad := HBAD.out k hlt (by rw [hat, decide_eq_false (show ¬ x < lim by omega), Bool.and_false])
        subst hbad
        clear hat hlk
        go_wp2_with fail
        go_ret
        exact ⟨rfl, HBA.out⟩
      · have hgood : okAt lim l k = true := by rw [hat, decide_eq_true (by omega), decide_eq_true (by omega)]; rfl
        have HGOOD := Lib.hid hgood
        clear hat hlk hgood
        go_wp2_with fail
        go_round
        case rel => exact ⟨k + 1, by omega, by go_num, by rw [HL2.out], fun j hj => by
          rcases Nat.lt_or_ge j k with g | g
          · exact HALL.out j g
          · obtain rfl : j = k := by omega
            exact HGOOD.out⟩
        case measure => simp [intOf]; omega
    · obtain rfl : k = len := by omega
      have hB := HOK.out HALL.out
      subst hB
      go_wp2_with fail
      go_ret
      exact ⟨rfl, HBA.out⟩
end Go.Proofs.Ythogahdnidjelaa
namespace Go.Proofs.Ythogahdnidjelaa
open Go.RowKit Go.Shelf
set_option linter.unusedSimpArgs false
def bAt (bs : List Bool) (k : Nat) : Bool := bs[k]?.getD false
/-- the block holds these answers -/
def BB (W : World) (B : Nat) (bs : List Bool) : Prop := W.heap[B]? = some (.cells (bs.map Value.bool).toArray 4 (0, 0))
theorem BB.lt {W : World} {B : Nat} {bs : List Bool} (h : BB W B bs) : B < W.heap.size := (Array.getElem?_eq_some_iff.1 h).1
theorem BB.cell {W : World} {B : Nat} {bs : List Bool} (h : BB W B bs) {k : Nat} (hk : k < bs.length) : W.cell? ⟨B, k, none⟩ = some (.bool (bAt bs k)) := by
  have e : W.heap[B]? = _ := h
  simp [World.cell?, e, bAt, hk]
theorem BB.frozen {W : World} {B : Nat} {bs : List Bool} (h : BB W B bs) (k : Nat) : W.frozen? ⟨B, k, none⟩ = false := by
  have e : W.heap[B]? = _ := h
  simp [World.frozen?, e]
theorem BB.keep {W W' : World} {B : Nat} {bs : List Bool} (h : BB W B bs) (hb : Below W.heap.size W W') : BB W' B bs := (hb.block B h.lt).trans h
theorem BB.set {W : World} {B : Nat} {bs : List Bool} (h : BB W B bs) {k : Nat} (b : Bool) : BB (W.setCell ⟨B, k, none⟩ (.bool b)) B (bs.set k b) := by
  have e : W.heap[B]? = _ := h
  unfold BB
  simp only [World.setCell, Array.getElem?_modify, if_true, e, Option.map_some]
  simp [List.map_set]
theorem BB.far {W : World} {B C o : Nat} {u : Value} {bs : List Bool} (h : BB W B bs) (hne : C ≠ B) : BB (W.setCell ⟨C, o, none⟩ u) B bs :=
  (Below.heap_setCell _ _ _ _ (by show B ≠ C; exact fun e => hne e.symm)).trans h
theorem infoB : (Try.prog.info? 4).map (fun i => (i.zero, i.size, i.bytes)) = some (some (.bool false), 1, 1) := by kernel_rfl
theorem u117 : Try.prog.underlying 117 = some (.slice 4) := by kernel_rfl
/-- a slice of answers No, made -/
theorem make_bools (w : World) (n : Nat) (hn : n ≤ 100000) : ∃ w', (Instr.makeSlice 117 (.int .i64 (n : Int)) (.int .i64 (n : Int))).run Try.prog w = .ok (.slice (some ⟨w.heap.size, 0, none⟩) n n) w' ∧
    BB w' w.heap.size (List.replicate n false) ∧ Below w.heap.size w w' := by
  obtain ⟨i0, hi0, hz0, hz1, hz2⟩ := info_parts infoB
  obtain ⟨w', h1, h2, h3⟩ := run_make_full (P := Try.prog) w w.heap.size 117 4 i0 _ 1 u117 hi0 hz0 hz1 .i64 .i64 n (by rw [hz2]; omega) (by unfold maxLen; omega) (Nat.le_refl _)
  refine ⟨w', h1, ?_, (Below.refl _ _).grown h3 (Nat.le_refl _) (fun k hk => by simp at hk)⟩
  rcases h2.2 with ⟨e, -⟩ | ⟨g, cap, cur, e, -, hg, -, -, r3, r4⟩
  · cases e
  · simp only [Value.slice.injEq, Option.some.injEq, Addr.mk.injEq, and_true, true_and] at e
    obtain ⟨rfl, rfl⟩ := e
    unfold BB
    rw [hg]
    have hcur : cur = ((List.replicate n false).map Value.bool).toArray := by
      apply Array.ext'
      have e1 : cur.toList.take (n * 1) = cur.toList := List.take_of_length_le (by simp [r3])
      rw [← e1, r4]
      simp [madeCells, List.map_replicate]
      refine List.ext_getElem? fun j => ?_
      rcases Nat.lt_or_ge j n with g | g
      · simp [g, Value.cells, Nat.mod_one]
      · simp [g, Nat.not_lt.2 g]
    rw [hcur]
/-- the answers for a list of cells, after its first k cells -/
def mkL (n : Nat) (l : List Int) : Nat → List Bool
  | 0 => List.replicate n false
  | k + 1 => (mkL n l k).set (vAt l k).toNat true
theorem mkL_len (n : Nat) (l : List Int) : ∀ k, (mkL n l k).length = n
  | 0 => by simp [mkL]
  | k + 1 => by simp [mkL, mkL_len n l k]
theorem areB_nn {lim : Int} {l : List Int} (h : areB lim l = true) : ∀ k, k < l.length → 0 ≤ vAt l k ∧ vAt l k < lim := by
  have hl : ∀ k, k ≤ l.length → -1 ≤ lastTo l k := by
    intro k
    induction k with
    | zero => intro _; simp [lastTo]
    | succ k ih =>
      intro hk
      have a := ih (by omega)
      have b := areB_get h (k := k) (by omega)
      show -1 ≤ vAt l k
      omega
  intro k hk
  have a := hl k (by omega)
  have b := areB_get h hk
  omega
set_option maxRecDepth 100000 in
set_option maxHeartbeats 4000000 in
theorem marked_any (wd hg : Int) (n : Nat) (hw : 1 ≤ wd ∧ wd ≤ 24) (hh : 1 ≤ hg ∧ hg ≤ 24) (hn : wd * hg = (n : Int)) (sv : Value) (l : List Int) (hll : l.length ≤ 2147483649) (hl : areB (wd * hg) l = true) (w : World) (hI : Nums w.heap.size w sv l) :
    Calls Try.prog 87 #[.agg #[.int .i64 wd, .int .i64 hg], sv] w fun e w' => ∃ B, e = .returned (.slice (some ⟨B, 0, none⟩) n n) ∧ BB w' B (mkL n l l.length) ∧ w.heap.size ≤ B ∧ Below w.heap.size w w' := by
  have hlim : wd * hg ≤ 576 := by
    have a := Int.mul_le_mul hw.2 hh.2 (by omega) (by omega)
    omega
  have hn1 : n ≤ 576 := by omega
  have W1' : wrap64 (wd * hg) = (n : Int) := by unfold wrap64; omega
  have HNN := Lib.hid (areB_nn hl)
  rw [hn] at HNN
  have HML := Lib.hid (mkL_len n l)
  have HMS := Lib.hid (fun k => show mkL n l (k + 1) = (mkL n l k).set (vAt l k).toNat true from rfl)
  clear hl hlim hw hh
  obtain ⟨a, cap, rfl, -, hc⟩ := hI
  have HC := Lib.hid hc
  clear hc
  generalize l.length = len at *
  obtain ⟨A, hA⟩ : ∃ A, A = w.alloc (.cells #[.int .i64 wd, .int .i64 hg] 54) := ⟨_, rfl⟩
  have k0 : A.cell? ⟨w.heap.size, 0, none⟩ = some (.int .i64 wd) := by rw [hA]; simp [go_sem]
  have k1 : A.cell? ⟨w.heap.size, 1, none⟩ = some (.int .i64 hg) := by rw [hA]; simp [go_sem]
  have hzA : A.heap.size = w.heap.size + 1 := by rw [hA]; simp
  have hBA : Below w.heap.size w A := by rw [hA]; exact (Below.refl _ _).alloc (Nat.le_refl _) _
  obtain ⟨w2, hM, hS, hb⟩ := make_bools A n (by omega)
  rw [hzA] at hS hb
  have HBA := Lib.hid hBA
  have HB2 := Lib.hid hb
  have HS := Lib.hid hS
  clear hBA hb hS
  rw [hA] at hM
  go_enter Try.func87, Try.ntmps87
  go_wp2_with fail
  go_loopw [6] (fun i wr => ∃ k : Nat, k ≤ len ∧ i = .int .i64 k ∧ BB wr (w.heap.size + 1) (mkL n l k) ∧ Below (w.heap.size + 1) A wr) (fun i _ => len - (intOf i).toNat)
  case atStart => exact ⟨0, Nat.zero_le _, rfl, HS.out, HB2.out⟩
  case round =>
    obtain ⟨k, hk, rfl, hS, hg'⟩ := hrel
    clear hM k0 k1 hA
    have HG := Lib.hid hg'
    have HSk := Lib.hid hS
    have hBw := HBA.out.trans (hg'.mono (by omega))
    clear hg'
    by_cases hlt : k < len
    · obtain ⟨b, off, rfl, hb, e0⟩ := HC.out k hlt
      have m0 := (hBw.cell (p := ⟨b, off + k, none⟩) hb).trans e0
      have hki : (k : Int) < (len : Int) := by omega
      have hnn := HNN.out k hlt
      have hms := HMS.out k
      unfold vAt at hnn hms
      generalize l[k]?.getD 0 = x at *
      obtain ⟨xn, rfl⟩ : ∃ xn : Nat, x = (xn : Int) := ⟨x.toNat, by omega⟩
      have hxn : xn < n := by omega
      have q1 := hS.cell (k := xn) (by rw [HML.out]; exact hxn)
      have q2 := hS.frozen xn
      have hxi : (xn : Int) < (n : Int) := by omega
      have HN := Lib.hid (show BB (wr.setCell ⟨w.heap.size + 1, xn, none⟩ (.bool true)) (w.heap.size + 1) (mkL n l (k + 1)) from by rw [hms, Int.toNat_natCast]; exact hS.set true)
      clear e0 hS hms hBw
      go_wp2_with fail
      go_roundw
      case rel => exact ⟨k + 1, by omega, by go_num, HN.out, HG.out.setCell (Nat.le_refl _) _⟩
      case measure => simp [intOf]; omega
    · obtain rfl : k = len := by omega
      clear hS
      have HBw := Lib.hid hBw
      clear hBw
      go_wp2_with fail
      go_ret
      exact ⟨_, rfl, HSk.out, by omega, HBw.out⟩
end Go.Proofs.Ythogahdnidjelaa
namespace Go.Proofs.Ythogahdnidjelaa
open Go.RowKit Go.Shelf
set_option linter.unusedSimpArgs false
structure Hr where
  eLo : Int
  eHi : Int
  nLo : Int
  nHi : Int
  se : List Int
instance : Inhabited Hr := ⟨⟨0, 0, 0, 0, []⟩⟩
def hr (hs : List Hr) (k : Nat) : Hr := hs[k]?.getD default
def Hrs (n₀ : Nat) (W : World) (sv : Value) (hs : List Hr) : Prop :=
  ∃ a cap, sv = .slice a hs.length cap ∧ hs.length ≤ cap ∧ ∀ k, k < hs.length → ∃ b off s, a = some ⟨b, off, none⟩ ∧ b < n₀ ∧
    W.cell? ⟨b, off + k * 5, none⟩ = some (.int .i64 (hr hs k).eLo) ∧ W.cell? ⟨b, off + k * 5 + 1, none⟩ = some (.int .i64 (hr hs k).eHi) ∧
    W.cell? ⟨b, off + k * 5 + 2, none⟩ = some (.int .i64 (hr hs k).nLo) ∧ W.cell? ⟨b, off + k * 5 + 3, none⟩ = some (.int .i64 (hr hs k).nHi) ∧
    W.cell? ⟨b, off + k * 5 + 4, none⟩ = some s ∧ Nums n₀ W s (hr hs k).se
theorem Nums.mono {n₀ m : Nat} {W W' : World} {s : Value} {l : List Int} (h : Nums n₀ W s l) (hb : Below n₀ W W') (hm : n₀ ≤ m) : Nums m W' s l := by
  obtain ⟨a, cap, e, hl, hc⟩ := h
  refine ⟨a, cap, e, hl, fun k hk => ?_⟩
  obtain ⟨b, off, h1, h2, h3⟩ := hc k hk
  exact ⟨b, off, h1, Nat.lt_of_lt_of_le h2 hm, (hb.cell (p := ⟨b, off + k, none⟩) h2).trans h3⟩
theorem Hrs.at {W W' : World} {sv : Value} {hs : List Hr} (h : Hrs W.heap.size W sv hs) (hb : Below W.heap.size W W') : Hrs W'.heap.size W' sv hs := by
  obtain ⟨a, cap, e, hl, hc⟩ := h
  refine ⟨a, cap, e, hl, fun k hk => ?_⟩
  obtain ⟨b, off, s, h1, h2, c0, c1, c2, c3, c4, hn⟩ := hc k hk
  exact ⟨b, off, s, h1, Nat.lt_of_lt_of_le h2 hb.size, (hb.cell (p := ⟨b, _, none⟩) h2).trans c0, (hb.cell (p := ⟨b, _, none⟩) h2).trans c1, (hb.cell (p := ⟨b, _, none⟩) h2).trans c2, (hb.cell (p := ⟨b, _, none⟩) h2).trans c3, (hb.cell (p := ⟨b, _, none⟩) h2).trans c4, hn.mono hb hb.size⟩
def hrOk (wd hg : Int) (h : Hr) : Bool := shB h.eLo h.eHi && (shB h.nLo h.nHi && areB (wd * hg) h.se)
def seaE (wd hg : Int) (st : List Int) (hs : List Hr) : Int :=
  if 48 < hs.length then 6 else if btw 1 wd 24 = false then 2 else if btw 1 hg 24 = false then 2 else if areB (wd * hg) st = false then 2 else if hs.all (hrOk wd hg) = true then 0 else 2
theorem hrs_bad {wd hg : Int} {hs : List Hr} {k : Nat} (hk : k < hs.length) (h : hrOk wd hg (hr hs k) = false) : ¬ hs.all (hrOk wd hg) = true := by
  intro h2
  have := List.all_eq_true.1 h2 hs[k] (List.getElem_mem hk)
  unfold hr at h
  rw [List.getElem?_eq_getElem hk, Option.getD_some, this] at h
  exact absurd h (by decide)
theorem hrs_ok {wd hg : Int} {hs : List Hr} (h : ∀ k, k < hs.length → hrOk wd hg (hr hs k) = true) : hs.all (hrOk wd hg) = true := by
  refine List.all_eq_true.2 fun z hz => ?_
  obtain ⟨k, hk, rfl⟩ := List.getElem_of_mem hz
  have := h k hk
  unfold hr at this
  rwa [List.getElem?_eq_getElem hk, Option.getD_some] at this
set_option maxRecDepth 100000 in
set_option maxHeartbeats 8000000 in
theorem checkSearch_any (wd hg : Int) (sv hv : Value) (st : List Int) (hs : List Hr) (hl1 : st.length ≤ 2147483649) (hl2 : ∀ k, k < hs.length → (hr hs k).se.length ≤ 2147483649) (w : World) (hI : Nums w.heap.size w sv st) (hH : Hrs w.heap.size w hv hs) :
    Calls Try.prog 82 #[.agg #[.int .i64 wd, .int .i64 hg], sv, hv] w fun e w' => e = .returned (.int .i64 (seaE wd hg st hs)) ∧ Below w.heap.size w w' := by
  have HE := Lib.hid (show seaE wd hg st hs = if 48 < hs.length then 6 else if btw 1 wd 24 = false then 2 else if btw 1 hg 24 = false then 2 else if areB (wd * hg) st = false then 2 else if hs.all (hrOk wd hg) = true then 0 else 2 from rfl)
  generalize seaE wd hg st hs = E at *
  have C103 := Lib.hid (fun hw hh W (hb : Below w.heap.size w W) => areCells_any wd hg hw hh sv st hl1 W (hI.at hb))
  have HBAD := Lib.hid (fun k hk h => hrs_bad (wd := wd) (hg := hg) (hs := hs) (k := k) hk h)
  have HOK := Lib.hid (fun h => hrs_ok (wd := wd) (hg := hg) (hs := hs) h)
  have HL2 := Lib.hid hl2
  have c80 : ∀ W, Calls Try.prog 80 #[.int .i64 wd, .int .i64 1, .int .i64 24] W fun e w' => e = .returned (.bool (btw 1 wd 24)) ∧ w' = W := fun W => withinI_any wd 1 24 W
  have c80b : ∀ W, Calls Try.prog 80 #[.int .i64 hg, .int .i64 1, .int .i64 24] W fun e w' => e = .returned (.bool (btw 1 hg 24)) ∧ w' = W := fun W => withinI_any hg 1 24 W
  obtain ⟨a, cap, rfl, -, -⟩ := hI
  obtain ⟨a2, cap2, rfl, -, hc⟩ := hH
  have HC := Lib.hid hc
  clear hc hl1 hl2
  obtain ⟨A, hA⟩ : ∃ A, A = w.alloc (.cells #[.int .i64 wd, .int .i64 hg] 54) := ⟨_, rfl⟩
  have hzA : A.heap.size = w.heap.size + 1 := by rw [hA]; simp
  have KK := Lib.hid (show ∀ W, Below (w.heap.size + 1) A W → W.cell? ⟨w.heap.size, 0, none⟩ = some (.int .i64 wd) ∧ W.cell? ⟨w.heap.size, 1, none⟩ = some (.int .i64 hg) from fun W h => by
    refine ⟨(h.cell (p := ⟨w.heap.size, 0, none⟩) (Nat.lt_succ_self _)).trans ?_, (h.cell (p := ⟨w.heap.size, 1, none⟩) (Nat.lt_succ_self _)).trans ?_⟩ <;> (rw [hA]; simp [go_sem]))
  have HBA := Lib.hid (show ∀ W, Below (w.heap.size + 1) A W → Below w.heap.size w W from fun W h => by
    have e : Below w.heap.size w A := by rw [hA]; exact (Below.refl _ _).alloc (Nat.le_refl _) _
    exact e.trans (h.mono (Nat.le_succ _)))
  have HALL := Lib.hid (show hs.all (hrOk wd hg) = hs.all (hrOk wd hg) from rfl)
  generalize hlen : hs.length = len at *
  obtain ⟨k0, k1⟩ := KK.out _ (Below.refl _ _)
  have hbA := HBA.out _ (Below.refl _ _)
  by_cases h48 : 48 < len
  · obtain rfl : E = 6 := by rw [HE.out, if_pos h48]
    have hd : (48 : Int) < (len : Int) := by omega
    have HB := Lib.hid hbA
    clear HE C103 HBAD HOK HL2 c80 c80b HC KK HBA HALL hbA hlen
    go_enter Try.func82, Try.ntmps82
    go_wp2_with fail
    go_ret
    exact ⟨rfl, by rw [hA] at HB; exact HB.out⟩
  have hd : ¬ (48 : Int) < (len : Int) := by omega
  by_cases hw : btw 1 wd 24 = false
  · obtain rfl : E = 2 := by rw [HE.out, if_neg h48, if_pos hw]
    rw [hw] at c80
    have HB := Lib.hid hbA
    clear HE C103 HBAD HOK HL2 c80b HC KK HBA HALL hbA hlen hw
    go_enter Try.func82, Try.ntmps82
    go_wp2_with fail
    try rw [← hA]
    clear hA
    refine (c80 _).mono ?_
    rintro e w1 ⟨rfl, rfl⟩
    clear c80
    go_wp2_with fail
    go_ret
    exact ⟨rfl, HB.out⟩
  replace hw : btw 1 wd 24 = true := by cases h : btw 1 wd 24 <;> simp_all
  by_cases hh : btw 1 hg 24 = false
  · obtain rfl : E = 2 := by rw [HE.out, if_neg h48, if_neg (by rw [hw]; decide), if_pos hh]
    rw [hw] at c80
    rw [hh] at c80b
    have HB := Lib.hid hbA
    clear HE C103 HBAD HOK HL2 HC KK HBA HALL hbA hlen hw hh
    go_enter Try.func82, Try.ntmps82
    go_wp2_with fail
    try rw [← hA]
    clear hA
    refine (c80 _).mono ?_
    rintro e w1 ⟨rfl, rfl⟩
    go_wp2_with fail
    refine (c80b _).mono ?_
    rintro e w1 ⟨rfl, rfl⟩
    clear c80 c80b
    go_wp2_with fail
    go_ret
    exact ⟨rfl, HB.out⟩
  replace hh : btw 1 hg 24 = true := by cases h : btw 1 hg 24 <;> simp_all
  have c103 := C103.out ((btw_iff _ _ _).1 hw) ((btw_iff _ _ _).1 hh)
  have hw' := (btw_iff _ _ _).1 hw
  have hh' := (btw_iff _ _ _).1 hh
  by_cases ha : areB (wd * hg) st = false
  · obtain rfl : E = 2 := by rw [HE.out, if_neg h48, if_neg (by rw [hw]; decide), if_neg (by rw [hh]; decide), if_pos ha]
    rw [hw] at c80
    rw [hh] at c80b
    rw [ha] at c103
    have HB := Lib.hid hbA
    clear HE C103 HBAD HOK HL2 HC KK HBA HALL hbA hlen hw hh ha hw' hh'
    go_enter Try.func82, Try.ntmps82
    go_wp2_with fail
    try rw [← hA]
    clear hA
    refine (c80 _).mono ?_
    rintro e w1 ⟨rfl, rfl⟩
    go_wp2_with fail
    refine (c80b _).mono ?_
    rintro e w1 ⟨rfl, rfl⟩
    clear c80 c80b
    go_wp2_with fail
    refine (c103 _ HB.out).mono ?_
    rintro e w2 ⟨rfl, hb⟩
    have HB2 := Lib.hid (HB.out.trans (hb.mono HB.out.size))
    clear hb c103 k0 k1
    go_wp2_with fail
    go_ret
    exact ⟨rfl, HB2.out⟩
  replace ha : areB (wd * hg) st = true := by cases h : areB (wd * hg) st <;> simp_all
  have HE2 := Lib.hid (show E = if hs.all (hrOk wd hg) = true then 0 else 2 by rw [HE.out, if_neg h48, if_neg (by rw [hw]; decide), if_neg (by rw [hh]; decide), if_neg (by rw [ha]; decide)])
  rw [hw] at c80
  rw [hh] at c80b
  rw [ha] at c103
  have HLEN := Lib.hid hlen
  clear HE C103 HALL hlen hw hh ha
  go_enter Try.func82, Try.ntmps82
  go_wp2_with fail
  try rw [← hA]
  clear hA
  refine (c80 _).mono ?_
  rintro e w1 ⟨rfl, hq⟩
  rw [hq]
  clear hq w1
  go_wp2_with fail
  refine (c80b _).mono ?_
  rintro e w1 ⟨rfl, hq⟩
  rw [hq]
  clear hq w1
  clear c80 c80b
  go_wp2_with fail
  refine (c103 _ hbA).mono ?_
  rintro e w2 ⟨rfl, hb⟩
  have hB2 : Below (w.heap.size + 1) A w2 := hb.mono (by omega)
  have HB2 := Lib.hid hB2
  clear hb c103 k0 k1 hbA
  have hs2 := hB2.size
  rw [hzA] at hs2
  clear hB2
  go_wp2_with fail
  go_loopw [30] (fun i wr => ∃ k : Nat, k ≤ len ∧ i = .int .i64 k ∧ Below w2.heap.size w2 wr ∧ ∀ j, j < k → hrOk wd hg (hr hs j) = true) (fun i _ => len - (intOf i).toNat)
  case atStart => exact ⟨0, Nat.zero_le _, rfl, Below.refl _ _, fun j hj => by omega⟩
  case round =>
    obtain ⟨k, hk, rfl, hg', hall⟩ := hrel
    have HALL := Lib.hid hall
    have hBr := HB2.out.trans (hg'.mono hs2)
    obtain ⟨k0, k1⟩ := KK.out _ hBr
    have HBw := Lib.hid (HBA.out _ hBr)
    have hsr := hBr.size
    rw [hzA] at hsr
    clear hall
    by_cases hlt : k < len
    · obtain ⟨b, off, s, rfl, hb, e0, e1, e2, e3, e4, hn⟩ := HC.out k hlt
      have hki : (k : Int) < (len : Int) := by omega
      have m0 := (HBw.out.cell (p := ⟨b, off + k * 5, none⟩) hb).trans e0
      have m1 := (HBw.out.cell (p := ⟨b, off + k * 5 + 1, none⟩) hb).trans e1
      have m2 := (HBw.out.cell (p := ⟨b, off + k * 5 + 2, none⟩) hb).trans e2
      have m3 := (HBw.out.cell (p := ⟨b, off + k * 5 + 3, none⟩) hb).trans e3
      have m4 := (HBw.out.cell (p := ⟨b, off + k * 5 + 4, none⟩) hb).trans e4
      have HSE := Lib.hid (fun W (hb : Below w.heap.size w W) => areCells_any wd hg hw' hh' s (hr hs k).se (HL2.out k hlt) W (hn.mono hb hb.size))
      have HOKK := Lib.hid (show hrOk wd hg (hr hs k) = (shB (hr hs k).eLo (hr hs k).eHi && (shB (hr hs k).nLo (hr hs k).nHi && areB (wd * hg) (hr hs k).se)) from rfl)
      have HBADK := Lib.hid (HBAD.out k hlt)
      have HGr := Lib.hid hg'
      obtain ⟨asl, csl, hse⟩ := hn.form
      subst hse
      clear e0 e1 e2 e3 e4 hn hg' hBr
      generalize hok : hrOk wd hg (hr hs k) = ok at *
      have HKE := Lib.hid hok
      clear hok
      generalize (hr hs k).se.length = sl at *
      generalize hareas : areB (wd * hg) (hr hs k).se = c3 at *
      generalize (hr hs k).eLo = x0 at *
      generalize (hr hs k).eHi = x1 at *
      generalize (hr hs k).nLo = x2 at *
      generalize (hr hs k).nHi = x3 at *
      clear hareas
      have cE := fun W => isShift_any x0 x1 W
      have cN := fun W => isShift_any x2 x3 W
      generalize shB x0 x1 = c1 at *
      generalize shB x2 x3 = c2 at *
      obtain ⟨H0, hH0⟩ : ∃ W, W = wr.alloc (.cells #[.int .i64 x0, .int .i64 x1, .int .i64 x2, .int .i64 x3, .slice asl sl csl] 81) := ⟨_, rfl⟩
      have hz0 : H0.heap.size = wr.heap.size + 1 := by rw [hH0]; simp
      have hb0 : Below wr.heap.size wr H0 := by rw [hH0]; exact (Below.refl _ _).alloc (Nat.le_refl _) _
      have KH := Lib.hid (show ∀ W, Below H0.heap.size H0 W → W.cell? ⟨wr.heap.size, 2, none⟩ = some (.int .i64 x2) ∧ W.cell? ⟨wr.heap.size, 3, none⟩ = some (.int .i64 x3) ∧ W.cell? ⟨wr.heap.size, 4, none⟩ = some (.slice asl sl csl) from fun W h => by
        refine ⟨(h.cell (p := ⟨wr.heap.size, 2, none⟩) (by rw [hz0]; exact Nat.lt_succ_self _)).trans ?_, (h.cell (p := ⟨wr.heap.size, 3, none⟩) (by rw [hz0]; exact Nat.lt_succ_self _)).trans ?_, (h.cell (p := ⟨wr.heap.size, 4, none⟩) (by rw [hz0]; exact Nat.lt_succ_self _)).trans ?_⟩ <;> (rw [hH0]; simp [go_sem]))
      have HB0 := Lib.hid (HGr.out.trans (hb0.mono HGr.out.size))
      have HBw0 := Lib.hid (HBw.out.trans (hb0.mono HBw.out.size))
      have KA := Lib.hid (show ∀ W, Below H0.heap.size H0 W → W.cell? ⟨w.heap.size, 0, none⟩ = some (.int .i64 wd) ∧ W.cell? ⟨w.heap.size, 1, none⟩ = some (.int .i64 hg) from fun W h => KK.out _ ((HB2.out.trans (HB0.out.mono hs2)).trans (h.mono (by omega))))
      clear k0 k1 hb0 KK HBA HB2 HC HGr
      go_wp2_with fail
      rw [← hH0]
      clear hH0 m0 m1 m2 m3 m4
      refine (cE _).mono ?_
      rintro e v1 ⟨rfl, hb1⟩
      have HB1 := Lib.hid hb1
      obtain ⟨p2, p3, p4⟩ := KH.out _ hb1
      obtain ⟨k0, k1⟩ := KA.out _ hb1
      clear hb1 cE
      cases c1
      · obtain rfl : ok = false := by rw [HOKK.out]; rfl
        obtain rfl : E = 2 := by rw [HE2.out, if_neg (HBADK.out rfl)]
        have HBf := Lib.hid (HBw0.out.trans (HB1.out.mono HBw0.out.size))
        clear HOKK HBADK HE2 HOK HBAD HSE cN HL2 HALL
        go_wp2_with fail
        go_ret
        exact ⟨rfl, HBf.out⟩
      go_wp2_with fail
      refine (cN _).mono ?_
      rintro e v2 ⟨rfl, hb2⟩
      have HB3 := Lib.hid (HB1.out.trans (hb2.mono HB1.out.size))
      clear hb2 cN p2 p3 p4 k0 k1 HB1
      obtain ⟨p2, p3, p4⟩ := KH.out _ HB3.out
      obtain ⟨k0, k1⟩ := KA.out _ HB3.out
      cases c2
      · obtain rfl : ok = false := by rw [HOKK.out]; rfl
        obtain rfl : E = 2 := by rw [HE2.out, if_neg (HBADK.out rfl)]
        have HBf := Lib.hid (HBw0.out.trans (HB3.out.mono HBw0.out.size))
        clear HOKK HBADK HE2 HOK HBAD HSE HL2 HALL
        go_wp2_with fail
        go_ret
        exact ⟨rfl, HBf.out⟩
      go_wp2_with fail
      refine (HSE.out _ (HBw0.out.trans (HB3.out.mono HBw0.out.size))).mono ?_
      rintro e v3 ⟨rfl, hb3⟩
      have HB4 := Lib.hid (HB3.out.trans (hb3.mono HB3.out.size))
      clear hb3 p2 p3 p4 k0 k1 HB3 HSE
      cases c3
      · obtain rfl : ok = false := by rw [HOKK.out]; rfl
        obtain rfl : E = 2 := by rw [HE2.out, if_neg (HBADK.out rfl)]
        have HBf := Lib.hid (HBw0.out.trans (HB4.out.mono HBw0.out.size))
        clear HOKK HBADK HE2 HOK HBAD HL2 HALL
        go_wp2_with fail
        go_ret
        exact ⟨rfl, HBf.out⟩
      · have HG := Lib.hid (show hrOk wd hg (hr hs k) = true by rw [HKE.out, HOKK.out]; rfl)
        have HBn := Lib.hid (HB0.out.trans (HB4.out.mono HB0.out.size))
        clear HOKK HBADK HE2 HOK HBAD HL2
        go_wp2_with fail
        go_roundw
        case rel => exact ⟨k + 1, by omega, by go_num, HBn.out, fun j hj => by
          rcases Nat.lt_or_ge j k with g | g
          · exact HALL.out j g
          · obtain rfl : j = k := by omega
            exact HG.out⟩
        case measure => simp [intOf]; omega
    · obtain rfl : k = len := by omega
      have hE : E = 0 := by rw [HE2.out, if_pos (HOK.out HALL.out)]
      subst hE
      clear HE2 HOK HBAD HC HL2 KK HALL
      go_wp2_with fail
      go_ret
      exact ⟨rfl, HBw.out⟩
end Go.Proofs.Ythogahdnidjelaa
namespace Go.Proofs.Ythogahdnidjelaa
open Go.RowKit Go.Shelf
set_option linter.unusedSimpArgs false
/-- the numbers of the answers that are Yes, among the first k -/
def trL (bs : List Bool) : Nat → List Int
  | 0 => []
  | k + 1 => if bAt bs k = true then trL bs k ++ [(k : Int)] else trL bs k
theorem trL_len (bs : List Bool) : ∀ k, (trL bs k).length ≤ k
  | 0 => by simp [trL]
  | k + 1 => by
    have := trL_len bs k
    simp only [trL]
    split
    · simp; omega
    · omega
set_option maxRecDepth 100000 in
set_option maxHeartbeats 4000000 in
theorem rnumbers_any (B : Nat) (bs : List Bool) (hn : bs.length ≤ 576) (w : World) (hS : BB w B bs) :
    Calls Try.prog 89 #[.slice (some ⟨B, 0, none⟩) bs.length bs.length] w fun e w' => ∃ v, e = .returned v ∧ Nums w'.heap.size w' v (trL bs bs.length) ∧ Below w.heap.size w w' := by
  obtain ⟨i0, hi0, hz0, hz1, hz2⟩ := info_parts infoI
  have HC := Lib.hid (fun k (hk : k < bs.length) => hS.cell hk)
  have HBl := hS.lt
  have HL := Lib.hid (trL_len bs)
  have HT := Lib.hid (fun k => show trL bs (k + 1) = if bAt bs k = true then trL bs k ++ [(k : Int)] else trL bs k from rfl)
  clear hS
  generalize bs.length = len at *
  go_enter Try.func89, Try.ntmps89
  go_wp2_with fail
  go_loopw [3, 4] (fun v i wr => ∃ k : Nat, k ≤ len ∧ i = .int .i64 k ∧ wr.ownsRow w.heap.size 3 1 v (trL bs k).length (numv (trL bs k)) ∧ Below w.heap.size w wr) (fun _ i _ => len - (intOf i).toNat)
  case atStart => exact ⟨0, Nat.zero_le _, rfl, World.ownsRow_nil _ _ _ _, Below.refl _ _⟩
  case round =>
    obtain ⟨k, hk, rfl, hrow, hB⟩ := hrel
    have hsz := hB.size
    by_cases hlt : k < len
    · have m0 := (hB.cell (p := ⟨B, k, none⟩) HBl).trans (HC.out k hlt)
      have hki : (k : Int) < (len : Int) := by omega
      have ht := HT.out k
      have hl := HL.out k
      generalize bAt bs k = b at *
      cases b
      · rw [if_neg (by decide)] at ht
        have HT2 := Lib.hid ht
        have HRow := Lib.hid hrow
        have HBr := Lib.hid hB
        clear ht hrow hB
        go_wp2_with fail
        go_roundw
        case rel => exact ⟨k + 1, by omega, by go_num, by rw [HT2.out]; exact HRow.out, HBr.out⟩
        case measure => simp [intOf]; omega
      · rw [if_pos rfl] at ht
        have HT2 := Lib.hid ht
        generalize hnl : numv (trL bs k) = nl at hrow
        have HNL := Lib.hid hnl
        have HRow := Lib.hid hrow
        have HBr := Lib.hid hB
        generalize htl : (trL bs k).length = tl at *
        have HTL := Lib.hid htl
        clear hnl ht htl hrow hB
        go_wp2_with (at_builtin; refine wpList_append_own _ rfl _ _ 46 rfl w.heap.size 3 i0 (.int .i64 0) 1 8 Try.underlying46 hi0 hz0 hz1 hz2 rfl (by decide) _ _ _ rfl (HRow.out.alloc _) ⟨wr.heap.size, 0, none⟩ 1 1 [.int .i64 k] rfl rfl (one_new _ _) (by simp [Value.oneCell']) (by unfold maxLen; omega) (by omega) (by simp; omega) ?_; intro v' w5 hrow' hgrow _)
        have hB5 : Below w.heap.size w w5 := (HBr.out.alloc hsz _).grown hgrow (by simp; omega) (fun j hj => (HRow.out.lt j hj).1)
        go_roundw
        case rel => exact ⟨k + 1, by omega, by go_num, by rw [HT2.out, numv_snoc, HNL.out, List.length_append, HTL.out]; exact hrow', hB5⟩
        case measure => simp [intOf]; omega
    · obtain rfl : k = len := by omega
      have HN := Lib.hid (nums_of_owns (xs := trL bs k) hrow)
      have HBr := Lib.hid hB
      clear hrow hB
      go_wp2_with fail
      go_ret
      exact ⟨_, rfl, HN.out, HBr.out⟩
end Go.Proofs.Ythogahdnidjelaa
namespace Go.Proofs.Ythogahdnidjelaa
open Go.RowKit Go.Shelf
set_option linter.unusedSimpArgs false
/-- a step of the hour leads from cell c to column x and row y -/
def StepTo (wd : Int) (h : Hr) (c : Nat) (x y : Int) : Prop :=
  ∃ e n : Int, h.eLo ≤ e ∧ e ≤ h.eHi ∧ h.nLo ≤ n ∧ n ≤ h.nHi ∧ x = (c : Int) % wd + e ∧ y = (c : Int) / wd + n
def InA (wd hg x y : Int) : Prop := 0 ≤ x ∧ x < wd ∧ 0 ≤ y ∧ y < hg
/-- some cell that may be leads to cell j -/
def Leads (wd hg : Int) (h : Hr) (bs : List Bool) (j : Nat) : Prop :=
  ∃ c, c < bs.length ∧ bAt bs c = true ∧ ∃ x y, StepTo wd h c x y ∧ InA wd hg x y ∧ y * wd + x = (j : Int)
/-- some cell that may be leads outside -/
def Leaves (wd hg : Int) (h : Hr) (bs : List Bool) : Prop :=
  ∃ c, c < bs.length ∧ bAt bs c = true ∧ ∃ x y, StepTo wd h c x y ∧ ¬ InA wd hg x y
open Classical in
/-- the answers after an hour -/
noncomputable def nextB (wd hg : Int) (h : Hr) (bs : List Bool) : List Bool :=
  (List.range bs.length).map fun j => decide (Leads wd hg h bs j ∧ (j : Int) ∉ h.se)
open Classical in
noncomputable def leftB (wd hg : Int) (h : Hr) (bs : List Bool) : Bool := decide (Leaves wd hg h bs)
theorem nextB_len (wd hg : Int) (h : Hr) (bs : List Bool) : (nextB wd hg h bs).length = bs.length := by simp [nextB]
open Classical in
theorem nextB_at (wd hg : Int) (h : Hr) (bs : List Bool) {j : Nat} (hj : j < bs.length) : bAt (nextB wd hg h bs) j = decide (Leads wd hg h bs j ∧ (j : Int) ∉ h.se) := by simp [bAt, nextB, hj]
/-- a list of answers is told by its answers -/
theorem bs_ext {bs cs : List Bool} (hl : bs.length = cs.length) (h : ∀ j, j < bs.length → bAt bs j = bAt cs j) : bs = cs := by
  refine List.ext_getElem hl fun j h1 h2 => ?_
  have := h j h1
  unfold bAt at this
  rwa [List.getElem?_eq_getElem h1, List.getElem?_eq_getElem h2, Option.getD_some, Option.getD_some] at this
/-- the state of a search after k hours: the cells that may be, and whether it may have left -/
noncomputable def stB (wd hg : Int) (b0 : List Bool) (hs : List Hr) : Nat → List Bool
  | 0 => b0
  | k + 1 => nextB wd hg (hr hs k) (stB wd hg b0 hs k)
noncomputable def stL (wd hg : Int) (b0 : List Bool) (hs : List Hr) : Nat → Bool
  | 0 => false
  | k + 1 => stL wd hg b0 hs k || leftB wd hg (hr hs k) (stB wd hg b0 hs k)
theorem stB_len (wd hg : Int) (b0 : List Bool) (hs : List Hr) : ∀ k, (stB wd hg b0 hs k).length = b0.length
  | 0 => rfl
  | k + 1 => (nextB_len _ _ _ _).trans (stB_len wd hg b0 hs k)
open Classical in
/-- from no cell it can neither come to one nor leave -/
theorem none_next {wd hg : Int} {h : Hr} {bs : List Bool} (hb : ∀ j, j < bs.length → bAt bs j = false) : (∀ j, j < bs.length → bAt (nextB wd hg h bs) j = false) ∧ leftB wd hg h bs = false := by
  refine ⟨fun j hj => ?_, ?_⟩
  · rw [nextB_at _ _ _ _ hj]
    refine decide_eq_false fun ⟨⟨c, hc, hy, _⟩, _⟩ => ?_
    rw [hb c hc] at hy
    exact absurd hy (by decide)
  · refine decide_eq_false fun ⟨c, hc, hy, _⟩ => ?_
    rw [hb c hc] at hy
    exact absurd hy (by decide)
end Go.Proofs.Ythogahdnidjelaa
namespace Go.Proofs.Ythogahdnidjelaa
open Go.RowKit Go.Shelf
set_option linter.unusedSimpArgs false
/-- ahead of cell c, column E, row N -/
def Ahead (c : Nat) (E N : Int) (c' : Nat) (e n : Int) : Prop := c' < c ∨ (c' = c ∧ (e < E ∨ (e = E ∧ n < N)))
/-- a step of the hour from a cell that may be -/
def Is (h : Hr) (bs : List Bool) (c : Nat) (e n : Int) : Prop := c < bs.length ∧ bAt bs c = true ∧ h.eLo ≤ e ∧ e ≤ h.eHi ∧ h.nLo ≤ n ∧ n ≤ h.nHi
def toX (wd : Int) (c : Nat) (e : Int) : Int := (c : Int) % wd + e
def toY (wd : Int) (c : Nat) (n : Int) : Int := (c : Int) / wd + n
def LeadB (wd hg : Int) (h : Hr) (bs : List Bool) (c : Nat) (E N : Int) (j : Nat) : Prop :=
  ∃ c' e n, Ahead c E N c' e n ∧ Is h bs c' e n ∧ InA wd hg (toX wd c' e) (toY wd c' n) ∧ toY wd c' n * wd + toX wd c' e = (j : Int)
def LeaveB (wd hg : Int) (h : Hr) (bs : List Bool) (c : Nat) (E N : Int) : Prop :=
  ∃ c' e n, Ahead c E N c' e n ∧ Is h bs c' e n ∧ ¬ InA wd hg (toX wd c' e) (toY wd c' n)
/-- the same steps are ahead -/
theorem LeadB.same {wd hg : Int} {h : Hr} {bs : List Bool} {c c2 : Nat} {E N E2 N2 : Int} {j : Nat} (hs : ∀ c' e n, Is h bs c' e n → (Ahead c E N c' e n ↔ Ahead c2 E2 N2 c' e n)) : LeadB wd hg h bs c E N j ↔ LeadB wd hg h bs c2 E2 N2 j :=
  ⟨fun ⟨c', e, n, a, i, r⟩ => ⟨c', e, n, (hs _ _ _ i).1 a, i, r⟩, fun ⟨c', e, n, a, i, r⟩ => ⟨c', e, n, (hs _ _ _ i).2 a, i, r⟩⟩
theorem LeaveB.same {wd hg : Int} {h : Hr} {bs : List Bool} {c c2 : Nat} {E N E2 N2 : Int} (hs : ∀ c' e n, Is h bs c' e n → (Ahead c E N c' e n ↔ Ahead c2 E2 N2 c' e n)) : LeaveB wd hg h bs c E N ↔ LeaveB wd hg h bs c2 E2 N2 :=
  ⟨fun ⟨c', e, n, a, i, r⟩ => ⟨c', e, n, (hs _ _ _ i).1 a, i, r⟩, fun ⟨c', e, n, a, i, r⟩ => ⟨c', e, n, (hs _ _ _ i).2 a, i, r⟩⟩
/-- the end of the rows of a column -/
theorem ahead_rows {h : Hr} {bs : List Bool} {c : Nat} {E N : Int} (hN : h.nHi < N) (c' : Nat) (e n : Int) (hi : Is h bs c' e n) : Ahead c E N c' e n ↔ Ahead c (E + 1) h.nLo c' e n := by
  obtain ⟨-, -, -, -, h3, h4⟩ := hi
  unfold Ahead
  omega
/-- the end of the columns of a cell -/
theorem ahead_cols {h : Hr} {bs : List Bool} {c : Nat} {E : Int} (hE : h.eHi < E) (c' : Nat) (e n : Int) (hi : Is h bs c' e n) : Ahead c E h.nLo c' e n ↔ Ahead (c + 1) h.eLo h.nLo c' e n := by
  obtain ⟨-, -, h1, h2, h3, h4⟩ := hi
  unfold Ahead
  omega
/-- a cell that may not be has no step -/
theorem ahead_no {h : Hr} {bs : List Bool} {c : Nat} {E N : Int} (hb : bAt bs c = false) (c' : Nat) (e n : Int) (hi : Is h bs c' e n) : Ahead c E N c' e n ↔ Ahead (c + 1) h.eLo h.nLo c' e n := by
  obtain ⟨-, h0, h1, h2, h3, h4⟩ := hi
  have hne : c' ≠ c := fun e => by rw [e, hb] at h0; exact absurd h0 (by decide)
  unfold Ahead
  omega
theorem ahead_step (c : Nat) (E N : Int) (c' : Nat) (e n : Int) : Ahead c E (N + 1) c' e n ↔ Ahead c E N c' e n ∨ (c' = c ∧ e = E ∧ n = N) := by
  unfold Ahead
  omega
/-- one step more -/
theorem LeadB.step {wd hg : Int} {h : Hr} {bs : List Bool} {c : Nat} {E N : Int} {j : Nat} (hi : Is h bs c E N) :
    LeadB wd hg h bs c E (N + 1) j ↔ LeadB wd hg h bs c E N j ∨ (InA wd hg (toX wd c E) (toY wd c N) ∧ toY wd c N * wd + toX wd c E = (j : Int)) := by
  constructor
  · rintro ⟨c', e, n, a, i, r1, r2⟩
    rcases (ahead_step _ _ _ _ _ _).1 a with a | ⟨rfl, rfl, rfl⟩
    · exact .inl ⟨c', e, n, a, i, r1, r2⟩
    · exact .inr ⟨r1, r2⟩
  · rintro (⟨c', e, n, a, i, r1, r2⟩ | ⟨r1, r2⟩)
    · exact ⟨c', e, n, (ahead_step _ _ _ _ _ _).2 (.inl a), i, r1, r2⟩
    · exact ⟨c, E, N, (ahead_step _ _ _ _ _ _).2 (.inr ⟨rfl, rfl, rfl⟩), hi, r1, r2⟩
theorem LeaveB.step {wd hg : Int} {h : Hr} {bs : List Bool} {c : Nat} {E N : Int} (hi : Is h bs c E N) :
    LeaveB wd hg h bs c E (N + 1) ↔ LeaveB wd hg h bs c E N ∨ ¬ InA wd hg (toX wd c E) (toY wd c N) := by
  constructor
  · rintro ⟨c', e, n, a, i, r1⟩
    rcases (ahead_step _ _ _ _ _ _).1 a with a | ⟨rfl, rfl, rfl⟩
    · exact .inl ⟨c', e, n, a, i, r1⟩
    · exact .inr r1
  · rintro (⟨c', e, n, a, i, r1⟩ | r1)
    · exact ⟨c', e, n, (ahead_step _ _ _ _ _ _).2 (.inl a), i, r1⟩
    · exact ⟨c, E, N, (ahead_step _ _ _ _ _ _).2 (.inr ⟨rfl, rfl, rfl⟩), hi, r1⟩
theorem none_ahead {h : Hr} {bs : List Bool} (c' : Nat) (e n : Int) (hi : Is h bs c' e n) : ¬ Ahead 0 h.eLo h.nLo c' e n := by
  obtain ⟨-, -, h1, h2, h3, h4⟩ := hi
  unfold Ahead
  omega
/-- behind the last cell: what the hour leads to -/
theorem LeadB.all {wd hg : Int} {h : Hr} {bs : List Bool} {j : Nat} {E N : Int} : LeadB wd hg h bs bs.length E N j ↔ Leads wd hg h bs j := by
  constructor
  · rintro ⟨c, e, n, -, ⟨h0, h1, h2, h3, h4, h5⟩, r1, r2⟩
    exact ⟨c, h0, h1, _, _, ⟨e, n, h2, h3, h4, h5, rfl, rfl⟩, r1, r2⟩
  · rintro ⟨c, h0, h1, x, y, ⟨e, n, h2, h3, h4, h5, rfl, rfl⟩, r1, r2⟩
    exact ⟨c, e, n, .inl h0, ⟨h0, h1, h2, h3, h4, h5⟩, r1, r2⟩
theorem LeaveB.all {wd hg : Int} {h : Hr} {bs : List Bool} {E N : Int} : LeaveB wd hg h bs bs.length E N ↔ Leaves wd hg h bs := by
  constructor
  · rintro ⟨c, e, n, -, ⟨h0, h1, h2, h3, h4, h5⟩, r1⟩
    exact ⟨c, h0, h1, _, _, ⟨e, n, h2, h3, h4, h5, rfl, rfl⟩, r1⟩
  · rintro ⟨c, h0, h1, x, y, ⟨e, n, h2, h3, h4, h5, rfl, rfl⟩, r1⟩
    exact ⟨c, e, n, .inl h0, ⟨h0, h1, h2, h3, h4, h5⟩, r1⟩
/-- where a step in the area leads is one of the cells -/
theorem cell_in {wd hg : Int} {n : Nat} (hn : wd * hg = (n : Int)) {x y : Int} (h : InA wd hg x y) : 0 ≤ y * wd + x ∧ y * wd + x < (n : Int) := by
  obtain ⟨h1, h2, h3, h4⟩ := h
  have a : 0 ≤ y * wd := Int.mul_nonneg h3 (by omega)
  have b : y * wd ≤ (hg - 1) * wd := Int.mul_le_mul_of_nonneg_right (by omega) (by omega)
  have e : (hg - 1) * wd = wd * hg - wd := by rw [Int.sub_mul, Int.one_mul, Int.mul_comm]
  omega
end Go.Proofs.Ythogahdnidjelaa
namespace Go.Proofs.Ythogahdnidjelaa
open Go.RowKit Go.Shelf
set_option linter.unusedSimpArgs false
theorem bAt_set (l : List Bool) (i j : Nat) (b : Bool) (hi : i < l.length) : bAt (l.set i b) j = if j = i then b else bAt l j := by
  unfold bAt
  by_cases h : j = i
  · subst h; rw [if_pos rfl, List.getElem?_set_self hi]; rfl
  · rw [if_neg h, List.getElem?_set_ne (fun e => h e.symm)]
theorem bAt_rep (n j : Nat) : bAt (List.replicate n false) j = false := by
  unfold bAt
  rw [List.getElem?_replicate]
  split <;> rfl
/-- what the steps ahead of (c, E, N) have left -/
def DrL (wd hg : Int) (h : Hr) (bs : List Bool) (c : Nat) (E N : Int) (l : List Bool) (lf : Bool) : Prop :=
  l.length = bs.length ∧ (∀ j, j < bs.length → (bAt l j = true ↔ LeadB wd hg h bs c E N j)) ∧ (lf = true ↔ LeaveB wd hg h bs c E N)
theorem DrL.start (wd hg : Int) (h : Hr) (bs : List Bool) : DrL wd hg h bs 0 h.eLo h.nLo (List.replicate bs.length false) false :=
  ⟨by simp, fun j _ => ⟨fun g => (by rw [bAt_rep] at g; exact absurd g (by decide)), fun ⟨c, e, n, a, i, _⟩ => absurd a (none_ahead c e n i)⟩,
    fun g => absurd g (by decide), fun ⟨c, e, n, a, i, _⟩ => absurd a (none_ahead c e n i)⟩
theorem DrL.same {wd hg : Int} {h : Hr} {bs l : List Bool} {lf : Bool} {c c2 : Nat} {E N E2 N2 : Int} (g : DrL wd hg h bs c E N l lf) (hs : ∀ c' e n, Is h bs c' e n → (Ahead c E N c' e n ↔ Ahead c2 E2 N2 c' e n)) : DrL wd hg h bs c2 E2 N2 l lf :=
  ⟨g.1, fun j hj => (g.2.1 j hj).trans (LeadB.same hs), g.2.2.trans (LeaveB.same hs)⟩
theorem DrL.rows {wd hg : Int} {h : Hr} {bs l : List Bool} {lf : Bool} {c : Nat} {E N : Int} (g : DrL wd hg h bs c E N l lf) (hN : h.nHi < N) : DrL wd hg h bs c (E + 1) h.nLo l lf := g.same (ahead_rows hN)
theorem DrL.cols {wd hg : Int} {h : Hr} {bs l : List Bool} {lf : Bool} {c : Nat} {E : Int} (g : DrL wd hg h bs c E h.nLo l lf) (hE : h.eHi < E) : DrL wd hg h bs (c + 1) h.eLo h.nLo l lf := g.same (ahead_cols hE)
theorem DrL.no {wd hg : Int} {h : Hr} {bs l : List Bool} {lf : Bool} {c : Nat} {E N : Int} (g : DrL wd hg h bs c E N l lf) (hb : bAt bs c = false) : DrL wd hg h bs (c + 1) h.eLo h.nLo l lf := g.same (ahead_no hb)
theorem DrL.out {wd hg : Int} {h : Hr} {bs l : List Bool} {lf : Bool} {c : Nat} {E N : Int} (g : DrL wd hg h bs c E N l lf) (hi : Is h bs c E N) (ho : ¬ InA wd hg (toX wd c E) (toY wd c N)) : DrL wd hg h bs c E (N + 1) l true :=
  ⟨g.1, fun j hj => by rw [LeadB.step hi, g.2.1 j hj]; exact ⟨.inl, fun o => o.elim id fun p => absurd p.1 ho⟩, by rw [LeaveB.step hi]; exact ⟨fun _ => .inr ho, fun _ => rfl⟩⟩
theorem DrL.inn {wd hg : Int} {h : Hr} {bs l : List Bool} {lf : Bool} {c : Nat} {E N : Int} (hn : wd * hg = (bs.length : Int)) (g : DrL wd hg h bs c E N l lf) (hi : Is h bs c E N) {m : Nat} (ho : InA wd hg (toX wd c E) (toY wd c N)) (hm : toY wd c N * wd + toX wd c E = (m : Int)) : DrL wd hg h bs c E (N + 1) (l.set m true) lf := by
  have hc := cell_in hn ho
  rw [hm] at hc
  refine ⟨by simpa using g.1, fun j hj => ?_, by rw [LeaveB.step hi, g.2.2]; exact ⟨.inl, fun o => o.elim id fun p => absurd ho p⟩⟩
  rw [LeadB.step hi, bAt_set _ _ _ _ (by rw [g.1]; omega), hm]
  by_cases e : j = m
  · subst e; rw [if_pos rfl]; exact ⟨fun _ => .inr ⟨ho, rfl⟩, fun _ => rfl⟩
  · rw [if_neg e, g.2.1 j hj]; exact ⟨.inl, fun o => o.elim id fun p => absurd p.2 (by omega)⟩
/-- behind the last cell, the first k searched cells taken away -/
def SeL (wd hg : Int) (h : Hr) (bs : List Bool) (k : Nat) (l : List Bool) : Prop :=
  l.length = bs.length ∧ ∀ j, j < bs.length → (bAt l j = true ↔ Leads wd hg h bs j ∧ ∀ i, i < k → vAt h.se i ≠ (j : Int))
theorem DrL.se {wd hg : Int} {h : Hr} {bs l : List Bool} {lf : Bool} {E N : Int} (g : DrL wd hg h bs bs.length E N l lf) : SeL wd hg h bs 0 l ∧ lf = leftB wd hg h bs := by
  classical
  refine ⟨⟨g.1, fun j hj => by rw [g.2.1 j hj, LeadB.all]; exact ⟨fun p => ⟨p, fun i hi => absurd hi (Nat.not_lt_zero _)⟩, fun p => p.1⟩⟩, ?_⟩
  have e := g.2.2.trans LeaveB.all
  unfold leftB
  cases lf
  · exact (decide_eq_false fun p => absurd (e.2 p) (by decide)).symm
  · exact (decide_eq_true (e.1 rfl)).symm
theorem SeL.step {wd hg : Int} {h : Hr} {bs l : List Bool} {k m : Nat} (g : SeL wd hg h bs k l) (hm : vAt h.se k = (m : Int)) : SeL wd hg h bs (k + 1) (l.set m false) := by
  refine ⟨by simpa using g.1, fun j hj => ?_⟩
  by_cases e : j = m
  · subst e
    rw [bAt_set _ _ _ _ (by rw [g.1]; exact hj), if_pos rfl]
    exact ⟨fun p => absurd p (by decide), fun p => absurd hm (p.2 k (Nat.lt_succ_self _))⟩
  · have e2 : bAt (l.set m false) j = bAt l j := by
      unfold bAt
      rw [List.getElem?_set_ne (fun q => e q.symm)]
    rw [e2, g.2 j hj]
    exact ⟨fun p => ⟨p.1, fun i hi => by
      rcases Nat.lt_or_ge i k with q | q
      · exact p.2 i q
      · obtain rfl : i = k := by omega
        rw [hm]; omega⟩, fun p => ⟨p.1, fun i hi => p.2 i (by omega)⟩⟩
theorem SeL.all {wd hg : Int} {h : Hr} {bs l : List Bool} (g : SeL wd hg h bs h.se.length l) : l = nextB wd hg h bs := by
  classical
  refine bs_ext (g.1.trans (nextB_len _ _ _ _).symm) fun j hj => ?_
  rw [g.1] at hj
  rw [nextB_at _ _ _ _ hj]
  have q : ((j : Int) ∉ h.se) ↔ ∀ i, i < h.se.length → vAt h.se i ≠ (j : Int) := by
    constructor
    · intro hn i hi e
      refine hn ?_
      unfold vAt at e
      rw [List.getElem?_eq_getElem hi, Option.getD_some] at e
      rw [← e]
      exact List.getElem_mem hi
    · intro hn hmem
      obtain ⟨i, hi, e⟩ := List.getElem_of_mem hmem
      refine hn i hi ?_
      unfold vAt
      rw [List.getElem?_eq_getElem hi, Option.getD_some, e]
  by_cases b : bAt l j = true
  · rw [b, decide_eq_true ((g.2 j hj).1 b |>.imp id q.2)]
  · rw [decide_eq_false fun p => b ((g.2 j hj).2 (p.imp id q.1))]
    simpa using b
end Go.Proofs.Ythogahdnidjelaa
namespace Go.Proofs.Ythogahdnidjelaa
open Go.RowKit Go.Shelf
set_option linter.unusedSimpArgs false
/-- a search in memory: the area, the answers in block B, whether it may have left -/
structure SrchAt (W : World) (S B : Nat) (wd hg : Int) (n : Nat) (left : Bool) : Prop where
  lt : S < W.heap.size
  c0 : W.cell? ⟨S, 0, none⟩ = some (.int .i64 wd)
  c1 : W.cell? ⟨S, 1, none⟩ = some (.int .i64 hg)
  c2 : W.cell? ⟨S, 2, none⟩ = some (.slice (some ⟨B, 0, none⟩) n n)
  c3 : W.cell? ⟨S, 3, none⟩ = some (.bool left)
  f : ∀ o, W.frozen? ⟨S, o, none⟩ = false
theorem SrchAt.keep {W W' : World} {S B : Nat} {wd hg : Int} {n : Nat} {left : Bool} (h : SrchAt W S B wd hg n left) (hb : Below W.heap.size W W') : SrchAt W' S B wd hg n left := by
  obtain ⟨l, c0, c1, c2, c3, f⟩ := h
  exact ⟨Nat.lt_of_lt_of_le l hb.size, (hb.cell (p := ⟨S, 0, none⟩) l).trans c0, (hb.cell (p := ⟨S, 1, none⟩) l).trans c1, (hb.cell (p := ⟨S, 2, none⟩) l).trans c2, (hb.cell (p := ⟨S, 3, none⟩) l).trans c3, fun o => (hb.frozen (p := ⟨S, o, none⟩) l).trans (f o)⟩
set_option maxRecDepth 100000 in
set_option maxHeartbeats 4000000 in
theorem cells_any (S B : Nat) (wd hg : Int) (left : Bool) (bs : List Bool) (hn : bs.length ≤ 576) (w : World) (hA : SrchAt w S B wd hg bs.length left) (hS : BB w B bs) :
    Calls Try.prog 85 #[.pointer (some ⟨S, 0, none⟩)] w fun e w' => ∃ v, e = .returned v ∧ Nums w'.heap.size w' v (trL bs bs.length) ∧ Below w.heap.size w w' := by
  obtain ⟨i0, hi0, hz0, hz1, hz2⟩ := info_parts infoI
  have k2 := hA.c2
  have HC := Lib.hid (fun k (hk : k < bs.length) => hS.cell hk)
  have HBl := hS.lt
  have HL := Lib.hid (trL_len bs)
  have HT := Lib.hid (fun k => show trL bs (k + 1) = if bAt bs k = true then trL bs k ++ [(k : Int)] else trL bs k from rfl)
  clear hS hA
  generalize bs.length = len at *
  go_enter Try.func85, Try.ntmps85
  go_wp2_with fail
  clear k2
  go_loopw [3, 11] (fun v i wr => ∃ k : Nat, k ≤ len ∧ i = .int .i64 k ∧ wr.ownsRow w.heap.size 3 1 v (trL bs k).length (numv (trL bs k)) ∧ Below w.heap.size w wr) (fun _ i _ => len - (intOf i).toNat)
  case atStart => exact ⟨0, Nat.zero_le _, rfl, World.ownsRow_nil _ _ _ _, Below.refl _ _⟩
  case round =>
    obtain ⟨k, hk, rfl, hrow, hB⟩ := hrel
    have hsz := hB.size
    by_cases hlt : k < len
    · have m0 := (hB.cell (p := ⟨B, k, none⟩) HBl).trans (HC.out k hlt)
      have hki : (k : Int) < (len : Int) := by omega
      have ht := HT.out k
      have hl := HL.out k
      generalize bAt bs k = b at *
      cases b
      · rw [if_neg (by decide)] at ht
        have HT2 := Lib.hid ht
        have HRow := Lib.hid hrow
        have HBr := Lib.hid hB
        clear ht hrow hB
        go_wp2_with fail
        go_roundw
        case rel => exact ⟨k + 1, by omega, by go_num, by rw [HT2.out]; exact HRow.out, HBr.out⟩
        case measure => simp [intOf]; omega
      · rw [if_pos rfl] at ht
        have HT2 := Lib.hid ht
        generalize hnl : numv (trL bs k) = nl at hrow
        have HNL := Lib.hid hnl
        have HRow := Lib.hid hrow
        have HBr := Lib.hid hB
        generalize htl : (trL bs k).length = tl at *
        have HTL := Lib.hid htl
        clear hnl ht htl hrow hB
        go_wp2_with (at_builtin; refine wpList_append_own _ rfl _ _ 46 rfl w.heap.size 3 i0 (.int .i64 0) 1 8 Try.underlying46 hi0 hz0 hz1 hz2 rfl (by decide) _ _ _ rfl (HRow.out.alloc _) ⟨wr.heap.size, 0, none⟩ 1 1 [.int .i64 k] rfl rfl (one_new _ _) (by simp [Value.oneCell']) (by unfold maxLen; omega) (by omega) (by simp; omega) ?_; intro v' w5 hrow' hgrow _)
        have hB5 : Below w.heap.size w w5 := (HBr.out.alloc hsz _).grown hgrow (by simp; omega) (fun j hj => (HRow.out.lt j hj).1)
        go_roundw
        case rel => exact ⟨k + 1, by omega, by go_num, by rw [HT2.out, numv_snoc, HNL.out, List.length_append, HTL.out]; exact hrow', hB5⟩
        case measure => simp [intOf]; omega
    · obtain rfl : k = len := by omega
      have HN := Lib.hid (nums_of_owns (xs := trL bs k) hrow)
      have HBr := Lib.hid hB
      clear hrow hB
      go_wp2_with fail
      go_ret
      exact ⟨_, rfl, HN.out, HBr.out⟩
/-- whether some answer is Yes -/
def anyB (bs : List Bool) : Bool := bs.any id
theorem any_none {bs : List Bool} (h : ∀ k, k < bs.length → bAt bs k = false) : anyB bs = false := by
  unfold anyB
  rw [List.any_eq_false]
  intro b hb
  obtain ⟨k, hk, rfl⟩ := List.getElem_of_mem hb
  have := h k hk
  unfold bAt at this
  rw [List.getElem?_eq_getElem hk, Option.getD_some] at this
  rw [this]; decide
theorem any_some {bs : List Bool} {k : Nat} (hk : k < bs.length) (h : bAt bs k = true) : anyB bs = true := by
  unfold anyB
  rw [List.any_eq_true]
  refine ⟨bs[k], List.getElem_mem hk, ?_⟩
  unfold bAt at h
  rwa [List.getElem?_eq_getElem hk, Option.getD_some] at h
set_option maxRecDepth 100000 in
set_option maxHeartbeats 4000000 in
theorem index_any (B : Nat) (bs : List Bool) (hn : bs.length ≤ 576) (w : World) (hS : BB w B bs) :
    Calls Try.prog 115 #[.slice (some ⟨B, 0, none⟩) bs.length bs.length, .bool true] w fun e w' => ∃ i : Int, e = .returned (.int .i64 i) ∧ -1 ≤ i ∧ decide (0 ≤ i) = anyB bs ∧ Below w.heap.size w w' := by
  have HC := Lib.hid (fun k (hk : k < bs.length) => hS.cell hk)
  have HN := Lib.hid (fun h => any_none (bs := bs) h)
  have HS := Lib.hid (fun k hk h => any_some (bs := bs) (k := k) hk h)
  clear hS
  generalize bs.length = len at *
  generalize anyB bs = r at *
  go_enter Try.func115, Try.ntmps115
  go_wp2_with fail
  go_loop [8] (fun i => ∃ k : Nat, k ≤ len ∧ i = .int .i64 k ∧ ∀ j, j < k → bAt bs j = false) (fun i => len - (intOf i).toNat)
  case atStart => exact ⟨0, Nat.zero_le _, rfl, fun j hj => by omega⟩
  case round =>
    obtain ⟨k, hk, rfl, hall⟩ := hrel
    have HALL := Lib.hid hall
    clear hall
    by_cases hlt : k < len
    · have m0 := HC.out k hlt
      have hki : (k : Int) < (len : Int) := by omega
      have HSk := Lib.hid (HS.out k hlt)
      generalize hb : bAt bs k = b at *
      have HBk := Lib.hid hb
      clear hb
      cases b
      · go_wp2_with fail
        go_round
        case rel => exact ⟨k + 1, by omega, by go_num, fun j hj => by
          rcases Nat.lt_or_ge j k with g | g
          · exact HALL.out j g
          · obtain rfl : j = k := by omega
            exact HBk.out⟩
        case measure => simp [intOf]; omega
      · obtain rfl := HSk.out rfl
        go_wp2_with fail
        go_ret
        exact ⟨(k : Int), rfl, by omega, by simp, Below.refl _ _⟩
    · obtain rfl : k = len := by omega
      obtain rfl := HN.out HALL.out
      go_wp2_with fail
      go_ret
      exact ⟨-1, rfl, by omega, by simp, Below.refl _ _⟩
end Go.Proofs.Ythogahdnidjelaa
namespace Go.Proofs.Ythogahdnidjelaa
open Go.RowKit Go.Shelf
set_option linter.unusedSimpArgs false
theorem SrchAt.far {W : World} {S B C o : Nat} {u : Value} {wd hg : Int} {n : Nat} {left : Bool} (h : SrchAt W S B wd hg n left) (hne : S ≠ C) : SrchAt (W.setCell ⟨C, o, none⟩ u) S B wd hg n left := by
  obtain ⟨l, c0, c1, c2, c3, f⟩ := h
  have e : ∀ o', (W.setCell ⟨C, o, none⟩ u).cell? ⟨S, o', none⟩ = W.cell? ⟨S, o', none⟩ := fun o' => World.cell?_setCell_other _ _ _ _ (by intro e; exact hne (Addr.mk.inj e).1.symm)
  exact ⟨by simpa using l, (e 0).trans c0, (e 1).trans c1, (e 2).trans c2, (e 3).trans c3, fun o' => by simpa [go_sem] using f o'⟩
set_option maxHeartbeats 1000000 in
theorem contains_any (B : Nat) (bs : List Bool) (hn : bs.length ≤ 576) (w : World) (hS : BB w B bs) :
    Calls Try.prog 108 #[.slice (some ⟨B, 0, none⟩) bs.length bs.length, .bool true] w fun e w' => e = .returned (.bool (anyB bs)) ∧ Below w.heap.size w w' := by
  have c := index_any B bs hn w hS
  clear hS
  generalize anyB bs = r at *
  generalize bs.length = len at *
  go_enter Try.func108, Try.ntmps108
  go_wp2_with fail
  refine c.mono ?_
  rintro e w1 ⟨i, rfl, hi, hd, hb⟩
  subst hd
  have HB := Lib.hid hb
  clear hb c
  go_wp2_with fail
  go_ret
  exact ⟨by first | rfl | simp, HB.out⟩
set_option maxHeartbeats 1000000 in
theorem inside_any (S B : Nat) (wd hg : Int) (left : Bool) (bs : List Bool) (hn : bs.length ≤ 576) (w : World) (hA : SrchAt w S B wd hg bs.length left) (hS : BB w B bs) :
    Calls Try.prog 90 #[.pointer (some ⟨S, 0, none⟩)] w fun e w' => e = .returned (.bool (anyB bs)) ∧ Below w.heap.size w w' := by
  have c := contains_any B bs hn w hS
  have k2 := hA.c2
  clear hS hA
  generalize anyB bs = r at *
  generalize bs.length = len at *
  go_enter Try.func90, Try.ntmps90
  go_wp2_with fail
  refine c.mono ?_
  rintro e w1 ⟨rfl, hb⟩
  have HB := Lib.hid hb
  clear hb c k2
  go_wp2_with fail
  go_ret
  exact ⟨rfl, HB.out⟩
set_option maxRecDepth 100000 in
set_option maxHeartbeats 4000000 in
theorem begin_any (wd hg : Int) (n : Nat) (hw : 1 ≤ wd ∧ wd ≤ 24) (hh : 1 ≤ hg ∧ hg ≤ 24) (hn : wd * hg = (n : Int)) (sv : Value) (l : List Int) (hll : l.length ≤ 2147483649) (hl : areB (wd * hg) l = true) (w : World) (hI : Nums w.heap.size w sv l) :
    Calls Try.prog 83 #[.agg #[.int .i64 wd, .int .i64 hg], sv] w fun e w' => ∃ S B, e = .returned (.pointer (some ⟨S, 0, none⟩)) ∧ SrchAt w' S B wd hg n false ∧ BB w' B (mkL n l l.length) ∧ w.heap.size ≤ B ∧ B < S ∧ Below w.heap.size w w' := by
  have hlim : wd * hg ≤ 576 := by
    have a := Int.mul_le_mul hw.2 hh.2 (by omega) (by omega)
    omega
  have hn1 : n ≤ 576 := by omega
  have W1' : wrap64 (wd * hg) = (n : Int) := by unfold wrap64; omega
  have W1 : IntKind.i64.wrap (wd * hg) = (n : Int) := by rw [IntKind.wrap_i64]; omega
  have Wn : IntKind.i64.wrap (n : Int) = (n : Int) := by rw [IntKind.wrap_i64]; omega
  have HNN := Lib.hid (areB_nn hl)
  rw [hn] at HNN
  have HML := Lib.hid (mkL_len n l)
  have HMS := Lib.hid (fun k => show mkL n l (k + 1) = (mkL n l k).set (vAt l k).toNat true from rfl)
  clear hl hlim hw hh
  obtain ⟨a, cap, rfl, -, hc⟩ := hI
  have HC := Lib.hid hc
  clear hc
  generalize l.length = len at *
  obtain ⟨A, hA⟩ : ∃ A, A = w.alloc (.cells #[.int .i64 wd, .int .i64 hg] 54) := ⟨_, rfl⟩
  have k0 : A.cell? ⟨w.heap.size, 0, none⟩ = some (.int .i64 wd) := by rw [hA]; simp [go_sem]
  have k1 : A.cell? ⟨w.heap.size, 1, none⟩ = some (.int .i64 hg) := by rw [hA]; simp [go_sem]
  have hzA : A.heap.size = w.heap.size + 1 := by rw [hA]; simp
  have hBA : Below w.heap.size w A := by rw [hA]; exact (Below.refl _ _).alloc (Nat.le_refl _) _
  obtain ⟨w2, hM, hS, hb⟩ := make_bools A.drew n (by omega)
  have hzD : A.drew.heap.size = w.heap.size + 1 := hzA
  rw [hzD] at hM hS hb
  have hb2 : Below (w.heap.size + 1) A w2 := (Below.refl (w.heap.size + 1) A).drew.trans hb
  have e0 : w2.cell? ⟨w.heap.size, 0, none⟩ = some (.int .i64 wd) := (hb2.cell (p := ⟨w.heap.size, 0, none⟩) (Nat.lt_succ_self _)).trans k0
  have e1 : w2.cell? ⟨w.heap.size, 1, none⟩ = some (.int .i64 hg) := (hb2.cell (p := ⟨w.heap.size, 1, none⟩) (Nat.lt_succ_self _)).trans k1
  have z2 := hS.lt
  have z2' : w.heap.size < w2.heap.size := by omega
  have HBA := Lib.hid hBA
  have HB2 := Lib.hid hb2
  have HS := Lib.hid hS
  clear hBA hb hb2 hS
  go_enter Try.func83, Try.ntmps83
  go_wp2_with fail
  rw [← hA]
  clear hA
  refine wp_region_held_drew (S := fun w' => w'.cell? ⟨w.heap.size, 0, none⟩ = some (.int .i64 wd) ∧ w'.cell? ⟨w.heap.size, 1, none⟩ = some (.int .i64 hg)) (by kernel_rfl) ⟨by simpa [go_sem] using k0, by simpa [go_sem] using k1⟩ (fun hHeld => ?_)
  refine wpAnyH_take (i := 0) (oi := _) (v := Value.agg #[Value.int .i64 wd, Value.int .i64 hg]) rfl (by kernel_rfl) (by kernel_rfl) (by kernel_rfl) (fun _ _ _ h => h) (Or.inl ⟨by rfl, fun w' hSw => ?_⟩) hHeld ?_
  · obtain ⟨t0, t1⟩ := hSw
    go_simp
    try simp [*]
    try (intro hh; exfalso; omega)
    try omega
  try simp only [Act.put, List.setIfInBounds_toArray, List.set_cons_zero, List.set_cons_succ, List.getElem_toArray, List.getElem_cons_succ, List.getElem_cons_zero]
  refine wpAnyH_take (i := 1) (oi := _) (v := Value.pointer (some ⟨w.heap.size, 0, none⟩)) rfl (by kernel_rfl) (by kernel_rfl) (by kernel_rfl) (fun _ _ _ h => h) (Or.inl ⟨by rfl, fun w' hSw => ?_⟩) hHeld ?_
  · obtain ⟨t0, t1⟩ := hSw
    go_simp
    try simp [*]
    try (intro hh; exfalso; omega)
    try omega
  try simp only [Act.put, List.setIfInBounds_toArray, List.set_cons_zero, List.set_cons_succ, List.getElem_toArray, List.getElem_cons_succ, List.getElem_cons_zero]
  refine wpAnyH_take (i := 2) (oi := _) (v := Value.int .i64 wd) rfl (by kernel_rfl) (by kernel_rfl) (by kernel_rfl) (fun _ _ _ h => h) (Or.inl ⟨by rfl, fun w' hSw => ?_⟩) hHeld ?_
  · obtain ⟨t0, t1⟩ := hSw
    go_simp
    try simp [*]
    try (intro hh; exfalso; omega)
    try omega
  try simp only [Act.put, List.setIfInBounds_toArray, List.set_cons_zero, List.set_cons_succ, List.getElem_toArray, List.getElem_cons_succ, List.getElem_cons_zero]
  refine wpAnyH_take (i := 3) (oi := _) (v := Value.pointer (some ⟨w.heap.size, 1, none⟩)) rfl (by kernel_rfl) (by kernel_rfl) (by kernel_rfl) (fun _ _ _ h => h) (Or.inl ⟨by rfl, fun w' hSw => ?_⟩) hHeld ?_
  · obtain ⟨t0, t1⟩ := hSw
    go_simp
    try simp [*]
    try (intro hh; exfalso; omega)
    try omega
  try simp only [Act.put, List.setIfInBounds_toArray, List.set_cons_zero, List.set_cons_succ, List.getElem_toArray, List.getElem_cons_succ, List.getElem_cons_zero]
  refine wpAnyH_take (i := 4) (oi := _) (v := Value.int .i64 hg) rfl (by kernel_rfl) (by kernel_rfl) (by kernel_rfl) (fun _ _ _ h => h) (Or.inl ⟨by rfl, fun w' hSw => ?_⟩) hHeld ?_
  · obtain ⟨t0, t1⟩ := hSw
    go_simp
    try simp [*]
    try (intro hh; exfalso; omega)
    try omega
  try simp only [Act.put, List.setIfInBounds_toArray, List.set_cons_zero, List.set_cons_succ, List.getElem_toArray, List.getElem_cons_succ, List.getElem_cons_zero]
  refine wpAnyH_take (i := 5) (oi := _) (v := Value.int .i64 (n : Int)) rfl (by kernel_rfl) (by kernel_rfl) (by kernel_rfl) (fun _ _ _ h => h) (Or.inl ⟨by rfl, fun w' hSw => ?_⟩) hHeld ?_
  · obtain ⟨t0, t1⟩ := hSw
    go_simp
    try simp [*]
    try (intro hh; exfalso; omega)
    try omega
  try simp only [Act.put, List.setIfInBounds_toArray, List.set_cons_zero, List.set_cons_succ, List.getElem_toArray, List.getElem_cons_succ, List.getElem_cons_zero]
  refine wpAnyH_ready (rs := [6]) (by kernel_rfl) (by simp) ?_
  refine AllReadyH.cons (o := _) rfl (fun K hK => ?_) AllReadyH.nil
  go_simp
  clear hHeld
  refine hK.out _ _ ⟨e0, e1⟩ (fun hHeld => ?_)
  clear hK K
  try simp only [Act.put, List.setIfInBounds_toArray, List.set_cons_zero, List.set_cons_succ, List.getElem_toArray, List.getElem_cons_succ, List.getElem_cons_zero]
  refine wpAnyH_take (i := 7) (oi := _) (v := Value.agg #[.int .i64 wd, .int .i64 hg, .slice (some ⟨w.heap.size + 1, 0, none⟩) n n, .bool false]) rfl (by kernel_rfl) (by kernel_rfl) (by kernel_rfl) (fun _ _ _ h => h) (Or.inl ⟨by rfl, fun w' hSw => ?_⟩) hHeld ?_
  · obtain ⟨t0, t1⟩ := hSw
    go_simp
    try simp [*]
    try (intro hh; exfalso; omega)
    try omega
  try simp only [Act.put, List.setIfInBounds_toArray, List.set_cons_zero, List.set_cons_succ, List.getElem_toArray, List.getElem_cons_succ, List.getElem_cons_zero]
  refine wpAnyH_ready (rs := [8]) (by kernel_rfl) (by simp) ?_
  refine AllReadyH.cons (o := _) rfl (fun K hK => ?_) AllReadyH.nil
  go_simp
  clear hHeld
  refine hK.out _ _ (by simp [go_sem, *]) (fun hHeld => ?_)
  clear hK K
  try simp only [Act.put, List.setIfInBounds_toArray, List.set_cons_zero, List.set_cons_succ, List.getElem_toArray, List.getElem_cons_succ, List.getElem_cons_zero]
  refine wpAnyH_take (i := 9) (oi := _) (v := Value.pointer (some ⟨w2.heap.size, 0, none⟩)) rfl (by kernel_rfl) (by kernel_rfl) (by kernel_rfl) (fun _ _ _ h => h) (Or.inl ⟨by rfl, fun w' hSw => ?_⟩) hHeld ?_
  · obtain ⟨t0, t1⟩ := hSw
    go_simp
    try simp [*]
    try (intro hh; exfalso; omega)
    try omega
  try simp only [Act.put, List.setIfInBounds_toArray, List.set_cons_zero, List.set_cons_succ, List.getElem_toArray, List.getElem_cons_succ, List.getElem_cons_zero]
  refine wpAnyH_done (by kernel_rfl) ?_ _
  clear hHeld
  obtain ⟨V, hV⟩ : ∃ V, V = w2.alloc (.cells #[.int .i64 wd, .int .i64 hg, .slice (some ⟨w.heap.size + 1, 0, none⟩) n n, .bool false] 119) := ⟨_, rfl⟩
  have hVA : SrchAt V w2.heap.size (w.heap.size + 1) wd hg n false := by
    rw [hV]
    exact ⟨by simp, by simp [go_sem], by simp [go_sem], by simp [go_sem], by simp [go_sem], fun o => by simp [go_sem]⟩
  have hbV : Below w2.heap.size w2 V := by rw [hV]; exact (Below.refl _ _).alloc (Nat.le_refl _) _
  have hSV := HS.out.keep hbV
  have zV : V.heap.size = w2.heap.size + 1 := by rw [hV]; simp
  have hBV : Below (w.heap.size + 1) A V := HB2.out.trans (hbV.mono (by omega))
  have HVA := Lib.hid hVA
  have HSV := Lib.hid hSV
  have HBV := Lib.hid hBV
  clear hVA hbV hSV hBV HS HB2 e0 e1 k0 k1 W1 W1' Wn hM
  go_wp2_with fail
  try rw [← hV]
  clear hV
  go_loopw [19] (fun i wr => ∃ k : Nat, k ≤ len ∧ i = .int .i64 k ∧ BB wr (w.heap.size + 1) (mkL n l k) ∧ SrchAt wr w2.heap.size (w.heap.size + 1) wd hg n false ∧ Below (w.heap.size + 1) A wr) (fun i _ => len - (intOf i).toNat)
  case atStart => exact ⟨0, Nat.zero_le _, rfl, HSV.out, HVA.out, HBV.out⟩
  case round =>
    obtain ⟨k, hk, rfl, hS, hVk, hg'⟩ := hrel
    have HG := Lib.hid hg'
    have HSk := Lib.hid hS
    have HVk := Lib.hid hVk
    have hBw := HBA.out.trans (hg'.mono (by omega))
    have s2 := hVk.c2
    clear hg'
    by_cases hlt : k < len
    · obtain ⟨b, off, rfl, hb, e0⟩ := HC.out k hlt
      have m0 := (hBw.cell (p := ⟨b, off + k, none⟩) hb).trans e0
      have hki : (k : Int) < (len : Int) := by omega
      have hnn := HNN.out k hlt
      have hms := HMS.out k
      unfold vAt at hnn hms
      generalize l[k]?.getD 0 = x at *
      obtain ⟨xn, rfl⟩ : ∃ xn : Nat, x = (xn : Int) := ⟨x.toNat, by omega⟩
      have hxn : xn < n := by omega
      have q1 := hS.cell (k := xn) (by rw [HML.out]; exact hxn)
      have q2 := hS.frozen xn
      have hxi : (xn : Int) < (n : Int) := by omega
      have HN := Lib.hid (show BB (wr.setCell ⟨w.heap.size + 1, xn, none⟩ (.bool true)) (w.heap.size + 1) (mkL n l (k + 1)) from by rw [hms, Int.toNat_natCast]; exact hS.set true)
      have HV2 := Lib.hid (show SrchAt (wr.setCell ⟨w.heap.size + 1, xn, none⟩ (.bool true)) w2.heap.size (w.heap.size + 1) wd hg n false from hVk.far (by omega))
      clear e0 hS hms hBw hVk
      go_wp2_with fail
      go_roundw
      case rel => exact ⟨k + 1, by omega, by go_num, HN.out, HV2.out, HG.out.setCell (Nat.le_refl _) _⟩
      case measure => simp [intOf]; omega
    · obtain rfl : k = len := by omega
      clear hS hVk
      have HBw := Lib.hid hBw
      clear hBw
      go_wp2_with fail
      go_ret
      exact ⟨_, _, rfl, HVk.out, HSk.out, by omega, by omega, HBw.out⟩
end Go.Proofs.Ythogahdnidjelaa
namespace Go.Proofs.Ythogahdnidjelaa
open Go.RowKit Go.Shelf
set_option linter.unusedSimpArgs false
theorem shB_eq (lo hi : Int) : shB lo hi = (decide (lo ≤ hi) && (decide (-4 ≤ lo) && decide (hi ≤ 4))) := by
  have e := vB_iff lo hi
  cases h : vB lo hi
  · rw [h] at e
    unfold shB
    rw [h, Bool.false_and]
    symm
    by_cases a : lo ≤ hi
    · by_cases b : -4 ≤ lo
      · by_cases c : hi ≤ 4
        · exact absurd (e.2 ⟨by omega, by omega, by omega⟩) (by decide)
        · rw [decide_eq_false c]; simp
      · rw [decide_eq_false b]; simp
    · rw [decide_eq_false a]; simp
  · rw [h] at e
    unfold shB
    have := e.1 rfl
    rw [h, decide_eq_true (show lo ≤ hi by omega)]
set_option maxHeartbeats 1000000 in
theorem rshift_any (lo hi : Int) (w : World) :
    Calls Try.prog 106 #[.agg #[.int .i64 lo, .int .i64 hi]] w fun e w' => e = .returned (.bool (shB lo hi)) ∧ Below w.heap.size w w' := by
  rw [shB_eq]
  have HA := Lib.hid (show Below w.heap.size w (w.alloc (.cells #[.int .i64 lo, .int .i64 hi] 41)) from (Below.refl _ _).alloc (Nat.le_refl _) _)
  by_cases h1 : lo ≤ hi
  · have d1 : decide (lo ≤ hi) = true := decide_eq_true h1
    by_cases h2 : -4 ≤ lo
    · have d2 : decide (-4 ≤ lo) = true := decide_eq_true h2
      go_enter Try.func106, Try.ntmps106
      go_wp2_with fail
      go_ret
      exact ⟨by first | rfl | (simp [*]; done), HA.out⟩
    · have d2 : decide (-4 ≤ lo) = false := decide_eq_false h2
      go_enter Try.func106, Try.ntmps106
      go_wp2_with fail
      go_ret
      exact ⟨by first | rfl | (simp [*]; done) | (simp; omega), HA.out⟩
  · have d1 : decide (lo ≤ hi) = false := decide_eq_false h1
    go_enter Try.func106, Try.ntmps106
    go_wp2_with fail
    go_ret
    exact ⟨by first | rfl | (simp [*]; done) | (simp; omega), HA.out⟩
theorem idx_facts {m len : Nat} (h : m + 1 < len) (hl : len ≤ 2147483649) : wrap64 ((m : Nat) : Int) = (m : Int) ∧ (m : Int) < (len : Int) ∧ (m : Int) + 1 < (len : Int) ∧ (0 : Int) < (m : Int) + 1 :=
  ⟨by unfold wrap64; omega, by omega, by omega, by omega⟩
theorem last_ge {lim : Int} {l : List Int} {k : Nat} (h : ∀ j, j < k → okAt lim l j = true) : ∀ j, j ≤ k → -1 ≤ lastTo l j
  | 0, _ => by simp [lastTo]
  | j + 1, hj => by
    have a := last_ge h j (by omega)
    have b := h j (by omega)
    simp only [okAt, Bool.and_eq_true, decide_eq_true_eq] at b
    show -1 ≤ vAt l j
    omega
set_option maxRecDepth 100000 in
set_option maxHeartbeats 8000000 in
theorem rcells_any (wd hg : Int) (hw : 1 ≤ wd ∧ wd ≤ 24) (hh : 1 ≤ hg ∧ hg ≤ 24) (sv : Value) (l : List Int) (hll : l.length ≤ 2147483649) (w : World) (hI : Nums w.heap.size w sv l) :
    Calls Try.prog 107 #[.agg #[.int .i64 wd, .int .i64 hg], sv] w fun e w' => e = .returned (.bool (areB (wd * hg) l)) ∧ Below w.heap.size w w' := by
  have hlim : 1 ≤ wd * hg ∧ wd * hg ≤ 576 := by
    have a := Int.mul_le_mul hw.2 hh.2 (by omega) (by omega)
    have b := Int.mul_le_mul hw.1 hh.1 (by omega) (by omega)
    omega
  obtain ⟨lim, hL⟩ : ∃ lim, lim = wd * hg := ⟨_, rfl⟩
  have W1 : IntKind.i64.wrap (wd * hg) = lim := by rw [IntKind.wrap_i64]; omega
  have W1' : wrap64 (wd * hg) = lim := by unfold wrap64; omega
  rw [← hL] at hlim ⊢
  obtain ⟨a, cap, rfl, -, hc⟩ := hI
  have HC := Lib.hid hc
  have HBAD := Lib.hid (fun k hk h => areB_bad (lim := lim) (l := l) (k := k) hk h)
  have HOK := Lib.hid (fun h => areB_ok (lim := lim) (l := l) h)
  have HAT := Lib.hid (fun k => show okAt lim l k = (decide (lastTo l k < vAt l k) && decide (vAt l k < lim)) from rfl)
  clear hL
  generalize areB lim l = B at *
  clear hc
  generalize hlen : l.length = len at *
  clear hlen
  obtain ⟨A, hA⟩ : ∃ A, A = w.alloc (.cells #[.int .i64 wd, .int .i64 hg] 54) := ⟨_, rfl⟩
  have hzA : A.heap.size = w.heap.size + 1 := by rw [hA]; simp
  have KK := Lib.hid (show ∀ W, Below (w.heap.size + 1) A W → W.cell? ⟨w.heap.size, 0, none⟩ = some (.int .i64 wd) ∧ W.cell? ⟨w.heap.size, 1, none⟩ = some (.int .i64 hg) from fun W h => by
    refine ⟨(h.cell (p := ⟨w.heap.size, 0, none⟩) (Nat.lt_succ_self _)).trans ?_, (h.cell (p := ⟨w.heap.size, 1, none⟩) (Nat.lt_succ_self _)).trans ?_⟩ <;> (rw [hA]; simp [go_sem]))
  have HBA := Lib.hid (show ∀ W, Below (w.heap.size + 1) A W → Below w.heap.size w W from fun W h => by
    have e : Below w.heap.size w A := by rw [hA]; exact (Below.refl _ _).alloc (Nat.le_refl _) _
    exact e.trans (h.mono (Nat.le_succ _)))
  go_enter Try.func107, Try.ntmps107
  go_wp2_with fail
  try rw [← hA]
  clear hA
  go_loopw [5] (fun i wr => ∃ k : Nat, k ≤ len ∧ i = .int .i64 k ∧ Below (w.heap.size + 1) A wr ∧ ∀ j, j < k → okAt lim l j = true) (fun i _ => len - (intOf i).toNat)
  case atStart => exact ⟨0, Nat.zero_le _, rfl, Below.refl _ _, fun j hj => by omega⟩
  case round =>
    obtain ⟨k, hk, rfl, hB, hall⟩ := hrel
    have hge := last_ge hall k (Nat.le_refl _)
    have HALL := Lib.hid hall
    obtain ⟨k0, k1⟩ := KK.out _ hB
    have HBw := Lib.hid (HBA.out _ hB)
    have HBk := Lib.hid hB
    clear hall hB
    by_cases hlt : k < len
    · obtain ⟨b, off, rfl, hb, e0⟩ := HC.out k hlt
      have m0 := (HBw.out.cell (p := ⟨b, off + k, none⟩) hb).trans e0
      have hki : (k : Int) < (len : Int) := by omega
      have hat := HAT.out k
      clear e0
      rcases Nat.eq_zero_or_pos k with hk0 | hkp
      · subst hk0
        have hl0 : lastTo l 0 = -1 := rfl
        rw [hl0] at hat
        unfold vAt at hat
        generalize l[0]?.getD 0 = x at *
        replace m0 : wr.cell? ⟨b, off, none⟩ = some (.int .i64 x) := m0
        replace hki : (0 : Int) < (len : Int) := by omega
        by_cases h1 : x < 0
        · have hbad := HBAD.out 0 hlt (by rw [hat, decide_eq_false (by omega)]; rfl)
          subst hbad
          have d1 : decide (x < 0) = true := decide_eq_true h1
          clear hat
          go_wp2_with fail
          go_quiet (fail)
          go_wp2_with fail
          go_ret
          exact ⟨rfl, below_drewN HBw.out _⟩
        have d1 : decide (x < 0) = false := decide_eq_false h1
        by_cases h2 : lim ≤ x
        · have hbad := HBAD.out 0 hlt (by rw [hat, decide_eq_false (show ¬ x < lim by omega), Bool.and_false])
          subst hbad
          have d2 : decide (lim ≤ x) = true := decide_eq_true h2
          clear hat
          go_wp2_with fail
          go_quiet (fail)
          go_wp2_with fail
          go_ret
          exact ⟨rfl, below_drewN HBw.out _⟩
        have d2 : decide (lim ≤ x) = false := decide_eq_false h2
        have HGOOD := Lib.hid (show okAt lim l 0 = true by rw [hat, decide_eq_true (by omega), decide_eq_true (by omega)]; rfl)
        clear hat
        go_wp2_with fail
        go_quiet (fail)
        go_wp2_with fail
        go_roundw
        case rel => exact ⟨1, by omega, rfl, below_drewN HBk.out _, fun j hj => by
          obtain rfl : j = 0 := by omega
          exact HGOOD.out⟩
        case measure => simp [intOf]; omega
      · obtain ⟨m, rfl⟩ : ∃ m, k = m + 1 := ⟨k - 1, by omega⟩
        have hL2 : m + 1 + 1 ≤ len := hlt
        have W2 : ∀ x, x = wd → wrap64 (x * hg) = lim := fun x h => by rw [h]; exact W1'
        clear W1 W1'
        obtain ⟨-, hmi, hm1, hm0⟩ := idx_facts hlt hll
        have d0 : decide ((0 : Int) < (m : Int) + 1) = true := decide_eq_true hm0
        have hl0 : lastTo l (m + 1) = vAt l m := rfl
        rw [hl0] at hat hge
        obtain ⟨b', off', he, -, e1⟩ := HC.out m (by omega)
        simp only [Option.some.injEq, Addr.mk.injEq, and_true] at he
        obtain ⟨rfl, rfl⟩ := he
        have m1 := (HBw.out.cell (p := ⟨b, off + m, none⟩) hb).trans e1
        unfold vAt at hat hge
        generalize l[m + 1]?.getD 0 = x at *
        generalize l[m]?.getD 0 = y at *
        clear e1 hl0
        by_cases h1 : x < 0
        · have hbad := HBAD.out (m + 1) hlt (by rw [hat, decide_eq_false (by omega)]; rfl)
          subst hbad
          have d1 : decide (x < 0) = true := decide_eq_true h1
          clear hat
          have wm : ∀ x : Int, x = (m : Int) → wrap64 x = (m : Int) := fun x h => by rw [h]; exact (idx_facts hlt hll).1
          clear hge HOK HAT HBAD
          go_wp2_with fail
          go_quiet (fail)
          go_wp2_with fail
          go_ret
          exact ⟨rfl, below_drewN HBw.out _⟩
        have d1 : decide (x < 0) = false := decide_eq_false h1
        by_cases h2 : lim ≤ x
        · have hbad := HBAD.out (m + 1) hlt (by rw [hat, decide_eq_false (show ¬ x < lim by omega), Bool.and_false])
          subst hbad
          have d2 : decide (lim ≤ x) = true := decide_eq_true h2
          clear hat
          have wm : ∀ x : Int, x = (m : Int) → wrap64 x = (m : Int) := fun x h => by rw [h]; exact (idx_facts hlt hll).1
          clear hge HOK HAT HBAD
          go_wp2_with fail
          go_quiet (fail)
          go_wp2_with fail
          go_ret
          exact ⟨rfl, below_drewN HBw.out _⟩
        have d2 : decide (lim ≤ x) = false := decide_eq_false h2
        by_cases h3 : x ≤ y
        · have hbad := HBAD.out (m + 1) hlt (by rw [hat, decide_eq_false (by omega)]; rfl)
          subst hbad
          have d3 : decide (x ≤ y) = true := decide_eq_true h3
          clear hat
          have wm : ∀ x : Int, x = (m : Int) → wrap64 x = (m : Int) := fun x h => by rw [h]; exact (idx_facts hlt hll).1
          clear hge HOK HAT HBAD
          go_wp2_with fail
          go_quiet (fail)
          go_wp2_with fail
          go_ret
          exact ⟨rfl, below_drewN HBw.out _⟩
        have d3 : decide (x ≤ y) = false := decide_eq_false h3
        have HGOOD := Lib.hid (show okAt lim l (m + 1) = true by rw [hat, decide_eq_true (by omega), decide_eq_true (by omega)]; rfl)
        clear hat
        have wm : ∀ x : Int, x = (m : Int) → wrap64 x = (m : Int) := fun x h => by rw [h]; exact (idx_facts hlt hll).1
        clear hge HOK HAT HBAD
        go_wp2_with fail
        go_quiet (fail)
        go_wp2_with fail
        go_roundw
        case rel =>
          clear wm W2
          exact ⟨m + 1 + 1, hL2, by go_num, below_drewN HBk.out _, fun j hj => by
          rcases Nat.lt_or_ge j (m + 1) with g | g
          · exact HALL.out j g
          · obtain rfl : j = m + 1 := by omega
            exact HGOOD.out⟩
        case measure =>
          clear wm W2
          simp [intOf]
          omega
    · obtain rfl : k = len := by omega
      have hBt := HOK.out HALL.out
      subst hBt
      go_wp2_with fail
      go_ret
      exact ⟨rfl, HBw.out⟩
end Go.Proofs.Ythogahdnidjelaa
namespace Go.Proofs.Ythogahdnidjelaa
open Go.RowKit Go.Shelf
set_option linter.unusedSimpArgs false
set_option maxRecDepth 100000 in
set_option maxHeartbeats 8000000 in
theorem rsearch_any (wd hg : Int) (sv hv : Value) (st : List Int) (hs : List Hr) (hl1 : st.length ≤ 2147483649) (hl2 : ∀ k, k < hs.length → (hr hs k).se.length ≤ 2147483649) (w : World) (hI : Nums w.heap.size w sv st) (hH : Hrs w.heap.size w hv hs) :
    Calls Try.prog 86 #[.agg #[.int .i64 wd, .int .i64 hg], sv, hv] w fun e w' => e = .returned (.int .i64 (seaE wd hg st hs)) ∧ Below w.heap.size w w' := by
  have HE := Lib.hid (show seaE wd hg st hs = if 48 < hs.length then 6 else if btw 1 wd 24 = false then 2 else if btw 1 hg 24 = false then 2 else if areB (wd * hg) st = false then 2 else if hs.all (hrOk wd hg) = true then 0 else 2 from rfl)
  generalize seaE wd hg st hs = E at *
  have C107 := Lib.hid (fun hw hh W (hb : Below w.heap.size w W) => rcells_any wd hg hw hh sv st hl1 W (hI.at hb))
  have HBAD := Lib.hid (fun k hk h => hrs_bad (wd := wd) (hg := hg) (hs := hs) (k := k) hk h)
  have HOK := Lib.hid (fun h => hrs_ok (wd := wd) (hg := hg) (hs := hs) h)
  have HL2 := Lib.hid hl2
  obtain ⟨a, cap, rfl, -, -⟩ := hI
  obtain ⟨a2, cap2, rfl, -, hc⟩ := hH
  have HC := Lib.hid hc
  clear hc hl1 hl2
  obtain ⟨A, hA⟩ : ∃ A, A = w.alloc (.cells #[.int .i64 wd, .int .i64 hg] 54) := ⟨_, rfl⟩
  have hzA : A.heap.size = w.heap.size + 1 := by rw [hA]; simp
  have KK := Lib.hid (show ∀ W, Below (w.heap.size + 1) A W → W.cell? ⟨w.heap.size, 0, none⟩ = some (.int .i64 wd) ∧ W.cell? ⟨w.heap.size, 1, none⟩ = some (.int .i64 hg) from fun W h => by
    refine ⟨(h.cell (p := ⟨w.heap.size, 0, none⟩) (Nat.lt_succ_self _)).trans ?_, (h.cell (p := ⟨w.heap.size, 1, none⟩) (Nat.lt_succ_self _)).trans ?_⟩ <;> (rw [hA]; simp [go_sem]))
  have HBA := Lib.hid (show ∀ W, Below (w.heap.size + 1) A W → Below w.heap.size w W from fun W h => by
    have e : Below w.heap.size w A := by rw [hA]; exact (Below.refl _ _).alloc (Nat.le_refl _) _
    exact e.trans (h.mono (Nat.le_succ _)))
  generalize hlen : hs.length = len at *
  have HBf := Lib.hid (HBA.out _ (Below.refl _ _))
  by_cases h48 : 48 < len
  · obtain rfl : E = 6 := by rw [HE.out, if_pos h48]
    have hd : (48 : Int) < (len : Int) := by omega
    clear HE C107 HBAD HOK HL2 HC KK HBA hlen
    go_enter Try.func86, Try.ntmps86
    go_wp2_with fail
    go_ret
    exact ⟨rfl, by rw [hA] at HBf; exact HBf.out⟩
  have hd : ¬ (48 : Int) < (len : Int) := by omega
  have hbt : ∀ x : Int, btw 1 x 24 = false → x < 1 ∨ (1 ≤ x ∧ 24 < x) := fun x h => by
    unfold btw at h
    rw [Bool.and_eq_false_iff, decide_eq_false_iff_not, decide_eq_false_iff_not] at h
    omega
  by_cases hw : btw 1 wd 24 = false
  · obtain rfl : E = 2 := by rw [HE.out, if_neg h48, if_pos hw]
    have h' := hbt _ hw
    clear HE C107 HBAD HOK HL2 HC KK HBA hlen hw hbt
    rcases h' with h1 | ⟨h0, h1⟩
    · have d1 : decide (wd < 1) = true := decide_eq_true h1
      go_enter Try.func86, Try.ntmps86
      go_wp2_with fail
      go_ret
      exact ⟨rfl, by rw [hA] at HBf; exact HBf.out⟩
    · have d1 : decide (wd < 1) = false := decide_eq_false (by omega)
      have d2 : decide (24 < wd) = true := decide_eq_true h1
      go_enter Try.func86, Try.ntmps86
      go_wp2_with fail
      go_ret
      exact ⟨rfl, by rw [hA] at HBf; exact HBf.out⟩
  replace hw : btw 1 wd 24 = true := by cases h : btw 1 wd 24 <;> simp_all
  have hw' := (btw_iff _ _ _).1 hw
  have d1 : decide (wd < 1) = false := decide_eq_false (by omega)
  have d2 : decide (24 < wd) = false := decide_eq_false (by omega)
  by_cases hh : btw 1 hg 24 = false
  · obtain rfl : E = 2 := by rw [HE.out, if_neg h48, if_neg (by rw [hw]; decide), if_pos hh]
    have h' := hbt _ hh
    clear HE C107 HBAD HOK HL2 HC KK HBA hlen hw hbt hh
    rcases h' with h1 | ⟨h0, h1⟩
    · have d3 : decide (hg < 1) = true := decide_eq_true h1
      go_enter Try.func86, Try.ntmps86
      go_wp2_with fail
      go_ret
      exact ⟨rfl, by rw [hA] at HBf; exact HBf.out⟩
    · have d3 : decide (hg < 1) = false := decide_eq_false (by omega)
      have d4 : decide (24 < hg) = true := decide_eq_true h1
      go_enter Try.func86, Try.ntmps86
      go_wp2_with fail
      go_ret
      exact ⟨rfl, by rw [hA] at HBf; exact HBf.out⟩
  replace hh : btw 1 hg 24 = true := by cases h : btw 1 hg 24 <;> simp_all
  have hh' := (btw_iff _ _ _).1 hh
  have d3 : decide (hg < 1) = false := decide_eq_false (by omega)
  have d4 : decide (24 < hg) = false := decide_eq_false (by omega)
  have c107 := C107.out hw' hh'
  have HE2 := Lib.hid (show E = if areB (wd * hg) st = false then 2 else if hs.all (hrOk wd hg) = true then 0 else 2 by rw [HE.out, if_neg h48, if_neg (by rw [hw]; decide), if_neg (by rw [hh]; decide)])
  have HLEN := Lib.hid hlen
  clear HE C107 hlen hw hh hbt
  go_enter Try.func86, Try.ntmps86
  go_wp2_with fail
  try rw [← hA]
  clear hA d1 d2 d3 d4
  go_loopw [7] (fun i wr => ∃ k : Nat, k ≤ len ∧ i = .int .i64 k ∧ Below (w.heap.size + 1) A wr ∧ ∀ j, j < k → hrOk wd hg (hr hs j) = true) (fun i _ => len - (intOf i).toNat)
  case atStart => exact ⟨0, Nat.zero_le _, rfl, Below.refl _ _, fun j hj => by omega⟩
  case round =>
    obtain ⟨k, hk, rfl, hBr, hall⟩ := hrel
    have HALL := Lib.hid hall
    obtain ⟨k0, k1⟩ := KK.out _ hBr
    have HBw := Lib.hid (HBA.out _ hBr)
    have HBk := Lib.hid hBr
    have hsr := hBr.size
    rw [hzA] at hsr
    clear hall hBr
    by_cases hlt : k < len
    · obtain ⟨b, off, s, rfl, hb, e0, e1, e2, e3, e4, hn⟩ := HC.out k hlt
      have hki : (k : Int) < (len : Int) := by omega
      have m0 := (HBw.out.cell (p := ⟨b, off + k * 5, none⟩) hb).trans e0
      have m1 := (HBw.out.cell (p := ⟨b, off + k * 5 + 1, none⟩) hb).trans e1
      have m2 := (HBw.out.cell (p := ⟨b, off + k * 5 + 2, none⟩) hb).trans e2
      have m3 := (HBw.out.cell (p := ⟨b, off + k * 5 + 3, none⟩) hb).trans e3
      have m4 := (HBw.out.cell (p := ⟨b, off + k * 5 + 4, none⟩) hb).trans e4
      have hbr : b < wr.heap.size := by have := HBw.out.size; omega
      have HSE := Lib.hid (fun W (hb : Below w.heap.size w W) => rcells_any wd hg hw' hh' s (hr hs k).se (HL2.out k hlt) W (hn.mono hb hb.size))
      have HOKK := Lib.hid (show hrOk wd hg (hr hs k) = (shB (hr hs k).eLo (hr hs k).eHi && (shB (hr hs k).nLo (hr hs k).nHi && areB (wd * hg) (hr hs k).se)) from rfl)
      have HBADK := Lib.hid (HBAD.out k hlt)
      obtain ⟨asl, csl, hse⟩ := hn.form
      subst hse
      clear e0 e1 e2 e3 e4 hn hb
      generalize hok : hrOk wd hg (hr hs k) = ok at *
      have HKE := Lib.hid hok
      clear hok
      generalize (hr hs k).se.length = sl at *
      generalize hareas : areB (wd * hg) (hr hs k).se = c3 at *
      generalize (hr hs k).eLo = x0 at *
      generalize (hr hs k).eHi = x1 at *
      generalize (hr hs k).nLo = x2 at *
      generalize (hr hs k).nHi = x3 at *
      clear hareas
      have cE := fun W => rshift_any x0 x1 W
      have cN := fun W => rshift_any x2 x3 W
      generalize shB x0 x1 = c1 at *
      generalize shB x2 x3 = c2 at *
      have HKP := Lib.hid (show ∀ W W', Below W.heap.size W W' → wr.heap.size ≤ W.heap.size → (W.cell? ⟨b, off + k * 5, none⟩ = some (.int .i64 x0) ∧ W.cell? ⟨b, off + k * 5 + 1, none⟩ = some (.int .i64 x1) ∧ W.cell? ⟨b, off + k * 5 + 2, none⟩ = some (.int .i64 x2) ∧ W.cell? ⟨b, off + k * 5 + 3, none⟩ = some (.int .i64 x3) ∧ W.cell? ⟨b, off + k * 5 + 4, none⟩ = some (.slice asl sl csl) ∧ W.cell? ⟨w.heap.size, 0, none⟩ = some (.int .i64 wd) ∧ W.cell? ⟨w.heap.size, 1, none⟩ = some (.int .i64 hg)) →
          (W'.cell? ⟨b, off + k * 5, none⟩ = some (.int .i64 x0) ∧ W'.cell? ⟨b, off + k * 5 + 1, none⟩ = some (.int .i64 x1) ∧ W'.cell? ⟨b, off + k * 5 + 2, none⟩ = some (.int .i64 x2) ∧ W'.cell? ⟨b, off + k * 5 + 3, none⟩ = some (.int .i64 x3) ∧ W'.cell? ⟨b, off + k * 5 + 4, none⟩ = some (.slice asl sl csl) ∧ W'.cell? ⟨w.heap.size, 0, none⟩ = some (.int .i64 wd) ∧ W'.cell? ⟨w.heap.size, 1, none⟩ = some (.int .i64 hg)) from
        fun W W' hb hz ⟨a0, a1, a2, a3, a4, a5, a6⟩ => ⟨(hb.cell (p := ⟨b, _, none⟩) (Nat.lt_of_lt_of_le hbr hz)).trans a0, (hb.cell (p := ⟨b, _, none⟩) (Nat.lt_of_lt_of_le hbr hz)).trans a1, (hb.cell (p := ⟨b, _, none⟩) (Nat.lt_of_lt_of_le hbr hz)).trans a2, (hb.cell (p := ⟨b, _, none⟩) (Nat.lt_of_lt_of_le hbr hz)).trans a3, (hb.cell (p := ⟨b, _, none⟩) (Nat.lt_of_lt_of_le hbr hz)).trans a4,
          (hb.cell (p := ⟨w.heap.size, _, none⟩) (Nat.lt_of_lt_of_le (show w.heap.size < wr.heap.size by omega) hz)).trans a5, (hb.cell (p := ⟨w.heap.size, _, none⟩) (Nat.lt_of_lt_of_le (show w.heap.size < wr.heap.size by omega) hz)).trans a6⟩)
      clear KK HBA HC c107 HL2
      cases c1
      · obtain rfl : ok = false := by rw [HOKK.out]; rfl
        have hE : E = 2 := by rw [HE2.out, if_neg (HBADK.out rfl)]; split <;> rfl
        subst hE
        clear HOKK HBADK HE2 HOK HBAD HSE cN HALL HKE
        go_wp2_with fail
        refine wp_region_held_drew (S := fun w' => w'.cell? ⟨b, off + k * 5, none⟩ = some (.int .i64 x0) ∧ w'.cell? ⟨b, off + k * 5 + 1, none⟩ = some (.int .i64 x1) ∧ w'.cell? ⟨b, off + k * 5 + 2, none⟩ = some (.int .i64 x2) ∧ w'.cell? ⟨b, off + k * 5 + 3, none⟩ = some (.int .i64 x3) ∧ w'.cell? ⟨b, off + k * 5 + 4, none⟩ = some (.slice asl sl csl) ∧ w'.cell? ⟨w.heap.size, 0, none⟩ = some (.int .i64 wd) ∧ w'.cell? ⟨w.heap.size, 1, none⟩ = some (.int .i64 hg)) (by kernel_rfl) ⟨by simpa [go_sem] using m0, by simpa [go_sem] using m1, by simpa [go_sem] using m2, by simpa [go_sem] using m3, by simpa [go_sem] using m4, by simpa [go_sem] using k0, by simpa [go_sem] using k1⟩ (fun hHeld => ?_)
        refine wpAnyH_take (i := 0) (oi := _) (v := Value.slice (some ⟨b, off, none⟩) len cap2) rfl (by kernel_rfl) (by kernel_rfl) (by kernel_rfl) (fun _ _ _ h => h) (Or.inl ⟨by rfl, fun w' hSw => ?_⟩) hHeld ?_
        · obtain ⟨t0, t1, t2, t3, t4, t5, t6⟩ := hSw
          go_simp
          try simp [*]
          try (intro hh; exfalso; omega)
          try omega
        try simp only [Act.put, List.setIfInBounds_toArray, List.set_cons_zero, List.set_cons_succ, List.getElem_toArray, List.getElem_cons_succ, List.getElem_cons_zero]
        refine wpAnyH_take (i := 1) (oi := _) (v := Value.int .i64 k) rfl (by kernel_rfl) (by kernel_rfl) (by kernel_rfl) (fun _ _ _ h => h) (Or.inl ⟨by rfl, fun w' hSw => ?_⟩) hHeld ?_
        · obtain ⟨t0, t1, t2, t3, t4, t5, t6⟩ := hSw
          go_simp
          try simp [*]
          try (intro hh; exfalso; omega)
          try omega
        try simp only [Act.put, List.setIfInBounds_toArray, List.set_cons_zero, List.set_cons_succ, List.getElem_toArray, List.getElem_cons_succ, List.getElem_cons_zero]
        refine wpAnyH_take (i := 2) (oi := _) (v := Value.pointer (some ⟨b, off + k * 5, none⟩)) rfl (by kernel_rfl) (by kernel_rfl) (by kernel_rfl) (fun _ _ _ h => h) (Or.inl ⟨by rfl, fun w' hSw => ?_⟩) hHeld ?_
        · obtain ⟨t0, t1, t2, t3, t4, t5, t6⟩ := hSw
          go_simp
          try simp [*]
          try (intro hh; exfalso; omega)
          try omega
        try simp only [Act.put, List.setIfInBounds_toArray, List.set_cons_zero, List.set_cons_succ, List.getElem_toArray, List.getElem_cons_succ, List.getElem_cons_zero]
        refine wpAnyH_take (i := 3) (oi := _) (v := Value.pointer (some ⟨b, off + k * 5, none⟩)) rfl (by kernel_rfl) (by kernel_rfl) (by kernel_rfl) (fun _ _ _ h => h) (Or.inl ⟨by rfl, fun w' hSw => ?_⟩) hHeld ?_
        · obtain ⟨t0, t1, t2, t3, t4, t5, t6⟩ := hSw
          go_simp
          try simp [*]
          try (intro hh; exfalso; omega)
          try omega
        try simp only [Act.put, List.setIfInBounds_toArray, List.set_cons_zero, List.set_cons_succ, List.getElem_toArray, List.getElem_cons_succ, List.getElem_cons_zero]
        refine wpAnyH_take (i := 4) (oi := _) (v := Value.agg #[Value.int .i64 x0, Value.int .i64 x1]) rfl (by kernel_rfl) (by kernel_rfl) (by kernel_rfl) (fun _ _ _ h => h) (Or.inl ⟨by rfl, fun w' hSw => ?_⟩) hHeld ?_
        · obtain ⟨t0, t1, t2, t3, t4, t5, t6⟩ := hSw
          go_simp
          try simp [*]
          try (intro hh; exfalso; omega)
          try omega
        try simp only [Act.put, List.setIfInBounds_toArray, List.set_cons_zero, List.set_cons_succ, List.getElem_toArray, List.getElem_cons_succ, List.getElem_cons_zero]
        refine wpAnyH_ready (rs := [5]) (by kernel_rfl) (by simp) ?_
        refine AllReadyH.cons (o := _) rfl (fun K hK => ?_) AllReadyH.nil
        go_simp
        go_at_call 106
        refine Calls.mono (cE _) ?_
        rintro e v1 ⟨rfl, hb⟩
        have hs1 := hb.size
        try simp at hs1
        have hk1 := HKP.out _ _ hb (Nat.le_refl _) hHeld
        have hz1 : wr.heap.size ≤ v1.heap.size := by omega
        have HF1 := Lib.hid (show Below w.heap.size w v1 from Below.trans HBw.out.drew (hb.mono (by have := HBw.out.size; first | omega | (simp; omega))))
        have HK1 := Lib.hid (show Below (w.heap.size + 1) A v1 from Below.trans HBk.out.drew (hb.mono (by first | omega | (simp; omega))))
        clear hb
        clear hHeld
        refine hK.out _ _ hk1 (fun hHeld => ?_)
        clear hK K
        try simp only [Act.put, List.setIfInBounds_toArray, List.set_cons_zero, List.set_cons_succ, List.getElem_toArray, List.getElem_cons_succ, List.getElem_cons_zero]
        refine wpAnyH_take (i := 6) (oi := _) (v := Value.bool true) rfl (by kernel_rfl) (by kernel_rfl) (by kernel_rfl) (fun _ _ _ h => h) (Or.inl ⟨by rfl, fun w' hSw => ?_⟩) hHeld ?_
        · obtain ⟨t0, t1, t2, t3, t4, t5, t6⟩ := hSw
          go_simp
          try simp [*]
          try (intro hh; exfalso; omega)
          try omega
        try simp only [Act.put, List.setIfInBounds_toArray, List.set_cons_zero, List.set_cons_succ, List.getElem_toArray, List.getElem_cons_succ, List.getElem_cons_zero]
        refine wpAnyH_take (i := 7) (oi := _) (v := Value.bool true) rfl (by kernel_rfl) (by kernel_rfl) (by kernel_rfl) (fun _ _ _ h => h) (Or.inl ⟨by rfl, fun w' hSw => ?_⟩) hHeld ?_
        · obtain ⟨t0, t1, t2, t3, t4, t5, t6⟩ := hSw
          go_simp
          try simp [*]
          try (intro hh; exfalso; omega)
          try omega
        try simp only [Act.put, List.setIfInBounds_toArray, List.set_cons_zero, List.set_cons_succ, List.getElem_toArray, List.getElem_cons_succ, List.getElem_cons_zero]
        refine wpAnyH_take (i := 8) (oi := _) (v := undef) rfl (by kernel_rfl) (by kernel_rfl) (by kernel_rfl) (fun _ _ _ h => h) (Or.inr ⟨by rfl, rfl⟩) hHeld ?_
        try simp only [Act.put, List.setIfInBounds_toArray, List.set_cons_zero, List.set_cons_succ, List.getElem_toArray, List.getElem_cons_succ, List.getElem_cons_zero]
        refine wpAnyH_take (i := 9) (oi := _) (v := undef) rfl (by kernel_rfl) (by kernel_rfl) (by kernel_rfl) (fun _ _ _ h => h) (Or.inr ⟨by rfl, rfl⟩) hHeld ?_
        try simp only [Act.put, List.setIfInBounds_toArray, List.set_cons_zero, List.set_cons_succ, List.getElem_toArray, List.getElem_cons_succ, List.getElem_cons_zero]
        refine wpAnyH_take (i := 10) (oi := _) (v := undef) rfl (by kernel_rfl) (by kernel_rfl) (by kernel_rfl) (fun _ _ _ h => h) (Or.inr ⟨by rfl, rfl⟩) hHeld ?_
        try simp only [Act.put, List.setIfInBounds_toArray, List.set_cons_zero, List.set_cons_succ, List.getElem_toArray, List.getElem_cons_succ, List.getElem_cons_zero]
        refine wpAnyH_take (i := 11) (oi := _) (v := undef) rfl (by kernel_rfl) (by kernel_rfl) (by kernel_rfl) (fun _ _ _ h => h) (Or.inr ⟨by rfl, rfl⟩) hHeld ?_
        try simp only [Act.put, List.setIfInBounds_toArray, List.set_cons_zero, List.set_cons_succ, List.getElem_toArray, List.getElem_cons_succ, List.getElem_cons_zero]
        refine wpAnyH_take (i := 12) (oi := _) (v := undef) rfl (by kernel_rfl) (by kernel_rfl) (by kernel_rfl) (fun _ _ _ h => h) (Or.inr ⟨by rfl, rfl⟩) hHeld ?_
        try simp only [Act.put, List.setIfInBounds_toArray, List.set_cons_zero, List.set_cons_succ, List.getElem_toArray, List.getElem_cons_succ, List.getElem_cons_zero]
        refine wpAnyH_take (i := 13) (oi := _) (v := undef) rfl (by kernel_rfl) (by kernel_rfl) (by kernel_rfl) (fun _ _ _ h => h) (Or.inr ⟨by rfl, rfl⟩) hHeld ?_
        try simp only [Act.put, List.setIfInBounds_toArray, List.set_cons_zero, List.set_cons_succ, List.getElem_toArray, List.getElem_cons_succ, List.getElem_cons_zero]
        refine wpAnyH_take (i := 14) (oi := _) (v := undef) rfl (by kernel_rfl) (by kernel_rfl) (by kernel_rfl) (fun _ _ _ h => h) (Or.inr ⟨by rfl, rfl⟩) hHeld ?_
        try simp only [Act.put, List.setIfInBounds_toArray, List.set_cons_zero, List.set_cons_succ, List.getElem_toArray, List.getElem_cons_succ, List.getElem_cons_zero]
        refine wpAnyH_take (i := 15) (oi := _) (v := Value.bool true) rfl (by kernel_rfl) (by kernel_rfl) (by kernel_rfl) (fun _ _ _ h => h) (Or.inl ⟨by rfl, fun w' hSw => ?_⟩) hHeld ?_
        · obtain ⟨t0, t1, t2, t3, t4, t5, t6⟩ := hSw
          go_simp
          try simp [*]
          try (intro hh; exfalso; omega)
          try omega
        try simp only [Act.put, List.setIfInBounds_toArray, List.set_cons_zero, List.set_cons_succ, List.getElem_toArray, List.getElem_cons_succ, List.getElem_cons_zero]
        refine wpAnyH_take (i := 16) (oi := _) (v := Value.bool true) rfl (by kernel_rfl) (by kernel_rfl) (by kernel_rfl) (fun _ _ _ h => h) (Or.inl ⟨by rfl, fun w' hSw => ?_⟩) hHeld ?_
        · obtain ⟨t0, t1, t2, t3, t4, t5, t6⟩ := hSw
          go_simp
          try simp [*]
          try (intro hh; exfalso; omega)
          try omega
        try simp only [Act.put, List.setIfInBounds_toArray, List.set_cons_zero, List.set_cons_succ, List.getElem_toArray, List.getElem_cons_succ, List.getElem_cons_zero]
        refine wpAnyH_take (i := 17) (oi := _) (v := undef) rfl (by kernel_rfl) (by kernel_rfl) (by kernel_rfl) (fun _ _ _ h => h) (Or.inr ⟨by rfl, rfl⟩) hHeld ?_
        try simp only [Act.put, List.setIfInBounds_toArray, List.set_cons_zero, List.set_cons_succ, List.getElem_toArray, List.getElem_cons_succ, List.getElem_cons_zero]
        refine wpAnyH_take (i := 18) (oi := _) (v := undef) rfl (by kernel_rfl) (by kernel_rfl) (by kernel_rfl) (fun _ _ _ h => h) (Or.inr ⟨by rfl, rfl⟩) hHeld ?_
        try simp only [Act.put, List.setIfInBounds_toArray, List.set_cons_zero, List.set_cons_succ, List.getElem_toArray, List.getElem_cons_succ, List.getElem_cons_zero]
        refine wpAnyH_take (i := 19) (oi := _) (v := undef) rfl (by kernel_rfl) (by kernel_rfl) (by kernel_rfl) (fun _ _ _ h => h) (Or.inr ⟨by rfl, rfl⟩) hHeld ?_
        try simp only [Act.put, List.setIfInBounds_toArray, List.set_cons_zero, List.set_cons_succ, List.getElem_toArray, List.getElem_cons_succ, List.getElem_cons_zero]
        refine wpAnyH_take (i := 20) (oi := _) (v := undef) rfl (by kernel_rfl) (by kernel_rfl) (by kernel_rfl) (fun _ _ _ h => h) (Or.inr ⟨by rfl, rfl⟩) hHeld ?_
        try simp only [Act.put, List.setIfInBounds_toArray, List.set_cons_zero, List.set_cons_succ, List.getElem_toArray, List.getElem_cons_succ, List.getElem_cons_zero]
        refine wpAnyH_take (i := 21) (oi := _) (v := undef) rfl (by kernel_rfl) (by kernel_rfl) (by kernel_rfl) (fun _ _ _ h => h) (Or.inr ⟨by rfl, rfl⟩) hHeld ?_
        try simp only [Act.put, List.setIfInBounds_toArray, List.set_cons_zero, List.set_cons_succ, List.getElem_toArray, List.getElem_cons_succ, List.getElem_cons_zero]
        refine wpAnyH_take (i := 22) (oi := _) (v := undef) rfl (by kernel_rfl) (by kernel_rfl) (by kernel_rfl) (fun _ _ _ h => h) (Or.inr ⟨by rfl, rfl⟩) hHeld ?_
        try simp only [Act.put, List.setIfInBounds_toArray, List.set_cons_zero, List.set_cons_succ, List.getElem_toArray, List.getElem_cons_succ, List.getElem_cons_zero]
        refine wpAnyH_take (i := 23) (oi := _) (v := undef) rfl (by kernel_rfl) (by kernel_rfl) (by kernel_rfl) (fun _ _ _ h => h) (Or.inr ⟨by rfl, rfl⟩) hHeld ?_
        try simp only [Act.put, List.setIfInBounds_toArray, List.set_cons_zero, List.set_cons_succ, List.getElem_toArray, List.getElem_cons_succ, List.getElem_cons_zero]
        refine wpAnyH_take (i := 24) (oi := _) (v := undef) rfl (by kernel_rfl) (by kernel_rfl) (by kernel_rfl) (fun _ _ _ h => h) (Or.inr ⟨by rfl, rfl⟩) hHeld ?_
        try simp only [Act.put, List.setIfInBounds_toArray, List.set_cons_zero, List.set_cons_succ, List.getElem_toArray, List.getElem_cons_succ, List.getElem_cons_zero]
        refine wpAnyH_take (i := 25) (oi := _) (v := Value.bool true) rfl (by kernel_rfl) (by kernel_rfl) (by kernel_rfl) (fun _ _ _ h => h) (Or.inl ⟨by rfl, fun w' hSw => ?_⟩) hHeld ?_
        · obtain ⟨t0, t1, t2, t3, t4, t5, t6⟩ := hSw
          go_simp
          try simp [*]
          try (intro hh; exfalso; omega)
          try omega
        try simp only [Act.put, List.setIfInBounds_toArray, List.set_cons_zero, List.set_cons_succ, List.getElem_toArray, List.getElem_cons_succ, List.getElem_cons_zero]
        refine wpAnyH_done (by kernel_rfl) ?_ _
        clear hHeld
        go_wp2_with fail
        go_ret
        exact ⟨rfl, HF1.out⟩
      cases c2
      · obtain rfl : ok = false := by rw [HOKK.out]; rfl
        have hE : E = 2 := by rw [HE2.out, if_neg (HBADK.out rfl)]; split <;> rfl
        subst hE
        clear HOKK HBADK HE2 HOK HBAD HSE HALL HKE
        go_wp2_with fail
        refine wp_region_held_drew (S := fun w' => w'.cell? ⟨b, off + k * 5, none⟩ = some (.int .i64 x0) ∧ w'.cell? ⟨b, off + k * 5 + 1, none⟩ = some (.int .i64 x1) ∧ w'.cell? ⟨b, off + k * 5 + 2, none⟩ = some (.int .i64 x2) ∧ w'.cell? ⟨b, off + k * 5 + 3, none⟩ = some (.int .i64 x3) ∧ w'.cell? ⟨b, off + k * 5 + 4, none⟩ = some (.slice asl sl csl) ∧ w'.cell? ⟨w.heap.size, 0, none⟩ = some (.int .i64 wd) ∧ w'.cell? ⟨w.heap.size, 1, none⟩ = some (.int .i64 hg)) (by kernel_rfl) ⟨by simpa [go_sem] using m0, by simpa [go_sem] using m1, by simpa [go_sem] using m2, by simpa [go_sem] using m3, by simpa [go_sem] using m4, by simpa [go_sem] using k0, by simpa [go_sem] using k1⟩ (fun hHeld => ?_)
        refine wpAnyH_take (i := 0) (oi := _) (v := Value.slice (some ⟨b, off, none⟩) len cap2) rfl (by kernel_rfl) (by kernel_rfl) (by kernel_rfl) (fun _ _ _ h => h) (Or.inl ⟨by rfl, fun w' hSw => ?_⟩) hHeld ?_
        · obtain ⟨t0, t1, t2, t3, t4, t5, t6⟩ := hSw
          go_simp
          try simp [*]
          try (intro hh; exfalso; omega)
          try omega
        try simp only [Act.put, List.setIfInBounds_toArray, List.set_cons_zero, List.set_cons_succ, List.getElem_toArray, List.getElem_cons_succ, List.getElem_cons_zero]
        refine wpAnyH_take (i := 1) (oi := _) (v := Value.int .i64 k) rfl (by kernel_rfl) (by kernel_rfl) (by kernel_rfl) (fun _ _ _ h => h) (Or.inl ⟨by rfl, fun w' hSw => ?_⟩) hHeld ?_
        · obtain ⟨t0, t1, t2, t3, t4, t5, t6⟩ := hSw
          go_simp
          try simp [*]
          try (intro hh; exfalso; omega)
          try omega
        try simp only [Act.put, List.setIfInBounds_toArray, List.set_cons_zero, List.set_cons_succ, List.getElem_toArray, List.getElem_cons_succ, List.getElem_cons_zero]
        refine wpAnyH_take (i := 2) (oi := _) (v := Value.pointer (some ⟨b, off + k * 5, none⟩)) rfl (by kernel_rfl) (by kernel_rfl) (by kernel_rfl) (fun _ _ _ h => h) (Or.inl ⟨by rfl, fun w' hSw => ?_⟩) hHeld ?_
        · obtain ⟨t0, t1, t2, t3, t4, t5, t6⟩ := hSw
          go_simp
          try simp [*]
          try (intro hh; exfalso; omega)
          try omega
        try simp only [Act.put, List.setIfInBounds_toArray, List.set_cons_zero, List.set_cons_succ, List.getElem_toArray, List.getElem_cons_succ, List.getElem_cons_zero]
        refine wpAnyH_take (i := 3) (oi := _) (v := Value.pointer (some ⟨b, off + k * 5, none⟩)) rfl (by kernel_rfl) (by kernel_rfl) (by kernel_rfl) (fun _ _ _ h => h) (Or.inl ⟨by rfl, fun w' hSw => ?_⟩) hHeld ?_
        · obtain ⟨t0, t1, t2, t3, t4, t5, t6⟩ := hSw
          go_simp
          try simp [*]
          try (intro hh; exfalso; omega)
          try omega
        try simp only [Act.put, List.setIfInBounds_toArray, List.set_cons_zero, List.set_cons_succ, List.getElem_toArray, List.getElem_cons_succ, List.getElem_cons_zero]
        refine wpAnyH_take (i := 4) (oi := _) (v := Value.agg #[Value.int .i64 x0, Value.int .i64 x1]) rfl (by kernel_rfl) (by kernel_rfl) (by kernel_rfl) (fun _ _ _ h => h) (Or.inl ⟨by rfl, fun w' hSw => ?_⟩) hHeld ?_
        · obtain ⟨t0, t1, t2, t3, t4, t5, t6⟩ := hSw
          go_simp
          try simp [*]
          try (intro hh; exfalso; omega)
          try omega
        try simp only [Act.put, List.setIfInBounds_toArray, List.set_cons_zero, List.set_cons_succ, List.getElem_toArray, List.getElem_cons_succ, List.getElem_cons_zero]
        refine wpAnyH_ready (rs := [5]) (by kernel_rfl) (by simp) ?_
        refine AllReadyH.cons (o := _) rfl (fun K hK => ?_) AllReadyH.nil
        go_simp
        go_at_call 106
        refine Calls.mono (cE _) ?_
        rintro e v1 ⟨rfl, hb⟩
        have hs1 := hb.size
        try simp at hs1
        have hk1 := HKP.out _ _ hb (Nat.le_refl _) hHeld
        have hz1 : wr.heap.size ≤ v1.heap.size := by omega
        have HF1 := Lib.hid (show Below w.heap.size w v1 from Below.trans HBw.out.drew (hb.mono (by have := HBw.out.size; first | omega | (simp; omega))))
        have HK1 := Lib.hid (show Below (w.heap.size + 1) A v1 from Below.trans HBk.out.drew (hb.mono (by first | omega | (simp; omega))))
        clear hb
        clear hHeld
        refine hK.out _ _ hk1 (fun hHeld => ?_)
        clear hK K
        try simp only [Act.put, List.setIfInBounds_toArray, List.set_cons_zero, List.set_cons_succ, List.getElem_toArray, List.getElem_cons_succ, List.getElem_cons_zero]
        refine wpAnyH_take (i := 6) (oi := _) (v := Value.bool false) rfl (by kernel_rfl) (by kernel_rfl) (by kernel_rfl) (fun _ _ _ h => h) (Or.inl ⟨by rfl, fun w' hSw => ?_⟩) hHeld ?_
        · obtain ⟨t0, t1, t2, t3, t4, t5, t6⟩ := hSw
          go_simp
          try simp [*]
          try (intro hh; exfalso; omega)
          try omega
        try simp only [Act.put, List.setIfInBounds_toArray, List.set_cons_zero, List.set_cons_succ, List.getElem_toArray, List.getElem_cons_succ, List.getElem_cons_zero]
        refine wpAnyH_take (i := 7) (oi := _) (v := Value.bool false) rfl (by kernel_rfl) (by kernel_rfl) (by kernel_rfl) (fun _ _ _ h => h) (Or.inl ⟨by rfl, fun w' hSw => ?_⟩) hHeld ?_
        · obtain ⟨t0, t1, t2, t3, t4, t5, t6⟩ := hSw
          go_simp
          try simp [*]
          try (intro hh; exfalso; omega)
          try omega
        try simp only [Act.put, List.setIfInBounds_toArray, List.set_cons_zero, List.set_cons_succ, List.getElem_toArray, List.getElem_cons_succ, List.getElem_cons_zero]
        refine wpAnyH_take (i := 8) (oi := _) (v := Value.slice (some ⟨b, off, none⟩) len cap2) rfl (by kernel_rfl) (by kernel_rfl) (by kernel_rfl) (fun _ _ _ h => h) (Or.inl ⟨by rfl, fun w' hSw => ?_⟩) hHeld ?_
        · obtain ⟨t0, t1, t2, t3, t4, t5, t6⟩ := hSw
          go_simp
          try simp [*]
          try (intro hh; exfalso; omega)
          try omega
        try simp only [Act.put, List.setIfInBounds_toArray, List.set_cons_zero, List.set_cons_succ, List.getElem_toArray, List.getElem_cons_succ, List.getElem_cons_zero]
        refine wpAnyH_take (i := 9) (oi := _) (v := Value.int .i64 k) rfl (by kernel_rfl) (by kernel_rfl) (by kernel_rfl) (fun _ _ _ h => h) (Or.inl ⟨by rfl, fun w' hSw => ?_⟩) hHeld ?_
        · obtain ⟨t0, t1, t2, t3, t4, t5, t6⟩ := hSw
          go_simp
          try simp [*]
          try (intro hh; exfalso; omega)
          try omega
        try simp only [Act.put, List.setIfInBounds_toArray, List.set_cons_zero, List.set_cons_succ, List.getElem_toArray, List.getElem_cons_succ, List.getElem_cons_zero]
        refine wpAnyH_take (i := 10) (oi := _) (v := Value.pointer (some ⟨b, off + k * 5, none⟩)) rfl (by kernel_rfl) (by kernel_rfl) (by kernel_rfl) (fun _ _ _ h => h) (Or.inl ⟨by rfl, fun w' hSw => ?_⟩) hHeld ?_
        · obtain ⟨t0, t1, t2, t3, t4, t5, t6⟩ := hSw
          go_simp
          try simp [*]
          try (intro hh; exfalso; omega)
          try omega
        try simp only [Act.put, List.setIfInBounds_toArray, List.set_cons_zero, List.set_cons_succ, List.getElem_toArray, List.getElem_cons_succ, List.getElem_cons_zero]
        refine wpAnyH_take (i := 11) (oi := _) (v := Value.pointer (some ⟨b, off + k * 5 + 2, none⟩)) rfl (by kernel_rfl) (by kernel_rfl) (by kernel_rfl) (fun _ _ _ h => h) (Or.inl ⟨by rfl, fun w' hSw => ?_⟩) hHeld ?_
        · obtain ⟨t0, t1, t2, t3, t4, t5, t6⟩ := hSw
          go_simp
          try simp [*]
          try (intro hh; exfalso; omega)
          try omega
        try simp only [Act.put, List.setIfInBounds_toArray, List.set_cons_zero, List.set_cons_succ, List.getElem_toArray, List.getElem_cons_succ, List.getElem_cons_zero]
        refine wpAnyH_take (i := 12) (oi := _) (v := Value.agg #[Value.int .i64 x2, Value.int .i64 x3]) rfl (by kernel_rfl) (by kernel_rfl) (by kernel_rfl) (fun _ _ _ h => h) (Or.inl ⟨by rfl, fun w' hSw => ?_⟩) hHeld ?_
        · obtain ⟨t0, t1, t2, t3, t4, t5, t6⟩ := hSw
          go_simp
          try simp [*]
          try (intro hh; exfalso; omega)
          try omega
        try simp only [Act.put, List.setIfInBounds_toArray, List.set_cons_zero, List.set_cons_succ, List.getElem_toArray, List.getElem_cons_succ, List.getElem_cons_zero]
        refine wpAnyH_ready (rs := [13]) (by kernel_rfl) (by simp) ?_
        refine AllReadyH.cons (o := _) rfl (fun K hK => ?_) AllReadyH.nil
        go_simp
        go_at_call 106
        refine Calls.mono (cN _) ?_
        rintro e v2 ⟨rfl, hb⟩
        have hs2 := hb.size
        try simp at hs2
        have hk2 := HKP.out _ _ hb (hz1) hHeld
        have hz2 : wr.heap.size ≤ v2.heap.size := by omega
        have HF2 := Lib.hid (show Below w.heap.size w v2 from Below.trans HF1.out (hb.mono (by have := HBw.out.size; first | omega | (simp; omega))))
        have HK2 := Lib.hid (show Below (w.heap.size + 1) A v2 from Below.trans HK1.out (hb.mono (by first | omega | (simp; omega))))
        clear hb
        clear hHeld
        refine hK.out _ _ hk2 (fun hHeld => ?_)
        clear hK K
        try simp only [Act.put, List.setIfInBounds_toArray, List.set_cons_zero, List.set_cons_succ, List.getElem_toArray, List.getElem_cons_succ, List.getElem_cons_zero]
        refine wpAnyH_take (i := 14) (oi := _) (v := Value.bool true) rfl (by kernel_rfl) (by kernel_rfl) (by kernel_rfl) (fun _ _ _ h => h) (Or.inl ⟨by rfl, fun w' hSw => ?_⟩) hHeld ?_
        · obtain ⟨t0, t1, t2, t3, t4, t5, t6⟩ := hSw
          go_simp
          try simp [*]
          try (intro hh; exfalso; omega)
          try omega
        try simp only [Act.put, List.setIfInBounds_toArray, List.set_cons_zero, List.set_cons_succ, List.getElem_toArray, List.getElem_cons_succ, List.getElem_cons_zero]
        refine wpAnyH_take (i := 15) (oi := _) (v := Value.bool true) rfl (by kernel_rfl) (by kernel_rfl) (by kernel_rfl) (fun _ _ _ h => h) (Or.inl ⟨by rfl, fun w' hSw => ?_⟩) hHeld ?_
        · obtain ⟨t0, t1, t2, t3, t4, t5, t6⟩ := hSw
          go_simp
          try simp [*]
          try (intro hh; exfalso; omega)
          try omega
        try simp only [Act.put, List.setIfInBounds_toArray, List.set_cons_zero, List.set_cons_succ, List.getElem_toArray, List.getElem_cons_succ, List.getElem_cons_zero]
        refine wpAnyH_take (i := 16) (oi := _) (v := Value.bool true) rfl (by kernel_rfl) (by kernel_rfl) (by kernel_rfl) (fun _ _ _ h => h) (Or.inl ⟨by rfl, fun w' hSw => ?_⟩) hHeld ?_
        · obtain ⟨t0, t1, t2, t3, t4, t5, t6⟩ := hSw
          go_simp
          try simp [*]
          try (intro hh; exfalso; omega)
          try omega
        try simp only [Act.put, List.setIfInBounds_toArray, List.set_cons_zero, List.set_cons_succ, List.getElem_toArray, List.getElem_cons_succ, List.getElem_cons_zero]
        refine wpAnyH_take (i := 17) (oi := _) (v := undef) rfl (by kernel_rfl) (by kernel_rfl) (by kernel_rfl) (fun _ _ _ h => h) (Or.inr ⟨by rfl, rfl⟩) hHeld ?_
        try simp only [Act.put, List.setIfInBounds_toArray, List.set_cons_zero, List.set_cons_succ, List.getElem_toArray, List.getElem_cons_succ, List.getElem_cons_zero]
        refine wpAnyH_take (i := 18) (oi := _) (v := undef) rfl (by kernel_rfl) (by kernel_rfl) (by kernel_rfl) (fun _ _ _ h => h) (Or.inr ⟨by rfl, rfl⟩) hHeld ?_
        try simp only [Act.put, List.setIfInBounds_toArray, List.set_cons_zero, List.set_cons_succ, List.getElem_toArray, List.getElem_cons_succ, List.getElem_cons_zero]
        refine wpAnyH_take (i := 19) (oi := _) (v := undef) rfl (by kernel_rfl) (by kernel_rfl) (by kernel_rfl) (fun _ _ _ h => h) (Or.inr ⟨by rfl, rfl⟩) hHeld ?_
        try simp only [Act.put, List.setIfInBounds_toArray, List.set_cons_zero, List.set_cons_succ, List.getElem_toArray, List.getElem_cons_succ, List.getElem_cons_zero]
        refine wpAnyH_take (i := 20) (oi := _) (v := undef) rfl (by kernel_rfl) (by kernel_rfl) (by kernel_rfl) (fun _ _ _ h => h) (Or.inr ⟨by rfl, rfl⟩) hHeld ?_
        try simp only [Act.put, List.setIfInBounds_toArray, List.set_cons_zero, List.set_cons_succ, List.getElem_toArray, List.getElem_cons_succ, List.getElem_cons_zero]
        refine wpAnyH_take (i := 21) (oi := _) (v := undef) rfl (by kernel_rfl) (by kernel_rfl) (by kernel_rfl) (fun _ _ _ h => h) (Or.inr ⟨by rfl, rfl⟩) hHeld ?_
        try simp only [Act.put, List.setIfInBounds_toArray, List.set_cons_zero, List.set_cons_succ, List.getElem_toArray, List.getElem_cons_succ, List.getElem_cons_zero]
        refine wpAnyH_take (i := 22) (oi := _) (v := undef) rfl (by kernel_rfl) (by kernel_rfl) (by kernel_rfl) (fun _ _ _ h => h) (Or.inr ⟨by rfl, rfl⟩) hHeld ?_
        try simp only [Act.put, List.setIfInBounds_toArray, List.set_cons_zero, List.set_cons_succ, List.getElem_toArray, List.getElem_cons_succ, List.getElem_cons_zero]
        refine wpAnyH_take (i := 23) (oi := _) (v := undef) rfl (by kernel_rfl) (by kernel_rfl) (by kernel_rfl) (fun _ _ _ h => h) (Or.inr ⟨by rfl, rfl⟩) hHeld ?_
        try simp only [Act.put, List.setIfInBounds_toArray, List.set_cons_zero, List.set_cons_succ, List.getElem_toArray, List.getElem_cons_succ, List.getElem_cons_zero]
        refine wpAnyH_take (i := 24) (oi := _) (v := undef) rfl (by kernel_rfl) (by kernel_rfl) (by kernel_rfl) (fun _ _ _ h => h) (Or.inr ⟨by rfl, rfl⟩) hHeld ?_
        try simp only [Act.put, List.setIfInBounds_toArray, List.set_cons_zero, List.set_cons_succ, List.getElem_toArray, List.getElem_cons_succ, List.getElem_cons_zero]
        refine wpAnyH_take (i := 25) (oi := _) (v := Value.bool true) rfl (by kernel_rfl) (by kernel_rfl) (by kernel_rfl) (fun _ _ _ h => h) (Or.inl ⟨by rfl, fun w' hSw => ?_⟩) hHeld ?_
        · obtain ⟨t0, t1, t2, t3, t4, t5, t6⟩ := hSw
          go_simp
          try simp [*]
          try (intro hh; exfalso; omega)
          try omega
        try simp only [Act.put, List.setIfInBounds_toArray, List.set_cons_zero, List.set_cons_succ, List.getElem_toArray, List.getElem_cons_succ, List.getElem_cons_zero]
        refine wpAnyH_done (by kernel_rfl) ?_ _
        clear hHeld
        go_wp2_with fail
        go_ret
        exact ⟨rfl, HF2.out⟩
      cases c3
      · obtain rfl : ok = false := by rw [HOKK.out]; rfl
        have hE : E = 2 := by rw [HE2.out, if_neg (HBADK.out rfl)]; split <;> rfl
        subst hE
        clear HOKK HBADK HE2 HOK HBAD HALL HKE
        go_wp2_with fail
        refine wp_region_held_drew (S := fun w' => w'.cell? ⟨b, off + k * 5, none⟩ = some (.int .i64 x0) ∧ w'.cell? ⟨b, off + k * 5 + 1, none⟩ = some (.int .i64 x1) ∧ w'.cell? ⟨b, off + k * 5 + 2, none⟩ = some (.int .i64 x2) ∧ w'.cell? ⟨b, off + k * 5 + 3, none⟩ = some (.int .i64 x3) ∧ w'.cell? ⟨b, off + k * 5 + 4, none⟩ = some (.slice asl sl csl) ∧ w'.cell? ⟨w.heap.size, 0, none⟩ = some (.int .i64 wd) ∧ w'.cell? ⟨w.heap.size, 1, none⟩ = some (.int .i64 hg)) (by kernel_rfl) ⟨by simpa [go_sem] using m0, by simpa [go_sem] using m1, by simpa [go_sem] using m2, by simpa [go_sem] using m3, by simpa [go_sem] using m4, by simpa [go_sem] using k0, by simpa [go_sem] using k1⟩ (fun hHeld => ?_)
        refine wpAnyH_take (i := 0) (oi := _) (v := Value.slice (some ⟨b, off, none⟩) len cap2) rfl (by kernel_rfl) (by kernel_rfl) (by kernel_rfl) (fun _ _ _ h => h) (Or.inl ⟨by rfl, fun w' hSw => ?_⟩) hHeld ?_
        · obtain ⟨t0, t1, t2, t3, t4, t5, t6⟩ := hSw
          go_simp
          try simp [*]
          try (intro hh; exfalso; omega)
          try omega
        try simp only [Act.put, List.setIfInBounds_toArray, List.set_cons_zero, List.set_cons_succ, List.getElem_toArray, List.getElem_cons_succ, List.getElem_cons_zero]
        refine wpAnyH_take (i := 1) (oi := _) (v := Value.int .i64 k) rfl (by kernel_rfl) (by kernel_rfl) (by kernel_rfl) (fun _ _ _ h => h) (Or.inl ⟨by rfl, fun w' hSw => ?_⟩) hHeld ?_
        · obtain ⟨t0, t1, t2, t3, t4, t5, t6⟩ := hSw
          go_simp
          try simp [*]
          try (intro hh; exfalso; omega)
          try omega
        try simp only [Act.put, List.setIfInBounds_toArray, List.set_cons_zero, List.set_cons_succ, List.getElem_toArray, List.getElem_cons_succ, List.getElem_cons_zero]
        refine wpAnyH_take (i := 2) (oi := _) (v := Value.pointer (some ⟨b, off + k * 5, none⟩)) rfl (by kernel_rfl) (by kernel_rfl) (by kernel_rfl) (fun _ _ _ h => h) (Or.inl ⟨by rfl, fun w' hSw => ?_⟩) hHeld ?_
        · obtain ⟨t0, t1, t2, t3, t4, t5, t6⟩ := hSw
          go_simp
          try simp [*]
          try (intro hh; exfalso; omega)
          try omega
        try simp only [Act.put, List.setIfInBounds_toArray, List.set_cons_zero, List.set_cons_succ, List.getElem_toArray, List.getElem_cons_succ, List.getElem_cons_zero]
        refine wpAnyH_take (i := 3) (oi := _) (v := Value.pointer (some ⟨b, off + k * 5, none⟩)) rfl (by kernel_rfl) (by kernel_rfl) (by kernel_rfl) (fun _ _ _ h => h) (Or.inl ⟨by rfl, fun w' hSw => ?_⟩) hHeld ?_
        · obtain ⟨t0, t1, t2, t3, t4, t5, t6⟩ := hSw
          go_simp
          try simp [*]
          try (intro hh; exfalso; omega)
          try omega
        try simp only [Act.put, List.setIfInBounds_toArray, List.set_cons_zero, List.set_cons_succ, List.getElem_toArray, List.getElem_cons_succ, List.getElem_cons_zero]
        refine wpAnyH_take (i := 4) (oi := _) (v := Value.agg #[Value.int .i64 x0, Value.int .i64 x1]) rfl (by kernel_rfl) (by kernel_rfl) (by kernel_rfl) (fun _ _ _ h => h) (Or.inl ⟨by rfl, fun w' hSw => ?_⟩) hHeld ?_
        · obtain ⟨t0, t1, t2, t3, t4, t5, t6⟩ := hSw
          go_simp
          try simp [*]
          try (intro hh; exfalso; omega)
          try omega
        try simp only [Act.put, List.setIfInBounds_toArray, List.set_cons_zero, List.set_cons_succ, List.getElem_toArray, List.getElem_cons_succ, List.getElem_cons_zero]
        refine wpAnyH_ready (rs := [5]) (by kernel_rfl) (by simp) ?_
        refine AllReadyH.cons (o := _) rfl (fun K hK => ?_) AllReadyH.nil
        go_simp
        go_at_call 106
        refine Calls.mono (cE _) ?_
        rintro e v1 ⟨rfl, hb⟩
        have hs1 := hb.size
        try simp at hs1
        have hk1 := HKP.out _ _ hb (Nat.le_refl _) hHeld
        have hz1 : wr.heap.size ≤ v1.heap.size := by omega
        have HF1 := Lib.hid (show Below w.heap.size w v1 from Below.trans HBw.out.drew (hb.mono (by have := HBw.out.size; first | omega | (simp; omega))))
        have HK1 := Lib.hid (show Below (w.heap.size + 1) A v1 from Below.trans HBk.out.drew (hb.mono (by first | omega | (simp; omega))))
        clear hb
        clear hHeld
        refine hK.out _ _ hk1 (fun hHeld => ?_)
        clear hK K
        try simp only [Act.put, List.setIfInBounds_toArray, List.set_cons_zero, List.set_cons_succ, List.getElem_toArray, List.getElem_cons_succ, List.getElem_cons_zero]
        refine wpAnyH_take (i := 6) (oi := _) (v := Value.bool false) rfl (by kernel_rfl) (by kernel_rfl) (by kernel_rfl) (fun _ _ _ h => h) (Or.inl ⟨by rfl, fun w' hSw => ?_⟩) hHeld ?_
        · obtain ⟨t0, t1, t2, t3, t4, t5, t6⟩ := hSw
          go_simp
          try simp [*]
          try (intro hh; exfalso; omega)
          try omega
        try simp only [Act.put, List.setIfInBounds_toArray, List.set_cons_zero, List.set_cons_succ, List.getElem_toArray, List.getElem_cons_succ, List.getElem_cons_zero]
        refine wpAnyH_take (i := 7) (oi := _) (v := Value.bool false) rfl (by kernel_rfl) (by kernel_rfl) (by kernel_rfl) (fun _ _ _ h => h) (Or.inl ⟨by rfl, fun w' hSw => ?_⟩) hHeld ?_
        · obtain ⟨t0, t1, t2, t3, t4, t5, t6⟩ := hSw
          go_simp
          try simp [*]
          try (intro hh; exfalso; omega)
          try omega
        try simp only [Act.put, List.setIfInBounds_toArray, List.set_cons_zero, List.set_cons_succ, List.getElem_toArray, List.getElem_cons_succ, List.getElem_cons_zero]
        refine wpAnyH_take (i := 8) (oi := _) (v := Value.slice (some ⟨b, off, none⟩) len cap2) rfl (by kernel_rfl) (by kernel_rfl) (by kernel_rfl) (fun _ _ _ h => h) (Or.inl ⟨by rfl, fun w' hSw => ?_⟩) hHeld ?_
        · obtain ⟨t0, t1, t2, t3, t4, t5, t6⟩ := hSw
          go_simp
          try simp [*]
          try (intro hh; exfalso; omega)
          try omega
        try simp only [Act.put, List.setIfInBounds_toArray, List.set_cons_zero, List.set_cons_succ, List.getElem_toArray, List.getElem_cons_succ, List.getElem_cons_zero]
        refine wpAnyH_take (i := 9) (oi := _) (v := Value.int .i64 k) rfl (by kernel_rfl) (by kernel_rfl) (by kernel_rfl) (fun _ _ _ h => h) (Or.inl ⟨by rfl, fun w' hSw => ?_⟩) hHeld ?_
        · obtain ⟨t0, t1, t2, t3, t4, t5, t6⟩ := hSw
          go_simp
          try simp [*]
          try (intro hh; exfalso; omega)
          try omega
        try simp only [Act.put, List.setIfInBounds_toArray, List.set_cons_zero, List.set_cons_succ, List.getElem_toArray, List.getElem_cons_succ, List.getElem_cons_zero]
        refine wpAnyH_take (i := 10) (oi := _) (v := Value.pointer (some ⟨b, off + k * 5, none⟩)) rfl (by kernel_rfl) (by kernel_rfl) (by kernel_rfl) (fun _ _ _ h => h) (Or.inl ⟨by rfl, fun w' hSw => ?_⟩) hHeld ?_
        · obtain ⟨t0, t1, t2, t3, t4, t5, t6⟩ := hSw
          go_simp
          try simp [*]
          try (intro hh; exfalso; omega)
          try omega
        try simp only [Act.put, List.setIfInBounds_toArray, List.set_cons_zero, List.set_cons_succ, List.getElem_toArray, List.getElem_cons_succ, List.getElem_cons_zero]
        refine wpAnyH_take (i := 11) (oi := _) (v := Value.pointer (some ⟨b, off + k * 5 + 2, none⟩)) rfl (by kernel_rfl) (by kernel_rfl) (by kernel_rfl) (fun _ _ _ h => h) (Or.inl ⟨by rfl, fun w' hSw => ?_⟩) hHeld ?_
        · obtain ⟨t0, t1, t2, t3, t4, t5, t6⟩ := hSw
          go_simp
          try simp [*]
          try (intro hh; exfalso; omega)
          try omega
        try simp only [Act.put, List.setIfInBounds_toArray, List.set_cons_zero, List.set_cons_succ, List.getElem_toArray, List.getElem_cons_succ, List.getElem_cons_zero]
        refine wpAnyH_take (i := 12) (oi := _) (v := Value.agg #[Value.int .i64 x2, Value.int .i64 x3]) rfl (by kernel_rfl) (by kernel_rfl) (by kernel_rfl) (fun _ _ _ h => h) (Or.inl ⟨by rfl, fun w' hSw => ?_⟩) hHeld ?_
        · obtain ⟨t0, t1, t2, t3, t4, t5, t6⟩ := hSw
          go_simp
          try simp [*]
          try (intro hh; exfalso; omega)
          try omega
        try simp only [Act.put, List.setIfInBounds_toArray, List.set_cons_zero, List.set_cons_succ, List.getElem_toArray, List.getElem_cons_succ, List.getElem_cons_zero]
        refine wpAnyH_ready (rs := [13]) (by kernel_rfl) (by simp) ?_
        refine AllReadyH.cons (o := _) rfl (fun K hK => ?_) AllReadyH.nil
        go_simp
        go_at_call 106
        refine Calls.mono (cN _) ?_
        rintro e v2 ⟨rfl, hb⟩
        have hs2 := hb.size
        try simp at hs2
        have hk2 := HKP.out _ _ hb (hz1) hHeld
        have hz2 : wr.heap.size ≤ v2.heap.size := by omega
        have HF2 := Lib.hid (show Below w.heap.size w v2 from Below.trans HF1.out (hb.mono (by have := HBw.out.size; first | omega | (simp; omega))))
        have HK2 := Lib.hid (show Below (w.heap.size + 1) A v2 from Below.trans HK1.out (hb.mono (by first | omega | (simp; omega))))
        clear hb
        clear hHeld
        refine hK.out _ _ hk2 (fun hHeld => ?_)
        clear hK K
        try simp only [Act.put, List.setIfInBounds_toArray, List.set_cons_zero, List.set_cons_succ, List.getElem_toArray, List.getElem_cons_succ, List.getElem_cons_zero]
        refine wpAnyH_take (i := 14) (oi := _) (v := Value.bool false) rfl (by kernel_rfl) (by kernel_rfl) (by kernel_rfl) (fun _ _ _ h => h) (Or.inl ⟨by rfl, fun w' hSw => ?_⟩) hHeld ?_
        · obtain ⟨t0, t1, t2, t3, t4, t5, t6⟩ := hSw
          go_simp
          try simp [*]
          try (intro hh; exfalso; omega)
          try omega
        try simp only [Act.put, List.setIfInBounds_toArray, List.set_cons_zero, List.set_cons_succ, List.getElem_toArray, List.getElem_cons_succ, List.getElem_cons_zero]
        refine wpAnyH_take (i := 15) (oi := _) (v := Value.bool false) rfl (by kernel_rfl) (by kernel_rfl) (by kernel_rfl) (fun _ _ _ h => h) (Or.inl ⟨by rfl, fun w' hSw => ?_⟩) hHeld ?_
        · obtain ⟨t0, t1, t2, t3, t4, t5, t6⟩ := hSw
          go_simp
          try simp [*]
          try (intro hh; exfalso; omega)
          try omega
        try simp only [Act.put, List.setIfInBounds_toArray, List.set_cons_zero, List.set_cons_succ, List.getElem_toArray, List.getElem_cons_succ, List.getElem_cons_zero]
        refine wpAnyH_take (i := 16) (oi := _) (v := Value.bool false) rfl (by kernel_rfl) (by kernel_rfl) (by kernel_rfl) (fun _ _ _ h => h) (Or.inl ⟨by rfl, fun w' hSw => ?_⟩) hHeld ?_
        · obtain ⟨t0, t1, t2, t3, t4, t5, t6⟩ := hSw
          go_simp
          try simp [*]
          try (intro hh; exfalso; omega)
          try omega
        try simp only [Act.put, List.setIfInBounds_toArray, List.set_cons_zero, List.set_cons_succ, List.getElem_toArray, List.getElem_cons_succ, List.getElem_cons_zero]
        refine wpAnyH_take (i := 17) (oi := _) (v := Value.agg #[Value.int .i64 wd, Value.int .i64 hg]) rfl (by kernel_rfl) (by kernel_rfl) (by kernel_rfl) (fun _ _ _ h => h) (Or.inl ⟨by rfl, fun w' hSw => ?_⟩) hHeld ?_
        · obtain ⟨t0, t1, t2, t3, t4, t5, t6⟩ := hSw
          go_simp
          try simp [*]
          try (intro hh; exfalso; omega)
          try omega
        try simp only [Act.put, List.setIfInBounds_toArray, List.set_cons_zero, List.set_cons_succ, List.getElem_toArray, List.getElem_cons_succ, List.getElem_cons_zero]
        refine wpAnyH_take (i := 18) (oi := _) (v := Value.slice (some ⟨b, off, none⟩) len cap2) rfl (by kernel_rfl) (by kernel_rfl) (by kernel_rfl) (fun _ _ _ h => h) (Or.inl ⟨by rfl, fun w' hSw => ?_⟩) hHeld ?_
        · obtain ⟨t0, t1, t2, t3, t4, t5, t6⟩ := hSw
          go_simp
          try simp [*]
          try (intro hh; exfalso; omega)
          try omega
        try simp only [Act.put, List.setIfInBounds_toArray, List.set_cons_zero, List.set_cons_succ, List.getElem_toArray, List.getElem_cons_succ, List.getElem_cons_zero]
        refine wpAnyH_take (i := 19) (oi := _) (v := Value.int .i64 k) rfl (by kernel_rfl) (by kernel_rfl) (by kernel_rfl) (fun _ _ _ h => h) (Or.inl ⟨by rfl, fun w' hSw => ?_⟩) hHeld ?_
        · obtain ⟨t0, t1, t2, t3, t4, t5, t6⟩ := hSw
          go_simp
          try simp [*]
          try (intro hh; exfalso; omega)
          try omega
        try simp only [Act.put, List.setIfInBounds_toArray, List.set_cons_zero, List.set_cons_succ, List.getElem_toArray, List.getElem_cons_succ, List.getElem_cons_zero]
        refine wpAnyH_take (i := 20) (oi := _) (v := Value.pointer (some ⟨b, off + k * 5, none⟩)) rfl (by kernel_rfl) (by kernel_rfl) (by kernel_rfl) (fun _ _ _ h => h) (Or.inl ⟨by rfl, fun w' hSw => ?_⟩) hHeld ?_
        · obtain ⟨t0, t1, t2, t3, t4, t5, t6⟩ := hSw
          go_simp
          try simp [*]
          try (intro hh; exfalso; omega)
          try omega
        try simp only [Act.put, List.setIfInBounds_toArray, List.set_cons_zero, List.set_cons_succ, List.getElem_toArray, List.getElem_cons_succ, List.getElem_cons_zero]
        refine wpAnyH_take (i := 21) (oi := _) (v := Value.pointer (some ⟨b, off + k * 5 + 4, none⟩)) rfl (by kernel_rfl) (by kernel_rfl) (by kernel_rfl) (fun _ _ _ h => h) (Or.inl ⟨by rfl, fun w' hSw => ?_⟩) hHeld ?_
        · obtain ⟨t0, t1, t2, t3, t4, t5, t6⟩ := hSw
          go_simp
          try simp [*]
          try (intro hh; exfalso; omega)
          try omega
        try simp only [Act.put, List.setIfInBounds_toArray, List.set_cons_zero, List.set_cons_succ, List.getElem_toArray, List.getElem_cons_succ, List.getElem_cons_zero]
        refine wpAnyH_take (i := 22) (oi := _) (v := Value.slice asl sl csl) rfl (by kernel_rfl) (by kernel_rfl) (by kernel_rfl) (fun _ _ _ h => h) (Or.inl ⟨by rfl, fun w' hSw => ?_⟩) hHeld ?_
        · obtain ⟨t0, t1, t2, t3, t4, t5, t6⟩ := hSw
          go_simp
          try simp [*]
          try (intro hh; exfalso; omega)
          try omega
        try simp only [Act.put, List.setIfInBounds_toArray, List.set_cons_zero, List.set_cons_succ, List.getElem_toArray, List.getElem_cons_succ, List.getElem_cons_zero]
        refine wpAnyH_ready (rs := [23]) (by kernel_rfl) (by simp) ?_
        refine AllReadyH.cons (o := _) rfl (fun K hK => ?_) AllReadyH.nil
        go_simp
        go_at_call 107
        refine Calls.mono (HSE.out _ HF2.out) ?_
        rintro e v3 ⟨rfl, hb⟩
        have hs3 := hb.size
        try simp at hs3
        have hk3 := HKP.out _ _ hb (hz2) hHeld
        have hz3 : wr.heap.size ≤ v3.heap.size := by omega
        have HF3 := Lib.hid (show Below w.heap.size w v3 from Below.trans HF2.out (hb.mono (by have := HBw.out.size; first | omega | (simp; omega))))
        have HK3 := Lib.hid (show Below (w.heap.size + 1) A v3 from Below.trans HK2.out (hb.mono (by first | omega | (simp; omega))))
        clear hb
        clear hHeld
        refine hK.out _ _ hk3 (fun hHeld => ?_)
        clear hK K
        try simp only [Act.put, List.setIfInBounds_toArray, List.set_cons_zero, List.set_cons_succ, List.getElem_toArray, List.getElem_cons_succ, List.getElem_cons_zero]
        refine wpAnyH_take (i := 24) (oi := _) (v := Value.bool true) rfl (by kernel_rfl) (by kernel_rfl) (by kernel_rfl) (fun _ _ _ h => h) (Or.inl ⟨by rfl, fun w' hSw => ?_⟩) hHeld ?_
        · obtain ⟨t0, t1, t2, t3, t4, t5, t6⟩ := hSw
          go_simp
          try simp [*]
          try (intro hh; exfalso; omega)
          try omega
        try simp only [Act.put, List.setIfInBounds_toArray, List.set_cons_zero, List.set_cons_succ, List.getElem_toArray, List.getElem_cons_succ, List.getElem_cons_zero]
        refine wpAnyH_take (i := 25) (oi := _) (v := Value.bool true) rfl (by kernel_rfl) (by kernel_rfl) (by kernel_rfl) (fun _ _ _ h => h) (Or.inl ⟨by rfl, fun w' hSw => ?_⟩) hHeld ?_
        · obtain ⟨t0, t1, t2, t3, t4, t5, t6⟩ := hSw
          go_simp
          try simp [*]
          try (intro hh; exfalso; omega)
          try omega
        try simp only [Act.put, List.setIfInBounds_toArray, List.set_cons_zero, List.set_cons_succ, List.getElem_toArray, List.getElem_cons_succ, List.getElem_cons_zero]
        refine wpAnyH_done (by kernel_rfl) ?_ _
        clear hHeld
        go_wp2_with fail
        go_ret
        exact ⟨rfl, HF3.out⟩
      · have HG := Lib.hid (show hrOk wd hg (hr hs k) = true by rw [HKE.out, HOKK.out]; rfl)
        clear HOKK HBADK HE2 HOK HBAD HKE
        go_wp2_with fail
        refine wp_region_held_drew (S := fun w' => w'.cell? ⟨b, off + k * 5, none⟩ = some (.int .i64 x0) ∧ w'.cell? ⟨b, off + k * 5 + 1, none⟩ = some (.int .i64 x1) ∧ w'.cell? ⟨b, off + k * 5 + 2, none⟩ = some (.int .i64 x2) ∧ w'.cell? ⟨b, off + k * 5 + 3, none⟩ = some (.int .i64 x3) ∧ w'.cell? ⟨b, off + k * 5 + 4, none⟩ = some (.slice asl sl csl) ∧ w'.cell? ⟨w.heap.size, 0, none⟩ = some (.int .i64 wd) ∧ w'.cell? ⟨w.heap.size, 1, none⟩ = some (.int .i64 hg)) (by kernel_rfl) ⟨by simpa [go_sem] using m0, by simpa [go_sem] using m1, by simpa [go_sem] using m2, by simpa [go_sem] using m3, by simpa [go_sem] using m4, by simpa [go_sem] using k0, by simpa [go_sem] using k1⟩ (fun hHeld => ?_)
        refine wpAnyH_take (i := 0) (oi := _) (v := Value.slice (some ⟨b, off, none⟩) len cap2) rfl (by kernel_rfl) (by kernel_rfl) (by kernel_rfl) (fun _ _ _ h => h) (Or.inl ⟨by rfl, fun w' hSw => ?_⟩) hHeld ?_
        · obtain ⟨t0, t1, t2, t3, t4, t5, t6⟩ := hSw
          go_simp
          try simp [*]
          try (intro hh; exfalso; omega)
          try omega
        try simp only [Act.put, List.setIfInBounds_toArray, List.set_cons_zero, List.set_cons_succ, List.getElem_toArray, List.getElem_cons_succ, List.getElem_cons_zero]
        refine wpAnyH_take (i := 1) (oi := _) (v := Value.int .i64 k) rfl (by kernel_rfl) (by kernel_rfl) (by kernel_rfl) (fun _ _ _ h => h) (Or.inl ⟨by rfl, fun w' hSw => ?_⟩) hHeld ?_
        · obtain ⟨t0, t1, t2, t3, t4, t5, t6⟩ := hSw
          go_simp
          try simp [*]
          try (intro hh; exfalso; omega)
          try omega
        try simp only [Act.put, List.setIfInBounds_toArray, List.set_cons_zero, List.set_cons_succ, List.getElem_toArray, List.getElem_cons_succ, List.getElem_cons_zero]
        refine wpAnyH_take (i := 2) (oi := _) (v := Value.pointer (some ⟨b, off + k * 5, none⟩)) rfl (by kernel_rfl) (by kernel_rfl) (by kernel_rfl) (fun _ _ _ h => h) (Or.inl ⟨by rfl, fun w' hSw => ?_⟩) hHeld ?_
        · obtain ⟨t0, t1, t2, t3, t4, t5, t6⟩ := hSw
          go_simp
          try simp [*]
          try (intro hh; exfalso; omega)
          try omega
        try simp only [Act.put, List.setIfInBounds_toArray, List.set_cons_zero, List.set_cons_succ, List.getElem_toArray, List.getElem_cons_succ, List.getElem_cons_zero]
        refine wpAnyH_take (i := 3) (oi := _) (v := Value.pointer (some ⟨b, off + k * 5, none⟩)) rfl (by kernel_rfl) (by kernel_rfl) (by kernel_rfl) (fun _ _ _ h => h) (Or.inl ⟨by rfl, fun w' hSw => ?_⟩) hHeld ?_
        · obtain ⟨t0, t1, t2, t3, t4, t5, t6⟩ := hSw
          go_simp
          try simp [*]
          try (intro hh; exfalso; omega)
          try omega
        try simp only [Act.put, List.setIfInBounds_toArray, List.set_cons_zero, List.set_cons_succ, List.getElem_toArray, List.getElem_cons_succ, List.getElem_cons_zero]
        refine wpAnyH_take (i := 4) (oi := _) (v := Value.agg #[Value.int .i64 x0, Value.int .i64 x1]) rfl (by kernel_rfl) (by kernel_rfl) (by kernel_rfl) (fun _ _ _ h => h) (Or.inl ⟨by rfl, fun w' hSw => ?_⟩) hHeld ?_
        · obtain ⟨t0, t1, t2, t3, t4, t5, t6⟩ := hSw
          go_simp
          try simp [*]
          try (intro hh; exfalso; omega)
          try omega
        try simp only [Act.put, List.setIfInBounds_toArray, List.set_cons_zero, List.set_cons_succ, List.getElem_toArray, List.getElem_cons_succ, List.getElem_cons_zero]
        refine wpAnyH_ready (rs := [5]) (by kernel_rfl) (by simp) ?_
        refine AllReadyH.cons (o := _) rfl (fun K hK => ?_) AllReadyH.nil
        go_simp
        go_at_call 106
        refine Calls.mono (cE _) ?_
        rintro e v1 ⟨rfl, hb⟩
        have hs1 := hb.size
        try simp at hs1
        have hk1 := HKP.out _ _ hb (Nat.le_refl _) hHeld
        have hz1 : wr.heap.size ≤ v1.heap.size := by omega
        have HF1 := Lib.hid (show Below w.heap.size w v1 from Below.trans HBw.out.drew (hb.mono (by have := HBw.out.size; first | omega | (simp; omega))))
        have HK1 := Lib.hid (show Below (w.heap.size + 1) A v1 from Below.trans HBk.out.drew (hb.mono (by first | omega | (simp; omega))))
        clear hb
        clear hHeld
        refine hK.out _ _ hk1 (fun hHeld => ?_)
        clear hK K
        try simp only [Act.put, List.setIfInBounds_toArray, List.set_cons_zero, List.set_cons_succ, List.getElem_toArray, List.getElem_cons_succ, List.getElem_cons_zero]
        refine wpAnyH_take (i := 6) (oi := _) (v := Value.bool false) rfl (by kernel_rfl) (by kernel_rfl) (by kernel_rfl) (fun _ _ _ h => h) (Or.inl ⟨by rfl, fun w' hSw => ?_⟩) hHeld ?_
        · obtain ⟨t0, t1, t2, t3, t4, t5, t6⟩ := hSw
          go_simp
          try simp [*]
          try (intro hh; exfalso; omega)
          try omega
        try simp only [Act.put, List.setIfInBounds_toArray, List.set_cons_zero, List.set_cons_succ, List.getElem_toArray, List.getElem_cons_succ, List.getElem_cons_zero]
        refine wpAnyH_take (i := 7) (oi := _) (v := Value.bool false) rfl (by kernel_rfl) (by kernel_rfl) (by kernel_rfl) (fun _ _ _ h => h) (Or.inl ⟨by rfl, fun w' hSw => ?_⟩) hHeld ?_
        · obtain ⟨t0, t1, t2, t3, t4, t5, t6⟩ := hSw
          go_simp
          try simp [*]
          try (intro hh; exfalso; omega)
          try omega
        try simp only [Act.put, List.setIfInBounds_toArray, List.set_cons_zero, List.set_cons_succ, List.getElem_toArray, List.getElem_cons_succ, List.getElem_cons_zero]
        refine wpAnyH_take (i := 8) (oi := _) (v := Value.slice (some ⟨b, off, none⟩) len cap2) rfl (by kernel_rfl) (by kernel_rfl) (by kernel_rfl) (fun _ _ _ h => h) (Or.inl ⟨by rfl, fun w' hSw => ?_⟩) hHeld ?_
        · obtain ⟨t0, t1, t2, t3, t4, t5, t6⟩ := hSw
          go_simp
          try simp [*]
          try (intro hh; exfalso; omega)
          try omega
        try simp only [Act.put, List.setIfInBounds_toArray, List.set_cons_zero, List.set_cons_succ, List.getElem_toArray, List.getElem_cons_succ, List.getElem_cons_zero]
        refine wpAnyH_take (i := 9) (oi := _) (v := Value.int .i64 k) rfl (by kernel_rfl) (by kernel_rfl) (by kernel_rfl) (fun _ _ _ h => h) (Or.inl ⟨by rfl, fun w' hSw => ?_⟩) hHeld ?_
        · obtain ⟨t0, t1, t2, t3, t4, t5, t6⟩ := hSw
          go_simp
          try simp [*]
          try (intro hh; exfalso; omega)
          try omega
        try simp only [Act.put, List.setIfInBounds_toArray, List.set_cons_zero, List.set_cons_succ, List.getElem_toArray, List.getElem_cons_succ, List.getElem_cons_zero]
        refine wpAnyH_take (i := 10) (oi := _) (v := Value.pointer (some ⟨b, off + k * 5, none⟩)) rfl (by kernel_rfl) (by kernel_rfl) (by kernel_rfl) (fun _ _ _ h => h) (Or.inl ⟨by rfl, fun w' hSw => ?_⟩) hHeld ?_
        · obtain ⟨t0, t1, t2, t3, t4, t5, t6⟩ := hSw
          go_simp
          try simp [*]
          try (intro hh; exfalso; omega)
          try omega
        try simp only [Act.put, List.setIfInBounds_toArray, List.set_cons_zero, List.set_cons_succ, List.getElem_toArray, List.getElem_cons_succ, List.getElem_cons_zero]
        refine wpAnyH_take (i := 11) (oi := _) (v := Value.pointer (some ⟨b, off + k * 5 + 2, none⟩)) rfl (by kernel_rfl) (by kernel_rfl) (by kernel_rfl) (fun _ _ _ h => h) (Or.inl ⟨by rfl, fun w' hSw => ?_⟩) hHeld ?_
        · obtain ⟨t0, t1, t2, t3, t4, t5, t6⟩ := hSw
          go_simp
          try simp [*]
          try (intro hh; exfalso; omega)
          try omega
        try simp only [Act.put, List.setIfInBounds_toArray, List.set_cons_zero, List.set_cons_succ, List.getElem_toArray, List.getElem_cons_succ, List.getElem_cons_zero]
        refine wpAnyH_take (i := 12) (oi := _) (v := Value.agg #[Value.int .i64 x2, Value.int .i64 x3]) rfl (by kernel_rfl) (by kernel_rfl) (by kernel_rfl) (fun _ _ _ h => h) (Or.inl ⟨by rfl, fun w' hSw => ?_⟩) hHeld ?_
        · obtain ⟨t0, t1, t2, t3, t4, t5, t6⟩ := hSw
          go_simp
          try simp [*]
          try (intro hh; exfalso; omega)
          try omega
        try simp only [Act.put, List.setIfInBounds_toArray, List.set_cons_zero, List.set_cons_succ, List.getElem_toArray, List.getElem_cons_succ, List.getElem_cons_zero]
        refine wpAnyH_ready (rs := [13]) (by kernel_rfl) (by simp) ?_
        refine AllReadyH.cons (o := _) rfl (fun K hK => ?_) AllReadyH.nil
        go_simp
        go_at_call 106
        refine Calls.mono (cN _) ?_
        rintro e v2 ⟨rfl, hb⟩
        have hs2 := hb.size
        try simp at hs2
        have hk2 := HKP.out _ _ hb (hz1) hHeld
        have hz2 : wr.heap.size ≤ v2.heap.size := by omega
        have HF2 := Lib.hid (show Below w.heap.size w v2 from Below.trans HF1.out (hb.mono (by have := HBw.out.size; first | omega | (simp; omega))))
        have HK2 := Lib.hid (show Below (w.heap.size + 1) A v2 from Below.trans HK1.out (hb.mono (by first | omega | (simp; omega))))
        clear hb
        clear hHeld
        refine hK.out _ _ hk2 (fun hHeld => ?_)
        clear hK K
        try simp only [Act.put, List.setIfInBounds_toArray, List.set_cons_zero, List.set_cons_succ, List.getElem_toArray, List.getElem_cons_succ, List.getElem_cons_zero]
        refine wpAnyH_take (i := 14) (oi := _) (v := Value.bool false) rfl (by kernel_rfl) (by kernel_rfl) (by kernel_rfl) (fun _ _ _ h => h) (Or.inl ⟨by rfl, fun w' hSw => ?_⟩) hHeld ?_
        · obtain ⟨t0, t1, t2, t3, t4, t5, t6⟩ := hSw
          go_simp
          try simp [*]
          try (intro hh; exfalso; omega)
          try omega
        try simp only [Act.put, List.setIfInBounds_toArray, List.set_cons_zero, List.set_cons_succ, List.getElem_toArray, List.getElem_cons_succ, List.getElem_cons_zero]
        refine wpAnyH_take (i := 15) (oi := _) (v := Value.bool false) rfl (by kernel_rfl) (by kernel_rfl) (by kernel_rfl) (fun _ _ _ h => h) (Or.inl ⟨by rfl, fun w' hSw => ?_⟩) hHeld ?_
        · obtain ⟨t0, t1, t2, t3, t4, t5, t6⟩ := hSw
          go_simp
          try simp [*]
          try (intro hh; exfalso; omega)
          try omega
        try simp only [Act.put, List.setIfInBounds_toArray, List.set_cons_zero, List.set_cons_succ, List.getElem_toArray, List.getElem_cons_succ, List.getElem_cons_zero]
        refine wpAnyH_take (i := 16) (oi := _) (v := Value.bool false) rfl (by kernel_rfl) (by kernel_rfl) (by kernel_rfl) (fun _ _ _ h => h) (Or.inl ⟨by rfl, fun w' hSw => ?_⟩) hHeld ?_
        · obtain ⟨t0, t1, t2, t3, t4, t5, t6⟩ := hSw
          go_simp
          try simp [*]
          try (intro hh; exfalso; omega)
          try omega
        try simp only [Act.put, List.setIfInBounds_toArray, List.set_cons_zero, List.set_cons_succ, List.getElem_toArray, List.getElem_cons_succ, List.getElem_cons_zero]
        refine wpAnyH_take (i := 17) (oi := _) (v := Value.agg #[Value.int .i64 wd, Value.int .i64 hg]) rfl (by kernel_rfl) (by kernel_rfl) (by kernel_rfl) (fun _ _ _ h => h) (Or.inl ⟨by rfl, fun w' hSw => ?_⟩) hHeld ?_
        · obtain ⟨t0, t1, t2, t3, t4, t5, t6⟩ := hSw
          go_simp
          try simp [*]
          try (intro hh; exfalso; omega)
          try omega
        try simp only [Act.put, List.setIfInBounds_toArray, List.set_cons_zero, List.set_cons_succ, List.getElem_toArray, List.getElem_cons_succ, List.getElem_cons_zero]
        refine wpAnyH_take (i := 18) (oi := _) (v := Value.slice (some ⟨b, off, none⟩) len cap2) rfl (by kernel_rfl) (by kernel_rfl) (by kernel_rfl) (fun _ _ _ h => h) (Or.inl ⟨by rfl, fun w' hSw => ?_⟩) hHeld ?_
        · obtain ⟨t0, t1, t2, t3, t4, t5, t6⟩ := hSw
          go_simp
          try simp [*]
          try (intro hh; exfalso; omega)
          try omega
        try simp only [Act.put, List.setIfInBounds_toArray, List.set_cons_zero, List.set_cons_succ, List.getElem_toArray, List.getElem_cons_succ, List.getElem_cons_zero]
        refine wpAnyH_take (i := 19) (oi := _) (v := Value.int .i64 k) rfl (by kernel_rfl) (by kernel_rfl) (by kernel_rfl) (fun _ _ _ h => h) (Or.inl ⟨by rfl, fun w' hSw => ?_⟩) hHeld ?_
        · obtain ⟨t0, t1, t2, t3, t4, t5, t6⟩ := hSw
          go_simp
          try simp [*]
          try (intro hh; exfalso; omega)
          try omega
        try simp only [Act.put, List.setIfInBounds_toArray, List.set_cons_zero, List.set_cons_succ, List.getElem_toArray, List.getElem_cons_succ, List.getElem_cons_zero]
        refine wpAnyH_take (i := 20) (oi := _) (v := Value.pointer (some ⟨b, off + k * 5, none⟩)) rfl (by kernel_rfl) (by kernel_rfl) (by kernel_rfl) (fun _ _ _ h => h) (Or.inl ⟨by rfl, fun w' hSw => ?_⟩) hHeld ?_
        · obtain ⟨t0, t1, t2, t3, t4, t5, t6⟩ := hSw
          go_simp
          try simp [*]
          try (intro hh; exfalso; omega)
          try omega
        try simp only [Act.put, List.setIfInBounds_toArray, List.set_cons_zero, List.set_cons_succ, List.getElem_toArray, List.getElem_cons_succ, List.getElem_cons_zero]
        refine wpAnyH_take (i := 21) (oi := _) (v := Value.pointer (some ⟨b, off + k * 5 + 4, none⟩)) rfl (by kernel_rfl) (by kernel_rfl) (by kernel_rfl) (fun _ _ _ h => h) (Or.inl ⟨by rfl, fun w' hSw => ?_⟩) hHeld ?_
        · obtain ⟨t0, t1, t2, t3, t4, t5, t6⟩ := hSw
          go_simp
          try simp [*]
          try (intro hh; exfalso; omega)
          try omega
        try simp only [Act.put, List.setIfInBounds_toArray, List.set_cons_zero, List.set_cons_succ, List.getElem_toArray, List.getElem_cons_succ, List.getElem_cons_zero]
        refine wpAnyH_take (i := 22) (oi := _) (v := Value.slice asl sl csl) rfl (by kernel_rfl) (by kernel_rfl) (by kernel_rfl) (fun _ _ _ h => h) (Or.inl ⟨by rfl, fun w' hSw => ?_⟩) hHeld ?_
        · obtain ⟨t0, t1, t2, t3, t4, t5, t6⟩ := hSw
          go_simp
          try simp [*]
          try (intro hh; exfalso; omega)
          try omega
        try simp only [Act.put, List.setIfInBounds_toArray, List.set_cons_zero, List.set_cons_succ, List.getElem_toArray, List.getElem_cons_succ, List.getElem_cons_zero]
        refine wpAnyH_ready (rs := [23]) (by kernel_rfl) (by simp) ?_
        refine AllReadyH.cons (o := _) rfl (fun K hK => ?_) AllReadyH.nil
        go_simp
        go_at_call 107
        refine Calls.mono (HSE.out _ HF2.out) ?_
        rintro e v3 ⟨rfl, hb⟩
        have hs3 := hb.size
        try simp at hs3
        have hk3 := HKP.out _ _ hb (hz2) hHeld
        have hz3 : wr.heap.size ≤ v3.heap.size := by omega
        have HF3 := Lib.hid (show Below w.heap.size w v3 from Below.trans HF2.out (hb.mono (by have := HBw.out.size; first | omega | (simp; omega))))
        have HK3 := Lib.hid (show Below (w.heap.size + 1) A v3 from Below.trans HK2.out (hb.mono (by first | omega | (simp; omega))))
        clear hb
        clear hHeld
        refine hK.out _ _ hk3 (fun hHeld => ?_)
        clear hK K
        try simp only [Act.put, List.setIfInBounds_toArray, List.set_cons_zero, List.set_cons_succ, List.getElem_toArray, List.getElem_cons_succ, List.getElem_cons_zero]
        refine wpAnyH_take (i := 24) (oi := _) (v := Value.bool false) rfl (by kernel_rfl) (by kernel_rfl) (by kernel_rfl) (fun _ _ _ h => h) (Or.inl ⟨by rfl, fun w' hSw => ?_⟩) hHeld ?_
        · obtain ⟨t0, t1, t2, t3, t4, t5, t6⟩ := hSw
          go_simp
          try simp [*]
          try (intro hh; exfalso; omega)
          try omega
        try simp only [Act.put, List.setIfInBounds_toArray, List.set_cons_zero, List.set_cons_succ, List.getElem_toArray, List.getElem_cons_succ, List.getElem_cons_zero]
        refine wpAnyH_take (i := 25) (oi := _) (v := Value.bool false) rfl (by kernel_rfl) (by kernel_rfl) (by kernel_rfl) (fun _ _ _ h => h) (Or.inl ⟨by rfl, fun w' hSw => ?_⟩) hHeld ?_
        · obtain ⟨t0, t1, t2, t3, t4, t5, t6⟩ := hSw
          go_simp
          try simp [*]
          try (intro hh; exfalso; omega)
          try omega
        try simp only [Act.put, List.setIfInBounds_toArray, List.set_cons_zero, List.set_cons_succ, List.getElem_toArray, List.getElem_cons_succ, List.getElem_cons_zero]
        refine wpAnyH_done (by kernel_rfl) ?_ _
        clear hHeld
        go_wp2_with fail
        go_roundw
        case rel => exact ⟨k + 1, by omega, by go_num, HK3.out, fun j hj => by
          rcases Nat.lt_or_ge j k with g | g
          · exact HALL.out j g
          · obtain rfl : j = k := by omega
            exact HG.out⟩
        case measure => simp [intOf]; omega
    · obtain rfl : k = len := by omega
      have hall2 := HOK.out HALL.out
      rw [hall2, if_pos rfl] at HE2
      have HBw2 := Lib.hid HBw.out
      cases hst : areB (wd * hg) st
      · rw [hst] at c107
        obtain rfl : E = 2 := by rw [HE2.out, if_pos hst]
        clear HE2 HOK HBAD HC HL2 KK HALL hall2 hst
        go_wp2_with fail
        refine (c107 _ HBw.out).mono ?_
        rintro e w5 ⟨rfl, hb⟩
        have HB5 := Lib.hid (HBw.out.trans (hb.mono HBw.out.size))
        clear hb c107 k0 k1
        go_wp2_with fail
        go_ret
        exact ⟨rfl, HB5.out⟩
      · rw [hst] at c107
        obtain rfl : E = 0 := by rw [HE2.out, if_neg (by rw [hst]; decide)]
        clear HE2 HOK HBAD HC HL2 KK HALL hall2 hst
        go_wp2_with fail
        refine (c107 _ HBw.out).mono ?_
        rintro e w5 ⟨rfl, hb⟩
        have HB5 := Lib.hid (HBw.out.trans (hb.mono HBw.out.size))
        clear hb c107 k0 k1
        go_wp2_with fail
        go_ret
        exact ⟨rfl, HB5.out⟩
end Go.Proofs.Ythogahdnidjelaa
namespace Go.Proofs.Ythogahdnidjelaa
open Go.RowKit Go.Shelf
set_option linter.unusedSimpArgs false
/-- what the reference's Drift does with an hour that is valid -/
def RDrift (wd hg : Int) (n : Nat) : Prop := ∀ (F : Nat) (bs : List Bool) (h : Hr) (s : Value) (W : World), bs.length = n → BB W F bs → Nums W.heap.size W s h.se → hrOk wd hg h = true →
  Calls Try.prog 88 #[.agg #[.int .i64 wd, .int .i64 hg], .slice (some ⟨F, 0, none⟩) n n, .agg #[.int .i64 h.eLo, .int .i64 h.eHi, .int .i64 h.nLo, .int .i64 h.nHi, s]] W fun e w' => ∃ B, e = .returned (.tuple #[.slice (some ⟨B, 0, none⟩) n n, .bool (leftB wd hg h bs)]) ∧ BB w' B (nextB wd hg h bs) ∧ Below W.heap.size W w'
theorem seaE_ok {wd hg : Int} {st : List Int} {hs : List Hr} (h : seaE wd hg st hs = 0) : hs.length ≤ 48 ∧ (1 ≤ wd ∧ wd ≤ 24) ∧ (1 ≤ hg ∧ hg ≤ 24) ∧ areB (wd * hg) st = true ∧ ∀ k, k < hs.length → hrOk wd hg (hr hs k) = true := by
  unfold seaE at h
  split at h
  · exact absurd h (by decide)
  split at h
  · exact absurd h (by decide)
  split at h
  · exact absurd h (by decide)
  split at h
  · exact absurd h (by decide)
  split at h
  · rename_i h1 h2 h3 h4 h5
    refine ⟨by omega, (btw_iff _ _ _).1 (by cases g : btw 1 wd 24 <;> simp_all), (btw_iff _ _ _).1 (by cases g : btw 1 hg 24 <;> simp_all), by cases g : areB (wd * hg) st <;> simp_all, fun k hk => ?_⟩
    unfold hr
    rw [List.getElem?_eq_getElem hk, Option.getD_some]
    exact List.all_eq_true.1 h5 _ (List.getElem_mem hk)
  · exact absurd h (by decide)
set_option maxRecDepth 100000 in
set_option maxHeartbeats 8000000 in
theorem rwhere_of (wd hg : Int) (st : List Int) (hs : List Hr) (n : Nat) (hD : seaE wd hg st hs = 0 → RDrift wd hg n) (hn : seaE wd hg st hs = 0 → wd * hg = (n : Int)) (sv hv : Value) (hl1 : st.length ≤ 2147483649) (hl2 : ∀ k, k < hs.length → (hr hs k).se.length ≤ 2147483649) (w : World) (hI : Nums w.heap.size w sv st) (hH : Hrs w.heap.size w hv hs) :
    Calls Try.prog 42 #[.agg #[.int .i64 wd, .int .i64 hg], sv, hv] w fun e w' => ∃ v, e = .returned (.tuple #[v, .bool (if seaE wd hg st hs = 0 then stL wd hg (mkL n st st.length) hs hs.length else false), .int .i64 (seaE wd hg st hs)]) ∧
      Nums w'.heap.size w' v (if seaE wd hg st hs = 0 then trL (stB wd hg (mkL n st st.length) hs hs.length) n else []) ∧ Below w.heap.size w w' := by
  have c86 := fun W (hb : Below w.heap.size w W) => rsearch_any wd hg sv hv st hs hl1 hl2 W (hI.at hb) (hH.at hb)
  have HOK := Lib.hid (fun h => seaE_ok (wd := wd) (hg := hg) (st := st) (hs := hs) h)
  have HI := Lib.hid hI
  have HH := Lib.hid hH
  obtain ⟨a, cap, rfl, -, -⟩ := hI
  obtain ⟨a2, cap2, rfl, -, -⟩ := hH
  generalize hE : seaE wd hg st hs = E at *
  have HA := Lib.hid (show Below w.heap.size w (w.alloc (.cells #[.int .i64 wd, .int .i64 hg] 54)) from (Below.refl _ _).alloc (Nat.le_refl _) _)
  by_cases h0 : E = 0
  rotate_left
  · rw [if_neg h0, if_neg h0]
    have hb : (E != 0) = true := by simpa using h0
    clear HOK HI HH hn hD hE h0
    generalize st.length = l1 at *
    generalize hs.length = l2 at *
    go_enter Try.func42, Try.ntmps42
    go_wp2_with fail
    refine (c86 _ HA.out).mono ?_
    rintro e w1 ⟨rfl, hb1⟩
    have HB1 := Lib.hid (HA.out.trans (hb1.mono (by simp)))
    clear hb1 c86
    go_wp2_with fail
    refine bodyPost_ret (v := .tuple #[.slice none 0 0, .bool false, .int .i64 E]) (by simp [results, Try.results42, go_sem]) rfl ⟨_, rfl, nums_nil _ _, HB1.out⟩
  subst h0
  rw [if_pos rfl, if_pos rfl]
  obtain ⟨h48, hw, hh, har, hok⟩ := HOK.out rfl
  have hn' := hn rfl
  have hn576 : n ≤ 576 := by
    have a := Int.mul_le_mul hw.2 hh.2 (by omega) (by omega)
    omega
  have HOKK := Lib.hid hok
  have HMA := Lib.hid (fun W (hb : Below w.heap.size w W) => marked_any wd hg n hw hh hn' _ st hl1 har W (HI.out.at hb))
  have HNU := Lib.hid (fun B (bs : List Bool) (hb : bs.length = n) W hS => show _ from (rnumbers_any B bs (by omega) W hS))
  have HSL := Lib.hid (fun k => (stB_len wd hg (mkL n st st.length) hs k).trans (mkL_len n st st.length))
  have HB0 := Lib.hid (show stB wd hg (mkL n st st.length) hs 0 = mkL n st st.length from rfl)
  have HSB := Lib.hid (fun k => show stB wd hg (mkL n st st.length) hs (k + 1) = nextB wd hg (hr hs k) (stB wd hg (mkL n st st.length) hs k) from rfl)
  have HST := Lib.hid (fun k => show stL wd hg (mkL n st st.length) hs (k + 1) = (stL wd hg (mkL n st st.length) hs k || leftB wd hg (hr hs k) (stB wd hg (mkL n st st.length) hs k)) from rfl)
  have HD := Lib.hid (hD rfl)
  clear HOK hok har hw hh hn hn' hE hD HI
  generalize mkL n st st.length = b0 at *
  generalize st.length = l1 at *
  have HHL := Lib.hid (show hs.length = hs.length from rfl)
  generalize hlen : hs.length = len at *
  have HLEN := Lib.hid hlen
  clear hlen HHL
  obtain ⟨A, hA⟩ : ∃ A, A = w.alloc (.cells #[.int .i64 wd, .int .i64 hg] 54) := ⟨_, rfl⟩
  have hzA : A.heap.size = w.heap.size + 1 := by rw [hA]; simp
  have KK := Lib.hid (show ∀ W, Below (w.heap.size + 1) A W → W.cell? ⟨w.heap.size, 0, none⟩ = some (.int .i64 wd) ∧ W.cell? ⟨w.heap.size, 1, none⟩ = some (.int .i64 hg) from fun W h => by
    refine ⟨(h.cell (p := ⟨w.heap.size, 0, none⟩) (Nat.lt_succ_self _)).trans ?_, (h.cell (p := ⟨w.heap.size, 1, none⟩) (Nat.lt_succ_self _)).trans ?_⟩ <;> (rw [hA]; simp [go_sem]))
  have HBA := Lib.hid (show ∀ W, Below (w.heap.size + 1) A W → Below w.heap.size w W from fun W h => by
    have e : Below w.heap.size w A := by rw [hA]; exact (Below.refl _ _).alloc (Nat.le_refl _) _
    exact e.trans (h.mono (Nat.le_succ _)))
  go_enter Try.func42, Try.ntmps42
  go_wp2_with fail
  try rw [← hA]
  clear hA HA
  refine (c86 _ (HBA.out _ (Below.refl _ _))).mono ?_
  rintro e w1 ⟨rfl, hb⟩
  have hB1 : Below (w.heap.size + 1) A w1 := hb.mono (by omega)
  clear hb c86
  obtain ⟨k0, k1⟩ := KK.out _ hB1
  go_wp2_with fail
  refine (HMA.out _ (HBA.out _ hB1)).mono ?_
  rintro e w2 ⟨B, rfl, hS, -, hb⟩
  have hB2 : Below (w.heap.size + 1) A w2 := hB1.trans (hb.mono (by have := hB1.size; omega))
  have HB2 := Lib.hid hB2
  have HS := Lib.hid hS
  have hs2 := hB2.size
  rw [hzA] at hs2
  clear hb hB1 k0 k1 hS hB2 HMA
  go_wp2_with fail
  go_loopw [10, 11, 12] (fun at_ left i wr => ∃ (k B : Nat), k ≤ len ∧ i = .int .i64 k ∧ at_ = .slice (some ⟨B, 0, none⟩) n n ∧ left = .bool (stL wd hg b0 hs k) ∧ BB wr B (stB wd hg b0 hs k) ∧ Below (w.heap.size + 1) A wr) (fun _ _ i _ => len - (intOf i).toNat)
  case atStart => exact ⟨0, B, Nat.zero_le _, rfl, rfl, rfl, HS.out, HB2.out⟩
  case round =>
    obtain ⟨k, F, hk, rfl, rfl, rfl, hS, hBr⟩ := hrel
    obtain ⟨k0, k1⟩ := KK.out _ hBr
    have HBw := Lib.hid (HBA.out _ hBr)
    have HBk := Lib.hid hBr
    have HSk := Lib.hid hS
    have hsr := hBr.size
    rw [hzA] at hsr
    clear hBr hS
    by_cases hlt : k < len
    · obtain ⟨a9, c9, e9, -, hcc⟩ := HH.out
      rw [HLEN.out] at e9
      simp only [Value.slice.injEq, true_and] at e9
      obtain ⟨rfl, rfl⟩ := e9
      obtain ⟨b, off, s, rfl, hb, e0, e1, e2, e3, e4, hnm⟩ := hcc k (by rw [HLEN.out]; exact hlt)
      have hki : (k : Int) < (len : Int) := by omega
      have m0 := (HBw.out.cell (p := ⟨b, off + k * 5, none⟩) hb).trans e0
      have m1 := (HBw.out.cell (p := ⟨b, off + k * 5 + 1, none⟩) hb).trans e1
      have m2 := (HBw.out.cell (p := ⟨b, off + k * 5 + 2, none⟩) hb).trans e2
      have m3 := (HBw.out.cell (p := ⟨b, off + k * 5 + 3, none⟩) hb).trans e3
      have m4 := (HBw.out.cell (p := ⟨b, off + k * 5 + 4, none⟩) hb).trans e4
      have HC := Lib.hid (HD.out F (stB wd hg b0 hs k) (hr hs k) s wr.drew (HSL.out k) HSk.out (hnm.mono HBw.out.drew HBw.out.size) (HOKK.out k hlt))
      obtain ⟨asl, csl, hse⟩ := hnm.form
      subst hse
      clear e0 e1 e2 e3 e4 hnm hcc
      generalize (hr hs k).se.length = sl at *
      generalize (hr hs k).eLo = x0 at *
      generalize (hr hs k).eHi = x1 at *
      generalize (hr hs k).nLo = x2 at *
      generalize (hr hs k).nHi = x3 at *
      have hst := HST.out k
      have HSB1 := Lib.hid (HSB.out k)
      generalize leftB wd hg (hr hs k) (stB wd hg b0 hs k) = lf at *
      generalize nextB wd hg (hr hs k) (stB wd hg b0 hs k) = nb at *
      generalize hl0 : stL wd hg b0 hs k = l0 at *
      have HST1 := Lib.hid hst
      clear hst hl0
      go_wp2_with fail
      refine wp_region_held_drew (S := fun w' => w'.cell? ⟨b, off + k * 5, none⟩ = some (.int .i64 x0) ∧ w'.cell? ⟨b, off + k * 5 + 1, none⟩ = some (.int .i64 x1) ∧ w'.cell? ⟨b, off + k * 5 + 2, none⟩ = some (.int .i64 x2) ∧ w'.cell? ⟨b, off + k * 5 + 3, none⟩ = some (.int .i64 x3) ∧ w'.cell? ⟨b, off + k * 5 + 4, none⟩ = some (.slice asl sl csl) ∧ w'.cell? ⟨w.heap.size, 0, none⟩ = some (.int .i64 wd) ∧ w'.cell? ⟨w.heap.size, 1, none⟩ = some (.int .i64 hg)) (by kernel_rfl) ⟨by simpa [go_sem] using m0, by simpa [go_sem] using m1, by simpa [go_sem] using m2, by simpa [go_sem] using m3, by simpa [go_sem] using m4, by simpa [go_sem] using k0, by simpa [go_sem] using k1⟩ (fun hHeld => ?_)
      refine wpAnyH_take (i := 0) (oi := _) (v := Value.agg #[Value.int .i64 wd, Value.int .i64 hg]) rfl (by kernel_rfl) (by kernel_rfl) (by kernel_rfl) (fun _ _ _ h => h) (Or.inl ⟨by rfl, fun w' hSw => ?_⟩) hHeld ?_
      · obtain ⟨t0, t1, t2, t3, t4, t5, t6⟩ := hSw
        go_simp
        try simp [*]
        try (intro hh; exfalso; omega)
        try omega
      try simp only [Act.put, List.setIfInBounds_toArray, List.set_cons_zero, List.set_cons_succ, List.getElem_toArray, List.getElem_cons_succ, List.getElem_cons_zero]
      refine wpAnyH_take (i := 1) (oi := _) (v := Value.slice (some ⟨F, 0, none⟩) n n) rfl (by kernel_rfl) (by kernel_rfl) (by kernel_rfl) (fun _ _ _ h => h) (Or.inl ⟨by rfl, fun w' hSw => ?_⟩) hHeld ?_
      · obtain ⟨t0, t1, t2, t3, t4, t5, t6⟩ := hSw
        go_simp
        try simp [*]
        try (intro hh; exfalso; omega)
        try omega
      try simp only [Act.put, List.setIfInBounds_toArray, List.set_cons_zero, List.set_cons_succ, List.getElem_toArray, List.getElem_cons_succ, List.getElem_cons_zero]
      refine wpAnyH_take (i := 2) (oi := _) (v := Value.slice (some ⟨b, off, none⟩) len cap2) rfl (by kernel_rfl) (by kernel_rfl) (by kernel_rfl) (fun _ _ _ h => h) (Or.inl ⟨by rfl, fun w' hSw => ?_⟩) hHeld ?_
      · obtain ⟨t0, t1, t2, t3, t4, t5, t6⟩ := hSw
        go_simp
        try simp [*]
        try (intro hh; exfalso; omega)
        try omega
      try simp only [Act.put, List.setIfInBounds_toArray, List.set_cons_zero, List.set_cons_succ, List.getElem_toArray, List.getElem_cons_succ, List.getElem_cons_zero]
      refine wpAnyH_take (i := 3) (oi := _) (v := Value.int .i64 k) rfl (by kernel_rfl) (by kernel_rfl) (by kernel_rfl) (fun _ _ _ h => h) (Or.inl ⟨by rfl, fun w' hSw => ?_⟩) hHeld ?_
      · obtain ⟨t0, t1, t2, t3, t4, t5, t6⟩ := hSw
        go_simp
        try simp [*]
        try (intro hh; exfalso; omega)
        try omega
      try simp only [Act.put, List.setIfInBounds_toArray, List.set_cons_zero, List.set_cons_succ, List.getElem_toArray, List.getElem_cons_succ, List.getElem_cons_zero]
      refine wpAnyH_take (i := 4) (oi := _) (v := Value.pointer (some ⟨b, off + k * 5, none⟩)) rfl (by kernel_rfl) (by kernel_rfl) (by kernel_rfl) (fun _ _ _ h => h) (Or.inl ⟨by rfl, fun w' hSw => ?_⟩) hHeld ?_
      · obtain ⟨t0, t1, t2, t3, t4, t5, t6⟩ := hSw
        go_simp
        try simp [*]
        try (intro hh; exfalso; omega)
        try omega
      try simp only [Act.put, List.setIfInBounds_toArray, List.set_cons_zero, List.set_cons_succ, List.getElem_toArray, List.getElem_cons_succ, List.getElem_cons_zero]
      refine wpAnyH_take (i := 5) (oi := _) (v := Value.agg #[Value.int .i64 x0, Value.int .i64 x1, Value.int .i64 x2, Value.int .i64 x3, Value.slice asl sl csl]) rfl (by kernel_rfl) (by kernel_rfl) (by kernel_rfl) (fun _ _ _ h => h) (Or.inl ⟨by rfl, fun w' hSw => ?_⟩) hHeld ?_
      · obtain ⟨t0, t1, t2, t3, t4, t5, t6⟩ := hSw
        go_simp
        try simp [*]
        try (intro hh; exfalso; omega)
        try omega
      try simp only [Act.put, List.setIfInBounds_toArray, List.set_cons_zero, List.set_cons_succ, List.getElem_toArray, List.getElem_cons_succ, List.getElem_cons_zero]
      refine wpAnyH_ready (rs := [6]) (by kernel_rfl) (by simp) ?_
      refine AllReadyH.cons (o := _) rfl (fun K hK => ?_) AllReadyH.nil
      go_simp
      go_at_call 88
      refine Calls.mono HC.out ?_
      rintro e v1 ⟨B', rfl, hS1, hb1⟩
      have HSN := Lib.hid hS1
      have HBn := Lib.hid (show Below (w.heap.size + 1) A v1 from Below.trans HBk.out.drew (hb1.mono (by simp; omega)))
      have u0 := (hb1.cell (p := ⟨b, off + k * 5, none⟩) (by first | (simp; omega) | (have := HBw.out.size; simp; omega))).trans (show wr.drew.cell? ⟨b, off + k * 5, none⟩ = some (.int .i64 x0) from m0)
      have u1 := (hb1.cell (p := ⟨b, off + k * 5 + 1, none⟩) (by first | (simp; omega) | (have := HBw.out.size; simp; omega))).trans (show wr.drew.cell? ⟨b, off + k * 5 + 1, none⟩ = some (.int .i64 x1) from m1)
      have u2 := (hb1.cell (p := ⟨b, off + k * 5 + 2, none⟩) (by first | (simp; omega) | (have := HBw.out.size; simp; omega))).trans (show wr.drew.cell? ⟨b, off + k * 5 + 2, none⟩ = some (.int .i64 x2) from m2)
      have u3 := (hb1.cell (p := ⟨b, off + k * 5 + 3, none⟩) (by first | (simp; omega) | (have := HBw.out.size; simp; omega))).trans (show wr.drew.cell? ⟨b, off + k * 5 + 3, none⟩ = some (.int .i64 x3) from m3)
      have u4 := (hb1.cell (p := ⟨b, off + k * 5 + 4, none⟩) (by first | (simp; omega) | (have := HBw.out.size; simp; omega))).trans (show wr.drew.cell? ⟨b, off + k * 5 + 4, none⟩ = some (.slice asl sl csl) from m4)
      have u5 := (hb1.cell (p := ⟨w.heap.size, 0, none⟩) (by first | (simp; omega) | (have := HBw.out.size; simp; omega))).trans (show wr.drew.cell? ⟨w.heap.size, 0, none⟩ = some (.int .i64 wd) from k0)
      have u6 := (hb1.cell (p := ⟨w.heap.size, 1, none⟩) (by first | (simp; omega) | (have := HBw.out.size; simp; omega))).trans (show wr.drew.cell? ⟨w.heap.size, 1, none⟩ = some (.int .i64 hg) from k1)
      clear hb1 hS1
      clear hHeld
      refine hK.out _ _ ⟨u0, u1, u2, u3, u4, u5, u6⟩ (fun hHeld => ?_)
      clear hK K
      try simp only [Act.put, List.setIfInBounds_toArray, List.set_cons_zero, List.set_cons_succ, List.getElem_toArray, List.getElem_cons_succ, List.getElem_cons_zero]
      refine wpAnyH_take (i := 7) (oi := _) (v := Value.tuple #[.slice (some ⟨B', 0, none⟩) n n, .bool lf]) rfl (by kernel_rfl) (by kernel_rfl) (by kernel_rfl) (fun _ _ _ h => h) (Or.inl ⟨by rfl, fun w' hSw => ?_⟩) hHeld ?_
      · obtain ⟨t0, t1, t2, t3, t4, t5, t6⟩ := hSw
        go_simp
        try simp [*]
        try (intro hh; exfalso; omega)
        try omega
      try simp only [Act.put, List.setIfInBounds_toArray, List.set_cons_zero, List.set_cons_succ, List.getElem_toArray, List.getElem_cons_succ, List.getElem_cons_zero]
      refine wpAnyH_take (i := 8) (oi := _) (v := .slice (some ⟨B', 0, none⟩) n n) rfl (by kernel_rfl) (by kernel_rfl) (by kernel_rfl) (fun _ _ _ h => h) (Or.inl ⟨by rfl, fun w' hSw => ?_⟩) hHeld ?_
      · obtain ⟨t0, t1, t2, t3, t4, t5, t6⟩ := hSw
        go_simp
        try simp [*]
        try (intro hh; exfalso; omega)
        try omega
      try simp only [Act.put, List.setIfInBounds_toArray, List.set_cons_zero, List.set_cons_succ, List.getElem_toArray, List.getElem_cons_succ, List.getElem_cons_zero]
      refine wpAnyH_take (i := 9) (oi := _) (v := .bool lf) rfl (by kernel_rfl) (by kernel_rfl) (by kernel_rfl) (fun _ _ _ h => h) (Or.inl ⟨by rfl, fun w' hSw => ?_⟩) hHeld ?_
      · obtain ⟨t0, t1, t2, t3, t4, t5, t6⟩ := hSw
        go_simp
        try simp [*]
        try (intro hh; exfalso; omega)
        try omega
      try simp only [Act.put, List.setIfInBounds_toArray, List.set_cons_zero, List.set_cons_succ, List.getElem_toArray, List.getElem_cons_succ, List.getElem_cons_zero]
      refine wpAnyH_take (i := 10) (oi := _) (v := .slice (some ⟨B', 0, none⟩) n n) rfl (by kernel_rfl) (by kernel_rfl) (by kernel_rfl) (fun _ _ _ h => h) (Or.inl ⟨by rfl, fun w' hSw => ?_⟩) hHeld ?_
      · obtain ⟨t0, t1, t2, t3, t4, t5, t6⟩ := hSw
        go_simp
        try simp [*]
        try (intro hh; exfalso; omega)
        try omega
      try simp only [Act.put, List.setIfInBounds_toArray, List.set_cons_zero, List.set_cons_succ, List.getElem_toArray, List.getElem_cons_succ, List.getElem_cons_zero]
      refine wpAnyH_take (i := 11) (oi := _) (v := .bool lf) rfl (by kernel_rfl) (by kernel_rfl) (by kernel_rfl) (fun _ _ _ h => h) (Or.inl ⟨by rfl, fun w' hSw => ?_⟩) hHeld ?_
      · obtain ⟨t0, t1, t2, t3, t4, t5, t6⟩ := hSw
        go_simp
        try simp [*]
        try (intro hh; exfalso; omega)
        try omega
      try simp only [Act.put, List.setIfInBounds_toArray, List.set_cons_zero, List.set_cons_succ, List.getElem_toArray, List.getElem_cons_succ, List.getElem_cons_zero]
      refine wpAnyH_done (by kernel_rfl) ?_ _
      clear hHeld
      cases l0
      · go_wp2_with fail
        go_roundw
        case rel => exact ⟨k + 1, B', by omega, by go_num, rfl, by rw [HST1.out]; simp, by rw [HSB1.out]; exact HSN.out, HBn.out⟩
        case measure => simp [intOf]; omega
      · go_wp2_with fail
        go_roundw
        case rel => exact ⟨k + 1, B', by omega, by go_num, rfl, by rw [HST1.out]; simp, by rw [HSB1.out]; exact HSN.out, HBn.out⟩
        case measure => simp [intOf]; omega
    · obtain rfl : k = len := by omega
      have hnu := rnumbers_any F (stB wd hg b0 hs k) (by rw [HSL.out]; exact hn576) wr HSk.out
      rw [HSL.out] at hnu
      have HNU2 := Lib.hid hnu
      clear hnu HSB HST HOKK HD
      generalize hlf : stL wd hg b0 hs k = lf at *
      generalize hres : trL (stB wd hg b0 hs k) n = res at *
      have HLF := Lib.hid hlf
      have HRES := Lib.hid hres
      clear hlf hres
      go_wp2_with fail
      refine (HNU2.out).mono ?_
      rintro e w5 ⟨v5, rfl, hP, hb⟩
      have HP := Lib.hid hP
      have HB5 := Lib.hid (HBw.out.trans (hb.mono HBw.out.size))
      obtain ⟨a5, c5, rfl⟩ := hP.form
      clear hb hP k0 k1
      go_wp2_with fail
      refine bodyPost_ret (v := .tuple #[.slice a5 res.length c5, .bool lf, .int .i64 0]) (by simp [results, Try.results42, go_sem]) rfl ⟨_, by rw [HLF.out], by rw [HRES.out]; exact HP.out, HB5.out⟩
end Go.Proofs.Ythogahdnidjelaa

/-
  Deferred marks; a drawn region inside a round of an iterator.
-/
import Derived.Test.YtbbaehmfadpgeaaBfL
import Derived.RangeFuncWrites
import Derived.RangeFuncNested
import Derived.Laws.OwnMore
namespace Go.Proofs.Ytbbaehmfadpgeaa
open Go.RowKit Go.Shelf
set_option linter.unusedSimpArgs false
/-- the marks ds are open in W, each in a block of its own from base on -/
def Marks (base : Nat) (W : World) : List Deferred → Prop
  | [] => True
  | d :: ds => (∃ D, base ≤ D ∧ d = { target := .collected D, args := #[] } ∧ W.heap[D]? = some (.deferred (some [])) ∧ ∀ d' ∈ ds, d' ≠ d) ∧ Marks base W ds
/-- what is a block of cells lies as it lay -/
def CellsKept (W W' : World) : Prop := ∀ (k : Nat) (o : Obj), W.heap[k]? = some o → o.isCells = true → W'.heap[k]? = some o
theorem Marks.keep {base : Nat} {W W' : World} : ∀ {ds : List Deferred}, Marks base W ds → (∀ d ∈ ds, ∀ D, d = { target := .collected D, args := #[] } → W.heap[D]? = some (.deferred (some [])) → W'.heap[D]? = some (.deferred (some []))) → Marks base W' ds
  | [], _, _ => trivial
  | _ :: _, ⟨⟨D, hb, he, hD, hn⟩, hs⟩, h => ⟨⟨D, hb, he, h _ (List.mem_cons_self ..) D he hD, hn⟩, hs.keep fun d hd => h d (List.mem_cons_of_mem _ hd)⟩
theorem Marks.from {base : Nat} {W W' : World} {B : Nat} {ds : List Deferred} (h : Marks base W ds) (hB : B ≤ base) (hk : KeepsFrom B W W') : Marks base W' ds := by
  induction ds with
  | nil => trivial
  | cons d ds ih =>
    obtain ⟨⟨D, hb, he, hD, hn⟩, hs⟩ := h
    exact ⟨⟨D, hb, he, hk.same D _ (by omega) hD rfl, hn⟩, ih hs⟩
theorem Marks.below {base n₀ : Nat} {W W' : World} {ds : List Deferred} (h : Marks base W ds) (hn : W.heap.size ≤ n₀) (hb : Below n₀ W W') : Marks base W' ds :=
  h.keep fun _ _ D _ hD => (hb.block D (by have := (Array.getElem?_eq_some_iff.1 hD).1; omega)).trans hD
/-- all marks are taken -/
theorem leaves_marks {F : Fence} {n : Nat} {P : Program} {fn : Func} {tmps : Array Value} {R : Ending → World → Prop} (base : Nat) : ∀ (ds : List Deferred) (W : World), base ≤ W.heap.size → Marks base W ds →
    (∀ W', Below base W W' → CellsKept W W' → ∃ v, (results fn tmps).run P W' = .ok v W' ∧ R (.returned v) W') → LeavesInM F n P fn tmps R ds .returning W
  | [], W, _, _, h => h W (Below.refl _ _) (fun _ _ h _ => h)
  | d :: ds, W, hz, ⟨⟨D, hb, he, hD, hn⟩, hs⟩, h => by
    subst he
    refine ⟨by simp, .inl ⟨D, _, rfl, run_takeDeferred hD, ?_⟩⟩
    have hl := (Array.getElem?_eq_some_iff.1 hD).1
    have hbb : Below base W (W.putObj D (.deferred none)) := (Below.refl base W).grown (grownBy_putObj' W D _) hz (fun k e => by cases e; omega)
    have hsame : ∀ (k : Nat) (o : Obj), W.heap[k]? = some o → k ≠ D → (W.putObj D (.deferred none)).heap[k]? = some o := fun k o hk hne => (World.putObj_heap_other hne).trans hk
    refine leaves_marks base ds _ (by simpa using hz) (hs.keep fun d hd D' he' hD' => hsame _ _ hD' (fun e => hn d hd (by rw [he', e]))) (fun W' hb' hk' => ?_)
    exact h W' (hbb.trans hb') (fun k o hk hc => hk' k o (hsame k o hk (fun e => by rw [e, hD] at hk; cases hk; cases hc)) hc)
/-- a body that ends in no panic -/
def bodyPostR (F : Fence) (n : Nat) (P : Program) (fn : Func) (R : Ending → World → Prop) : Exit → Act → World → Prop
  | .normal, a, w | .ret, a, w => LeavesInM F n P fn a.tmps R a.defers .returning w
  | _, _, _ => False
theorem calls_marks {P : Program} {f : FuncId} {fn : Func} {c : Code} {args : Array Value} {w : World} {R : Ending → World → Prop} (n : Nat)
    (hf : P.funcs[f]? = some fn) (hb : fn.body = some c)
    (h : c.wpIn Fence.wide n P (bodyPostR Fence.wide n P fn R) { tmps := args ++ Array.replicate (fn.ntmps - args.size) undef, defers := [] } w) : Calls P f args w R :=
  (callsIn_wide (n := n)).1 (callsIn_of_wp_marks hf hb trivial (Code.wpIn_mono (fun e _ _ q => by cases e <;> first | exact q | exact q.elim) h) rfl)
theorem wpOpIn_of_wpOp {l n : Nat} {P : Program} {ops : Array Oper} {Q : Exit → Act → World → Prop} {i : Nat} {K K' : Act → World → Prop} {a : Act} {w : World}
    (hnd : ∀ (j : Nat) (o : Oper), ops[j]? = some o → ∀ c, o.op ≠ .defer c) (hQ : ¬ LetsOut Q) (hK : ∀ a w, K a w → K' a w) (h : wpOp P ops Q i K a w) : wpOpIn (Fence.wide.inRound l) n P ops Q i K' a w := by
  unfold wpOp at h
  unfold wpOpIn
  cases ho : ops[i]? with
  | none => simp only [ho] at h ⊢; exact hK _ _ h
  | some o =>
    simp only [ho] at h ⊢
    by_cases hw : Region.wanted o (yielded ops a.tmps) = true
    · rw [if_pos hw] at h ⊢
      rcases h with h | ⟨_, h⟩
      · unfold Oper.wp at h
        refine ⟨fun _ _ => trivial, ?_⟩
        rw [Oper.semAt_eq _ _ _ (hnd i o ho)]
        generalize (execOp a.eval o).run P w = r at h ⊢
        cases r with
        | ok x w' =>
          cases x with
          | value v => exact hK _ _ h
          | skip => exact hK _ _ h
          | defer d => exact hK _ _ h
          | enter f args =>
            refine ⟨fun h0 => by simp [Fence.wide] at h0, CallsIn.inRound l (callsIn_wide.2 (Calls.mono h fun e w'' he => ?_))⟩
            cases e with
            | returned v => exact hK _ _ he
            | panicked c => exact he
            | outgrown => exact he
          | row row args =>
            refine ⟨fun h0 => by simp [Fence.wide] at h0, ?_⟩
            intro c cs _
            obtain ⟨v, w1, hv, hs⟩ := h c cs
            exact ⟨v, w1, hK _ _ hv, stepsIn_wide.2 hs⟩
          | _ => exact h.elim
        | halt x w' =>
          cases x <;> first | exact h | exact h.elim
      · exact absurd h hQ
    · rw [if_neg hw] at h ⊢
      exact ⟨fun _ _ => trivial, hK _ _ h⟩
theorem wpAnyIn_of_wpAny {l n : Nat} {P : Program} {md : Region.Mode} {ops : Array Oper} {Q : Exit → Act → World → Prop}
    (hnd : ∀ (j : Nat) (o : Oper), ops[j]? = some o → ∀ c, o.op ≠ .defer c) (hQ : ¬ LetsOut Q) :
    ∀ (fuel : Nat) (listed : Array Bool) (a : Act) (w : World), wpAny P md ops Q fuel listed a w → wpAnyIn (Fence.wide.inRound l) n P md ops Q fuel listed a w
  | 0, _, _, _, h => h
  | fuel + 1, _, _, _, h => ⟨h.1, fun i hi => wpOpIn_of_wpOp hnd hQ (fun a' w' h' => wpAnyIn_of_wpAny hnd hQ fuel _ a' w' h') (h.2 i hi)⟩
/-- which operations defer -/
def noDefer (ops : Array Oper) : Bool := ops.all fun o => match o.op with | .defer _ => false | _ => true
theorem noDefer_spec {ops : Array Oper} (h : noDefer ops = true) : ∀ (j : Nat) (o : Oper), ops[j]? = some o → ∀ c, o.op ≠ .defer c := by
  intro j o ho c hc
  have h1 := (Array.all_eq_true.1 h) j (Array.getElem?_eq_some_iff.1 ho).1
  rw [(Array.getElem?_eq_some_iff.1 ho).2, hc] at h1
  cases h1
theorem wpIn_round_held {l n : Nat} {P : Program} {id : Nat} {ops : Array Oper} {Q : Exit → Act → World → Prop} {a : Act} {w : World} (S : World → Prop)
    (hm : P.follows .mixedOrders = true) (hnd : noDefer ops = true) (hQ : ¬ LetsOut Q) (hS : S w.drew)
    (h : S w.drew → wpAnyH P .any ops Q S ops.size (Array.replicate ops.size false) a w.drew) : (Code.region id ops true).wpIn (Fence.wide.inRound l) n P Q a w :=
  wpIn_region_any hm (wpAnyIn_of_wpAny (noDefer_spec hnd) hQ _ _ _ _ (wpAny_of_held _ _ _ _ (h hS)))
theorem CellsKept.refl (W : World) : CellsKept W W := fun _ _ h _ => h
theorem CellsKept.trans {A B C : World} (h : CellsKept A B) (k : CellsKept B C) : CellsKept A C := fun i o h1 h2 => k i o (h i o h1 h2) h2
theorem Marks.fresh {base : Nat} {W : World} {D : Nat} (hD : W.heap.size ≤ D) : ∀ {ds : List Deferred}, Marks base W ds → ∀ d' ∈ ds, d' ≠ { target := .collected D, args := #[] }
  | [], _, _, h => by cases h
  | d :: ds, ⟨⟨E, _, he, hE, _⟩, hs⟩, d', h => by
    rcases List.mem_cons.1 h with rfl | h
    · intro e
      rw [he] at e
      have e2 : E = D := by injection e with e3; injection e3
      have := (Array.getElem?_eq_some_iff.1 hE).1
      omega
    · exact hs.fresh hD d' h
theorem heap_kept {W W' : World} {row : Option Nat} {base b : Nat} (hg : W.grownBy W' row) (hr : ∀ r, row = some r → base ≤ r ∧ ∃ o : Obj, W.heap[r]? = some o ∧ o.isCells = false) (hb : b < base) (hbw : b < W.heap.size) : W'.heap[b]? = W.heap[b]? :=
  hg.block b hbw (fun e => by have := (hr b e.symm).1; omega)
theorem cell_kept {W W' : World} {row : Option Nat} {base b : Nat} {cs : Array Value} {t : TypeId} {q : Nat × Nat} (hg : W.grownBy W' row) (hr : ∀ r, row = some r → base ≤ r ∧ ∃ o : Obj, W.heap[r]? = some o ∧ o.isCells = false) (h : W.heap[b]? = some (.cells cs t q)) : W'.heap[b]? = some (.cells cs t q) :=
  (hg.block b (Array.getElem?_eq_some_iff.1 h).1 (fun e => by obtain ⟨_, o, ho, hc⟩ := hr b e.symm; rw [h] at ho; cases ho; cases hc)).trans h

end Go.Proofs.Ytbbaehmfadpgeaa

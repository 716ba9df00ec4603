/-
  A range over an iterator that ranges over another one.
-/
import Derived.Test.YtdohfpnnmppdkaaCbF
namespace Go.Proofs.Ytdohfpnnmppdkaa
open Go.RowKit Go.Shelf
set_option linter.unusedSimpArgs false
/-! ### a range over an iterator that itself ranges over an iterator: its contract asks that what holds between the rounds outlast the records of loops that lie behind it -/
/-- an iterator's contract over invariants that outlast changes of newer blocks that are no cells -/
def SeqOwn {α : Type} (n : Nat) (P : Program) (g : Nat) (lb : Array Value) (encs : α → Array Value) (Kp : World → World → Prop) (S Sp : List α → Prop) (N : Nat) (w : World) : Prop :=
  ∀ (l : Nat) (J Jx : List α → World → Prop) (W : World), Below w.heap.size w W → w.heap.size + 2 ≤ W.heap.size → OwnFrom W.heap.size J → OwnFrom W.heap.size Jx →
    (∀ pre x Z, J pre Z → pre.length < N → YieldAt Fence.wide (n - 1) P l (encs x) Z fun e Z' => (e = .returned (.bool true) ∧ J (pre ++ [x]) Z' ∧ Kp Z Z') ∨ (e = .returned (.bool false) ∧ Jx (pre ++ [x]) Z' ∧ KeepsFrom (w.heap.size + 2) Z Z')) →
    J [] W → CallsIn Fence.wide n P g (#[.func (.yield l) #[] #[]] ++ lb) W fun e Z => (∃ v, e = .returned v) ∧ ((∃ xs, S xs ∧ J xs Z) ∨ (∃ pre, Sp pre ∧ Jx pre Z))
/-- two blocks of book-keeping, and what holds between the rounds -/
def Kept2 {α : Type} (D : Nat) (r : Loop) (I : List α → World → Prop) (pre : List α) (W : World) : Prop :=
  I pre W ∧ W.heap[D + 1]? = some (.loop r) ∧ W.heap[D]? = some (.deferred (some []))
theorem Kept2.own {α : Type} {D B : Nat} {r : Loop} {I : List α → World → Prop} (hI : OwnFrom D I) (hB : D + 1 < B) : OwnFrom B (Kept2 D r I) := by
  intro pre W W' row hs hg hr
  obtain ⟨h1, h2, h3⟩ := hs
  have far : ∀ b o, b < B → W.heap[b]? = some o → W'.heap[b]? = some o := fun b o hb ho =>
    (hg.block b (Array.getElem?_eq_some_iff.1 ho).1 (fun e => by have := (hr b e.symm).1; omega)).trans ho
  exact ⟨hI pre W W' row h1 hg (fun r e => ⟨by have := (hr r e).1; omega, (hr r e).2⟩), far _ _ hB h2, far _ _ (by omega) h3⟩
set_option maxHeartbeats 1000000 in
theorem range_own {α : Type} {P : Program} {n : Nat} {g : Operand} {ps : Array Tmp} {assign body : Code} {Q : Exit → Act → World → Prop} {a : Act} {w : World} (h1 : 1 ≤ n)
    {gf : Nat} {lb : Array Value} (hg : a.eval g = .func (.func gf) #[] lb) (eg : ∀ args w, (callFunc gf args).run P w = .ok (.enter gf args) w)
    {encs : α → Array Value} {Kp : World → World → Prop} {S Sp : List α → Prop} {N : Nat} (hseq : SeqOwn (n - 1) P gf lb encs Kp S Sp N w)
    (hKt : ∀ {A B C : World}, Kp A B → Kp B C → Kp A C) (hKb : ∀ (W : World) (o o' : Obj), W.heap[w.heap.size + 1]? = some o → o.isCells = false → Kp W (W.putObj (w.heap.size + 1) o')) (hps : ∀ x, (encs x).size = ps.size)
    (I : List α → World → Prop) (Ix : Code → List α → World → Prop) (hI : OwnFrom w.heap.size I) (hIx : ∀ c, OwnFrom w.heap.size (Ix c)) (h0 : I [] w) (act : α → Act)
    (hassign : ∀ (l : Nat) (x : α) (W : World) (K : Act → World → Prop), K (act x) W →
      assign.wpIn (Fence.wide.inRound l) (n - 1 - 1) P (Exit.then K (fun _ _ _ => False)) { tmps := (ps.zip (encs x)).foldl (fun t (p, v) => t.setIfInBounds p v) a.tmps, defers := [] } W)
    (hbody : ∀ (l : Nat) (pre : List α) (x : α) (W : World), I pre W → pre.length < N → body.wpIn (Fence.wide.inRound l) (n - 1 - 1) P (ownPostG w.heap.size Kp I Ix (pre ++ [x]) W) (act x) W)
    (hdone : ∀ (D : Nat) (xs : List α) (W : World), w.heap.size ≤ D → S xs → I xs W → W.heap[D]? = some (.deferred (some [])) → Q .normal { a with defers := { target := .collected D, args := #[] } :: a.defers } W)
    (hstop : ∀ (D : Nat) (c : Code) (pre : List α) (W : World), w.heap.size ≤ D → Sp pre → Ix c pre W → W.heap[D]? = some (.deferred (some [])) → c.wpIn Fence.wide n P Q { a with defers := { target := .collected D, args := #[] } :: a.defers } W) :
    (Code.rangeFunc g ps assign body).wpIn Fence.wide n P Q a w := by
  refine wpIn_rangeFunc fun fn hfn => ?_
  let rec0 : LoopState → Option Code → Loop := fun st pe => { state := st, pending := pe, fn, tmps := a.tmps, params := ps, assign, body, defers := w.heap.size }
  have hR : ∃ R : LoopState → Option Code → Loop, R = rec0 := ⟨_, rfl⟩
  obtain ⟨R, hR⟩ := hR
  obtain ⟨V, hV⟩ : ∃ V, V = (w.alloc (.deferred (some []))).alloc (.loop (R .ready none)) := ⟨_, rfl⟩
  have hz : V.heap.size = w.heap.size + 2 := by rw [hV]; simp
  have hbV : Below w.heap.size w V := by rw [hV]; exact ((Below.refl _ w).alloc (Nat.le_refl _) _).alloc (by simp) _
  have hV1 : V.heap[w.heap.size + 1]? = some (.loop (R .ready none)) := by
    rw [hV]
    have q := World.alloc_heap_new (w.alloc (.deferred (some []))) (.loop (R .ready none))
    rwa [World.size_alloc] at q
  have hV0 : V.heap[w.heap.size]? = some (.deferred (some [])) := by rw [hV]; exact (Below.heap_alloc _ _ _ (by simp)).trans (World.alloc_heap_new w _)
  have hIV : I [] V := by rw [hV]; exact hI.alloc _ (hI.alloc _ h0)
  refine ⟨w.heap.size + 1, [{ target := .collected w.heap.size, args := #[] }], V, { target := .fn (.func gf) lb, args := #[.func (.yield (w.heap.size + 1)) #[] #[]] }, V, gf, #[.func (.yield (w.heap.size + 1)) #[] #[]] ++ lb, V, ?_, ?_, ?_, ?_, fun _ => h1, ?_⟩
  · rw [hV, hR]; exact run_enterLoop_outer _ _ _ _ _
  · simp only [resolve, hg]
    simp [go_sem]
  · intro f' hf'
    simp [Target.leads] at hf'
    exact trivial
  · simp [invoke, go_sem, eg]
  -- the iterator runs: both blocks outlast it
  refine (hseq (w.heap.size + 1) (Kept2 w.heap.size (R .ready none) I) (fun pre W => ∃ c, Kept2 w.heap.size (R .done (some c)) (Ix c) pre W) V hbV (by omega) (Kept2.own hI (by omega))
    (fun pre W W' row hs hgr hr => by obtain ⟨c, hc⟩ := hs; exact ⟨c, Kept2.own (hIx c) (by omega) pre W W' row hc hgr hr⟩) ?round ⟨hIV, hV1, hV0⟩).mono ?behind
  case round =>
    rintro pre x W ⟨hi, hl, hd⟩ hlen
    have hlt := (Array.getElem?_eq_some_iff.1 hl).1
    have hy := run_yield (P := P) (args := encs x) hl (by rw [hR]; exact hps x)
    rw [hR] at hy
    refine ⟨fn, _, assign, body, hy, roundIn_of_wpIn hfn (hassign _ x W _ ⟨_, run_beginRound hl (by rw [hR]), ?_⟩)⟩
    obtain ⟨Z, hZ⟩ : ∃ Z, Z = W.putObj (w.heap.size + 1) (.loop { R .ready none with state := .busy }) := ⟨_, rfl⟩
    rw [← hZ]
    have z1 : Z.heap[w.heap.size + 1]? = some (.loop { R .ready none with state := .busy }) := by rw [hZ]; exact World.putObj_heap_same hlt
    have z0 : Z.heap[w.heap.size]? = some (.deferred (some [])) := by rw [hZ]; exact (World.putObj_heap_other (by omega)).trans hd
    have zi : I pre Z := by rw [hZ]; exact hI.putObj _ hi (by omega) hl rfl
    have zk : Kp W Z := by rw [hZ]; exact hKb _ _ _ hl rfl
    have zf : KeepsFrom (w.heap.size + 2) W Z := by
      rw [hZ]
      exact ⟨by simp, fun k o hk ho _ => (World.putObj_heap_other (by omega)).trans ho⟩
    clear hZ
    refine wpIn_mono (hbody _ pre x Z zi hlen) ?_
    -- the round ends: the record is put back
    have fin : ∀ (j : Option Code) (Y : World), KeepsFrom w.heap.size Z Y → ∃ Y', Y' = Y.putObj (w.heap.size + 1) (.loop (R (if j.isNone then .ready else .done) j)) ∧ (Instr.endRound (w.heap.size + 1) j).run P Y = .ok (.bool j.isNone) Y' ∧ Y'.heap[w.heap.size + 1]? = some (.loop (R (if j.isNone then .ready else .done) j)) ∧ Y'.heap[w.heap.size]? = some (.deferred (some [])) ∧ Kp Y Y' ∧ KeepsFrom (w.heap.size + 2) W Y' ∧ ∀ K : List α → World → Prop, OwnFrom w.heap.size K → ∀ p, K p Y → K p Y' := by
      intro j Y hk
      have y1 := hk.same _ _ (by omega) z1 rfl
      have y0 := hk.same _ _ (Nat.le_refl _) z0 rfl
      have q := run_endRound (P := P) j y1
      rw [hR] at q ⊢
      exact ⟨_, rfl, q, World.putObj_heap_same (Array.getElem?_eq_some_iff.1 y1).1, (World.putObj_heap_other (by omega)).trans y0, hKb _ _ _ y1 rfl, (zf.trans ⟨hk.size, fun k o hk' ho hc => hk.same k o (by omega) ho hc⟩).trans ⟨by simp, fun k o hk' ho _ => (World.putObj_heap_other (by omega)).trans ho⟩, fun K hK p h => hK.putObj _ h (by omega) y1 rfl⟩
    intro e b Y hp
    cases e with
    | normal =>
      obtain ⟨k1, k2, k3⟩ := hp
      obtain ⟨Y', -, r, l1, l0, kp, -, own⟩ := fin none Y k1
      exact ⟨_, Y', r, .inl ⟨rfl, ⟨own I hI _ k3, l1, l0⟩, hKt zk (hKt k2 kp)⟩⟩
    | ret =>
      obtain ⟨Y', -, r, l1, l0, -, kf, own⟩ := fin (some .ret) Y hp.1
      exact ⟨_, Y', r, .inr ⟨rfl, ⟨_, own _ (hIx _) _ hp.2, l1, l0⟩, kf⟩⟩
    | exit id =>
      obtain ⟨Y', -, r, l1, l0, -, kf, own⟩ := fin (some (.exit id)) Y hp.1
      exact ⟨_, Y', r, .inr ⟨rfl, ⟨_, own _ (hIx _) _ hp.2, l1, l0⟩, kf⟩⟩
    | goto t =>
      obtain ⟨Y', -, r, l1, l0, -, kf, own⟩ := fin (some (.goto t)) Y hp.1
      exact ⟨_, Y', r, .inr ⟨rfl, ⟨_, own _ (hIx _) _ hp.2, l1, l0⟩, kf⟩⟩
    | panic ch => exact hp.elim
    | outgrown => exact hp.elim
  case behind =>
    rintro e W ⟨⟨v, rfl⟩, h⟩
    rcases h with ⟨xs, hS, hi, hl, hd⟩ | ⟨pre, hSp, c, hi, hl, hd⟩
    · refine ⟨none, W.putObj (w.heap.size + 1) (.loop (R .exhausted none)), ?_, ?_⟩
      · have q := run_endLoop (P := P) hl (by rw [hR]; simp [rec0])
        rw [hR] at q ⊢
        exact q
      · exact hdone _ xs _ (Nat.le_refl _) hS (hI.putObj _ hi (by omega) hl rfl) ((World.putObj_heap_other (by omega)).trans hd)
    · refine ⟨some c, W.putObj (w.heap.size + 1) (.loop (R .exhausted (some c))), ?_, ?_⟩
      · have q := run_endLoop (P := P) hl (by rw [hR]; simp [rec0])
        rw [hR] at q ⊢
        exact q
      · exact hstop _ c pre _ (Nat.le_refl _) hSp ((hIx c).putObj _ hi (by omega) hl rfl) ((World.putObj_heap_other (by omega)).trans hd)
end Go.Proofs.Ytdohfpnnmppdkaa

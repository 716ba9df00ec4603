/-
  A range over an iterator whose own loop looks at what the rounds write.
-/
import Derived.Test.YtbbaehmfadpgeaaBfV
namespace Go.Proofs.Ytbbaehmfadpgeaa
open Go.RowKit Go.Shelf
set_option linter.unusedSimpArgs false
/-- all but some blocks are as they were -/
structure SameBut (a b : Nat) (W W' : World) : Prop where
  os : W'.os = W.os
  tape : W'.tape = W.tape
  output : W'.output = W.output
  size : W.heap.size ≤ W'.heap.size
  block : ∀ k, k < W.heap.size → ¬(a ≤ k ∧ k < b) → W'.heap[k]? = W.heap[k]?
theorem SameBut.of {a b : Nat} {W W' : World} (h : Below W.heap.size W W') : SameBut a b W W' := ⟨h.os, h.tape, h.output, h.size, fun k hk _ => h.block k hk⟩
theorem SameBut.trans {a b : Nat} {A B C : World} (h : SameBut a b A B) (k : SameBut a b B C) : SameBut a b A C :=
  ⟨k.os.trans h.os, k.tape.trans h.tape, k.output.trans h.output, Nat.le_trans h.size k.size, fun i hi hn => (k.block i (Nat.lt_of_lt_of_le hi h.size) hn).trans (h.block i hi hn)⟩
theorem SameBut.set {a b : Nat} (W : World) {B : Nat} (o : Nat) (v : Value) (hB : a ≤ B ∧ B < b) : SameBut a b W (W.setCell ⟨B, o, none⟩ v) :=
  ⟨by simp [World.setCell], by simp [World.setCell], by simp [World.setCell], by simp, fun k hk hn => Below.heap_setCell _ _ _ _ (fun e => hn (by rw [e]; exact hB))⟩
/-- an iterator's contract at a world that is known exactly: what holds between the rounds tells the iterator what it needs; no round is left -/
def SeqAt {α : Type} (n : Nat) (P : Program) (g : Nat) (lb : Array Value) (encs : α → Array Value) (Kp : World → World → Prop) (PJ : List α → World → Prop) (S : List α → Prop) (N c : Nat) (w : World) : Prop :=
  ∀ (J : List α → World → Prop) (W : World), Below w.heap.size w W → W.heap.size = w.heap.size + 2 → OwnFrom W.heap.size J → (∀ pre Z, J pre Z → PJ pre Z) → (∀ pre Z Z', J pre Z → SameBut (w.heap.size + 2) (w.heap.size + 2 + c) Z Z' → J pre Z') →
    (∀ pre x Z, J pre Z → w.heap.size + 2 + c ≤ Z.heap.size → pre.length < N → YieldAt Fence.wide (n - 1) P (w.heap.size + 1) (encs x) Z fun e Z' => e = .returned (.bool true) ∧ J (pre ++ [x]) Z' ∧ Kp Z Z') →
    J [] W → CallsIn Fence.wide n P g (#[.func (.yield (w.heap.size + 1)) #[] #[]] ++ lb) W fun e Z => (∃ v, e = .returned v) ∧ ∃ xs, S xs ∧ J xs Z
/-- two blocks of book-keeping, and what holds between the rounds -/
def Kept2 {α : Type} (D : Nat) (r : Loop) (I : List α → World → Prop) (pre : List α) (W : World) : Prop :=
  I pre W ∧ W.heap[D + 1]? = some (.loop r) ∧ W.heap[D]? = some (.deferred (some []))
theorem Kept2.own {α : Type} {D B : Nat} {r : Loop} {I : List α → World → Prop} (hI : OwnFrom D I) (hB : D + 1 < B) : OwnFrom B (Kept2 D r I) := by
  intro pre W W' row hs hg hr
  obtain ⟨h1, h2, h3⟩ := hs
  have far : ∀ b o, b < B → W.heap[b]? = some o → W'.heap[b]? = some o := fun b o hb ho =>
    (hg.block b (Array.getElem?_eq_some_iff.1 ho).1 (fun e => by have := (hr b e.symm).1; omega)).trans ho
  exact ⟨hI pre W W' row h1 hg (fun r e => ⟨by have := (hr r e).1; omega, (hr r e).2⟩), far _ _ hB h2, far _ _ (by omega) h3⟩
/-- what only ever ends a round: going on -/
def goOn {α : Type} (B : Nat) (Kp : World → World → Prop) (I : List α → World → Prop) (xs : List α) (W : World) : Exit → Act → World → Prop
  | .normal, _, W' => KeepsFrom B W W' ∧ Kp W W' ∧ I xs W'
  | _, _, _ => False
set_option maxHeartbeats 1000000 in
theorem range_at {α : Type} {P : Program} {n : Nat} {g : Operand} {ps : Array Tmp} {assign body : Code} {Q : Exit → Act → World → Prop} {a : Act} {w : World} (h1 : 1 ≤ n)
    {gf : Nat} {lb : Array Value} (hg : a.eval g = .func (.func gf) #[] lb) (eg : ∀ args w, (callFunc gf args).run P w = .ok (.enter gf args) w)
    {encs : α → Array Value} {Kp : World → World → Prop} {PJ : List α → World → Prop} {S : List α → Prop} {N c : Nat} (hseq : SeqAt (n - 1) P gf lb encs Kp PJ S N c w)
    (hKt : ∀ {A B C : World}, Kp A B → Kp B C → Kp A C) (hKb : ∀ (W : World) (o o' : Obj), W.heap[w.heap.size + 1]? = some o → o.isCells = false → Kp W (W.putObj (w.heap.size + 1) o')) (hps : ∀ x, (encs x).size = ps.size)
    (I : List α → World → Prop) (hI : OwnFrom w.heap.size I) (hPJ : ∀ pre Z, I pre Z → PJ pre Z) (hI2 : ∀ pre Z Z', I pre Z → SameBut (w.heap.size + 2) (w.heap.size + 2 + c) Z Z' → I pre Z') (h0 : I [] w) (Ax : α → Act → World → Prop) (hAx : ∀ x a', OwnFrom w.heap.size (fun (_ : Unit) W => Ax x a' W))
    (hassign : ∀ (l : Nat) (pre : List α) (x : α) (W : World) (K : Act → World → Prop), I pre W → w.heap.size + 2 + c ≤ W.heap.size → (∀ a' W', KeepsFrom w.heap.size W W' → Kp W W' → I pre W' → Ax x a' W' → K a' W') →
      assign.wpIn (Fence.wide.inRound l) (n - 1 - 1) P (Exit.then K (fun _ _ _ => False)) { tmps := (ps.zip (encs x)).foldl (fun t (p, v) => t.setIfInBounds p v) a.tmps, defers := [] } W)
    (hbody : ∀ (l : Nat) (pre : List α) (x : α) (a' : Act) (W : World), I pre W → w.heap.size + 2 + c ≤ W.heap.size → Ax x a' W → pre.length < N → body.wpIn (Fence.wide.inRound l) (n - 1 - 1) P (goOn w.heap.size Kp I (pre ++ [x]) W) a' W)
    (hdone : ∀ (D : Nat) (xs : List α) (W : World), w.heap.size ≤ D → S xs → I xs W → W.heap[D]? = some (.deferred (some [])) → Q .normal { a with defers := { target := .collected D, args := #[] } :: a.defers } W) :
    (Code.rangeFunc g ps assign body).wpIn Fence.wide n P Q a w := by
  refine wpIn_rangeFunc fun fn hfn => ?_
  let rec0 : LoopState → Option Code → Loop := fun st pe => { state := st, pending := pe, fn, tmps := a.tmps, params := ps, assign, body, defers := w.heap.size }
  have hR : ∃ R : LoopState → Option Code → Loop, R = rec0 := ⟨_, rfl⟩
  obtain ⟨R, hR⟩ := hR
  obtain ⟨V, hV⟩ : ∃ V, V = (w.alloc (.deferred (some []))).alloc (.loop (R .ready none)) := ⟨_, rfl⟩
  have hz : V.heap.size = w.heap.size + 2 := by rw [hV]; simp
  have hbV : Below w.heap.size w V := by rw [hV]; exact ((Below.refl _ w).alloc (Nat.le_refl _) _).alloc (by simp) _
  have hV1 : V.heap[w.heap.size + 1]? = some (.loop (R .ready none)) := by
    rw [hV]
    have q := World.alloc_heap_new (w.alloc (.deferred (some []))) (.loop (R .ready none))
    rwa [World.size_alloc] at q
  have hV0 : V.heap[w.heap.size]? = some (.deferred (some [])) := by rw [hV]; exact (Below.heap_alloc _ _ _ (by simp)).trans (World.alloc_heap_new w _)
  have hIV : I [] V := by rw [hV]; exact hI.alloc _ (hI.alloc _ h0)
  refine ⟨w.heap.size + 1, [{ target := .collected w.heap.size, args := #[] }], V, { target := .fn (.func gf) lb, args := #[.func (.yield (w.heap.size + 1)) #[] #[]] }, V, gf, #[.func (.yield (w.heap.size + 1)) #[] #[]] ++ lb, V, ?_, ?_, ?_, ?_, fun _ => h1, ?_⟩
  · rw [hV, hR]; exact run_enterLoop_outer _ _ _ _ _
  · simp only [resolve, hg]
    simp [go_sem]
  · intro f' hf'
    simp [Target.leads] at hf'
    exact trivial
  · simp [invoke, go_sem, eg]
  refine (hseq (Kept2 w.heap.size (R .ready none) I) V hbV hz (Kept2.own hI (by omega)) (fun pre Z h => hPJ pre Z h.1) (fun pre Z Z' h hs => ⟨hI2 pre Z Z' h.1 hs, (hs.block _ (Array.getElem?_eq_some_iff.1 h.2.1).1 (by omega)).trans h.2.1, (hs.block _ (Array.getElem?_eq_some_iff.1 h.2.2).1 (by omega)).trans h.2.2⟩) ?round ⟨hIV, hV1, hV0⟩).mono ?behind
  case round =>
    rintro pre x W ⟨hi, hl, hd⟩ hcsz hlen
    have hy := run_yield (P := P) (args := encs x) hl (by rw [hR]; exact hps x)
    rw [hR] at hy
    refine ⟨fn, _, assign, body, hy, roundIn_of_wpIn hfn (hassign _ pre x W _ hi hcsz (fun a' W' hk hkp hi' hax => ?_))⟩
    have hl' := hk.same _ _ (by omega) hl rfl
    have hd' := hk.same _ _ (Nat.le_refl _) hd rfl
    have hlt := (Array.getElem?_eq_some_iff.1 hl').1
    refine ⟨_, run_beginRound hl' (by rw [hR]), ?_⟩
    obtain ⟨Z, hZ⟩ : ∃ Z, Z = W'.putObj (w.heap.size + 1) (.loop { R .ready none with state := .busy }) := ⟨_, rfl⟩
    rw [← hZ]
    have z1 : Z.heap[w.heap.size + 1]? = some (.loop { R .ready none with state := .busy }) := by rw [hZ]; exact World.putObj_heap_same hlt
    have z0 : Z.heap[w.heap.size]? = some (.deferred (some [])) := by rw [hZ]; exact (World.putObj_heap_other (by omega)).trans hd'
    have zi : I pre Z := by rw [hZ]; exact hI.putObj _ hi' (by omega) hl' rfl
    have za : Ax x a' Z := by rw [hZ]; exact (hAx x a').putObj (s := ()) _ hax (by omega) hl' rfl
    have zsz : w.heap.size + 2 + c ≤ Z.heap.size := by rw [hZ]; have := hk.size; simp; omega
    have zk : Kp W Z := hKt hkp (by rw [hZ]; exact hKb _ _ _ hl' rfl)
    clear hZ
    refine wpIn_mono (hbody _ pre x a' Z zi zsz za hlen) ?_
    intro e b Y hp
    cases e with
    | normal =>
      obtain ⟨k1, k2, k3⟩ := hp
      have y1 := k1.same _ _ (by omega) z1 rfl
      have y0 := k1.same _ _ (Nat.le_refl _) z0 rfl
      have q := run_endRound (P := P) none y1
      rw [hR] at q
      refine ⟨_, _, q, ?_⟩
      have e1 : (Y.putObj (w.heap.size + 1) (.loop (R .ready none))).heap[w.heap.size + 1]? = some (.loop (R .ready none)) := World.putObj_heap_same (Array.getElem?_eq_some_iff.1 y1).1
      have e0 : (Y.putObj (w.heap.size + 1) (.loop (R .ready none))).heap[w.heap.size]? = some (.deferred (some [])) := (World.putObj_heap_other (by omega)).trans y0
      have ei : I (pre ++ [x]) (Y.putObj (w.heap.size + 1) (.loop (R .ready none))) := hI.putObj _ k3 (by omega) y1 rfl
      have ek : Kp W (Y.putObj (w.heap.size + 1) (.loop (R .ready none))) := hKt zk (hKt k2 (hKb _ _ _ y1 rfl))
      rw [hR] at e1 e0 ei ek
      rw [hR]
      exact ⟨rfl, ⟨ei, e1, e0⟩, ek⟩
    | ret => exact hp.elim
    | exit id => exact hp.elim
    | goto t => exact hp.elim
    | panic ch => exact hp.elim
    | outgrown => exact hp.elim
  case behind =>
    rintro e W ⟨⟨v, rfl⟩, xs, hS, hi, hl, hd⟩
    refine ⟨none, W.putObj (w.heap.size + 1) (.loop (R .exhausted none)), ?_, ?_⟩
    · have q := run_endLoop (P := P) hl (by rw [hR]; simp [rec0])
      rw [hR] at q ⊢
      exact q
    · exact hdone _ xs _ (Nat.le_refl _) hS (hI.putObj _ hi (by omega) hl rfl) ((World.putObj_heap_other (by omega)).trans hd)

end Go.Proofs.Ytbbaehmfadpgeaa

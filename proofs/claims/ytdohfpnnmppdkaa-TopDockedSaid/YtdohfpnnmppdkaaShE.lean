/-
  Cables: what is to spare and what is granted, in memory.
-/
import Derived.Test.YtdohfpnnmppdkaaShD
import Derived.Test.YtdohfpnnmppdkaaCbG
namespace Go.Proofs.Ytdohfpnnmppdkaa
open Go.RowKit Go.Shelf
set_option linter.unusedSimpArgs false
attribute [local go_sem] Oper.semAt_some
/-- the limits of the nodes -/
def limF (ns : List Nd) (k : Nat) : Int := if k < ns.length then (nd ns k).lim else 0
theorem limF_bd {ns : List Nd} (hv : AllN ns) (k : Nat) : 0 ≤ limF ns k ∧ limF ns k ≤ 3932160 := by
  unfold limF
  by_cases h : k < ns.length
  · rw [if_pos h]; exact (hv.node h).2.1
  · rw [if_neg h]; omega
/-- the cells of a row of numbers with room behind it -/
def rmC (n : Nat) (J : Nat → Value) (f : Nat → Int) (j : Nat) : Value := if j < n then .int .i64 (f j) else J j
theorem rmC_lt {n j : Nat} {J : Nat → Value} {f : Nat → Int} (h : j < n) : rmC n J f j = .int .i64 (f j) := if_pos h
theorem rmC_set {W : World} {g n N : Nat} {t : TypeId} {J : Nat → Value} {f : Nat → Int} (h : RowC W g t N (rmC n J f)) (k : Nat) (hk : k < n) (x : Int) :
    RowC (W.setCell ⟨g, k, none⟩ (.int .i64 x)) g t N (rmC n J fun j => if j = k then x else f j) := by
  refine (h.set k (.int .i64 x)).ext fun j hj => ?_
  unfold rmC
  by_cases e : j = k
  · subst e; rw [if_pos rfl, if_pos hk]; simp
  · rw [if_neg e]; simp [e]
/-- the boxes of the cable and of the row of what is to spare, both rows -/
def ShI (W : World) (C X SB G : Nat) (sl sh : Int) (a : Option Addr) (n cap cp : Nat) (J : Nat → Value) (sp gr : Nat → Int) : Prop :=
  W.heap[C]? = some (.cells #[.int .i64 sl, .int .i64 sh, .slice a n cap] 26 (0, 0)) ∧ W.heap[X]? = some (.cells #[.slice (some ⟨SB, 0, none⟩) n cp] 50 (0, 0)) ∧ RowC W SB 2 cp (rmC n J sp) ∧ RowC W G 2 n (fun j => .int .i64 (gr j))
theorem ShI.same {W W' : World} {C X SB G : Nat} {sl sh : Int} {a : Option Addr} {n cap cp : Nat} {J : Nat → Value} {sp gr : Nat → Int} (h : ShI W C X SB G sl sh a n cap cp J sp gr) (e : ∀ b, b < W.heap.size → W'.heap[b]? = W.heap[b]?) : ShI W' C X SB G sl sh a n cap cp J sp gr :=
  ⟨(e C (Array.getElem?_eq_some_iff.1 h.1).1).trans h.1, (e X (Array.getElem?_eq_some_iff.1 h.2.1).1).trans h.2.1, h.2.2.1.same (e SB h.2.2.1.lt), h.2.2.2.same (e G h.2.2.2.lt)⟩
theorem ShI.kept {W W' : World} {row : Option Nat} {base C X SB G : Nat} {sl sh : Int} {a : Option Addr} {n cap cp : Nat} {J : Nat → Value} {sp gr : Nat → Int} (h : ShI W C X SB G sl sh a n cap cp J sp gr) (hg : W.grownBy W' row) (hr : ∀ r, row = some r → base ≤ r ∧ ∃ o : Obj, W.heap[r]? = some o ∧ o.isCells = false) : ShI W' C X SB G sl sh a n cap cp J sp gr :=
  ⟨cell_kept hg hr h.1, cell_kept hg hr h.2.1, h.2.2.1.kept hg (fun r e => (hr r e).2), h.2.2.2.kept hg (fun r e => (hr r e).2)⟩
/-- in the rounds of the path of a node: what it may have so far -/
def ShJ (C X SB G V n₀ : Nat) (sl sh : Int) (a : Option Addr) (n cap cp : Nat) (J : Nat → Value) (spf : List Nat → Nat → Int) (gf : List Nat → Int) (gr : Nat → Int) (w W5 : World) (L : List Nat) (pre : List {x // x ∈ L}) (W : World) : Prop :=
  ShI W C X SB G sl sh a n cap cp J (spf (pre.map (·.1))) gr ∧ W.heap[V]? = some (.cells #[.int .i64 (gf (pre.map (·.1)))] 2 (0, 0)) ∧
  (∀ D : Nat, W5.heap[D]? = some (Obj.deferred (some [])) → W.heap[D]? = some (Obj.deferred (some []))) ∧ Below n₀ w W ∧ W5.heap.size ≤ W.heap.size
theorem ShJ.own (C X SB G V n₀ : Nat) (sl sh : Int) (a : Option Addr) (n cap cp : Nat) (J : Nat → Value) (spf : List Nat → Nat → Int) (gf : List Nat → Int) (gr : Nat → Int) (w W5 : World) (L : List Nat) (hn₀ : n₀ ≤ W5.heap.size) : OwnFrom W5.heap.size (ShJ C X SB G V n₀ sl sh a n cap cp J spf gf gr w W5 L) := by
  intro pre A B row hs hg hr
  obtain ⟨h1, h2, h3, h4, h5⟩ := hs
  refine ⟨h1.kept hg hr, cell_kept hg hr h2, fun D hD => ?_, h4.grown hg (by omega) (fun r e => by have := (hr r e).1; omega), Nat.le_trans h5 hg.size⟩
  have q := h3 D hD
  exact (heap_kept hg hr (Array.getElem?_eq_some_iff.1 hD).1 (Array.getElem?_eq_some_iff.1 q).1).trans q
/-- a number more in a row of the call's own that lies in a box -/
theorem app_box {W w1 : World} {base X k m : Nat} {v v' : Value} {xs ys : List Value} {o tmp : Obj} (hX : X < base) (hbw : base ≤ W.heap.size) (hv : W.heap[X]? = some (.cells #[v] 50 (0, 0))) (hrow : W.ownsRow base 2 1 v k xs)
    (hown' : w1.ownsRow base 2 1 v' m ys) (hgrow : ((W.alloc o).alloc tmp).grownBy w1 v.ownBlock) :
    (w1.setCell ⟨X, 0, none⟩ v').heap[X]? = some (.cells #[v'] 50 (0, 0)) ∧ w1.heap[X]? = some (.cells #[v] 50 (0, 0)) ∧ (w1.setCell ⟨X, 0, none⟩ v').ownsRow base 2 1 v' m ys ∧ (∀ b, b < base → b ≠ X → (w1.setCell ⟨X, 0, none⟩ v').heap[b]? = W.heap[b]?) ∧ W.heap.size ≤ w1.heap.size := by
  have hlt : X < W.heap.size := (Array.getElem?_eq_some_iff.1 hv).1
  have hnr : ∀ b, b < base → some b ≠ v.ownBlock := fun b hb e => by have := (hrow.lt b e.symm).1; omega
  have hk : ∀ b, b < base → w1.heap[b]? = W.heap[b]? := fun b hb =>
    (hgrow.block b (by simp; omega) (fun e => hnr b hb e)).trans ((Below.heap_alloc _ _ _ (by simp; omega)).trans (Below.heap_alloc _ _ _ (by omega)))
  have h1 : w1.heap[X]? = some (.cells #[v] 50 (0, 0)) := (hk X hX).trans hv
  refine ⟨?_, h1, ?_, fun b hb hne => (Below.heap_setCell _ _ _ _ (by show b ≠ X; exact hne)).trans (hk b hb), ?_⟩
  · simp [World.setCell, Array.getElem?_modify, h1]
  · refine World.ownsRow.kept (base := base) hown' (grownBy_setCell' w1 X _) (.inr fun e => ?_)
    have := (hown'.lt _ e).1
    omega
  · have := hgrow.size
    simp at this
    omega
end Go.Proofs.Ytdohfpnnmppdkaa

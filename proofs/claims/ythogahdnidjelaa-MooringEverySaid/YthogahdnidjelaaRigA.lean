/-
  The statement's rig: some pieces in memory, and what is made of them.
-/
import Derived.Test.YthogahdnidjelaaDir
import Derived.Test.YthogahdnidjelaaShapeOf
import Derived.Test.YthogahdnidjelaaClone
import Derived.Test.YthogahdnidjelaaLifts
import Derived.BigQuiet
import Derived.Deep.QuietTactic
namespace Go.Proofs.Ythogahdnidjelaa
open Go.RowKit Go.Shelf
set_option linter.unusedSimpArgs false
/-- the cells of a piece -/
def pcells (p : Pc) : List Value := [.int .u16 p.len, .int .i16 p.lift, .int .u8 p.drag, .int .u16 p.str, .int .u8 p.a, .int .u8 p.b, .int .u8 p.at_, .int .u8 p.way, .int .u8 p.slk]
def Pcs (n₀ : Nat) (W : World) (sv : Value) (ps : List Pc) : Prop :=
  ∃ a cap, sv = .slice a ps.length cap ∧ ps.length ≤ cap ∧ ∀ k, k < ps.length → OkPc (pc ps k) ∧ ∃ b off, a = some ⟨b, off, none⟩ ∧ b < n₀ ∧
    W.cell? ⟨b, off + k * 9, none⟩ = some (.int .u16 (pc ps k).len) ∧ W.cell? ⟨b, off + k * 9 + 1, none⟩ = some (.int .i16 (pc ps k).lift) ∧ W.cell? ⟨b, off + k * 9 + 2, none⟩ = some (.int .u8 (pc ps k).drag) ∧
    W.cell? ⟨b, off + k * 9 + 3, none⟩ = some (.int .u16 (pc ps k).str) ∧ W.cell? ⟨b, off + k * 9 + 4, none⟩ = some (.int .u8 (pc ps k).a) ∧ W.cell? ⟨b, off + k * 9 + 5, none⟩ = some (.int .u8 (pc ps k).b) ∧
    W.cell? ⟨b, off + k * 9 + 6, none⟩ = some (.int .u8 (pc ps k).at_) ∧ W.cell? ⟨b, off + k * 9 + 7, none⟩ = some (.int .u8 (pc ps k).way) ∧ W.cell? ⟨b, off + k * 9 + 8, none⟩ = some (.int .u8 (pc ps k).slk)
theorem Pcs.at {W W' : World} {sv : Value} {ps : List Pc} (h : Pcs W.heap.size W sv ps) (hb : Below W.heap.size W W') : Pcs W'.heap.size W' sv ps := by
  obtain ⟨a, cap, e, hl, hc⟩ := h
  refine ⟨a, cap, e, hl, fun k hk => ?_⟩
  obtain ⟨ho, b, off, h1, h2, c0, c1, c2, c3, c4, c5, c6, c7, c8⟩ := hc k hk
  refine ⟨ho, b, off, h1, Nat.lt_of_lt_of_le h2 hb.size, ?_, ?_, ?_, ?_, ?_, ?_, ?_, ?_, ?_⟩
  · exact (hb.cell (p := ⟨b, _, none⟩) h2).trans c0
  · exact (hb.cell (p := ⟨b, _, none⟩) h2).trans c1
  · exact (hb.cell (p := ⟨b, _, none⟩) h2).trans c2
  · exact (hb.cell (p := ⟨b, _, none⟩) h2).trans c3
  · exact (hb.cell (p := ⟨b, _, none⟩) h2).trans c4
  · exact (hb.cell (p := ⟨b, _, none⟩) h2).trans c5
  · exact (hb.cell (p := ⟨b, _, none⟩) h2).trans c6
  · exact (hb.cell (p := ⟨b, _, none⟩) h2).trans c7
  · exact (hb.cell (p := ⟨b, _, none⟩) h2).trans c8
/-- rows of the call's own with elements of two types lie in two blocks -/
theorem own_ne {W : World} {base base' : Nat} {e e' : TypeId} {s s' n n' : Nat} {v v' : Value} {xs xs' : List Value} (h : W.ownsRow base e s v n xs) (h' : W.ownsRow base' e' s' v' n' xs') (hne : e ≠ e') : v.ownBlock = none ∨ v.ownBlock ≠ v'.ownBlock := by
  rcases h.2 with ⟨rfl, -⟩ | ⟨g, cap, cur, rfl, -, hg, -, -, -, -⟩
  · exact .inl rfl
  · right
    intro he
    rcases h'.2 with ⟨rfl, -⟩ | ⟨g', cap', cur', rfl, -, hg', -, -, -, -⟩
    · cases he
    · obtain rfl : g = g' := Option.some.inj he
      rw [hg] at hg'
      simp only [Option.some.injEq, Obj.cells.injEq] at hg'
      exact hne hg'.2.1
theorem own_form {W : World} {base : Nat} {e : TypeId} {s n : Nat} {v : Value} {xs : List Value} (h : W.ownsRow base e s v (n + 1) xs) : ∃ g cap, v = .slice (some ⟨g, 0, none⟩) (n + 1) cap := by
  rcases h.2 with ⟨-, h0⟩ | ⟨g, cap, cur, rfl, -, -, -, -, -, -⟩
  · omega
  · exact ⟨g, cap, rfl⟩
theorem block_kept {W W' : World} {base : Nat} {e e' : TypeId} {s n B : Nat} {v : Value} {xs : List Value} {cs : Array Value} (hg : W.grownBy W' v.ownBlock) (h : W.ownsRow base e s v n xs) (hB : W.heap[B]? = some (.cells cs e' (0, 0))) (hne : e ≠ e') : W'.heap[B]? = some (.cells cs e' (0, 0)) := by
  refine (hg.block B (Array.getElem?_eq_some_iff.1 hB).1 fun he => ?_).trans hB
  rcases h.2 with ⟨rfl, -⟩ | ⟨g, cap, cur, rfl, -, hgg, -, -, -, -⟩
  · cases he
  · obtain rfl : g = B := (Option.some.inj he).symm
    rw [hgg] at hB
    simp only [Option.some.injEq, Obj.cells.injEq] at hB
    exact hne hB.2.1
theorem four_new (W : World) (x y z u : Value) : ∀ (j : Nat) (t : Value), [x, y, z, u][j]? = some t → (W.alloc (.cells #[x, y, z, u] 71)).cell? ((⟨W.heap.size, 0, none⟩ : Addr).add j) = some t := by
  intro j t hj
  match j, hj with
  | 0, hj => simp at hj; subst hj; simp [Addr.add]
  | 1, hj => simp at hj; subst hj; simp [Addr.add]
  | 2, hj => simp at hj; subst hj; simp [Addr.add]
  | 3, hj => simp at hj; subst hj; simp [Addr.add]
theorem flatE_snoc (cs : List El) (x : El) : flatE (cs ++ [x]) = flatE cs ++ [.int .i64 x.len, .int .i64 x.lift, .int .i64 x.drag, .int .i64 x.str] := by simp [flatE]
/-- what stands at the loop's head: the mooring's box, and the three rows -/
structure RigS (A W : World) (H : Nat) (d4 an4 : Int) (ps : List Pc) (a b c : Nat) (vm vc vt : Value) : Prop where
  z : H + 2 ≤ W.heap.size
  c0 : W.cell? ⟨H + 1, 0, none⟩ = some (.int .i64 d4)
  c1 : W.cell? ⟨H + 1, 1, none⟩ = some vm
  c2 : W.cell? ⟨H + 1, 2, none⟩ = some (.int .i64 an4)
  c3 : W.cell? ⟨H + 1, 3, none⟩ = some (.int .i64 600)
  f0 : ∀ o, W.frozen? ⟨H + 1, o, none⟩ = false
  rm : W.ownsRow (H + 2) 71 4 vm a (flatE (evE ps a))
  rc : W.ownsRow (H + 2) 41 2 vc b (flatP (evC ps b))
  rt : W.ownsRow (H + 2) 2 1 vt c (numv (evT ps c))
  bel : Below (H + 1) A W
theorem RigS.at {A W W' : World} {H : Nat} {d4 an4 : Int} {ps : List Pc} {a b c : Nat} {vm vc vt : Value} (h : RigS A W H d4 an4 ps a b c vm vc vt) (hb : Below W.heap.size W W') : RigS A W' H d4 an4 ps a b c vm vc vt := by
  have z := h.z
  have hs := hb.size
  obtain ⟨-, c0, c1, c2, c3, f0, rm, rc, rt, bel⟩ := h
  exact ⟨by omega, (hb.cell (p := ⟨H + 1, 0, none⟩) (by show H + 1 < _; omega)).trans c0, (hb.cell (p := ⟨H + 1, 1, none⟩) (by show H + 1 < _; omega)).trans c1, (hb.cell (p := ⟨H + 1, 2, none⟩) (by show H + 1 < _; omega)).trans c2, (hb.cell (p := ⟨H + 1, 3, none⟩) (by show H + 1 < _; omega)).trans c3,
    fun o => (hb.frozen (p := ⟨H + 1, o, none⟩) (by show H + 1 < _; omega)).trans (f0 o), own_below rm hb, own_below rc hb, own_below rt hb, bel.trans (hb.mono (by omega))⟩
theorem RigS.grown {A W W' : World} {H : Nat} {d4 an4 : Int} {ps : List Pc} {a b c : Nat} {vm vc vt v : Value} (h : RigS A W H d4 an4 ps a b c vm vc vt) (hg : W.grownBy W' v.ownBlock) (hlo : ∀ j, v.ownBlock = some j → H + 2 ≤ j) :
    H + 2 ≤ W'.heap.size ∧ W'.cell? ⟨H + 1, 0, none⟩ = some (.int .i64 d4) ∧ W'.cell? ⟨H + 1, 1, none⟩ = some vm ∧ W'.cell? ⟨H + 1, 2, none⟩ = some (.int .i64 an4) ∧ W'.cell? ⟨H + 1, 3, none⟩ = some (.int .i64 600) ∧
      (∀ o, W'.frozen? ⟨H + 1, o, none⟩ = false) ∧ Below (H + 1) A W' := by
  obtain ⟨z, c0, c1, c2, c3, f0, rm, rc, rt, bel⟩ := h
  have hs := hg.size
  have hblk : W'.heap[H + 1]? = W.heap[H + 1]? := hg.block (H + 1) (by omega) (fun e => by have := hlo _ e.symm; omega)
  have ec : ∀ o, W'.cell? ⟨H + 1, o, none⟩ = W.cell? ⟨H + 1, o, none⟩ := fun o => by simp only [World.cell?, hblk]
  have ef : ∀ o, W'.frozen? ⟨H + 1, o, none⟩ = W.frozen? ⟨H + 1, o, none⟩ := fun o => by simp only [World.frozen?, hblk]
  exact ⟨by omega, (ec 0).trans c0, (ec 1).trans c1, (ec 2).trans c2, (ec 3).trans c3, fun o => (ef o).trans (f0 o), bel.grown hg (by omega) (fun j hj => by have := hlo j hj; omega)⟩
theorem RigS.elem {A W W' : World} {H : Nat} {d4 an4 : Int} {ps : List Pc} {a b c : Nat} {vm vc vt vm' : Value} (h : RigS A W H d4 an4 ps a b c vm vc vt) (hg : W.grownBy W' vm.ownBlock) (hr : W'.ownsRow (H + 2) 71 4 vm' (a + 1) (flatE (evE ps (a + 1)))) :
    RigS A (W'.setCell ⟨H + 1, 1, none⟩ vm') H d4 an4 ps (a + 1) b c vm' vc vt := by
  obtain ⟨z, c0, c1, c2, c3, f0, bel⟩ := h.grown hg (fun j hj => (h.rm.lt j hj).1)
  have rc := h.rc.kept hg (own_ne h.rc h.rm (by decide))
  have rt := h.rt.kept hg (own_ne h.rt h.rm (by decide))
  refine ⟨by simpa using z, ?_, ?_, ?_, ?_, fun o => by simpa [go_sem] using f0 o, own_low hr (by omega), own_low rc (by omega), own_low rt (by omega), bel.setCell (Nat.le_refl _) _⟩
  · rw [World.cell?_setCell_other _ _ _ _ (by simp)]; exact c0
  · simp [go_sem, c1]
  · rw [World.cell?_setCell_other _ _ _ _ (by simp)]; exact c2
  · rw [World.cell?_setCell_other _ _ _ _ (by simp)]; exact c3
theorem RigS.time {A W W' : World} {H : Nat} {d4 an4 : Int} {ps : List Pc} {a b c : Nat} {vm vc vt vt' : Value} (h : RigS A W H d4 an4 ps a b c vm vc vt) (hg : W.grownBy W' vt.ownBlock) (hr : W'.ownsRow (H + 2) 2 1 vt' (c + 1) (numv (evT ps (c + 1)))) :
    RigS A W' H d4 an4 ps a b (c + 1) vm vc vt' := by
  obtain ⟨z, c0, c1, c2, c3, f0, bel⟩ := h.grown hg (fun j hj => (h.rt.lt j hj).1)
  exact ⟨z, c0, c1, c2, c3, f0, h.rm.kept hg (own_ne h.rm h.rt (by decide)), h.rc.kept hg (own_ne h.rc h.rt (by decide)), hr, bel⟩
theorem RigS.curr {A W W' : World} {H : Nat} {d4 an4 : Int} {ps : List Pc} {a b c : Nat} {vm vc vt vc' : Value} (h : RigS A W H d4 an4 ps a b c vm vc vt) (hg : W.grownBy W' vc.ownBlock) (hr : W'.ownsRow (H + 2) 41 2 vc' (b + 1) (flatP (evC ps (b + 1)))) :
    RigS A W' H d4 an4 ps a (b + 1) c vm vc' vt := by
  obtain ⟨z, c0, c1, c2, c3, f0, bel⟩ := h.grown hg (fun j hj => (h.rc.lt j hj).1)
  exact ⟨z, c0, c1, c2, c3, f0, h.rm.kept hg (own_ne h.rm h.rc (by decide)), hr, h.rt.kept hg (own_ne h.rt h.rc (by decide)), bel⟩
end Go.Proofs.Ythogahdnidjelaa

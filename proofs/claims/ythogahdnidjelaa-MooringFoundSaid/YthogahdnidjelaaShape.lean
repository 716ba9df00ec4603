/-
  A shape in memory.
-/
import Derived.Test.YthogahdnidjelaaBelowP
namespace Go.Proofs.Ythogahdnidjelaa
open Go.RowKit Go.Shelf
set_option linter.unusedSimpArgs false
/-- the squares of the least and of the greatest tension below the first k elements -/
def leG (free : Bool) (zs : List El) (cs : List Pr) (k : Nat) : Int := hLo free zs cs k * hLo free zs cs k + lifTo zs k * lifTo zs k
def moG (zs : List El) (cs : List Pr) (k : Nat) : Int := sHi zs cs k * sHi zs cs k + lifTo zs k * lifTo zs k
/-- offset and rise of an element -/
noncomputable def offG (free : Bool) (zs : List El) (cs : List Pr) : Nat → Pr
  | 0 => ⟨0, 0⟩
  | k + 1 => ⟨(el zs k).len * hLo free zs cs (k + 1) / isqUp (leG free zs cs (k + 1)),
      min (((el zs k).len * sHi zs cs (k + 1) + isq (moG zs cs (k + 1)) - 1) / isq (moG zs cs (k + 1))) (el zs k).len⟩
noncomputable def risG (free : Bool) (zs : List El) (cs : List Pr) : Nat → Pr
  | 0 => ⟨0, 0⟩
  | k + 1 => ⟨(el zs k).len * lifTo zs (k + 1) / isqUp (moG zs cs (k + 1)),
      min (((el zs k).len * lifTo zs (k + 1) + isq (leG free zs cs (k + 1)) - 1) / isq (leG free zs cs (k + 1))) (el zs k).len⟩
def lenTo (zs : List El) : Nat → Int
  | 0 => 0
  | k + 1 => lenTo zs k + (el zs k).len
theorem lenTo_bd {zs : List El} {cs : List Pr} (h : Rig zs cs) : ∀ k, k ≤ zs.length → 0 ≤ lenTo zs k ∧ lenTo zs k ≤ 1048576 * (k : Int)
  | 0, _ => by simp [lenTo]
  | k + 1, hk => by
    have ih := lenTo_bd h k (by omega)
    have := ((vE_iff _).1 (h.els k (by omega))).1
    simp only [lenTo]
    omega
structure ShapeAt (W : World) (B : Nat) (free : Bool) (zs : List El) (cs : List Pr) (j : Nat) (L : Int) (vo vr : Value) (m n : Nat) : Prop where
  rig : RigAt W B free zs cs j
  c5 : W.cell? ⟨B, 5, none⟩ = some (.int .i64 L)
  c6 : W.cell? ⟨B, 6, none⟩ = some vo
  c7 : W.cell? ⟨B, 7, none⟩ = some vr
  f5 : W.frozen? ⟨B, 5, none⟩ = false
  f6 : W.frozen? ⟨B, 6, none⟩ = false
  f7 : W.frozen? ⟨B, 7, none⟩ = false
  ro : W.ownsRow (B + 1) 41 2 vo m (flatP (rowL (offG free zs cs) m))
  rr : W.ownsRow (B + 1) 41 2 vr n (flatP (rowL (risG free zs cs) n))
  dist : vo.ownBlock = none ∨ vo.ownBlock ≠ vr.ownBlock
theorem ShapeAt.at {W W' : World} {B : Nat} {free : Bool} {zs : List El} {cs : List Pr} {j : Nat} {L : Int} {vo vr : Value} {m n : Nat} (h : ShapeAt W B free zs cs j L vo vr m n) (hb : Below W.heap.size W W') : ShapeAt W' B free zs cs j L vo vr m n := by
  have z := h.rig.lt
  obtain ⟨r, c5, c6, c7, f5, f6, f7, ro, rr, d⟩ := h
  exact ⟨SumsAt.at r hb, (hb.cell (p := ⟨B, 5, none⟩) z).trans c5, (hb.cell (p := ⟨B, 6, none⟩) z).trans c6, (hb.cell (p := ⟨B, 7, none⟩) z).trans c7,
    (hb.frozen (p := ⟨B, 5, none⟩) z).trans f5, (hb.frozen (p := ⟨B, 6, none⟩) z).trans f6, (hb.frozen (p := ⟨B, 7, none⟩) z).trans f7, own_below ro hb, own_below rr hb, d⟩
theorem ShapeAt.add {W W' : World} {B : Nat} {free : Bool} {zs : List El} {cs : List Pr} {j : Nat} {L : Int} {vo vr : Value} {m n : Nat} {a b c d : Int} (h : ShapeAt W B free zs cs j L vo vr m n)
    (hr : RigAt W' B free zs cs (j + 1)) (hb : Below W.heap.size (setS W B a b c d) W') : ShapeAt W' B free zs cs (j + 1) L vo vr m n := by
  have z := h.rig.lt
  obtain ⟨r, c5, c6, c7, f5, f6, f7, ro, rr, dd⟩ := h
  have ec : ∀ o, 5 ≤ o → W'.cell? ⟨B, o, none⟩ = W.cell? ⟨B, o, none⟩ := fun o ho => by
    rw [hb.cell (p := ⟨B, o, none⟩) z]
    unfold setS
    rw [World.cell?_setCell_other _ _ _ _ (by first | (simp; done) | (simp; omega)), World.cell?_setCell_other _ _ _ _ (by first | (simp; done) | (simp; omega)), World.cell?_setCell_other _ _ _ _ (by first | (simp; done) | (simp; omega)), World.cell?_setCell_other _ _ _ _ (by first | (simp; done) | (simp; omega))]
  have ef : ∀ o, W'.frozen? ⟨B, o, none⟩ = W.frozen? ⟨B, o, none⟩ := fun o => by
    rw [hb.frozen (p := ⟨B, o, none⟩) z]
    unfold setS
    simp [go_sem]
  exact ⟨hr, (ec 5 (by omega)).trans c5, (ec 6 (by omega)).trans c6, (ec 7 (by omega)).trans c7, (ef 5).trans f5, (ef 6).trans f6, (ef 7).trans f7, own_step ro hb, own_step rr hb, dd⟩
theorem own_set {W : World} {B o : Nat} {u : Value} {e : TypeId} {size n : Nat} {v : Value} {xs : List Value} (h : W.ownsRow (B + 1) e size v n xs) : (W.setCell ⟨B, o, none⟩ u).ownsRow (B + 1) e size v n xs :=
  own_keep h fun j hj => Below.heap_setCell _ _ _ _ (by have := (h.lt j hj).1; simp; omega)
theorem SumsAt.set {W : World} {B o : Nat} {u : Value} {free : Bool} {a b c d : Int} (h : SumsAt W B free a b c d) (ho : 5 ≤ o) : SumsAt (W.setCell ⟨B, o, none⟩ u) B free a b c d := by
  obtain ⟨z, k0, k1, k2, k3, k4, f1, f2, f3, f4⟩ := h
  refine ⟨by simpa using z, ?_, ?_, ?_, ?_, ?_, ?_, ?_, ?_, ?_⟩
  · rw [World.cell?_setCell_other _ _ _ _ (by first | (simp; done) | (simp; omega))]; exact k0
  · rw [World.cell?_setCell_other _ _ _ _ (by first | (simp; done) | (simp; omega))]; exact k1
  · rw [World.cell?_setCell_other _ _ _ _ (by first | (simp; done) | (simp; omega))]; exact k2
  · rw [World.cell?_setCell_other _ _ _ _ (by first | (simp; done) | (simp; omega))]; exact k3
  · rw [World.cell?_setCell_other _ _ _ _ (by first | (simp; done) | (simp; omega))]; exact k4
  · simpa [go_sem] using f1
  · simpa [go_sem] using f2
  · simpa [go_sem] using f3
  · simpa [go_sem] using f4
theorem ShapeAt.len {W : World} {B : Nat} {free : Bool} {zs : List El} {cs : List Pr} {j : Nat} {L L' : Int} {vo vr : Value} {m n : Nat} (h : ShapeAt W B free zs cs j L vo vr m n) : ShapeAt (W.setCell ⟨B, 5, none⟩ (.int .i64 L')) B free zs cs j L' vo vr m n := by
  have z := h.rig.lt
  obtain ⟨r, c5, c6, c7, f5, f6, f7, ro, rr, d⟩ := h
  exact ⟨SumsAt.set r (by decide), by simp [go_sem, *], by simp [go_sem, *], by simp [go_sem, *], by simpa [go_sem] using f5, by simpa [go_sem] using f6, by simpa [go_sem] using f7, own_set ro, own_set rr, d⟩
theorem ShapeAt.offs {W W3 : World} {B : Nat} {free : Bool} {zs : List El} {cs : List Pr} {j : Nat} {L : Int} {vo vr : Value} {m n g cap : Nat} (h : ShapeAt W B free zs cs j L vo vr m n)
    (hown : W3.ownsRow (B + 1) 41 2 (.slice (some ⟨g, 0, none⟩) (m + 1) cap) (m + 1) (flatP (rowL (offG free zs cs) (m + 1)))) (hgrow : W.grownBy W3 vo.ownBlock) (hat : vo.ownBlock = some g ∨ g = W.heap.size) :
    ShapeAt (W3.setCell ⟨B, 6, none⟩ (.slice (some ⟨g, 0, none⟩) (m + 1) cap)) B free zs cs j L (.slice (some ⟨g, 0, none⟩) (m + 1) cap) vr (m + 1) n := by
  have z := h.rig.lt
  obtain ⟨r, c5, c6, c7, f5, f6, f7, ro, rr, d⟩ := h
  have hB : vo.ownBlock ≠ some B := fun e => by have := (ro.lt _ e).1; omega
  have hblk : W3.heap[B]? = W.heap[B]? := hgrow.block B z (fun e => hB e.symm)
  have ec : ∀ o, W3.cell? ⟨B, o, none⟩ = W.cell? ⟨B, o, none⟩ := fun o => by simp only [World.cell?, hblk]
  have ef : ∀ o, W3.frozen? ⟨B, o, none⟩ = W.frozen? ⟨B, o, none⟩ := fun o => by simp only [World.frozen?, hblk]
  have r3 : RigAt W3 B free zs cs j := SumsAt.block r hgrow.size hblk
  have rr3 := rr.kept hgrow (by rcases d with d | d <;> rcases hv : vr.ownBlock with _ | q <;> first | exact .inl rfl | exact .inr (by rw [d]; simp) | exact .inr (by rw [← hv]; exact fun e => d e.symm))
  refine ⟨SumsAt.set r3 (by decide), ?_, ?_, ?_, ?_, ?_, ?_, own_set hown, own_set rr3, ?_⟩
  · rw [World.cell?_setCell_other _ _ _ _ (by simp)]; exact (ec 5).trans c5
  · have := (ec 6).trans c6
    simp [go_sem, this]
  · rw [World.cell?_setCell_other _ _ _ _ (by simp)]; exact (ec 7).trans c7
  · simpa [go_sem] using (ef 5).trans f5
  · simpa [go_sem] using (ef 6).trans f6
  · simpa [go_sem] using (ef 7).trans f7
  · right
    show some g ≠ vr.ownBlock
    rcases hat with e | e
    · rw [← e]
      rcases d with d | d
      · rw [d] at e; cases e
      · exact d
    · subst e
      intro k
      have := (rr.lt _ k.symm).2
      omega
theorem ShapeAt.riss {W W3 : World} {B : Nat} {free : Bool} {zs : List El} {cs : List Pr} {j : Nat} {L : Int} {vo vr : Value} {m n g cap : Nat} (h : ShapeAt W B free zs cs j L vo vr m n)
    (hown : W3.ownsRow (B + 1) 41 2 (.slice (some ⟨g, 0, none⟩) (n + 1) cap) (n + 1) (flatP (rowL (risG free zs cs) (n + 1)))) (hgrow : W.grownBy W3 vr.ownBlock) (hat : vr.ownBlock = some g ∨ g = W.heap.size) :
    ShapeAt (W3.setCell ⟨B, 7, none⟩ (.slice (some ⟨g, 0, none⟩) (n + 1) cap)) B free zs cs j L vo (.slice (some ⟨g, 0, none⟩) (n + 1) cap) m (n + 1) := by
  have z := h.rig.lt
  obtain ⟨r, c5, c6, c7, f5, f6, f7, ro, rr, d⟩ := h
  have hB : vr.ownBlock ≠ some B := fun e => by have := (rr.lt _ e).1; omega
  have hblk : W3.heap[B]? = W.heap[B]? := hgrow.block B z (fun e => hB e.symm)
  have ec : ∀ o, W3.cell? ⟨B, o, none⟩ = W.cell? ⟨B, o, none⟩ := fun o => by simp only [World.cell?, hblk]
  have ef : ∀ o, W3.frozen? ⟨B, o, none⟩ = W.frozen? ⟨B, o, none⟩ := fun o => by simp only [World.frozen?, hblk]
  have r3 : RigAt W3 B free zs cs j := SumsAt.block r hgrow.size hblk
  have ro3 := ro.kept hgrow d
  refine ⟨SumsAt.set r3 (by decide), ?_, ?_, ?_, ?_, ?_, ?_, own_set ro3, own_set hown, ?_⟩
  · rw [World.cell?_setCell_other _ _ _ _ (by simp)]; exact (ec 5).trans c5
  · rw [World.cell?_setCell_other _ _ _ _ (by simp)]; exact (ec 6).trans c6
  · have := (ec 7).trans c7
    simp [go_sem, this]
  · simpa [go_sem] using (ef 5).trans f5
  · simpa [go_sem] using (ef 6).trans f6
  · simpa [go_sem] using (ef 7).trans f7
  · rcases hat with e | e
    · rw [show (Value.slice (some ⟨g, 0, none⟩) (n + 1) cap).ownBlock = some g from rfl, ← e]
      exact d
    · subst e
      right
      intro k
      have := (ro.lt W.heap.size k).2
      omega
theorem isq_pos {x : Int} (h : 1 ≤ x) : 1 ≤ isq x := by
  obtain ⟨a, b, c⟩ := isq_spec (x := x) (by omega)
  rcases Int.lt_or_le (isq x) 1 with hl | hl
  · have e : isq x = 0 := by omega
    rw [e] at c
    omega
  · exact hl
end Go.Proofs.Ythogahdnidjelaa

/-
  Buffers: rows and tables side by side; pieces.
-/
import Derived.Test.YtbbaehmfadpgeaaBfY
import Derived.Test.YtbbaehmfadpgeaaBfMapR
namespace Go.Proofs.Ytbbaehmfadpgeaa
open Go.RowKit Go.Shelf
set_option linter.unusedSimpArgs false
set_option maxHeartbeats 1000000 in
theorem Held_row {S : Nat → Prop} {b M : Nat} {v : Value} {cap time : Int} {L : List Hd} (w : World) (h : BufAt w S b M v cap time L) (hlen : L.length ≤ 1000) :
    Calls Try.prog 31 #[.pointer (some ⟨b, 0, none⟩)] w fun e w' => ∃ dv, e = .returned dv ∧ w'.ownsRow w.heap.size 82 7 dv L.length (flH L) ∧ Below w.heap.size w w' := by
  have c56 := valid_any w h
  have c70 := ranked_any b w
  obtain ⟨A, hA⟩ : ∃ A, A = w.alloc (.cells #[.pointer (some ⟨b, 0, none⟩)] 27) := ⟨_, rfl⟩
  rw [← hA] at c70
  have hBA : Below w.heap.size w A := by rw [hA]; exact (Below.refl _ _).alloc (Nat.le_refl _) _
  have hA0 : A.heap[w.heap.size]? = some (.cells #[.pointer (some ⟨b, 0, none⟩)] 27 (0, 0)) := by rw [hA]; exact World.alloc_heap_new _ _
  have c93 := append93 w.heap.size A (h.below hBA) hlen (Array.getElem?_eq_some_iff.1 hA0).1 ((cellH hA0 0).trans (by simp))
  have c69 : Calls Try.prog 69 #[.func (.func 94) #[] #[.pointer (some ⟨w.heap.size, 0, none⟩)]] A fun e w' => ∃ dv, e = .returned dv ∧ w'.ownsRow w.heap.size 82 7 dv L.length (flH L) ∧ Below w.heap.size w w' := by
    have HBA := Lib.hid hBA
    clear hA hA0 hBA c56 c70 h
    go_enter Try.func69, Try.ntmps69
    go_wp2_with fail
    refine c93.mono ?_
    rintro e w1 ⟨dv, rfl, hrow, hb⟩
    have HR := Lib.hid (own_base hrow HBA.out.size)
    have HB := Lib.hid (HBA.out.trans (hb.mono HBA.out.size))
    clear hrow hb
    go_wp2_with fail
    go_ret
    exact ⟨_, rfl, HR.out, HB.out⟩
  clear h c93 hA0 hBA hA
  go_enter Try.func31, Try.ntmps31
  go_wp2_with fail
  refine c56.mono ?_
  rintro e w1 ⟨rfl, rfl⟩
  go_wp2_with fail
  refine c70.mono ?_
  rintro e w2 ⟨rfl, rfl⟩
  go_wp2_with fail
  refine c69.mono ?_
  rintro e w3 ⟨dv, rfl, hr, hb⟩
  go_wp2_with fail
  go_ret
  exact ⟨_, rfl, hr, hb⟩

theorem MapR.ne_cell {W : World} {M c g o : Nat} {f : Int → Option Rc} {u : Value} (h : MapR W M c f) (hu : W.cell? ⟨g, o, none⟩ = some u) : g ≠ M := by
  rintro rfl
  obtain ⟨D, ⟨es, clock, hb, hr⟩, h2⟩ := h
  simp [World.cell?, hb] at hu
theorem MapR.ne_block {W : World} {M c g : Nat} {f : Int → Option Rc} {cs : Array Value} {t : TypeId} {q : Nat × Nat} (h : MapR W M c f) (hu : W.heap[g]? = some (.cells cs t q)) : g ≠ M := by
  rintro rfl
  obtain ⟨D, ⟨es, clock, hb, hr⟩, h2⟩ := h
  rw [hb] at hu
  cases hu
theorem grew_row {W W' : World} {M c : Nat} {f : Int → Option Rc} {base : Nat} {e : TypeId} {s n : Nat} {v : Value} {xs : List Value} (h : W.ownsRow base e s v n xs) (hM : MapR W M c f) (hg : W.grownBy W' (some M)) : W'.ownsRow base e s v n xs := by
  refine ⟨h.1, ?_⟩
  rcases h.2 with h2 | ⟨g, cap, cur, rfl, hb, hc, h3⟩
  · exact .inl h2
  · exact .inr ⟨g, cap, cur, rfl, hb, (hg.block g (Array.getElem?_eq_some_iff.1 hc).1 (by simpa using hM.ne_block hc)).trans hc, h3⟩
theorem grew_block {W W' : World} {M c g : Nat} {f : Int → Option Rc} {cs : Array Value} {t : TypeId} {q : Nat × Nat} (hu : W.heap[g]? = some (.cells cs t q)) (hM : MapR W M c f) (hg : W.grownBy W' (some M)) : W'.heap[g]? = some (.cells cs t q) :=
  (hg.block g (Array.getElem?_eq_some_iff.1 hu).1 (by simpa using hM.ne_block hu)).trans hu
theorem MapR.frs {W W' : World} {S S' : Nat → Prop} {M c : Nat} {f : Int → Option Rc} (h : MapR W M c f) (hf : FrS W W' S S') (hS : ¬S M) : MapR W' M c f := h.same (hf.block M h.lt hS)
theorem row_frs {W W' : World} {S S' : Nat → Prop} {base : Nat} {e : TypeId} {s n : Nat} {v : Value} {xs : List Value} (h : W.ownsRow base e s v n xs) (hf : FrS W W' S S') (hS : ∀ k, S k → k < base) : W'.ownsRow base e s v n xs :=
  own_far h fun k h1 h2 => hf.block k h2 fun e => by have := hS k e; omega
theorem row_below {W W' : World} {base : Nat} {e : TypeId} {s n : Nat} {v : Value} {xs : List Value} (h : W.ownsRow base e s v n xs) (hb : Below W.heap.size W W') : W'.ownsRow base e s v n xs := own_far h fun k _ h2 => hb.block k h2
/-- a piece -/
structure Pc where
  p0 : Int
  p1 : Int
  p2 : Int
  p3 : Int
  p4 : Int
  deriving Inhabited
def pcR (p : Pc) : Rc := recP p.p0 p.p1 p.p2 p.p3 p.p4
def pcC (W : World) (p : Pc) (b off : Nat) : Prop := W.cell? ⟨b, off, none⟩ = some (.int .u8 p.p0) ∧ W.cell? ⟨b, off + 1, none⟩ = some (.int .u8 p.p1) ∧ W.cell? ⟨b, off + 2, none⟩ = some (.int .u8 p.p2) ∧ W.cell? ⟨b, off + 3, none⟩ = some (.int .u8 p.p3) ∧ W.cell? ⟨b, off + 4, none⟩ = some (.int .u8 p.p4) ∧ U8 p.p0 ∧ U8 p.p1 ∧ U8 p.p2 ∧ U8 p.p3 ∧ U8 p.p4
/-- pieces in memory -/
def PcA (W : World) (v : Value) (ps : List Pc) : Prop := ∃ a cap, v = .slice a ps.length cap ∧ ∀ j, j < ps.length → ∃ b off, a = some ⟨b, off, none⟩ ∧ b < W.heap.size ∧ pcC W (ps[j]?.getD default) b (off + j * 5)
theorem pcC.keep {W W' : World} {p : Pc} {b off : Nat} (h : pcC W p b off) (hb : b < W.heap.size) (hW : Below W.heap.size W W') : pcC W' p b off := by
  obtain ⟨h0, h1, h2, h3, h4, h5⟩ := h
  exact ⟨(hW.cell (p := ⟨b, off, none⟩) hb).trans h0, (hW.cell (p := ⟨b, off + 1, none⟩) hb).trans h1, (hW.cell (p := ⟨b, off + 2, none⟩) hb).trans h2, (hW.cell (p := ⟨b, off + 3, none⟩) hb).trans h3, (hW.cell (p := ⟨b, off + 4, none⟩) hb).trans h4, h5⟩
/-- between two records -/
def KpI (w : World) (b M M2 : Nat) (cap : Int) (i : Nat) (wr : World) : Prop := ∃ (L : List Hd) (S : Nat → Prop) (v : Value) (f : Int → Option Rc) (c : Nat), BufAt wr S b M v cap 0 L ∧ MapR wr M2 c f ∧ (∀ x ∈ L, f x.r.id = some x.r) ∧ L.length ≤ i ∧ c ≤ i ∧ Below w.heap.size w wr ∧ (∀ k, S k → w.heap.size ≤ k ∧ k ≠ M2) ∧ w.heap.size ≤ M2

end Go.Proofs.Ytbbaehmfadpgeaa

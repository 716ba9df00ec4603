/-
  Buffers: a world has one list of records for a buffer.
-/
import Derived.Test.YtbbaehmfadpgeaaBfQ
namespace Go.Proofs.Ytbbaehmfadpgeaa
open Go.RowKit Go.Shelf
set_option linter.unusedSimpArgs false
theorem zv_inj : ∀ {a b : List Int}, zv a = zv b → a = b
  | [], [], _ => rfl
  | [], _ :: _, h => by simp [zv] at h
  | _ :: _, [], h => by simp [zv] at h
  | x :: a, y :: b, h => by
    simp only [zv, List.map_cons, List.cons.injEq, Value.int.injEq, true_and] at h
    rw [h.1, zv_inj (a := a) (b := b) h.2]
/-- a world has one list of records for a buffer -/
theorem BufAt.uniq {W : World} {S : Nat → Prop} {b M : Nat} {v v' : Value} {cap time : Int} {L L' : List Hd} (h : BufAt W S b M v cap time L) (h' : BufAt W S b M v' cap time L') : L = L' := by
  have e := h.blk.symm.trans h'.blk
  simp only [Option.some.injEq, Obj.cells.injEq, Array.mk.injEq, List.cons.injEq, and_true, true_and] at e
  subst e
  have hl : L.length = L'.length ∧ zv (idsL L) = zv (idsL L') := by
    rcases h.row.2 with ⟨e1, e2⟩ | ⟨g, c, cur, e1, _, hb, _, _, _, h7⟩
    · rcases h'.row.2 with ⟨f1, f2⟩ | ⟨g', c', cur', f1, _, hb', _, _, _, h7'⟩
      · have g1 := List.length_eq_zero_iff.1 e2
        have g2 := List.length_eq_zero_iff.1 f2
        rw [g1, g2]; exact ⟨rfl, rfl⟩
      · rw [e1] at f1; cases f1
    · rcases h'.row.2 with ⟨f1, f2⟩ | ⟨g', c', cur', f1, _, hb', _, _, _, h7'⟩
      · rw [f1] at e1; cases e1
      · rw [e1] at f1
        simp only [Value.slice.injEq, Option.some.injEq, Addr.mk.injEq] at f1
        obtain ⟨⟨rfl, -, -⟩, f2, -⟩ := f1
        have hc := hb.symm.trans hb'
        simp only [Option.some.injEq, Obj.cells.injEq] at hc
        obtain ⟨rfl, -, -⟩ := hc
        exact ⟨f2, by rw [← h7, ← h7', f2]⟩
  have hi := zv_inj hl.2
  refine List.ext_getElem hl.1 fun i h1 h2 => ?_
  have hid : L[i].r.id = L'[i].r.id := by
    have q : (idsL L)[i]? = (idsL L')[i]? := by rw [hi]
    unfold idsL at q
    simpa [h1, h2] using q
  have hx := h.ok _ (List.getElem_mem h1)
  have a1 := h.tab.look (x := L[i].r.id) (by unfold OkR at hx; omega) (by unfold OkR at hx; omega)
  have a2 := h'.tab.look (x := L[i].r.id) (by unfold OkR at hx; omega) (by unfold OkR at hx; omega)
  rw [a1, hid, atL_get h'.nd h2, ← hid, atL_get h.nd h1] at a2
  simp only [Result.ok.injEq, and_true, Option.getD_some] at a2
  exact vH_inj a2
open Classical in
/-- how far a buffer in memory is from fitting -/
noncomputable def muW (S : Nat → Prop) (b M : Nat) (cap time : Int) (W : World) : Nat := if h : ∃ L v, BufAt W S b M v cap time L then mu h.choose else 0
theorem muW_eq {W : World} {S : Nat → Prop} {b M : Nat} {v : Value} {cap time : Int} {L : List Hd} (h : BufAt W S b M v cap time L) : muW S b M cap time W = mu L := by
  have he : ∃ L v, BufAt W S b M v cap time L := ⟨L, v, h⟩
  unfold muW
  rw [dif_pos he]
  obtain ⟨v', h'⟩ := he.choose_spec
  rw [h'.uniq h]
/-- what Put answers -/
def putE (cap : Int) (L : List Hd) (r : Rc) : Int := if OkR r then (if r.id ∈ idsL L then 12 else if cap < r.packed then 14 else 0) else 2
/-- what remains, and what is dropped -/
def putP (cap : Int) (L : List Hd) (r : Rc) : List Hd × List Int := if putE cap L r = 0 then fitL cap (mu (insL r L)) (insL r L) [] else (L, [])

end Go.Proofs.Ytbbaehmfadpgeaa

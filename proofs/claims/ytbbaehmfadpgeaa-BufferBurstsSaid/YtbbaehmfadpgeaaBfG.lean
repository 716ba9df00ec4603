/-
  Buffers: the place of a new record.
-/
import Derived.Test.YtbbaehmfadpgeaaBfF
namespace Go.Proofs.Ytbbaehmfadpgeaa
open Go.RowKit Go.Shelf
set_option linter.unusedSimpArgs false
theorem mem_ids {L : List Hd} {z : Int} (h : z ∈ idsL L) : ∃ x ∈ L, x.r.id = z := by
  obtain ⟨x, hx, rfl⟩ := List.mem_map.1 h
  exact ⟨x, hx, rfl⟩
set_option maxHeartbeats 1000000 in
/-- where the new record goes, at whatever world behind its boxes -/
theorem find_any {S : Nat → Prop} {b M : Nat} {v : Value} {cap time : Int} {L : List Hd} (P1 P2 : Nat) (r : Rc) (w : World) (h : BufAt w S b M v cap time L) (hlen : L.length ≤ 1000) (k0 : w.cell? ⟨P1, 0, none⟩ = some (.pointer (some ⟨b, 0, none⟩))) (HR : BxR w P2 r) :
    Calls Try.prog 84 #[v, .func (.func 85) #[] #[.pointer (some ⟨P1, 0, none⟩), .pointer (some ⟨P2, 0, none⟩)]] w fun e w' => e = .returned (.int .i64 (posR r L : Int)) ∧ Below w.heap.size w w' := by
  rcases h.row.2 with ⟨rfl, h0⟩ | ⟨g, c, cur, rfl, _, hg, hn, hcm, hcs, htk⟩
  · obtain rfl : L = [] := List.length_eq_zero_iff.1 h0
    refine (first_none none 0 P1 P2 w).mono ?_
    rintro e w' ⟨rfl, rfl⟩
    exact ⟨rfl, Below.refl _ _⟩
  · rw [Nat.mul_one] at hcs htk
    have hp := posR_le r L
    have hz : ∀ t : Int, 0 ≤ t → t < (L.length : Int) → ∃ (hi : t.toNat < L.length), (idsL L).getD t.toNat 0 = (L[t.toNat]'hi).r.id := fun t h1 h2 => by
      have hi : t.toNat < L.length := by omega
      refine ⟨hi, ?_⟩
      unfold idsL
      simp [hi]
    refine (first_any P1 P2 g c L.length (posR r L) (fun t => (idsL L).getD t.toNat 0) hlen ⟨by omega, by omega⟩ w (fun t h1 h2 => ?_) (fun t W h1 h2 hW => ?_))
    · rw [cellH hg, ← Array.getElem?_toList]
      have e : (cur.toList.take L.length)[t.toNat]? = (zv (idsL L))[t.toNat]? := by rw [htk]
      rw [List.getElem?_take, if_pos (by omega)] at e
      rw [e]
      obtain ⟨hi, _⟩ := hz t h1 h2
      simp [zv, idsL, hi]
    · obtain ⟨hi, e⟩ := hz t h1 h2
      have hx : OkR (L[t.toNat].r) := h.ok _ (List.getElem_mem hi)
      have hd : decide ((posR r L : Int) ≤ t) = lsR (L[t.toNat].r) r := by
        rw [ord_holds h.ord r hi, Bool.eq_iff_iff, decide_eq_true_iff, decide_eq_true_iff]
        omega
      simp only [e, hd]
      have hbW := h.below hW
      have hk : W.cell? ⟨P1, 0, none⟩ = some (.pointer (some ⟨b, 0, none⟩)) := (hW.cell (World.block_lt_of_cell? w _ k0)).trans k0
      refine addC_any P1 P2 b M _ (L[t.toNat]) r W hk hbW.all.2.2.2.1 (fun W2 hW2 => ?_) (HR.keep hW)
      have := (hbW.below hW2).tab.look (x := L[t.toNat].r.id) (by unfold OkR at hx; omega) (by unfold OkR at hx; omega)
      rw [atL_get h.nd hi] at this
      exact this

end Go.Proofs.Ytbbaehmfadpgeaa

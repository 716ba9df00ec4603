/-
  Bursts: what is sent; the records while the table is written.
-/
import Derived.Test.YtbbaehmfadpgeaaBuA
import Derived.Test.YtbbaehmfadpgeaaBfX
namespace Go.Proofs.Ytbbaehmfadpgeaa
open Go.RowKit Go.Shelf
set_option linter.unusedSimpArgs false
/-- a record that waits no longer, and fits -/
def okH (t w r : Int) (h : Hd) : Prop := (h.sent = -1 ∨ h.sent ≤ t - w) ∧ byH h ≤ r
instance (t w r : Int) (h : Hd) : Decidable (okH t w r h) := by unfold okH; infer_instance
/-- what a burst sends -/
def sndG {α : Type} (f : α → Hd) (t w : Int) : Int → List α → List α
  | _, [] => []
  | r, x :: xs => if okH t w r (f x) then x :: sndG f t w (r - byH (f x)) xs else sndG f t w r xs
/-- the bytes that are left -/
def lftG {α : Type} (f : α → Hd) (t w : Int) : Int → List α → Int
  | r, [] => r
  | r, x :: xs => if okH t w r (f x) then lftG f t w (r - byH (f x)) xs else lftG f t w r xs
theorem sndG_yes {α : Type} (f : α → Hd) (t w : Int) (x : α) : ∀ (pre : List α) (r : Int), okH t w (lftG f t w r pre) (f x) → sndG f t w r (pre ++ [x]) = sndG f t w r pre ++ [x] ∧ lftG f t w r (pre ++ [x]) = lftG f t w r pre - byH (f x) := by
  intro pre
  induction pre with
  | nil => intro r h; simp only [lftG] at h; simp [sndG, lftG, h]
  | cons a l ih =>
    intro r h
    simp only [List.cons_append, sndG, lftG] at h ⊢
    split
    · next ha =>
      rw [if_pos ha] at h
      have := ih _ h
      exact ⟨by rw [this.1]; rfl, this.2⟩
    · next ha =>
      rw [if_neg ha] at h
      exact ih _ h
theorem sndG_no {α : Type} (f : α → Hd) (t w : Int) (x : α) : ∀ (pre : List α) (r : Int), ¬okH t w (lftG f t w r pre) (f x) → sndG f t w r (pre ++ [x]) = sndG f t w r pre ∧ lftG f t w r (pre ++ [x]) = lftG f t w r pre := by
  intro pre
  induction pre with
  | nil => intro r h; simp only [lftG] at h; simp [sndG, lftG, h]
  | cons a l ih =>
    intro r h
    simp only [List.cons_append, sndG, lftG] at h ⊢
    split
    · next ha =>
      rw [if_pos ha] at h
      have := ih _ h
      exact ⟨by rw [this.1], this.2⟩
    · next ha =>
      rw [if_neg ha] at h
      exact ih _ h
theorem lftG_bd {α : Type} (f : α → Hd) (t w : Int) : ∀ (pre : List α) (r : Int), (∀ x ∈ pre, 0 ≤ byH (f x)) → 0 ≤ r → 0 ≤ lftG f t w r pre ∧ lftG f t w r pre ≤ r := by
  intro pre
  induction pre with
  | nil => intro r _ h; exact ⟨h, Int.le_refl _⟩
  | cons a l ih =>
    intro r hb h
    simp only [lftG]
    have h1 := hb a (List.mem_cons_self ..)
    split
    · next ha =>
      have := ih (r - byH (f a)) (fun x hx => hb x (List.mem_cons_of_mem _ hx)) (by have := ha.2; omega)
      omega
    · exact ih r (fun x hx => hb x (List.mem_cons_of_mem _ hx)) h
theorem sndG_len {α : Type} (f : α → Hd) (t w : Int) : ∀ (l : List α) (r : Int), (sndG f t w r l).length ≤ l.length := by
  intro l
  induction l with
  | nil => intro r; exact Nat.le_refl _
  | cons a l ih =>
    intro r
    simp only [sndG]
    split
    · have := ih (r - byH (f a)); simp; omega
    · have := ih r; simp; omega
theorem sndG_mem {α : Type} (f : α → Hd) (t w : Int) : ∀ (l : List α) (r : Int) (x : α), x ∈ sndG f t w r l → x ∈ l := by
  intro l
  induction l with
  | nil => intro r x h; cases h
  | cons a l ih =>
    intro r x h
    simp only [sndG] at h
    split at h
    · rcases List.mem_cons.1 h with rfl | h
      · exact List.mem_cons_self ..
      · exact List.mem_cons_of_mem _ (ih _ _ h)
    · exact List.mem_cons_of_mem _ (ih _ _ h)
/-- the block of a slice's row -/
def pB (p : Option Addr) (q : Nat) : Prop := ∃ g, p = some ⟨g, 0, none⟩ ∧ q = g
def KeepS (Q : Nat → Prop) (W W' : World) : Prop := W.heap.size ≤ W'.heap.size ∧ KeepQ Q W W'
theorem KeepS.trans {Q : Nat → Prop} {A B C : World} (h : KeepS Q A B) (k : KeepS Q B C) : KeepS Q A C := ⟨Nat.le_trans h.1 k.1, h.2.trans k.2⟩
/-- the records of a buffer, while the rounds write the table -/
theorem rank_at (Q : Nat → Prop) (n : Nat) (hn : 1 ≤ n) (Bk b M c : Nat) (p : Option Addr) (L : List Hd) (hlen : L.length ≤ 1000) (w : World) (hQ : ∀ q, Q q → q < w.heap.size)
    (hQk : Q Bk) (hQb : Q b) (h1 : w.cell? ⟨Bk, 0, none⟩ = some (.pointer (some ⟨b, 0, none⟩))) (h3 : w.cell? ⟨b, 3, none⟩ = some (.map (some M))) (h4 : w.cell? ⟨b, 4, none⟩ = some (.slice p L.length c))
    (hc : ∀ k (hk : k < L.length), ∃ g, p = some ⟨g, 0, none⟩ ∧ Q g ∧ w.cell? ⟨g, k, none⟩ = some (.int .i64 (L[k].r.id))) :
    SeqAt n Try.prog 94 #[.pointer (some ⟨Bk, 0, none⟩)] (fun x : {x // x ∈ L} => #[vH x.1]) (KeepS Q) (fun pre Z => ∀ k (hk : k < L.length), pre = L.attach.take k → (Instr.lookup 106 (.map (some M)) (.int .i64 (L[k].r.id)) false).run Try.prog Z = .ok (vH L[k]) Z) (fun ys => ys = L.attach) 1000 0 w := by
  intro J W hW hWz _ hP _ hY h0
  have hk0 : KeepQ Q w W := fun q hq => hW.block q (hQ q hq)
  refine (rankG_in Q n hn (w.heap.size + 1) Bk b M c p L hlen (fun pre Z => J pre Z ∧ w.heap.size + 2 + 0 ≤ Z.heap.size) (fun _ _ => False) (fun pre x Z hj hl => ?_) W hQk hQb ((hk0.cell hQk 0).trans h1) ((hk0.cell hQb 3).trans h3) ((hk0.cell hQb 4).trans h4) (fun k hk => by
    obtain ⟨g, e, hq, hx⟩ := hc k hk
    exact ⟨g, e, hq, (hk0.cell hq k).trans hx⟩) (fun k hk W' hj _ => hP _ _ hj.1 k hk rfl) ⟨h0, by omega⟩).mono ?_
  · obtain ⟨fn, tmps, assign, body, hy, hR⟩ := hY pre x Z hj.1 hj.2 hl
    exact ⟨fn, tmps, assign, body, hy, RoundIn.mono hR (fun e Z' h => .inl ⟨h.1, ⟨h.2.1, Nat.le_trans hj.2 h.2.2.1⟩, h.2.2.2⟩)⟩
  · rintro e Z ⟨hv, ⟨ys, hys, hj⟩ | ⟨pre, _, hf⟩⟩
    · exact ⟨hv, ys, hys, hj.1⟩
    · exact hf.elim

end Go.Proofs.Ytbbaehmfadpgeaa

/-
  TopDocked's mathematics: what the node gets that is taken first; how many dives that lasts.
-/
import Derived.Test.YtdohfpnnmppdkaaLtMath
import Derived.Test.YtdohfpnnmppdkaaShG
import Derived.Test.YtdohfpnnmppdkaaWiMath
namespace Go.Proofs.Ytdohfpnnmppdkaa
open Go.RowKit Go.Shelf
set_option linter.unusedSimpArgs false
theorem ord_first {rk : Nat → Int} {n k : Nat} (hk : k < n) (h : ∀ j, j < n → j ≠ k → rk j < rk k) : tn (ordO rk n) 0 = k := by
  have hT := ordO_turn rk n
  cases hod : ordO rk n with
  | nil => have := hT.len; rw [hod] at this; simp at this; omega
  | cons f l =>
    rw [hod] at hT
    show tn (f :: l) 0 = k
    have e : tn (f :: l) 0 = f := by simp [tn]
    rw [e]
    by_cases hf : f = k
    · exact hf
    · have hfn : f < n := (hT.all f).1 (by simp)
      have hkl : k ∈ l := by
        have := (hT.all k).2 hk
        rcases List.mem_cons.1 this with h1 | h1
        · exact absurd h1.symm hf
        · exact h1
      have q := (List.pairwise_cons.1 hT.asc).1 k hkl
      have hlt := h f hfn hf
      rcases q with q | q <;> omega
/-- all that is asked, and the ranks: of node k alone -/
def dkQ (k : Nat) (x : Int) (j : Nat) : Int := if j = k then x else 0
theorem dkQ_bd {k : Nat} {x : Int} (h : 0 ≤ x ∧ x ≤ 65535) (j : Nat) : 0 ≤ dkQ k x j ∧ dkQ k x j ≤ 65536 := by
  unfold dkQ; split <;> omega
noncomputable def dkA (ns : List Nd) (k : Nat) (x : Int) (j : Nat) : Int := (shF (par ns) (limF ns) (ti (fL (dkQ k x) ns.length)) (ordO (ti (fL (dkQ k 1) ns.length)) ns.length)).2 j
theorem dk_math {sl sh : Int} {ns : List Nd} {k : Nat} {x more : Int} (hv : ValidC sl sh ns) (hk : k < ns.length) (hx : 0 ≤ x ∧ x ≤ 65535) (hm : 0 ≤ more) :
    0 ≤ dkA ns k x k ∧ dkA ns k x k ≤ 65535 ∧ dkA ns k x k ≤ dkA (grdL ns more) k x k ∧ dkA (grdL ns more) k x k ≤ 65535 := by
  have hdv := grdL_valid hm hv
  have hl : ∀ (l : List Nd), ValidC sl sh l → ∀ j, 0 ≤ limF l j := fun l h j => by
    unfold limF
    split
    · rename_i hj
      exact (h.all.node hj).2.1.1
    · decide
  have hrq : ∀ j, 0 ≤ ti (fL (dkQ k x) ns.length) j := fun j => (fL_bd (fun i _ => dkQ_bd hx i) j).1
  have e : ti (fL (dkQ k x) ns.length) k = x := by rw [fL_ti _ hk]; exact if_pos rfl
  have b1 := (shF_bd (P := par ns) (hl ns hv) hrq (ordO (ti (fL (dkQ k 1) ns.length)) ns.length)).gr k
  have b2 := (shF_bd (P := par ns) (hl (grdL ns more) hdv) hrq (ordO (ti (fL (dkQ k 1) ns.length)) ns.length)).gr k
  have hf : tn (ordO (ti (fL (dkQ k 1) ns.length)) ns.length) 0 = k := ord_first hk fun j hj hne => by
    rw [fL_ti _ hj, fL_ti _ hk]
    unfold dkQ
    rw [if_neg hne, if_pos rfl]
    decide
  have q := (first_le (par ns) (limF ns) (limF (grdL ns more)) (ti (fL (dkQ k 1) ns.length)) (ti (fL (dkQ k x) ns.length)) ns.length hv.pos (grdL_lim hm hv)).2
  rw [hf] at q
  have eA : dkA (grdL ns more) k x k = (shF (par ns) (limF (grdL ns more)) (ti (fL (dkQ k x) ns.length)) (ordO (ti (fL (dkQ k 1) ns.length)) ns.length)).2 k := by
    unfold dkA
    rw [grdL_len, grdL_par]
  rw [e] at b1 b2
  rw [eA]
  unfold dkA
  exact ⟨b1.1, by omega, q, by omega⟩
theorem wir_lim {ws : List Wr} {N : Nat} (h : ∀ k, k < N → OkW (wr ws k)) (k : Nat) (hk : k < N + 1) : 0 ≤ (nd (wirF ws N) k).lim ∧ (nd (wirF ws N) k).lim ≤ 100000 := by
  cases k with
  | zero => rw [wirF_zero]; exact ⟨by decide, by decide⟩
  | succ k =>
    rw [wirF_nd ws (show k < N by omega)]
    have := (h k (by omega)).lim
    exact ⟨this.1, Int.le_trans this.2 (by decide)⟩
/-- requests or ranks in memory, as a list -/
theorem il_of_rowC {W : World} {g n : Nat} {t : TypeId} {c : Nat → Value} {f : Nat → Int} (h : RowC W g t n c) (e : ∀ j, j < n → c j = .int .i64 (f j)) : Il W.heap.size W (.slice (some ⟨g, 0, none⟩) n n) (fL f n) :=
  ⟨some ⟨g, 0, none⟩, n, by rw [fL_len], by rw [fL_len]; exact Nat.le_refl _, fun j hj => ⟨g, 0, rfl, h.lt, by
    rw [fL_len] at hj
    rw [Nat.zero_add, fL_ti f hj, h.cell hj, e j hj]⟩⟩
end Go.Proofs.Ytdohfpnnmppdkaa

/-
  Rows of nodes of one's own, one after another: for wired (65).
-/
import Derived.Test.YtdohfpnnmppdkaaWiMath
import Derived.Test.YtdohfpnnmppdkaaCbC
import Derived.Laws.AppendOwn
import Derived.Laws.OwnMore
namespace Go.Proofs.Ytdohfpnnmppdkaa
open Go.RowKit Go.Shelf
set_option linter.unusedSimpArgs false
def ndV (m : Nd) : List Value := [.int .i64 m.par, .int .i64 m.ol, .int .i64 m.oh, .int .i64 m.lim, .int .i64 m.ll, .int .i64 m.lh, .int .i64 m.lea, .int .i64 m.del]
/-- nodes one after another -/
def flNd (l : List Nd) : List Value := l.flatMap ndV
theorem flNd_cons (m : Nd) (l : List Nd) : flNd (m :: l) = ndV m ++ flNd l := rfl
theorem flNd_snoc (l : List Nd) (m : Nd) : flNd (l ++ [m]) = flNd l ++ ndV m := by simp [flNd, List.flatMap_append]
theorem flNd_len (l : List Nd) : (flNd l).length = l.length * 8 := by
  induction l with
  | nil => rfl
  | cons m l ih => rw [flNd_cons, List.length_append, ih]; simp [ndV]; omega
theorem flNd_get (l : List Nd) : ∀ k, k < l.length → (flNd l)[k * 8]? = some (.int .i64 (nd l k).par) ∧ (flNd l)[k * 8 + 1]? = some (.int .i64 (nd l k).ol) ∧ (flNd l)[k * 8 + 2]? = some (.int .i64 (nd l k).oh) ∧ (flNd l)[k * 8 + 3]? = some (.int .i64 (nd l k).lim) ∧ (flNd l)[k * 8 + 4]? = some (.int .i64 (nd l k).ll) ∧ (flNd l)[k * 8 + 5]? = some (.int .i64 (nd l k).lh) ∧ (flNd l)[k * 8 + 6]? = some (.int .i64 (nd l k).lea) ∧ (flNd l)[k * 8 + 7]? = some (.int .i64 (nd l k).del) := by
  induction l with
  | nil => intro k h; simp at h
  | cons m l ih =>
    intro k h
    rw [flNd_cons]
    cases k with
    | zero => exact ⟨rfl, rfl, rfl, rfl, rfl, rfl, rfl, rfl⟩
    | succ k =>
      obtain ⟨h0, h1, h2, h3, h4, h5, h6, h7⟩ := ih k (by simpa using h)
      have e : nd (m :: l) (k + 1) = nd l k := by simp [nd]
      have hl : (ndV m).length = 8 := rfl
      rw [e]
      refine ⟨?_, ?_, ?_, ?_, ?_, ?_, ?_, ?_⟩
      · rw [List.getElem?_append_right (by rw [hl]; omega), hl, show (k + 1) * 8 - 8 = k * 8 by omega]; exact h0
      · rw [List.getElem?_append_right (by rw [hl]; omega), hl, show (k + 1) * 8 + 1 - 8 = k * 8 + 1 by omega]; exact h1
      · rw [List.getElem?_append_right (by rw [hl]; omega), hl, show (k + 1) * 8 + 2 - 8 = k * 8 + 2 by omega]; exact h2
      · rw [List.getElem?_append_right (by rw [hl]; omega), hl, show (k + 1) * 8 + 3 - 8 = k * 8 + 3 by omega]; exact h3
      · rw [List.getElem?_append_right (by rw [hl]; omega), hl, show (k + 1) * 8 + 4 - 8 = k * 8 + 4 by omega]; exact h4
      · rw [List.getElem?_append_right (by rw [hl]; omega), hl, show (k + 1) * 8 + 5 - 8 = k * 8 + 5 by omega]; exact h5
      · rw [List.getElem?_append_right (by rw [hl]; omega), hl, show (k + 1) * 8 + 6 - 8 = k * 8 + 6 by omega]; exact h6
      · rw [List.getElem?_append_right (by rw [hl]; omega), hl, show (k + 1) * 8 + 7 - 8 = k * 8 + 7 by omega]; exact h7
theorem ndV_one (m : Nd) : ∀ u, u ∈ ndV m → u.oneCell' = true := by
  intro u hu
  simp only [ndV, List.mem_cons, List.not_mem_nil, or_false] at hu
  rcases hu with rfl | rfl | rfl | rfl | rfl | rfl | rfl | rfl <;> rfl
theorem nds_of_own {W : World} {base : Nat} {v : Value} {l : List Nd} {n : Nat} (hn : l.length = n) (h : W.ownsRow base 62 8 v n (flNd l)) : Nds W.heap.size W v l := by
  subst hn
  have hh := h
  rcases h.2 with ⟨hv, h0⟩ | ⟨g, cap, cur, hv, hb, hg, hc, _⟩
  · exact ⟨none, 0, by rw [h0]; exact hv, by omega, fun k hk => by omega⟩
  · subst hv
    refine ⟨some ⟨g, 0, none⟩, cap, rfl, hc, fun k hk => ⟨g, 0, rfl, (Array.getElem?_eq_some_iff.1 hg).1, ?_⟩⟩
    obtain ⟨h0, h1, h2, h3, h4, h5, h6, h7⟩ := flNd_get l k hk
    simp only [Nat.zero_add]
    exact ⟨(hh.cellAt _ (by omega)).trans h0, (hh.cellAt _ (by omega)).trans h1, (hh.cellAt _ (by omega)).trans h2, (hh.cellAt _ (by omega)).trans h3, (hh.cellAt _ (by omega)).trans h4, (hh.cellAt _ (by omega)).trans h5, (hh.cellAt _ (by omega)).trans h6, (hh.cellAt _ (by omega)).trans h7⟩
/-- the depths as values -/
def flDp (l : List Int) : List Value := l.map fun x => .int .i64 x
theorem flDp_snoc (l : List Int) (x : Int) : flDp (l ++ [x]) = flDp l ++ [.int .i64 x] := by simp [flDp]
theorem flDp_get (l : List Int) (k : Nat) (hk : k < l.length) : (flDp l)[k]? = some (.int .i64 (dAt l k)) := by simp [flDp, dAt, hk]
/-- a depth, read from its row -/
theorem dp_cell {W : World} {base g n cap : Nat} {l : List Int} (hn : l.length = n) (h : W.ownsRow base 2 1 (.slice (some ⟨g, 0, none⟩) n cap) n (flDp l)) (k : Nat) (hk : k < n) : W.cell? ⟨g, k, none⟩ = some (.int .i64 (dAt l k)) :=
  (h.cellAt k (by omega)).trans (flDp_get l k (by omega))
/-- the row of depths grows by one -/
theorem dep_step (ws : List Wr) (i : Nat) : flDp (depF ws i) ++ [.int .i64 (dAt (depF ws i) (wrP ws i).toNat + 1)] = flDp (depF ws (i + 1)) := (flDp_snoc _ _).symm
/-- the row of nodes grows by one -/
theorem wir_step (ws : List Wr) (i : Nat) : flNd (wirF ws i) ++ ndV (wrN ws i) = flNd (wirF ws (i + 1)) := (flNd_snoc _ _).symm
end Go.Proofs.Ytdohfpnnmppdkaa

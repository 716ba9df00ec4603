/-
  MooringFound: a copy of the hours, and one store into it.
-/
import Derived.Test.YthogahdnidjelaaFndMath
import Derived.Deep.AppendSrc
namespace Go.Proofs.Ythogahdnidjelaa
open Go.RowKit Go.Shelf
set_option linter.unusedSimpArgs false
theorem infoHr : (Try.prog.info? 81).map (fun i => (i.zero, i.size, i.bytes)) = some (some (.agg #[.int .i64 0, .int .i64 0, .int .i64 0, .int .i64 0, .slice none 0 0]), 5, 56) := by kernel_rfl
theorem u55 : Try.prog.underlying 55 = some (.slice 81) := by kernel_rfl
/-- the cells of the first n hours -/
def flatH (hs : List Hr) (ss : Nat → Value) : Nat → List Value
  | 0 => []
  | n + 1 => flatH hs ss n ++ [.int .i64 (hr hs n).eLo, .int .i64 (hr hs n).eHi, .int .i64 (hr hs n).nLo, .int .i64 (hr hs n).nHi, ss n]
theorem flatH_len (hs : List Hr) (ss : Nat → Value) : ∀ n, (flatH hs ss n).length = n * 5
  | 0 => rfl
  | n + 1 => by simp [flatH, flatH_len hs ss n]; omega
theorem flatH_get (hs : List Hr) (ss : Nat → Value) : ∀ n k, k < n → (flatH hs ss n)[k * 5]? = some (.int .i64 (hr hs k).eLo) ∧ (flatH hs ss n)[k * 5 + 1]? = some (.int .i64 (hr hs k).eHi) ∧ (flatH hs ss n)[k * 5 + 2]? = some (.int .i64 (hr hs k).nLo) ∧ (flatH hs ss n)[k * 5 + 3]? = some (.int .i64 (hr hs k).nHi) ∧ (flatH hs ss n)[k * 5 + 4]? = some (ss k)
  | 0, k, h => absurd h (Nat.not_lt_zero _)
  | n + 1, k, h => by
    have hl := flatH_len hs ss n
    by_cases e : k = n
    · subst e
      simp only [flatH]
      refine ⟨?_, ?_, ?_, ?_, ?_⟩ <;> (rw [List.getElem?_append_right (by omega), hl]; simp)
    · obtain ⟨g0, g1, g2, g3, g4⟩ := flatH_get hs ss n k (by omega)
      simp only [flatH]
      refine ⟨?_, ?_, ?_, ?_, ?_⟩ <;> (rw [List.getElem?_append_left (by omega)]; assumption)
theorem flatH_one (hs : List Hr) (ss : Nat → Value) : ∀ n, (∀ k, k < n → (ss k).oneCell' = true) → ∀ u ∈ flatH hs ss n, u.oneCell' = true
  | 0, _, u, h => by simp [flatH] at h
  | n + 1, h1, u, h => by
    simp only [flatH, List.mem_append] at h
    rcases h with h | h
    · exact flatH_one hs ss n (fun k hk => h1 k (by omega)) u h
    · simp only [List.mem_cons, List.not_mem_nil, or_false] at h
      rcases h with rfl | rfl | rfl | rfl | rfl
      · rfl
      · rfl
      · rfl
      · rfl
      · exact h1 n (by omega)
/-- the hours of a slice by their block -/
theorem hrs_open {W : World} {a : Option Addr} {n cap n₀ : Nat} {hs : List Hr} (h : Hrs n₀ W (.slice a n cap) hs) (hn : 0 < hs.length) : ∃ b off, ∃ ss : Nat → Value, a = some ⟨b, off, none⟩ ∧ b < n₀ ∧ n = hs.length ∧ hs.length ≤ cap ∧ (∀ k, k < hs.length → Nums n₀ W (ss k) (hr hs k).se) ∧
    ∀ (j : Nat) (u : Value), (flatH hs ss hs.length)[j]? = some u → W.cell? ⟨b, off + j, none⟩ = some u := by
  obtain ⟨a', cap', e, hcap, hc⟩ := h
  simp only [Value.slice.injEq] at e
  obtain ⟨rfl, rfl, rfl⟩ := e
  obtain ⟨b, off, -, rfl, hb, -⟩ := hc 0 hn
  have hc2 : ∀ k, ∃ s, k < hs.length → W.cell? ⟨b, off + k * 5, none⟩ = some (.int .i64 (hr hs k).eLo) ∧ W.cell? ⟨b, off + k * 5 + 1, none⟩ = some (.int .i64 (hr hs k).eHi) ∧
      W.cell? ⟨b, off + k * 5 + 2, none⟩ = some (.int .i64 (hr hs k).nLo) ∧ W.cell? ⟨b, off + k * 5 + 3, none⟩ = some (.int .i64 (hr hs k).nHi) ∧
      W.cell? ⟨b, off + k * 5 + 4, none⟩ = some s ∧ Nums n₀ W s (hr hs k).se := fun k => by
    by_cases hk : k < hs.length
    · obtain ⟨b', off', s, e, -, g⟩ := hc k hk
      simp only [Option.some.injEq, Addr.mk.injEq] at e
      obtain ⟨rfl, rfl, -⟩ := e
      exact ⟨s, fun _ => g⟩
    · exact ⟨.slice none 0 0, fun h => absurd h hk⟩
  refine ⟨b, off, fun k => Classical.choose (hc2 k), rfl, hb, rfl, hcap, fun k hk => (Classical.choose_spec (hc2 k) hk).2.2.2.2.2, ?_⟩
  generalize hss : (fun k => Classical.choose (hc2 k)) = ss
  have hc3 : ∀ k, k < hs.length → W.cell? ⟨b, off + k * 5, none⟩ = some (.int .i64 (hr hs k).eLo) ∧ W.cell? ⟨b, off + k * 5 + 1, none⟩ = some (.int .i64 (hr hs k).eHi) ∧
      W.cell? ⟨b, off + k * 5 + 2, none⟩ = some (.int .i64 (hr hs k).nLo) ∧ W.cell? ⟨b, off + k * 5 + 3, none⟩ = some (.int .i64 (hr hs k).nHi) ∧
      W.cell? ⟨b, off + k * 5 + 4, none⟩ = some (ss k) := fun k hk => by
    have g := Classical.choose_spec (hc2 k) hk
    rw [← hss]
    exact ⟨g.1, g.2.1, g.2.2.1, g.2.2.2.1, g.2.2.2.2.1⟩
  intro j u hu
  have hj : j < (flatH hs ss hs.length).length := (List.getElem?_eq_some_iff.1 hu).1
  rw [flatH_len] at hj
  have hk : j / 5 < hs.length := by omega
  obtain ⟨f0, f1, f2, f3, f4⟩ := flatH_get hs ss hs.length (j / 5) hk
  obtain ⟨g0, g1, g2, g3, g4⟩ := hc3 (j / 5) hk
  have hm : j % 5 = 0 ∨ j % 5 = 1 ∨ j % 5 = 2 ∨ j % 5 = 3 ∨ j % 5 = 4 := by omega
  rcases hm with m | m | m | m | m
  · rw [show j / 5 * 5 = j by omega] at f0 g0
    rw [hu] at f0; rw [g0, ← f0]
  · rw [show j / 5 * 5 + 1 = j by omega] at f1
    rw [Nat.add_assoc, show j / 5 * 5 + 1 = j by omega] at g1
    rw [hu] at f1; rw [g1, ← f1]
  · rw [show j / 5 * 5 + 2 = j by omega] at f2
    rw [Nat.add_assoc, show j / 5 * 5 + 2 = j by omega] at g2
    rw [hu] at f2; rw [g2, ← f2]
  · rw [show j / 5 * 5 + 3 = j by omega] at f3
    rw [Nat.add_assoc, show j / 5 * 5 + 3 = j by omega] at g3
    rw [hu] at f3; rw [g3, ← f3]
  · rw [show j / 5 * 5 + 4 = j by omega] at f4
    rw [Nat.add_assoc, show j / 5 * 5 + 4 = j by omega] at g4
    rw [hu] at f4; rw [g4, ← f4]
/-- a block that holds some hours, and perhaps more behind them -/
def HrB (W : World) (B : Nat) (hs : List Hr) (ss : Nat → Value) : Prop := ∃ Z : Array Value, W.heap[B]? = some (.cells ((flatH hs ss hs.length).toArray ++ Z) 81 (0, 0))
theorem HrB.lt {W : World} {B : Nat} {hs : List Hr} {ss : Nat → Value} (h : HrB W B hs ss) : B < W.heap.size := by
  obtain ⟨Z, h⟩ := h
  exact (Array.getElem?_eq_some_iff.1 h).1
theorem HrB.cell {W : World} {B : Nat} {hs : List Hr} {ss : Nat → Value} (h : HrB W B hs ss) {j : Nat} {u : Value} (hu : (flatH hs ss hs.length)[j]? = some u) : W.cell? ⟨B, j, none⟩ = some u := by
  obtain ⟨Z, h⟩ := h
  have hj : j < (flatH hs ss hs.length).length := (List.getElem?_eq_some_iff.1 hu).1
  simp only [World.cell?, h]
  simp only [Array.getElem?_append, List.size_toArray, hj, if_true, List.getElem?_toArray, hu]
  rfl
theorem HrB.frozen {W : World} {B : Nat} {hs : List Hr} {ss : Nat → Value} (h : HrB W B hs ss) (k : Nat) : W.frozen? ⟨B, k, none⟩ = false := by
  obtain ⟨Z, h⟩ := h
  simp [World.frozen?, h]
theorem HrB.keep {W W' : World} {n B : Nat} {hs : List Hr} {ss : Nat → Value} (h : HrB W B hs ss) (hb : Below n W W') (hn : B < n) : HrB W' B hs ss := by
  obtain ⟨Z, h⟩ := h
  exact ⟨Z, (hb.block B hn).trans h⟩
/-- behind the store of a list of cells into one of the hours -/
theorem HrB.set {W : World} {B : Nat} {hs : List Hr} {ss : Nat → Value} (h : HrB W B hs ss) {i : Nat} (hi : i < hs.length) {cap : Nat} (hcap : hs.length ≤ cap) (c : Int) (v : Value) (hv : Nums W.heap.size (W.setCell ⟨B, i * 5 + 4, none⟩ v) v (insC c (hr hs i).se))
    (hss : ∀ k, k < hs.length → Nums W.heap.size (W.setCell ⟨B, i * 5 + 4, none⟩ v) (ss k) (hr hs k).se) :
    Hrs (W.setCell ⟨B, i * 5 + 4, none⟩ v).heap.size (W.setCell ⟨B, i * 5 + 4, none⟩ v) (.slice (some ⟨B, 0, none⟩) hs.length cap) (moreH hs i c) := by
  have hsz : (W.setCell ⟨B, i * 5 + 4, none⟩ v).heap.size = W.heap.size := by simp
  have hold : ∀ j u, j ≠ i * 5 + 4 → (flatH hs ss hs.length)[j]? = some u → (W.setCell ⟨B, i * 5 + 4, none⟩ v).cell? ⟨B, j, none⟩ = some u := by
    intro j u hj hu
    rw [World.cell?_setCell_other _ _ _ _ (by intro q; simp at q; try omega)]
    exact h.cell hu
  refine ⟨_, cap, by rw [moreH_len], by rw [moreH_len]; exact hcap, fun k hk => ?_⟩
  rw [moreH_len] at hk
  obtain ⟨f0, f1, f2, f3, f4⟩ := flatH_get hs ss hs.length k hk
  rw [hsz]
  by_cases e : k = i
  · subst e
    rw [moreH_at _ _ hi]
    refine ⟨B, 0, v, rfl, h.lt, ?_, ?_, ?_, ?_, ?_, hv⟩
    · rw [Nat.zero_add]; exact hold _ _ (by omega) f0
    · rw [Nat.zero_add]; exact hold _ _ (by omega) f1
    · rw [Nat.zero_add]; exact hold _ _ (by omega) f2
    · rw [Nat.zero_add]; exact hold _ _ (by omega) f3
    · rw [Nat.zero_add]
      exact World.cell?_setCell_same _ _ _ (h.cell f4)
  · rw [moreH_far _ _ e]
    refine ⟨B, 0, ss k, rfl, h.lt, ?_, ?_, ?_, ?_, ?_, hss k hk⟩
    · rw [Nat.zero_add]; exact hold _ _ (by omega) f0
    · rw [Nat.zero_add]; exact hold _ _ (by omega) f1
    · rw [Nat.zero_add]; exact hold _ _ (by omega) f2
    · rw [Nat.zero_add]; exact hold _ _ (by omega) f3
    · rw [Nat.zero_add]; exact hold _ _ (by omega) f4
/-- a row of the call's own, behind a store elsewhere -/
theorem nums_far {W : World} {base MB o : Nat} {u v : Value} {xs : List Int} (h : W.ownsRow base 3 1 v xs.length (numv xs)) (hm : MB < base) : Nums W.heap.size (W.setCell ⟨MB, o, none⟩ u) v xs := by
  have hn := nums_of_owns h
  rcases h.2 with ⟨rfl, h0⟩ | ⟨g, cap, cur, rfl, hb, -⟩
  · exact ⟨none, 0, by rw [h0], by omega, fun j hj => by omega⟩
  · obtain ⟨a, cap', e, hl, hc⟩ := hn
    refine ⟨a, cap', e, hl, fun k hk => ?_⟩
    obtain ⟨b, off, h1, h2, h3⟩ := hc k hk
    simp only [Value.slice.injEq] at e
    have e1 := e.1.trans h1
    simp only [Option.some.injEq, Addr.mk.injEq] at e1
    refine ⟨b, off, h1, h2, (World.cell?_setCell_far _ _ _ _ ?_).trans h3⟩
    show MB ≠ b
    omega
end Go.Proofs.Ythogahdnidjelaa

/-
  Clock: exchanges in a row of one's own; inside.
-/
import Derived.Test.YtcchmjbedppfnaaMoreMath
namespace Go.Proofs.Ytcchmjbedppfnaa
open Go.RowKit Go.Shelf
set_option linter.unusedSimpArgs false
def flatX : List Xc → List Value
  | [] => []
  | y :: xs => .int .i64 y.se :: .int .i64 y.he :: .int .i64 y.an :: .int .i64 y.ba :: .int .i64 y.fLo :: .int .i64 y.fHi :: .int .i64 y.hLo :: .int .i64 y.hHi :: flatX xs
theorem flatX_len : ∀ xs : List Xc, (flatX xs).length = xs.length * 8
  | [] => rfl
  | y :: xs => by simp [flatX, flatX_len xs]; omega
theorem flatX_get : ∀ (xs : List Xc) (j : Nat), j < xs.length → (flatX xs)[j * 8]? = some (.int .i64 (xc xs j).se) ∧ (flatX xs)[j * 8 + 1]? = some (.int .i64 (xc xs j).he) ∧ (flatX xs)[j * 8 + 2]? = some (.int .i64 (xc xs j).an) ∧ (flatX xs)[j * 8 + 3]? = some (.int .i64 (xc xs j).ba) ∧ (flatX xs)[j * 8 + 4]? = some (.int .i64 (xc xs j).fLo) ∧ (flatX xs)[j * 8 + 5]? = some (.int .i64 (xc xs j).fHi) ∧ (flatX xs)[j * 8 + 6]? = some (.int .i64 (xc xs j).hLo) ∧ (flatX xs)[j * 8 + 7]? = some (.int .i64 (xc xs j).hHi)
  | y :: xs, 0, _ => ⟨rfl, rfl, rfl, rfl, rfl, rfl, rfl, rfl⟩
  | y :: xs, j + 1, h => by
    have ih := flatX_get xs j (by simpa using h)
    have e : (j + 1) * 8 = j * 8 + 8 := by omega
    rw [e]
    simpa [flatX, xc] using ih
theorem flatX_append (xs ys : List Xc) : flatX (xs ++ ys) = flatX xs ++ flatX ys := by
  induction xs with
  | nil => rfl
  | cons x xs ih => simp [flatX, ih]
theorem xcs_of_owns {W : World} {base : Nat} {v : Value} {xs : List Xc} (h : W.ownsRow base 25 8 v xs.length (flatX xs)) : Xcs W.heap.size W v xs := by
  rcases h.2 with ⟨rfl, h0⟩ | ⟨g, cap, cur, rfl, hb, hg, r1, r2, r3, r4⟩
  · exact ⟨none, 0, by rw [h0], by omega, fun j hj => by omega⟩
  · refine ⟨_, cap, rfl, r1, fun j hj => ⟨g, 0, rfl, (Array.getElem?_eq_some_iff.1 hg).1, ?_⟩⟩
    obtain ⟨e0, e1, e2, e3, e4, e5, e6, e7⟩ := flatX_get xs j hj
    have h4 : ∀ i, i < xs.length * 8 → cur.toList[i]? = (flatX xs)[i]? := by
      intro i hi
      rw [← r4, List.getElem?_take_of_lt hi]
    rw [Nat.zero_add]
    simp only [World.cell?, hg]
    refine ⟨?_, ?_, ?_, ?_, ?_, ?_, ?_, ?_⟩
    · have := (h4 (j * 8) (by omega)).trans e0; simpa using this
    · have := (h4 (j * 8 + 1) (by omega)).trans e1; simpa using this
    · have := (h4 (j * 8 + 2) (by omega)).trans e2; simpa using this
    · have := (h4 (j * 8 + 3) (by omega)).trans e3; simpa using this
    · have := (h4 (j * 8 + 4) (by omega)).trans e4; simpa using this
    · have := (h4 (j * 8 + 5) (by omega)).trans e5; simpa using this
    · have := (h4 (j * 8 + 6) (by omega)).trans e6; simpa using this
    · have := (h4 (j * 8 + 7) (by omega)).trans e7; simpa using this
/-- the cells of given exchanges, one after another -/
theorem Xcs.news {n₀ : Nat} {W : World} {a : Addr} {cap : Nat} {xs : List Xc} (h : Xcs n₀ W (.slice (some a) xs.length cap) xs) : ∀ j u, (flatX xs)[j]? = some u → W.cell? (a.add j) = some u := by
  obtain ⟨a', cap', e, hl, hc⟩ := h
  simp only [Value.slice.injEq, true_and] at e
  obtain ⟨e1, rfl⟩ := e
  subst e1
  intro j u hj
  have hlt : j < xs.length * 8 := by
    have := (List.getElem?_eq_some_iff.1 hj).1
    rwa [flatX_len] at this
  obtain ⟨b, off, hab, hb, c0, c1, c2, c3, c4, c5, c6, c7⟩ := hc (j / 8) (by omega)
  simp only [Option.some.injEq] at hab
  subst hab
  obtain ⟨e0, e1, e2, e3, e4, e5, e6, e7⟩ := flatX_get xs (j / 8) (by omega)
  have hj8 : j = j / 8 * 8 ∨ j = j / 8 * 8 + 1 ∨ j = j / 8 * 8 + 2 ∨ j = j / 8 * 8 + 3 ∨ j = j / 8 * 8 + 4 ∨ j = j / 8 * 8 + 5 ∨ j = j / 8 * 8 + 6 ∨ j = j / 8 * 8 + 7 := by omega
  generalize j / 8 = q at *
  rcases hj8 with rfl | rfl | rfl | rfl | rfl | rfl | rfl | rfl
  · rw [e0] at hj; rw [← Option.some.inj hj]; have e9 : (⟨b, off, none⟩ : Addr).add (q * 8) = ⟨b, off + q * 8, none⟩ := by unfold Addr.add; split <;> simp_all
    rw [e9]; exact c0
  · rw [e1] at hj; rw [← Option.some.inj hj]; rw [Nat.add_assoc] at c1; exact c1
  · rw [e2] at hj; rw [← Option.some.inj hj]; rw [Nat.add_assoc] at c2; exact c2
  · rw [e3] at hj; rw [← Option.some.inj hj]; rw [Nat.add_assoc] at c3; exact c3
  · rw [e4] at hj; rw [← Option.some.inj hj]; rw [Nat.add_assoc] at c4; exact c4
  · rw [e5] at hj; rw [← Option.some.inj hj]; rw [Nat.add_assoc] at c5; exact c5
  · rw [e6] at hj; rw [← Option.some.inj hj]; rw [Nat.add_assoc] at c6; exact c6
  · rw [e7] at hj; rw [← Option.some.inj hj]; rw [Nat.add_assoc] at c7; exact c7
set_option maxRecDepth 100000 in
set_option maxHeartbeats 2000000 in
theorem inside_any (a b : Int × Int) (w : World) : Calls Try.prog 54 #[spv a, spv b] w fun e w' => e = .returned (.bool (decide (b.1 ≤ a.1 ∧ a.2 ≤ b.2))) ∧ Below w.heap.size w w' := by
  obtain ⟨a0, a1⟩ := a
  obtain ⟨b0, b1⟩ := b
  unfold spv
  dsimp only
  have HA := Lib.hid (show Below w.heap.size w ((w.alloc (.cells #[.int .i64 a0, .int .i64 a1] 23)).alloc (.cells #[.int .i64 b0, .int .i64 b1] 23)) from ((Below.refl _ _).alloc (Nat.le_refl _) _).alloc (by simp) _)
  by_cases h1 : b0 ≤ a0
  · by_cases h2 : a1 ≤ b1
    · rw [decide_eq_true (show b0 ≤ a0 ∧ a1 ≤ b1 from ⟨h1, h2⟩)]
      go_enter Try.func54, Try.ntmps54
      go_wp2_with fail
      go_ret
      exact ⟨rfl, HA.out⟩
    · rw [decide_eq_false (show ¬ (b0 ≤ a0 ∧ a1 ≤ b1) from fun h => h2 h.2)]
      go_enter Try.func54, Try.ntmps54
      go_wp2_with fail
      go_ret
      exact ⟨rfl, HA.out⟩
  · rw [decide_eq_false (show ¬ (b0 ≤ a0 ∧ a1 ≤ b1) from fun h => h1 h.1)]
    go_enter Try.func54, Try.ntmps54
    go_wp2_with fail
    go_ret
    exact ⟨rfl, HA.out⟩
theorem build26 (w : World) : (Instr.buildSlice 26 0 #[]).run Try.prog w = .ok (.slice (some ⟨w.heap.size, 0, none⟩) 0 0) (w.alloc (.cells #[] 25)) := by kernel_rfl
theorem own_empty (w : World) : (w.alloc (.cells #[] 25)).ownsRow w.heap.size 25 8 (.slice (some ⟨w.heap.size, 0, none⟩) 0 0) 0 [] :=
  ⟨rfl, .inr ⟨w.heap.size, 0, #[], rfl, Nat.le_refl _, World.alloc_heap_new w _, Nat.le_refl _, Nat.zero_le _, rfl, rfl⟩⟩
end Go.Proofs.Ytcchmjbedppfnaa

/-
  Clock: exchanges whose delays are made wider one after another.
-/
import Derived.Test.YtcchmjbedppfnaaHoldMd
namespace Go.Proofs.Ytcchmjbedppfnaa
open Go.RowKit Go.Shelf
set_option linter.unusedSimpArgs false
def mxX (d : Int) (xs : List Xc) : Nat → List Xc
  | 0 => xs
  | k + 1 => (mxX d xs k).set k (wdX d (xc xs k))
theorem mxX_len (d : Int) (xs : List Xc) : ∀ k, (mxX d xs k).length = xs.length
  | 0 => rfl
  | k + 1 => by unfold mxX; rw [List.length_set]; exact mxX_len d xs k
theorem mxX_get (d : Int) (xs : List Xc) : ∀ k j, j < xs.length → xc (mxX d xs k) j = if j < k then wdX d (xc xs j) else xc xs j
  | 0, j, hj => by rw [if_neg (by omega)]; rfl
  | k + 1, j, hj => by
    have ih := mxX_get d xs k j hj
    unfold mxX
    by_cases h : j = k
    · subst h
      rw [if_pos (by omega)]
      unfold xc
      rw [List.getElem?_set_self (by rw [mxX_len]; exact hj)]
      rfl
    · have e : xc ((mxX d xs k).set k (wdX d (xc xs k))) j = xc (mxX d xs k) j := by
        unfold xc
        rw [List.getElem?_set_ne (by omega)]
      rw [e, ih]
      by_cases h2 : j < k
      · rw [if_pos h2, if_pos (by omega)]
      · rw [if_neg h2, if_neg (by omega)]
theorem mxX_end (d : Int) (xs : List Xc) : mxX d xs xs.length = xs.map (wdX d) := by
  refine List.ext_getElem (by rw [mxX_len, List.length_map]) fun j h1 h2 => ?_
  rw [mxX_len] at h1
  have q := mxX_get d xs xs.length j h1
  rw [if_pos h1] at q
  unfold xc at q
  rw [List.getElem?_eq_getElem (by rw [mxX_len]; exact h1), List.getElem?_eq_getElem h1] at q
  simpa using q
/-- four cells of an element are set -/
theorem flatX_set : ∀ (ys : List Xc) (k : Nat) (a b c d : Int), k < ys.length → ((((flatX ys).set (k * 8 + 4) (.int .i64 a)).set (k * 8 + 5) (.int .i64 b)).set (k * 8 + 6) (.int .i64 c)).set (k * 8 + 7) (.int .i64 d) = flatX (ys.set k ⟨(xc ys k).se, (xc ys k).he, (xc ys k).an, (xc ys k).ba, a, b, c, d⟩)
  | y :: ys, 0, a, b, c, d, _ => rfl
  | y :: ys, k + 1, a, b, c, d, h => by
    have ih := flatX_set ys k a b c d (by simpa using h)
    have e4 : (k + 1) * 8 + 4 = (k * 8 + 4) + 8 := by omega
    have e5 : (k + 1) * 8 + 5 = (k * 8 + 5) + 8 := by omega
    have e6 : (k + 1) * 8 + 6 = (k * 8 + 6) + 8 := by omega
    have e7 : (k + 1) * 8 + 7 = (k * 8 + 7) + 8 := by omega
    rw [e4, e5, e6, e7]
    have ex : xc (y :: ys) (k + 1) = xc ys k := by unfold xc; rfl
    rw [ex]
    simp only [flatX, List.set_cons_succ]
    rw [ih]
theorem own_some {W : World} {base size n : Nat} {e : TypeId} {v : Value} {xs : List Value} (h : W.ownsRow base e size v n xs) (hn : 0 < n) : ∃ g c, v = .slice (some ⟨g, 0, none⟩) n c ∧ base ≤ g ∧ g < W.heap.size ∧ (∀ o, W.frozen? ⟨g, o, none⟩ = false) := by
  rcases h.2 with ⟨-, h0⟩ | ⟨g, cap, cur, rfl, hb, hg, r1, r2, r3, r4⟩
  · omega
  · exact ⟨g, cap, rfl, hb, (Array.getElem?_eq_some_iff.1 hg).1, fun o => by simp [World.frozen?, hg]⟩
theorem own_froz {W : World} {base size n g c : Nat} {e : TypeId} {xs : List Value} (h : W.ownsRow base e size (.slice (some ⟨g, 0, none⟩) n c) n xs) (hn : 0 < n) (o : Nat) : W.frozen? ⟨g, o, none⟩ = false := by
  obtain ⟨g', c', e', -, -, hf⟩ := own_some h hn
  simp only [Value.slice.injEq, Option.some.injEq, Addr.mk.injEq, and_true, true_and] at e'
  obtain ⟨rfl, -⟩ := e'
  exact hf o
end Go.Proofs.Ytcchmjbedppfnaa

/-
  mooring.Answers, and the reference's.
-/
import Derived.Test.YtmodplodnimmkaaDoorRefSpacing
import Derived.WalkKit
import Derived.Laws.AppendOwn
import Derived.RangeFuncNested
namespace Go.Proofs.YtmodplodnimmkaaDoor
open Go.RowKit Go.Shelf
set_option linter.unusedSimpArgs false
theorem infoI : (Tryd.prog.info? 3).map (fun i => (i.zero, i.size, i.bytes)) = some (some (.int .i64 0), 1, 8) := by kernel_rfl
def numv (xs : List Int) : List Value := xs.map (.int .i64 ·)
theorem numv_snoc (xs : List Int) (x : Int) : numv (xs ++ [x]) = numv xs ++ [.int .i64 x] := by simp [numv]
theorem one_new (W : World) (x : Value) : ∀ (j : Nat) (u : Value), [x][j]? = some u → (W.alloc (.cells #[x] 3)).cell? ((⟨W.heap.size, 0, none⟩ : Addr).add j) = some u := by
  intro j u hj
  match j, hj with
  | 0, hj => simp at hj; subst hj; simp [Addr.add]
theorem nums_of_owns {W : World} {base : Nat} {v : Value} {xs : List Int} (h : W.ownsRow base 3 1 v xs.length (numv xs)) : Nums W.heap.size W v xs := by
  rcases h.2 with ⟨rfl, h0⟩ | ⟨g, cap, cur, rfl, hb, hg, r1, r2, r3, r4⟩
  · exact ⟨none, 0, by rw [h0], by omega, fun j hj => by omega⟩
  · refine ⟨_, cap, rfl, r1, fun j hj => ⟨g, 0, rfl, (Array.getElem?_eq_some_iff.1 hg).1, ?_⟩⟩
    have e : cur.toList[j]? = some (.int .i64 (xs[j]?.getD 0)) := by
      have h4 : (cur.toList.take (xs.length * 1))[j]? = (numv xs)[j]? := by rw [r4]
      rw [List.getElem?_take_of_lt (by omega)] at h4
      rw [h4]
      simp [numv, hj]
    rw [Nat.zero_add]
    simp only [World.cell?, hg]
    simpa using e
/-- the indexes of the codes that answer, among the first k -/
def ansTo (zs : List Int) (h g : Nat) : Nat → List Int
  | 0 => []
  | k + 1 => if apart (cd zs k) h 16 ≤ g then ansTo zs h g k ++ [(k : Int)] else ansTo zs h g k
theorem ansTo_len (zs : List Int) (h g : Nat) : ∀ k, (ansTo zs h g k).length ≤ k
  | 0 => Nat.le_refl _
  | k + 1 => by
    have := ansTo_len zs h g k
    simp only [ansTo]
    split
    · simp; omega
    · omega
def ansOk (heard wrong : Int) : Bool := isC heard && (decide (0 ≤ wrong) && decide (wrong ≤ 16))
def ansE (zs : List Int) (heard wrong : Int) : Int := if codE zs = 0 then (if ansOk heard wrong = true then 0 else 3) else codE zs
def ansV (zs : List Int) (heard wrong : Int) : List Int := if codE zs = 0 then (if ansOk heard wrong = true then ansTo zs heard.toNat wrong.toNat zs.length else []) else []
theorem nums_nil (n₀ : Nat) (W : World) : Nums n₀ W (.slice none 0 0) [] := ⟨none, 0, rfl, Nat.le_refl _, fun k hk => by simp at hk⟩
end Go.Proofs.YtmodplodnimmkaaDoor

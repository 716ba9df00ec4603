/-
  The one normal list of a set of numbers; fewEnough.
-/
import Derived.Test.YtamelpfhbnkggaaSetCheck
namespace Go.Proofs.Ytamelpfhbnkggaa
open Go.RowKit Go.Shelf
/-- the normal list of the numbers of P -/
noncomputable def nset (P : Int → Prop) : List (Int × Int) := Classical.epsilon fun cs => Nrm cs ∧ ∀ x, InL x cs ↔ P x
theorem nset_spec {P : Int → Prop} {cs : List (Int × Int)} (h : Nrm cs) (k : ∀ x, InL x cs ↔ P x) : Nrm (nset P) ∧ ∀ x, InL x (nset P) ↔ P x :=
  Classical.epsilon_spec (p := fun cs => Nrm cs ∧ ∀ x, InL x cs ↔ P x) ⟨cs, h, k⟩
theorem nset_eq {P : Int → Prop} {cs : List (Int × Int)} (h : Nrm cs) (k : ∀ x, InL x cs ↔ P x) : nset P = cs := by
  obtain ⟨h1, h2⟩ := nset_spec h k
  exact nrm_unique _ _ h1 h fun x => (h2 x).trans (k x).symm
/-- a set, or none if it is too long -/
def fewL (cs : List (Int × Int)) : List (Int × Int) := if 256 < cs.length then [] else cs
def fewE (cs : List (Int × Int)) : Int := if 256 < cs.length then 6 else 0
set_option maxHeartbeats 1000000 in
theorem fewEnough_any (sv : Value) (zs : List (Int × Int)) (n₀ : Nat) (w : World) (hI : Spans n₀ w sv zs) :
    Calls Try.prog 104 #[sv] w fun e w' => ∃ v, e = .returned (.tuple #[v, .int .i64 (fewE zs)]) ∧ Spans n₀ w v (fewL zs) ∧ w' = w := by
  have hI' := hI
  obtain ⟨a, cap, rfl, -⟩ := hI.slice
  by_cases h : 256 < zs.length
  · rw [show fewE zs = 6 from if_pos h, show fewL zs = [] from if_pos h]
    clear hI hI'
    generalize zs.length = len at h
    go_enter Try.func104, Try.ntmps104
    go_wp2_with fail
    go_ret2
    exact ⟨_, rfl, .inl ⟨rfl, rfl⟩, rfl⟩
  · rw [show fewE zs = 0 from if_neg h, show fewL zs = zs from if_neg h]
    have HI := Lib.hid hI'
    clear hI hI'
    generalize hL : zs.length = len at h HI ⊢
    clear hL
    go_enter Try.func104, Try.ntmps104
    go_wp2_with fail
    go_ret2
    exact ⟨_, rfl, HI.out, rfl⟩
end Go.Proofs.Ytamelpfhbnkggaa

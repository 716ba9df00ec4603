/-
  Cables: Path and Subtree, both.
-/
import Derived.Test.YtdohfpnnmppdkaaGreatCbW
namespace Go.Proofs.YtdohfpnnmppdkaaGreat
open Go.RowKit Go.Shelf
set_option linter.unusedSimpArgs false
theorem nodE_def (sl sh : Int) (ns : List Nd) (k : Int) : nodE sl sh ns k = if cabE sl sh ns = 0 then (if 0 ≤ k ∧ k < ns.length then 0 else 3) else cabE sl sh ns := rfl
theorem nodE_ok {sl sh : Int} {ns : List Nd} {z : Int} (h : nodE sl sh ns z = 0) : ValidC sl sh ns ∧ ∃ k : Nat, z = (k : Int) ∧ k < ns.length := by
  rw [nodE_def] at h
  split at h
  · split at h
    · exact ⟨cabE_ok (by assumption), z.toNat, by omega, by omega⟩
    · omega
  · exact absurd h (by assumption)
/-- the nodes of a path, and of a subtree, as the functions give them -/
def pthL (ns : List Nd) (E z : Int) : List Nat := if E = 0 then pth (par ns) z.toNat else []
def subL (ns : List Nd) (E z : Int) : List Nat := if E = 0 then sub (par ns) ns.length z.toNat else []
def LstR (E : Int) (L : List Nat) (w : World) (e : Ending) (w' : World) : Prop := ∃ v, e = .returned (.tuple #[v, .int .i64 E]) ∧ Il w'.heap.size w' v (zs L) ∧ Below w.heap.size w w'
theorem path_all (sl sh : Int) (sv : Value) (ns : List Nd) (z : Int) (w : World) (hN : Nds w.heap.size w sv ns) :
    Calls Tryz.prog 14 #[.agg #[.int .i64 sl, .int .i64 sh, sv], .int .i64 z] w (LstR (nodE sl sh ns z) (pthL ns (nodE sl sh ns z) z) w) := by
  by_cases hE : nodE sl sh ns z = 0
  · obtain ⟨hv, k, rfl, hk⟩ := nodE_ok hE
    refine (path_ok sl sh sv ns k hv hk w hN).mono fun e w' h => ?_
    obtain ⟨v, rfl, hr, hb⟩ := h
    exact ⟨v, by rw [hE], by unfold pthL; rw [if_pos hE, Int.toNat_natCast]; exact il_of_own hr, hb⟩
  · refine (path_bad sl sh sv ns z hE w hN).mono fun e w' h => ?_
    obtain ⟨rfl, hb⟩ := h
    exact ⟨_, rfl, by unfold pthL; rw [if_neg hE]; exact il_nil _ _, hb⟩
theorem subtree_all (sl sh : Int) (sv : Value) (ns : List Nd) (z : Int) (w : World) (hN : Nds w.heap.size w sv ns) :
    Calls Tryz.prog 15 #[.agg #[.int .i64 sl, .int .i64 sh, sv], .int .i64 z] w (LstR (nodE sl sh ns z) (subL ns (nodE sl sh ns z) z) w) := by
  by_cases hE : nodE sl sh ns z = 0
  · obtain ⟨hv, k, rfl, hk⟩ := nodE_ok hE
    refine (subtree_ok sl sh sv ns k hv hk w hN).mono fun e w' h => ?_
    obtain ⟨v, rfl, hr, hb⟩ := h
    exact ⟨v, by rw [hE], by unfold subL; rw [if_pos hE, Int.toNat_natCast]; exact il_of_own hr, hb⟩
  · refine (subtree_bad sl sh sv ns z hE w hN).mono fun e w' h => ?_
    obtain ⟨rfl, hb⟩ := h
    exact ⟨_, rfl, by unfold subL; rw [if_neg hE]; exact il_nil _ _, hb⟩
end Go.Proofs.YtdohfpnnmppdkaaGreat

/-
  CableBranch: whatever the input is, the law returns true, and each argument reads behind the call as it read before. Conditions: none.
-/
import Derived.Test.YtdohfpnnmppdkaaMay
import Derived.Test.YtdohfpnnmppdkaaLawBranch
namespace Go.Proofs.Ytdohfpnnmppdkaa
open Go.ChangeShapes Go.WideShapes Go.ChangeAt Go.RowKit

set_option maxHeartbeats 1000000 in
set_option maxRecDepth 100000 in
theorem cableBranch_lifted (os : Os) (started : os.Started) (H : Type) (enc : TypeId × Value → H) :
    ReturnsInHanded {} Try.checked os 11 .any (Rows.cableBranchSpec.pre6 enc Try.prog Try.f11 Rows.cableBranchRow.domain false) (Rows.cableBranchSpec.post enc Try.prog Try.f11 false true false false) := by
  refine returnsInHanded_of_change (C := Try.checked) own started (by kernel_rfl) Try.func11
    (ChangeSpec.witness6 (enc := enc) (C := Try.checked) false ⟨#[], #[.agg #[.int .i64 0, .int .i64 0, .slice none 0 0], .int .u8 0, .int .u8 0, .slice none 0 0], []⟩ 8 (by kernel_rfl) (by kernel_rfl) (by kernel_rfl) (by kernel_rfl)) ?_
  intro W base args ds gs before hval0 hW hcnd _
  have hval : ∀ (j : Nat) t v, Try.f11.params[j]? = some t → args[j]? = some v → Value.okWide Try.prog W .any base t v := hval0
  have hW' := hW
  obtain ⟨p, q, hA0, hV, rfl, hfz, hnd⟩ := hW
  have hA : DataW.TrodAll enc Try.prog W 0 (fun _ => true) true Try.f11.params.toList args.toList ds p := hA0
  rw [Try.params11] at hA hval
  obtain ⟨v0, vs0, d0, ds0, p0, q0, hargs, rfl, rfl, h0, r0⟩ := trodAll_cons hA
  obtain ⟨v1, vs1, d1, ds1, p1, q1, rfl, rfl, rfl, h1, r1⟩ := trodAll_cons r0
  obtain ⟨v2, vs2, d2, ds2, p2, q2, rfl, rfl, rfl, h2, r2⟩ := trodAll_cons r1
  obtain ⟨v3, vs3, d3, ds3, p3, q3, rfl, rfl, rfl, h3, r3⟩ := trodAll_cons r2
  obtain ⟨rfl, rfl, rfl⟩ := trodAll_nil r3
  obtain rfl : args = #[v0, v1, v2, v3] := by cases args; simp_all
  obtain ⟨rfl, rfl⟩ := trodVars_none hV
  obtain ⟨sl0, sh0, sv0, z0, rfl, hs0⟩ := open_cab (hval 0 26 v0 rfl rfl) h0
  obtain ⟨a1, rfl, wa1, wb1⟩ := open_u8 (hval 1 5 v1 rfl rfl) h1
  obtain ⟨a2, rfl, wa2, wb2⟩ := open_u8 (hval 2 5 v2 rfl rfl) h2
  obtain ⟨z3, hs3⟩ := open_u8l (hval 3 59 v3 rfl rfl) h3
  clear hA0 hval0
  refine (branch_any sl0 sh0 a1 a2 sv0 v3 z0 z3 W wa1 wb1 wa2 wb2 hs0 hs3).mono fun e W' ⟨he, bel⟩ => ?_
  subst he
  exact ⟨_, rfl, _, _, _, [], _, [], hW', trodAll_mk1 (shut_bool Try.underlying4 _), (trodAll_cons_mk (Below.trod laidOut (by kernel_rfl) (of_decide_eq_true (by kernel_rfl)) h0 bel (lt_of_trod h0)) (trodAll_cons_mk (Below.trod laidOut (by kernel_rfl) (of_decide_eq_true (by kernel_rfl)) h1 bel (lt_of_trod h1)) (trodAll_cons_mk (Below.trod laidOut (by kernel_rfl) (of_decide_eq_true (by kernel_rfl)) h2 bel (lt_of_trod h2)) (trodAll_cons_mk (Below.trod laidOut (by kernel_rfl) (of_decide_eq_true (by kernel_rfl)) h3 bel (lt_of_trod h3)) trodAll_mk0)))), rfl, bel.frame _, fun h => by cases h⟩
theorem cableBranch_j1 : (Rows.cableBranchRow.inPlace == Try.pinned.checked.prog.inPlace 11) = true := by kernel_rfl
theorem cableBranch_j2 : (Rows.cableBranchRow.unfollowed == Try.pinned.checked.prog.unfollowed 11) = true := by kernel_rfl
theorem cableBranch_j3 : (Rows.cableBranchRow.recurses == Try.pinned.checked.prog.recurses 11) = true := by kernel_rfl
theorem cableBranch_j4 : (Rows.cableBranchRow.named == Try.pinned.checked.prog.varsNamed 11) = true := by kernel_rfl
set_option maxRecDepth 100000 in
theorem cableBranch_joined : joinedFacts Try.pinned.checked.prog 11 Try.f11 Rows.cableBranchSpec Rows.cableBranchRow = true := by
  unfold joinedFacts
  rw [may_enter, lifts_final, make_is, laid_out, maps_rowed, plain_keys, stops_heard, cableBranch_j1, cableBranch_j2, cableBranch_j3, cableBranch_j4]
  kernel_rfl

theorem cableBranch_holds : Rows.CableBranchSaid :=
  OpenClaim.holds_of_wide 11 Try.f11 rfl rfl rfl rfl rfl rfl rfl ⟨rfl, rfl, rfl, rfl, rfl⟩ rfl rfl rfl rfl rfl (by kernel_rfl) Try.func11 cableBranch_joined
    (of_decide_eq_true (by kernel_rfl)) (by unfold Func.isWrapper; first | (rw [if_pos (by decide +kernel)]; kernel_rfl) | (rw [if_neg (by decide +kernel)]; exact ⟨rfl, rfl⟩))
    (fun os started H enc _ => cableBranch_lifted os started H enc)
#print axioms cableBranch_holds
end Go.Proofs.Ytdohfpnnmppdkaa

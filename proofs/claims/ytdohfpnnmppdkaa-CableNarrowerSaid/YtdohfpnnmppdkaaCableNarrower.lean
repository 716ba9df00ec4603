/-
  CableNarrower: whatever the input is, the law returns true, and each argument reads behind the call as it read before. Conditions: none.
-/
import Derived.Test.YtdohfpnnmppdkaaMay
import Derived.Test.YtdohfpnnmppdkaaLawNarrower
namespace Go.Proofs.Ytdohfpnnmppdkaa
open Go.ChangeShapes Go.WideShapes Go.ChangeAt Go.RowKit

set_option maxHeartbeats 1000000 in
set_option maxRecDepth 100000 in
theorem cableNarrower_lifted (os : Os) (started : os.Started) (H : Type) (enc : TypeId × Value → H) :
    ReturnsInHanded {} Try.checked os 8 .any (Rows.cableNarrowerSpec.pre6 enc Try.prog Try.f8 Rows.cableNarrowerRow.domain false) (Rows.cableNarrowerSpec.post enc Try.prog Try.f8 false true false false) := by
  refine returnsInHanded_of_change (C := Try.checked) own started (by kernel_rfl) Try.func8
    (ChangeSpec.witness6 (enc := enc) (C := Try.checked) false ⟨#[], #[.agg #[.int .i64 0, .int .i64 0, .slice none 0 0], .slice none 0 0], []⟩ 8 (by kernel_rfl) (by kernel_rfl) (by kernel_rfl) (by kernel_rfl)) ?_
  intro W base args ds gs before hval0 hW hcnd _
  have hval : ∀ (j : Nat) t v, Try.f8.params[j]? = some t → args[j]? = some v → Value.okWide Try.prog W .any base t v := hval0
  have hW' := hW
  obtain ⟨p, q, hA0, hV, rfl, hfz, hnd⟩ := hW
  have hA : DataW.TrodAll enc Try.prog W 0 (fun _ => true) true Try.f8.params.toList args.toList ds p := hA0
  rw [Try.params8] at hA hval
  obtain ⟨v0, vs0, d0, ds0, p0, q0, hargs, rfl, rfl, h0, r0⟩ := trodAll_cons hA
  obtain ⟨v1, vs1, d1, ds1, p1, q1, rfl, rfl, rfl, h1, r1⟩ := trodAll_cons r0
  obtain ⟨rfl, rfl, rfl⟩ := trodAll_nil r1
  obtain rfl : args = #[v0, v1] := by cases args; simp_all
  obtain ⟨rfl, rfl⟩ := trodVars_none hV
  obtain ⟨sl0, sh0, sv0, z0, rfl, hs0⟩ := open_cab (hval 0 26 v0 rfl rfl) h0
  obtain ⟨z1, hs1⟩ := open_u8l (hval 1 59 v1 rfl rfl) h1
  clear hA0 hval0
  refine (narrower_any sl0 sh0 sv0 v1 z0 z1 W hs0 hs1).mono fun e W' ⟨he, bel⟩ => ?_
  subst he
  exact ⟨_, rfl, _, _, _, [], _, [], hW', trodAll_mk1 (shut_bool Try.underlying4 _), (trodAll_cons_mk (Below.trod laidOut (by kernel_rfl) (of_decide_eq_true (by kernel_rfl)) h0 bel (lt_of_trod h0)) (trodAll_cons_mk (Below.trod laidOut (by kernel_rfl) (of_decide_eq_true (by kernel_rfl)) h1 bel (lt_of_trod h1)) trodAll_mk0)), rfl, bel.frame _, fun h => by cases h⟩
theorem cableNarrower_j1 : (Rows.cableNarrowerRow.inPlace == Try.pinned.checked.prog.inPlace 8) = true := by kernel_rfl
theorem cableNarrower_j2 : (Rows.cableNarrowerRow.unfollowed == Try.pinned.checked.prog.unfollowed 8) = true := by kernel_rfl
theorem cableNarrower_j3 : (Rows.cableNarrowerRow.recurses == Try.pinned.checked.prog.recurses 8) = true := by kernel_rfl
theorem cableNarrower_j4 : (Rows.cableNarrowerRow.named == Try.pinned.checked.prog.varsNamed 8) = true := by kernel_rfl
set_option maxRecDepth 100000 in
theorem cableNarrower_joined : joinedFacts Try.pinned.checked.prog 8 Try.f8 Rows.cableNarrowerSpec Rows.cableNarrowerRow = true := by
  unfold joinedFacts
  rw [may_enter, lifts_final, make_is, laid_out, maps_rowed, plain_keys, stops_heard, cableNarrower_j1, cableNarrower_j2, cableNarrower_j3, cableNarrower_j4]
  kernel_rfl

theorem cableNarrower_holds : Rows.CableNarrowerSaid :=
  OpenClaim.holds_of_wide 8 Try.f8 rfl rfl rfl rfl rfl rfl rfl ⟨rfl, rfl, rfl, rfl, rfl⟩ rfl rfl rfl rfl rfl (by kernel_rfl) Try.func8 cableNarrower_joined
    (of_decide_eq_true (by kernel_rfl)) (by unfold Func.isWrapper; first | (rw [if_pos (by decide +kernel)]; kernel_rfl) | (rw [if_neg (by decide +kernel)]; exact ⟨rfl, rfl⟩))
    (fun os started H enc _ => cableNarrower_lifted os started H enc)
#print axioms cableNarrower_holds
end Go.Proofs.Ytdohfpnnmppdkaa

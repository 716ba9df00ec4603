/-
  BufferBursts: whatever the input is, the law returns true, and each argument reads behind the call as it read before. Conditions: none.
-/
import Derived.Test.YtbbaehmfadpgeaaMay
import Derived.Test.YtbbaehmfadpgeaaLawBs
import Derived.Test.YtbbaehmfadpgeaaOpenPc
import Derived.Test.YtbbaehmfadpgeaaOpenTr
namespace Go.Proofs.Ytbbaehmfadpgeaa
open Go.ChangeShapes Go.WideShapes Go.ChangeAt Go.RowKit

set_option maxHeartbeats 1000000 in
set_option maxRecDepth 100000 in
theorem bufferBursts_lifted (os : Os) (started : os.Started) (H : Type) (enc : TypeId × Value → H) :
    ReturnsInHanded {} Try.checked os 9 .any (Rows.bufferBurstsSpec.pre6 enc Try.prog Try.f9 Rows.bufferBurstsRow.domain false) (Rows.bufferBurstsSpec.post enc Try.prog Try.f9 false true false false) := by
  refine returnsInHanded_of_change (C := Try.checked) own started (by kernel_rfl) Try.func9
    (ChangeSpec.witness6 (enc := enc) (C := Try.checked) false ⟨#[], #[.int .u16 0, .slice none 0 0, .slice none 0 0], []⟩ 8 (by kernel_rfl) (by kernel_rfl) (by kernel_rfl) (by kernel_rfl)) ?_
  intro W base args ds gs before hval0 hW hcnd _
  have hval : ∀ (j : Nat) t v, Try.f9.params[j]? = some t → args[j]? = some v → Value.okWide Try.prog W .any base t v := hval0
  have hW' := hW
  obtain ⟨p, q, hA0, hV, rfl, hfz, hnd⟩ := hW
  have hA : DataW.TrodAll enc Try.prog W 0 (fun _ => true) true Try.f9.params.toList args.toList ds p := hA0
  rw [Try.params9] at hA hval
  obtain ⟨v0, vs0, d0, ds0, p0, q0, hargs, rfl, rfl, h0, r0⟩ := trodAll_cons hA
  obtain ⟨v1, vs1, d1, ds1, p1, q1, rfl, rfl, rfl, h1, r1⟩ := trodAll_cons r0
  obtain ⟨v2, vs2, d2, ds2, p2, q2, rfl, rfl, rfl, h2, r2⟩ := trodAll_cons r1
  obtain ⟨rfl, rfl, rfl⟩ := trodAll_nil r2
  obtain rfl : args = #[v0, v1, v2] := by cases args; simp_all
  obtain ⟨rfl, rfl⟩ := trodVars_none hV
  obtain ⟨a0, rfl, wa0, wb0⟩ := open_u16 (hval 0 73 v0 rfl rfl) h0
  obtain ⟨z1, hs1⟩ := open_pcl (hval 1 74 v1 rfl rfl) h1
  obtain ⟨z2, hs2⟩ := open_u83l (hval 2 87 v2 rfl rfl) h2
  clear hA0 hval0
  refine (law_bursts a0 ⟨wa0, wb0⟩ v1 v2 z1 z2 W hs1 hs2).mono fun e W' ⟨he, bel⟩ => ?_
  subst he
  exact ⟨_, rfl, _, _, _, [], _, [], hW', trodAll_mk1 (shut_bool Try.underlying4 _), (trodAll_cons_mk (Below.trod laidOut (by kernel_rfl) (of_decide_eq_true (by kernel_rfl)) h0 bel (lt_of_trod h0)) (trodAll_cons_mk (Below.trod laidOut (by kernel_rfl) (of_decide_eq_true (by kernel_rfl)) h1 bel (lt_of_trod h1)) (trodAll_cons_mk (Below.trod laidOut (by kernel_rfl) (of_decide_eq_true (by kernel_rfl)) h2 bel (lt_of_trod h2)) trodAll_mk0))), rfl, bel.frame _, fun h => by cases h⟩
theorem bufferBursts_j1 : (Rows.bufferBurstsRow.inPlace == Try.pinned.checked.prog.inPlace 9) = true := by kernel_rfl
theorem bufferBursts_j2 : (Rows.bufferBurstsRow.unfollowed == Try.pinned.checked.prog.unfollowed 9) = true := by kernel_rfl
theorem bufferBursts_j3 : (Rows.bufferBurstsRow.recurses == Try.pinned.checked.prog.recurses 9) = true := by kernel_rfl
theorem bufferBursts_j4 : (Rows.bufferBurstsRow.named == Try.pinned.checked.prog.varsNamed 9) = true := by kernel_rfl
set_option maxRecDepth 100000 in
theorem bufferBursts_joined : joinedFacts Try.pinned.checked.prog 9 Try.f9 Rows.bufferBurstsSpec Rows.bufferBurstsRow = true := by
  unfold joinedFacts
  rw [may_enter, lifts_final, make_is, laid_out, maps_rowed, plain_keys, stops_heard, bufferBursts_j1, bufferBursts_j2, bufferBursts_j3, bufferBursts_j4]
  kernel_rfl

theorem bufferBursts_holds : Rows.BufferBurstsSaid :=
  OpenClaim.holds_of_wide 9 Try.f9 rfl rfl rfl rfl rfl rfl rfl ⟨rfl, rfl, rfl, rfl, rfl⟩ rfl rfl rfl rfl rfl (by kernel_rfl) Try.func9 bufferBursts_joined
    (of_decide_eq_true (by kernel_rfl)) (by unfold Func.isWrapper; first | (rw [if_pos (by decide +kernel)]; kernel_rfl) | (rw [if_neg (by decide +kernel)]; exact ⟨rfl, rfl⟩))
    (fun os started H enc _ => bufferBursts_lifted os started H enc)
#print axioms bufferBursts_holds
end Go.Proofs.Ytbbaehmfadpgeaa

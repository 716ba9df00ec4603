/-
  CableLater: whatever the input is, the law returns true, and each argument reads behind the call as it read before. Conditions: none.
-/
import Derived.Test.YtdohfpnnmppdkaaMay
import Derived.Test.YtdohfpnnmppdkaaLawLater
import Derived.Test.YtdohfpnnmppdkaaFrame
namespace Go.Proofs.Ytdohfpnnmppdkaa
open Go.ChangeShapes Go.WideShapes Go.ChangeAt Go.RowKit

set_option maxHeartbeats 1000000 in
set_option maxRecDepth 100000 in
theorem cableLater_lifted (os : Os) (started : os.Started) (H : Type) (enc : TypeId × Value → H) :
    ReturnsInHanded {} Try.checked os 10 .any (Rows.cableLaterSpec.pre6 enc Try.prog Try.f10 Rows.cableLaterRow.domain false) (Rows.cableLaterSpec.post enc Try.prog Try.f10 false true false false) := by
  refine returnsInHanded_of_change (C := Try.checked) own started (by kernel_rfl) Try.func10
    (ChangeSpec.witness6 (enc := enc) (C := Try.checked) false ⟨#[], #[.agg #[.int .i64 0, .int .i64 0, .slice none 0 0], .slice none 0 0, .slice none 0 0, .slice none 0 0, .int .u8 0, .int .u16 0], []⟩ 8 (by kernel_rfl) (by kernel_rfl) (by kernel_rfl) (by kernel_rfl)) ?_
  intro W base args ds gs before hval0 hW hcnd _
  have hval : ∀ (j : Nat) t v, Try.f10.params[j]? = some t → args[j]? = some v → Value.okWide Try.prog W .any base t v := hval0
  have hW' := hW
  obtain ⟨p, q, hA0, hV, rfl, hfz, hnd⟩ := hW
  have hA : DataW.TrodAll enc Try.prog W 0 (fun _ => true) true Try.f10.params.toList args.toList ds p := hA0
  rw [Try.params10] at hA hval
  obtain ⟨v0, vs0, d0, ds0, p0, q0, hargs, rfl, rfl, h0, r0⟩ := trodAll_cons hA
  obtain ⟨v1, vs1, d1, ds1, p1, q1, rfl, rfl, rfl, h1, r1⟩ := trodAll_cons r0
  obtain ⟨v2, vs2, d2, ds2, p2, q2, rfl, rfl, rfl, h2, r2⟩ := trodAll_cons r1
  obtain ⟨v3, vs3, d3, ds3, p3, q3, rfl, rfl, rfl, h3, r3⟩ := trodAll_cons r2
  obtain ⟨v4, vs4, d4, ds4, p4, q4, rfl, rfl, rfl, h4, r4⟩ := trodAll_cons r3
  obtain ⟨v5, vs5, d5, ds5, p5, q5, rfl, rfl, rfl, h5, r5⟩ := trodAll_cons r4
  obtain ⟨rfl, rfl, rfl⟩ := trodAll_nil r5
  obtain rfl : args = #[v0, v1, v2, v3, v4, v5] := by cases args; simp_all
  obtain ⟨rfl, rfl⟩ := trodVars_none hV
  obtain ⟨sl0, sh0, sv0, z0, rfl, hs0⟩ := open_cab (hval 0 26 v0 rfl rfl) h0
  obtain ⟨z1, hs1⟩ := open_u16l (hval 1 69 v1 rfl rfl) h1
  obtain ⟨z2, hs2⟩ := open_u16l (hval 2 69 v2 rfl rfl) h2
  obtain ⟨z3, hs3⟩ := open_u8l (hval 3 59 v3 rfl rfl) h3
  obtain ⟨a4, rfl, wa4, wb4⟩ := open_u8 (hval 4 5 v4 rfl rfl) h4
  obtain ⟨a5, rfl, wa5, wb5⟩ := open_u16 (hval 5 70 v5 rfl rfl) h5
  clear hA0 hval0
  refine (later_any sl0 sh0 sv0 v1 v2 v3 z0 z1 z2 z3 a4 a5 ⟨wa4, wb4⟩ ⟨wa5, wb5⟩ W hs0 hs1 hs2 hs3).mono fun e W' ⟨he, bel⟩ => ?_
  subst he
  exact ⟨_, rfl, _, _, _, [], _, [], hW', trodAll_mk1 (shut_bool Try.underlying4 _), (trodAll_cons_mk (Below.trod laidOut (by kernel_rfl) (of_decide_eq_true (by kernel_rfl)) h0 bel (lt_of_trod h0)) (trodAll_cons_mk (Below.trod laidOut (by kernel_rfl) (of_decide_eq_true (by kernel_rfl)) h1 bel (lt_of_trod h1)) (trodAll_cons_mk (Below.trod laidOut (by kernel_rfl) (of_decide_eq_true (by kernel_rfl)) h2 bel (lt_of_trod h2)) (trodAll_cons_mk (Below.trod laidOut (by kernel_rfl) (of_decide_eq_true (by kernel_rfl)) h3 bel (lt_of_trod h3)) (trodAll_cons_mk (Below.trod laidOut (by kernel_rfl) (of_decide_eq_true (by kernel_rfl)) h4 bel (lt_of_trod h4)) (trodAll_cons_mk (Below.trod laidOut (by kernel_rfl) (of_decide_eq_true (by kernel_rfl)) h5 bel (lt_of_trod h5)) trodAll_mk0)))))), rfl, bel.frame _, fun h => by cases h⟩
theorem cableLater_j1 : (Rows.cableLaterRow.inPlace == Try.pinned.checked.prog.inPlace 10) = true := by kernel_rfl
theorem cableLater_j2 : (Rows.cableLaterRow.unfollowed == Try.pinned.checked.prog.unfollowed 10) = true := by kernel_rfl
theorem cableLater_j3 : (Rows.cableLaterRow.recurses == Try.pinned.checked.prog.recurses 10) = true := by kernel_rfl
theorem cableLater_j4 : (Rows.cableLaterRow.named == Try.pinned.checked.prog.varsNamed 10) = true := by kernel_rfl
set_option maxRecDepth 100000 in
theorem cableLater_joined : joinedFacts Try.pinned.checked.prog 10 Try.f10 Rows.cableLaterSpec Rows.cableLaterRow = true := by
  unfold joinedFacts
  rw [may_enter, lifts_final, make_is, laid_out, maps_rowed, plain_keys, stops_heard, cableLater_j1, cableLater_j2, cableLater_j3, cableLater_j4]
  kernel_rfl

theorem cableLater_holds : Rows.CableLaterSaid :=
  OpenClaim.holds_of_wide 10 Try.f10 rfl rfl rfl rfl rfl rfl rfl ⟨rfl, rfl, rfl, rfl, rfl⟩ rfl rfl rfl rfl rfl (by kernel_rfl) Try.func10 cableLater_joined
    (of_decide_eq_true (by kernel_rfl)) (by unfold Func.isWrapper; first | (rw [if_pos (by decide +kernel)]; kernel_rfl) | (rw [if_neg (by decide +kernel)]; exact ⟨rfl, rfl⟩))
    (fun os started H enc _ => cableLater_lifted os started H enc)
#print axioms cableLater_holds
end Go.Proofs.Ytdohfpnnmppdkaa

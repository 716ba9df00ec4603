/-
  CableLocated: whatever the input is, the law returns true, and each argument reads behind the call as it read before. Conditions: none.
-/
import Derived.Test.YtdohfpnnmppdkaaMay
import Derived.Test.YtdohfpnnmppdkaaLawLocated
import Derived.Test.YtdohfpnnmppdkaaOpenPrb
namespace Go.Proofs.Ytdohfpnnmppdkaa
open Go.ChangeShapes Go.WideShapes Go.ChangeAt Go.RowKit

set_option maxHeartbeats 1000000 in
set_option maxRecDepth 100000 in
theorem cableLocated_lifted (os : Os) (started : os.Started) (H : Type) (enc : TypeId × Value → H) :
    ReturnsInHanded {} Try.checked os 13 .any (Rows.cableLocatedSpec.pre6 enc Try.prog Try.f13 Rows.cableLocatedRow.domain false) (Rows.cableLocatedSpec.post enc Try.prog Try.f13 false true false false) := by
  refine returnsInHanded_of_change (C := Try.checked) own started (by kernel_rfl) Try.func13
    (ChangeSpec.witness6 (enc := enc) (C := Try.checked) false ⟨#[], #[.agg #[.int .i64 0, .int .i64 0, .slice none 0 0], .slice none 0 0, .int .u8 0, .int .u16 0, .slice none 0 0], []⟩ 8 (by kernel_rfl) (by kernel_rfl) (by kernel_rfl) (by kernel_rfl)) ?_
  intro W base args ds gs before hval0 hW hcnd _
  have hval : ∀ (j : Nat) t v, Try.f13.params[j]? = some t → args[j]? = some v → Value.okWide Try.prog W .any base t v := hval0
  have hW' := hW
  obtain ⟨p, q, hA0, hV, rfl, hfz, hnd⟩ := hW
  have hA : DataW.TrodAll enc Try.prog W 0 (fun _ => true) true Try.f13.params.toList args.toList ds p := hA0
  rw [Try.params13] at hA hval
  obtain ⟨v0, vs0, d0, ds0, p0, q0, hargs, rfl, rfl, h0, r0⟩ := trodAll_cons hA
  obtain ⟨v1, vs1, d1, ds1, p1, q1, rfl, rfl, rfl, h1, r1⟩ := trodAll_cons r0
  obtain ⟨v2, vs2, d2, ds2, p2, q2, rfl, rfl, rfl, h2, r2⟩ := trodAll_cons r1
  obtain ⟨v3, vs3, d3, ds3, p3, q3, rfl, rfl, rfl, h3, r3⟩ := trodAll_cons r2
  obtain ⟨v4, vs4, d4, ds4, p4, q4, rfl, rfl, rfl, h4, r4⟩ := trodAll_cons r3
  obtain ⟨rfl, rfl, rfl⟩ := trodAll_nil r4
  obtain rfl : args = #[v0, v1, v2, v3, v4] := by cases args; simp_all
  obtain ⟨rfl, rfl⟩ := trodVars_none hV
  obtain ⟨sl0, sh0, sv0, z0, rfl, hs0⟩ := open_cab (hval 0 26 v0 rfl rfl) h0
  obtain ⟨z1, hs1⟩ := open_u8l (hval 1 59 v1 rfl rfl) h1
  obtain ⟨a2, rfl, wa2, wb2⟩ := open_u8 (hval 2 5 v2 rfl rfl) h2
  obtain ⟨a3, rfl, wa3, wb3⟩ := open_u16 (hval 3 70 v3 rfl rfl) h3
  obtain ⟨z4, hs4⟩ := open_prl (hval 4 80 v4 rfl rfl) h4
  clear hA0 hval0
  refine (locatedLaw_any sl0 sh0 a2 a3 sv0 v1 v4 z0 z1 z4 W ⟨wa2, wb2⟩ ⟨wa3, wb3⟩ hs0 hs1 hs4).mono fun e W' ⟨he, bel⟩ => ?_
  subst he
  exact ⟨_, rfl, _, _, _, [], _, [], hW', trodAll_mk1 (shut_bool Try.underlying4 _), (trodAll_cons_mk (Below.trod laidOut (by kernel_rfl) (of_decide_eq_true (by kernel_rfl)) h0 bel (lt_of_trod h0)) (trodAll_cons_mk (Below.trod laidOut (by kernel_rfl) (of_decide_eq_true (by kernel_rfl)) h1 bel (lt_of_trod h1)) (trodAll_cons_mk (Below.trod laidOut (by kernel_rfl) (of_decide_eq_true (by kernel_rfl)) h2 bel (lt_of_trod h2)) (trodAll_cons_mk (Below.trod laidOut (by kernel_rfl) (of_decide_eq_true (by kernel_rfl)) h3 bel (lt_of_trod h3)) (trodAll_cons_mk (Below.trod laidOut (by kernel_rfl) (of_decide_eq_true (by kernel_rfl)) h4 bel (lt_of_trod h4)) trodAll_mk0))))), rfl, bel.frame _, fun h => by cases h⟩
theorem cableLocated_j1 : (Rows.cableLocatedRow.inPlace == Try.pinned.checked.prog.inPlace 13) = true := by kernel_rfl
theorem cableLocated_j2 : (Rows.cableLocatedRow.unfollowed == Try.pinned.checked.prog.unfollowed 13) = true := by kernel_rfl
theorem cableLocated_j3 : (Rows.cableLocatedRow.recurses == Try.pinned.checked.prog.recurses 13) = true := by kernel_rfl
theorem cableLocated_j4 : (Rows.cableLocatedRow.named == Try.pinned.checked.prog.varsNamed 13) = true := by kernel_rfl
set_option maxRecDepth 100000 in
theorem cableLocated_joined : joinedFacts Try.pinned.checked.prog 13 Try.f13 Rows.cableLocatedSpec Rows.cableLocatedRow = true := by
  unfold joinedFacts
  rw [may_enter, lifts_final, make_is, laid_out, maps_rowed, plain_keys, stops_heard, cableLocated_j1, cableLocated_j2, cableLocated_j3, cableLocated_j4]
  kernel_rfl

theorem cableLocated_holds : Rows.CableLocatedSaid :=
  OpenClaim.holds_of_wide 13 Try.f13 rfl rfl rfl rfl rfl rfl rfl ⟨rfl, rfl, rfl, rfl, rfl⟩ rfl rfl rfl rfl rfl (by kernel_rfl) Try.func13 cableLocated_joined
    (of_decide_eq_true (by kernel_rfl)) (by unfold Func.isWrapper; first | (rw [if_pos (by decide +kernel)]; kernel_rfl) | (rw [if_neg (by decide +kernel)]; exact ⟨rfl, rfl⟩))
    (fun os started H enc _ => cableLocated_lifted os started H enc)
#print axioms cableLocated_holds
end Go.Proofs.Ytdohfpnnmppdkaa

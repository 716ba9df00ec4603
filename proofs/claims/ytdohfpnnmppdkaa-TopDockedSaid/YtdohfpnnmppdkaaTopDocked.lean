/-
  TopDocked: whatever the input is, the law returns true, and each argument reads behind the call as it read before. Conditions: none.
-/
import Derived.Test.YtdohfpnnmppdkaaMay
import Derived.Test.YtdohfpnnmppdkaaLawDocked
import Derived.Test.YtdohfpnnmppdkaaOpenDk
namespace Go.Proofs.Ytdohfpnnmppdkaa
open Go.ChangeShapes Go.WideShapes Go.ChangeAt Go.RowKit

set_option maxHeartbeats 1000000 in
set_option maxRecDepth 100000 in
theorem topDocked_lifted (os : Os) (started : os.Started) (H : Type) (enc : TypeId × Value → H) :
    ReturnsInHanded {} Try.checked os 17 .any (Rows.topDockedSpec.pre6 enc Try.prog Try.f17 Rows.topDockedRow.domain false) (Rows.topDockedSpec.post enc Try.prog Try.f17 false true false false) := by
  refine returnsInHanded_of_change (C := Try.checked) own started (by kernel_rfl) Try.func17
    (ChangeSpec.witness6 (enc := enc) (C := Try.checked) false ⟨#[], #[.slice none 0 0, .int .u8 0, .int .u16 0, .int .u16 0, .agg #[.int .u8 0, .int .u8 0], .int .u8 0], []⟩ 8 (by kernel_rfl) (by kernel_rfl) (by kernel_rfl) (by kernel_rfl)) ?_
  intro W base args ds gs before hval0 hW hcnd _
  have hval : ∀ (j : Nat) t v, Try.f17.params[j]? = some t → args[j]? = some v → Value.okWide Try.prog W .any base t v := hval0
  have hW' := hW
  obtain ⟨p, q, hA0, hV, rfl, hfz, hnd⟩ := hW
  have hA : DataW.TrodAll enc Try.prog W 0 (fun _ => true) true Try.f17.params.toList args.toList ds p := hA0
  rw [Try.params17] at hA hval
  obtain ⟨v0, vs0, d0, ds0, p0, q0, hargs, rfl, rfl, h0, r0⟩ := trodAll_cons hA
  obtain ⟨v1, vs1, d1, ds1, p1, q1, rfl, rfl, rfl, h1, r1⟩ := trodAll_cons r0
  obtain ⟨v2, vs2, d2, ds2, p2, q2, rfl, rfl, rfl, h2, r2⟩ := trodAll_cons r1
  obtain ⟨v3, vs3, d3, ds3, p3, q3, rfl, rfl, rfl, h3, r3⟩ := trodAll_cons r2
  obtain ⟨v4, vs4, d4, ds4, p4, q4, rfl, rfl, rfl, h4, r4⟩ := trodAll_cons r3
  obtain ⟨v5, vs5, d5, ds5, p5, q5, rfl, rfl, rfl, h5, r5⟩ := trodAll_cons r4
  obtain ⟨rfl, rfl, rfl⟩ := trodAll_nil r5
  obtain rfl : args = #[v0, v1, v2, v3, v4, v5] := by cases args; simp_all
  obtain ⟨rfl, rfl⟩ := trodVars_none hV
  obtain ⟨z0, hs0⟩ := open_wirl (hval 0 88 v0 rfl rfl) h0
  obtain ⟨a1, rfl, wa1, wb1⟩ := open_u8 (hval 1 5 v1 rfl rfl) h1
  obtain ⟨a2, rfl, wa2, wb2⟩ := open_u16 (hval 2 70 v2 rfl rfl) h2
  obtain ⟨a3, rfl, wa3, wb3⟩ := open_u16 (hval 3 70 v3 rfl rfl) h3
  obtain ⟨a4, b4, rfl, wa4, wb4⟩ := open_u8x2 (hval 4 108 v4 rfl rfl) h4
  obtain ⟨a5, rfl, wa5, wb5⟩ := open_u8 (hval 5 5 v5 rfl rfl) h5
  clear hA0 hval0
  refine (dockLaw_any v0 z0 a1 a2 a3 a4 b4 a5 ⟨wa1, wb1⟩ ⟨wa2, wb2⟩ ⟨wa3, wb3⟩ wa4 wb4 ⟨wa5, wb5⟩ W hs0).mono fun e W' ⟨he, bel⟩ => ?_
  subst he
  exact ⟨_, rfl, _, _, _, [], _, [], hW', trodAll_mk1 (shut_bool Try.underlying4 _), (trodAll_cons_mk (Below.trod laidOut (by kernel_rfl) (of_decide_eq_true (by kernel_rfl)) h0 bel (lt_of_trod h0)) (trodAll_cons_mk (Below.trod laidOut (by kernel_rfl) (of_decide_eq_true (by kernel_rfl)) h1 bel (lt_of_trod h1)) (trodAll_cons_mk (Below.trod laidOut (by kernel_rfl) (of_decide_eq_true (by kernel_rfl)) h2 bel (lt_of_trod h2)) (trodAll_cons_mk (Below.trod laidOut (by kernel_rfl) (of_decide_eq_true (by kernel_rfl)) h3 bel (lt_of_trod h3)) (trodAll_cons_mk (Below.trod laidOut (by kernel_rfl) (of_decide_eq_true (by kernel_rfl)) h4 bel (lt_of_trod h4)) (trodAll_cons_mk (Below.trod laidOut (by kernel_rfl) (of_decide_eq_true (by kernel_rfl)) h5 bel (lt_of_trod h5)) trodAll_mk0)))))), rfl, bel.frame _, fun h => by cases h⟩
theorem topDocked_j1 : (Rows.topDockedRow.inPlace == Try.pinned.checked.prog.inPlace 17) = true := by kernel_rfl
theorem topDocked_j2 : (Rows.topDockedRow.unfollowed == Try.pinned.checked.prog.unfollowed 17) = true := by kernel_rfl
theorem topDocked_j3 : (Rows.topDockedRow.recurses == Try.pinned.checked.prog.recurses 17) = true := by kernel_rfl
theorem topDocked_j4 : (Rows.topDockedRow.named == Try.pinned.checked.prog.varsNamed 17) = true := by kernel_rfl
set_option maxRecDepth 100000 in
theorem topDocked_joined : joinedFacts Try.pinned.checked.prog 17 Try.f17 Rows.topDockedSpec Rows.topDockedRow = true := by
  unfold joinedFacts
  rw [may_enter, lifts_final, make_is, laid_out, maps_rowed, plain_keys, stops_heard, topDocked_j1, topDocked_j2, topDocked_j3, topDocked_j4]
  kernel_rfl

theorem topDocked_holds : Rows.TopDockedSaid :=
  OpenClaim.holds_of_wide 17 Try.f17 rfl rfl rfl rfl rfl rfl rfl ⟨rfl, rfl, rfl, rfl, rfl⟩ rfl rfl rfl rfl rfl (by kernel_rfl) Try.func17 topDocked_joined
    (of_decide_eq_true (by kernel_rfl)) (by unfold Func.isWrapper; first | (rw [if_pos (by decide +kernel)]; kernel_rfl) | (rw [if_neg (by decide +kernel)]; exact ⟨rfl, rfl⟩))
    (fun os started H enc _ => topDocked_lifted os started H enc)
#print axioms topDocked_holds
end Go.Proofs.Ytdohfpnnmppdkaa

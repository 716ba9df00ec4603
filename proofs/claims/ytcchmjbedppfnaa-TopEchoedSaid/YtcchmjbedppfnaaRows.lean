/-
  No cell of these rows narrows 'for every input' (looked for: loops, veiled, ifaces, maps, wideKeys, modest, calm, conditions, laid).
  DERIVED. THE GIVEN ROWS OF THIS SEAT. 17 by the template 'for every input the law returns true; each argument reads behind the call as it read before'; 0 by the template 'total and deterministic' (their statements: YtcchmjbedppfnaaTotals.lean).
  GIVEN WITH THE SEED: the statements are not yours to turn. If you find one false, say at which input.
  Laid BY PROGRAM, IN A SANDBOX (cutbox-rows.mjs): the forced cells as the released guide's own fill.sh prints them over the translation a4fd2e4a659105c7… (all of the seat's roots in one cut). By AI agents, Wed Nov 11 2026. No macro, syntax, notation, axiom, sorry.
-/
import Derived.Test.YtcchmjbedppfnaaChecked
import GoSem.Claim
import GoSem.ClaimJoined
import GoSem.ClaimMapViews
import Derived.JoinedTies
import Derived.KernelRfl
namespace Go.Proofs.Ytcchmjbedppfnaa
/- THE CELL 'sum', in the pinned program and in every row, IS THE sha256 OF THE DUMP (.gsa) THAT YtcchmjbedppfnaaProg.lean LOADS. Nothing in Lean hashes anything: it is a label: what it is worth is what the hold of that sum in a sandbox is worth. -/
noncomputable def Try.pinned : Pinned := { name := "ytcchmjbedppfnaa", sum := "a4fd2e4a659105c788553d0c8ec8910109fefb7fb50cb580041bd90f2bdd052d", checked := Try.checked }
namespace Rows
def none {H : Type} : Left H := { results := [], args := [] }

/-- 'isobathlaw05.ClockOffsets': WHATEVER THE INPUT: true; the input reads as it did. -/
def clockOffsetsSpec : ChangeSpec := { name := "clockOffsets", fn := fun _ => fun
  | [d1, d2, d3, d4] => { results := [.lit (.bool true)], args := [d1, d2, d3, d4] }
  | _ => none }
def clockOffsetsRow : OpenClaim := { program := "ytcchmjbedppfnaa", sum := "a4fd2e4a659105c788553d0c8ec8910109fefb7fb50cb580041bd90f2bdd052d", func := "isobath/isobathlaw05.ClockOffsets", spec := "clockOffsets", unfollowed := true, recurses := true, apart := false }
def ClockOffsetsSaid : Prop := clockOffsetsRow.holds Try.pinned (OpenSpec.ofChange clockOffsetsSpec)

/-- ITS FALSE NEIGHBOUR: 'it returns false'. Refute it at one input. -/
def clockOffsetsWrong : ChangeSpec := { name := "clockOffsets", fn := fun _ => fun
  | [d1, d2, d3, d4] => { results := [.lit (.bool false)], args := [d1, d2, d3, d4] }
  | _ => none }
def ClockOffsetsWrongFalsely : Prop := clockOffsetsRow.holds Try.pinned (OpenSpec.ofChange clockOffsetsWrong)

/-- 'isobathlaw05.ClockPairs': WHATEVER THE INPUT: true; the input reads as it did. -/
def clockPairsSpec : ChangeSpec := { name := "clockPairs", fn := fun _ => fun
  | [d1, d2, d3, d4] => { results := [.lit (.bool true)], args := [d1, d2, d3, d4] }
  | _ => none }
def clockPairsRow : OpenClaim := { program := "ytcchmjbedppfnaa", sum := "a4fd2e4a659105c788553d0c8ec8910109fefb7fb50cb580041bd90f2bdd052d", func := "isobath/isobathlaw05.ClockPairs", spec := "clockPairs", unfollowed := true, recurses := true, apart := false }
def ClockPairsSaid : Prop := clockPairsRow.holds Try.pinned (OpenSpec.ofChange clockPairsSpec)

/-- ITS FALSE NEIGHBOUR: 'it returns false'. Refute it at one input. -/
def clockPairsWrong : ChangeSpec := { name := "clockPairs", fn := fun _ => fun
  | [d1, d2, d3, d4] => { results := [.lit (.bool false)], args := [d1, d2, d3, d4] }
  | _ => none }
def ClockPairsWrongFalsely : Prop := clockPairsRow.holds Try.pinned (OpenSpec.ofChange clockPairsWrong)

/-- 'isobathlaw05.ClockTimes': WHATEVER THE INPUT: true; the input reads as it did. -/
def clockTimesSpec : ChangeSpec := { name := "clockTimes", fn := fun _ => fun
  | [d1, d2] => { results := [.lit (.bool true)], args := [d1, d2] }
  | _ => none }
def clockTimesRow : OpenClaim := { program := "ytcchmjbedppfnaa", sum := "a4fd2e4a659105c788553d0c8ec8910109fefb7fb50cb580041bd90f2bdd052d", func := "isobath/isobathlaw05.ClockTimes", spec := "clockTimes", unfollowed := true, recurses := true, apart := false }
def ClockTimesSaid : Prop := clockTimesRow.holds Try.pinned (OpenSpec.ofChange clockTimesSpec)

/-- ITS FALSE NEIGHBOUR: 'it returns false'. Refute it at one input. -/
def clockTimesWrong : ChangeSpec := { name := "clockTimes", fn := fun _ => fun
  | [d1, d2] => { results := [.lit (.bool false)], args := [d1, d2] }
  | _ => none }
def ClockTimesWrongFalsely : Prop := clockTimesRow.holds Try.pinned (OpenSpec.ofChange clockTimesWrong)

/-- 'isobathlaw05.ClockEvents': WHATEVER THE INPUT: true; the input reads as it did. -/
def clockEventsSpec : ChangeSpec := { name := "clockEvents", fn := fun _ => fun
  | [d1, d2, d3] => { results := [.lit (.bool true)], args := [d1, d2, d3] }
  | _ => none }
def clockEventsRow : OpenClaim := { program := "ytcchmjbedppfnaa", sum := "a4fd2e4a659105c788553d0c8ec8910109fefb7fb50cb580041bd90f2bdd052d", func := "isobath/isobathlaw05.ClockEvents", spec := "clockEvents", unfollowed := true, recurses := true, apart := false }
def ClockEventsSaid : Prop := clockEventsRow.holds Try.pinned (OpenSpec.ofChange clockEventsSpec)

/-- ITS FALSE NEIGHBOUR: 'it returns false'. Refute it at one input. -/
def clockEventsWrong : ChangeSpec := { name := "clockEvents", fn := fun _ => fun
  | [d1, d2, d3] => { results := [.lit (.bool false)], args := [d1, d2, d3] }
  | _ => none }
def ClockEventsWrongFalsely : Prop := clockEventsRow.holds Try.pinned (OpenSpec.ofChange clockEventsWrong)

/-- 'isobathlaw05.ClockHolds': WHATEVER THE INPUT: true; the input reads as it did. -/
def clockHoldsSpec : ChangeSpec := { name := "clockHolds", fn := fun _ => fun
  | [d1, d2, d3, d4] => { results := [.lit (.bool true)], args := [d1, d2, d3, d4] }
  | _ => none }
def clockHoldsRow : OpenClaim := { program := "ytcchmjbedppfnaa", sum := "a4fd2e4a659105c788553d0c8ec8910109fefb7fb50cb580041bd90f2bdd052d", func := "isobath/isobathlaw05.ClockHolds", spec := "clockHolds", unfollowed := true, recurses := true, apart := false }
def ClockHoldsSaid : Prop := clockHoldsRow.holds Try.pinned (OpenSpec.ofChange clockHoldsSpec)

/-- ITS FALSE NEIGHBOUR: 'it returns false'. Refute it at one input. -/
def clockHoldsWrong : ChangeSpec := { name := "clockHolds", fn := fun _ => fun
  | [d1, d2, d3, d4] => { results := [.lit (.bool false)], args := [d1, d2, d3, d4] }
  | _ => none }
def ClockHoldsWrongFalsely : Prop := clockHoldsRow.holds Try.pinned (OpenSpec.ofChange clockHoldsWrong)

/-- 'isobathlaw05.ClockTree': WHATEVER THE INPUT: true; the input reads as it did. -/
def clockTreeSpec : ChangeSpec := { name := "clockTree", fn := fun _ => fun
  | [d1, d2, d3, d4, d5, d6] => { results := [.lit (.bool true)], args := [d1, d2, d3, d4, d5, d6] }
  | _ => none }
def clockTreeRow : OpenClaim := { program := "ytcchmjbedppfnaa", sum := "a4fd2e4a659105c788553d0c8ec8910109fefb7fb50cb580041bd90f2bdd052d", func := "isobath/isobathlaw05.ClockTree", spec := "clockTree", unfollowed := true, recurses := true, apart := false }
def ClockTreeSaid : Prop := clockTreeRow.holds Try.pinned (OpenSpec.ofChange clockTreeSpec)

/-- ITS FALSE NEIGHBOUR: 'it returns false'. Refute it at one input. -/
def clockTreeWrong : ChangeSpec := { name := "clockTree", fn := fun _ => fun
  | [d1, d2, d3, d4, d5, d6] => { results := [.lit (.bool false)], args := [d1, d2, d3, d4, d5, d6] }
  | _ => none }
def ClockTreeWrongFalsely : Prop := clockTreeRow.holds Try.pinned (OpenSpec.ofChange clockTreeWrong)

/-- 'isobathlaw05.ClockMore': WHATEVER THE INPUT: true; the input reads as it did. -/
def clockMoreSpec : ChangeSpec := { name := "clockMore", fn := fun _ => fun
  | [d1, d2, d3, d4, d5] => { results := [.lit (.bool true)], args := [d1, d2, d3, d4, d5] }
  | _ => none }
def clockMoreRow : OpenClaim := { program := "ytcchmjbedppfnaa", sum := "a4fd2e4a659105c788553d0c8ec8910109fefb7fb50cb580041bd90f2bdd052d", func := "isobath/isobathlaw05.ClockMore", spec := "clockMore", unfollowed := true, recurses := true, apart := false }
def ClockMoreSaid : Prop := clockMoreRow.holds Try.pinned (OpenSpec.ofChange clockMoreSpec)

/-- ITS FALSE NEIGHBOUR: 'it returns false'. Refute it at one input. -/
def clockMoreWrong : ChangeSpec := { name := "clockMore", fn := fun _ => fun
  | [d1, d2, d3, d4, d5] => { results := [.lit (.bool false)], args := [d1, d2, d3, d4, d5] }
  | _ => none }
def ClockMoreWrongFalsely : Prop := clockMoreRow.holds Try.pinned (OpenSpec.ofChange clockMoreWrong)

/-- 'isobathlaw05.ClockContradicts': WHATEVER THE INPUT: true; the input reads as it did. -/
def clockContradictsSpec : ChangeSpec := { name := "clockContradicts", fn := fun _ => fun
  | [d1, d2] => { results := [.lit (.bool true)], args := [d1, d2] }
  | _ => none }
def clockContradictsRow : OpenClaim := { program := "ytcchmjbedppfnaa", sum := "a4fd2e4a659105c788553d0c8ec8910109fefb7fb50cb580041bd90f2bdd052d", func := "isobath/isobathlaw05.ClockContradicts", spec := "clockContradicts", unfollowed := true, recurses := true, apart := false }
def ClockContradictsSaid : Prop := clockContradictsRow.holds Try.pinned (OpenSpec.ofChange clockContradictsSpec)

/-- ITS FALSE NEIGHBOUR: 'it returns false'. Refute it at one input. -/
def clockContradictsWrong : ChangeSpec := { name := "clockContradicts", fn := fun _ => fun
  | [d1, d2] => { results := [.lit (.bool false)], args := [d1, d2] }
  | _ => none }
def ClockContradictsWrongFalsely : Prop := clockContradictsRow.holds Try.pinned (OpenSpec.ofChange clockContradictsWrong)

/-- 'isobathlaw05.ClockSlow': WHATEVER THE INPUT: true; the input reads as it did. -/
def clockSlowSpec : ChangeSpec := { name := "clockSlow", fn := fun _ => fun
  | [d1, d2, d3] => { results := [.lit (.bool true)], args := [d1, d2, d3] }
  | _ => none }
def clockSlowRow : OpenClaim := { program := "ytcchmjbedppfnaa", sum := "a4fd2e4a659105c788553d0c8ec8910109fefb7fb50cb580041bd90f2bdd052d", func := "isobath/isobathlaw05.ClockSlow", spec := "clockSlow", unfollowed := true, recurses := true, apart := false }
def ClockSlowSaid : Prop := clockSlowRow.holds Try.pinned (OpenSpec.ofChange clockSlowSpec)

/-- ITS FALSE NEIGHBOUR: 'it returns false'. Refute it at one input. -/
def clockSlowWrong : ChangeSpec := { name := "clockSlow", fn := fun _ => fun
  | [d1, d2, d3] => { results := [.lit (.bool false)], args := [d1, d2, d3] }
  | _ => none }
def ClockSlowWrongFalsely : Prop := clockSlowRow.holds Try.pinned (OpenSpec.ofChange clockSlowWrong)

/-- 'isobathlaw05.ClockDue': WHATEVER THE INPUT: true; the input reads as it did. -/
def clockDueSpec : ChangeSpec := { name := "clockDue", fn := fun _ => fun
  | [d1, d2, d3] => { results := [.lit (.bool true)], args := [d1, d2, d3] }
  | _ => none }
def clockDueRow : OpenClaim := { program := "ytcchmjbedppfnaa", sum := "a4fd2e4a659105c788553d0c8ec8910109fefb7fb50cb580041bd90f2bdd052d", func := "isobath/isobathlaw05.ClockDue", spec := "clockDue", unfollowed := true, recurses := true, apart := false }
def ClockDueSaid : Prop := clockDueRow.holds Try.pinned (OpenSpec.ofChange clockDueSpec)

/-- ITS FALSE NEIGHBOUR: 'it returns false'. Refute it at one input. -/
def clockDueWrong : ChangeSpec := { name := "clockDue", fn := fun _ => fun
  | [d1, d2, d3] => { results := [.lit (.bool false)], args := [d1, d2, d3] }
  | _ => none }
def ClockDueWrongFalsely : Prop := clockDueRow.holds Try.pinned (OpenSpec.ofChange clockDueWrong)

/-- 'isobathlaw05.ClockOrder': WHATEVER THE INPUT: true; the input reads as it did. -/
def clockOrderSpec : ChangeSpec := { name := "clockOrder", fn := fun _ => fun
  | [d1, d2] => { results := [.lit (.bool true)], args := [d1, d2] }
  | _ => none }
def clockOrderRow : OpenClaim := { program := "ytcchmjbedppfnaa", sum := "a4fd2e4a659105c788553d0c8ec8910109fefb7fb50cb580041bd90f2bdd052d", func := "isobath/isobathlaw05.ClockOrder", spec := "clockOrder", unfollowed := true, recurses := true, apart := false }
def ClockOrderSaid : Prop := clockOrderRow.holds Try.pinned (OpenSpec.ofChange clockOrderSpec)

/-- ITS FALSE NEIGHBOUR: 'it returns false'. Refute it at one input. -/
def clockOrderWrong : ChangeSpec := { name := "clockOrder", fn := fun _ => fun
  | [d1, d2] => { results := [.lit (.bool false)], args := [d1, d2] }
  | _ => none }
def ClockOrderWrongFalsely : Prop := clockOrderRow.holds Try.pinned (OpenSpec.ofChange clockOrderWrong)

/-- 'isobathlaw05.ClockKnown': WHATEVER THE INPUT: true; the input reads as it did. -/
def clockKnownSpec : ChangeSpec := { name := "clockKnown", fn := fun _ => fun
  | [] => { results := [.lit (.bool true)], args := [] }
  | _ => none }
def clockKnownRow : OpenClaim := { program := "ytcchmjbedppfnaa", sum := "a4fd2e4a659105c788553d0c8ec8910109fefb7fb50cb580041bd90f2bdd052d", func := "isobath/isobathlaw05.ClockKnown", spec := "clockKnown", unfollowed := true, recurses := true, apart := false }
def ClockKnownSaid : Prop := clockKnownRow.holds Try.pinned (OpenSpec.ofChange clockKnownSpec)

/-- ITS FALSE NEIGHBOUR: 'it returns false'. Refute it at one input. -/
def clockKnownWrong : ChangeSpec := { name := "clockKnown", fn := fun _ => fun
  | [] => { results := [.lit (.bool false)], args := [] }
  | _ => none }
def ClockKnownWrongFalsely : Prop := clockKnownRow.holds Try.pinned (OpenSpec.ofChange clockKnownWrong)

/-- 'isobathtop.TopLogged': WHATEVER THE INPUT: true; the input reads as it did. -/
def topLoggedSpec : ChangeSpec := { name := "topLogged", fn := fun _ => fun
  | [d1, d2, d3, d4] => { results := [.lit (.bool true)], args := [d1, d2, d3, d4] }
  | _ => none }
def topLoggedRow : OpenClaim := { program := "ytcchmjbedppfnaa", sum := "a4fd2e4a659105c788553d0c8ec8910109fefb7fb50cb580041bd90f2bdd052d", func := "isobath/isobathtop.TopLogged", spec := "topLogged", unfollowed := true, recurses := true, apart := false }
def TopLoggedSaid : Prop := topLoggedRow.holds Try.pinned (OpenSpec.ofChange topLoggedSpec)

/-- ITS FALSE NEIGHBOUR: 'it returns false'. Refute it at one input. -/
def topLoggedWrong : ChangeSpec := { name := "topLogged", fn := fun _ => fun
  | [d1, d2, d3, d4] => { results := [.lit (.bool false)], args := [d1, d2, d3, d4] }
  | _ => none }
def TopLoggedWrongFalsely : Prop := topLoggedRow.holds Try.pinned (OpenSpec.ofChange topLoggedWrong)

/-- 'isobathtop.TopOwnPath': WHATEVER THE INPUT: true; the input reads as it did. -/
def topOwnPathSpec : ChangeSpec := { name := "topOwnPath", fn := fun _ => fun
  | [d1, d2, d3, d4] => { results := [.lit (.bool true)], args := [d1, d2, d3, d4] }
  | _ => none }
def topOwnPathRow : OpenClaim := { program := "ytcchmjbedppfnaa", sum := "a4fd2e4a659105c788553d0c8ec8910109fefb7fb50cb580041bd90f2bdd052d", func := "isobath/isobathtop.TopOwnPath", spec := "topOwnPath", unfollowed := true, recurses := true, apart := false }
def TopOwnPathSaid : Prop := topOwnPathRow.holds Try.pinned (OpenSpec.ofChange topOwnPathSpec)

/-- ITS FALSE NEIGHBOUR: 'it returns false'. Refute it at one input. -/
def topOwnPathWrong : ChangeSpec := { name := "topOwnPath", fn := fun _ => fun
  | [d1, d2, d3, d4] => { results := [.lit (.bool false)], args := [d1, d2, d3, d4] }
  | _ => none }
def TopOwnPathWrongFalsely : Prop := topOwnPathRow.holds Try.pinned (OpenSpec.ofChange topOwnPathWrong)

/-- 'isobathtop.TopOffset': WHATEVER THE INPUT: true; the input reads as it did. -/
def topOffsetSpec : ChangeSpec := { name := "topOffset", fn := fun _ => fun
  | [d1, d2] => { results := [.lit (.bool true)], args := [d1, d2] }
  | _ => none }
def topOffsetRow : OpenClaim := { program := "ytcchmjbedppfnaa", sum := "a4fd2e4a659105c788553d0c8ec8910109fefb7fb50cb580041bd90f2bdd052d", func := "isobath/isobathtop.TopOffset", spec := "topOffset", unfollowed := true, recurses := true, apart := false }
def TopOffsetSaid : Prop := topOffsetRow.holds Try.pinned (OpenSpec.ofChange topOffsetSpec)

/-- ITS FALSE NEIGHBOUR: 'it returns false'. Refute it at one input. -/
def topOffsetWrong : ChangeSpec := { name := "topOffset", fn := fun _ => fun
  | [d1, d2] => { results := [.lit (.bool false)], args := [d1, d2] }
  | _ => none }
def TopOffsetWrongFalsely : Prop := topOffsetRow.holds Try.pinned (OpenSpec.ofChange topOffsetWrong)

/-- 'isobathtop.TopEchoed': WHATEVER THE INPUT: true; the input reads as it did. -/
def topEchoedSpec : ChangeSpec := { name := "topEchoed", fn := fun _ => fun
  | [d1, d2, d3, d4, d5, d6, d7] => { results := [.lit (.bool true)], args := [d1, d2, d3, d4, d5, d6, d7] }
  | _ => none }
def topEchoedRow : OpenClaim := { program := "ytcchmjbedppfnaa", sum := "a4fd2e4a659105c788553d0c8ec8910109fefb7fb50cb580041bd90f2bdd052d", func := "isobath/isobathtop.TopEchoed", spec := "topEchoed", unfollowed := true, recurses := true, apart := false }
def TopEchoedSaid : Prop := topEchoedRow.holds Try.pinned (OpenSpec.ofChange topEchoedSpec)

/-- ITS FALSE NEIGHBOUR: 'it returns false'. Refute it at one input. -/
def topEchoedWrong : ChangeSpec := { name := "topEchoed", fn := fun _ => fun
  | [d1, d2, d3, d4, d5, d6, d7] => { results := [.lit (.bool false)], args := [d1, d2, d3, d4, d5, d6, d7] }
  | _ => none }
def TopEchoedWrongFalsely : Prop := topEchoedRow.holds Try.pinned (OpenSpec.ofChange topEchoedWrong)

/-- 'isobathtop.TopBefore': WHATEVER THE INPUT: true; the input reads as it did. -/
def topBeforeSpec : ChangeSpec := { name := "topBefore", fn := fun _ => fun
  | [d] => { results := [.lit (.bool true)], args := [d] }
  | _ => none }
def topBeforeRow : OpenClaim := { program := "ytcchmjbedppfnaa", sum := "a4fd2e4a659105c788553d0c8ec8910109fefb7fb50cb580041bd90f2bdd052d", func := "isobath/isobathtop.TopBefore", spec := "topBefore", unfollowed := true, recurses := true, apart := false }
def TopBeforeSaid : Prop := topBeforeRow.holds Try.pinned (OpenSpec.ofChange topBeforeSpec)

/-- ITS FALSE NEIGHBOUR: 'it returns false'. Refute it at one input. -/
def topBeforeWrong : ChangeSpec := { name := "topBefore", fn := fun _ => fun
  | [d] => { results := [.lit (.bool false)], args := [d] }
  | _ => none }
def TopBeforeWrongFalsely : Prop := topBeforeRow.holds Try.pinned (OpenSpec.ofChange topBeforeWrong)

/- THE SECOND FORM. 'bulk': how many values and letters a reading holds, each counted each time it is reached (what is shared counts as often as it is met; a slice's spare places count too). A statement '..UptoSaid' is the law's where the arguments, and the package variables that the reading takes, are together of bulk at most 1048576: NARROWER than '..Said'. Prove '..Said' where nothing that the law and all that it calls make is longer than what came in: it says more and counts as full. Else prove '..UptoSaid'. A law counts once. -/
mutual
def uptoBulk {H : Type} : DataW H → Nat
  | .lit (.string bytes) => bytes.length + 1
  | .lit _ => 1
  | .nil => 1
  | .ptr d => uptoBulk d + 1
  | .slice elems spare => uptoBulkAll elems + uptoBulkAll spare + 1
  | .agg parts => uptoBulkAll parts + 1
  | .iface _ d => uptoBulk d + 1
  | .map entries => uptoBulkEntries entries + 1
  | .held _ => 1
def uptoBulkAll {H : Type} : List (DataW H) → Nat
  | [] => 0
  | d :: r => uptoBulk d + uptoBulkAll r
def uptoBulkEntries {H : Type} : List (Lit × DataW H) → Nat
  | [] => 0
  | x :: r => uptoBulkEntry x + uptoBulkEntries r
def uptoBulkEntry {H : Type} : Lit × DataW H → Nat
  | (.string bytes, d) => bytes.length + uptoBulk d + 1
  | (_, d) => uptoBulk d + 1
 end
def uptoSmall : (H : Type) → List (DataW H) → Bool := fun _ ds => decide (uptoBulkAll ds ≤ 1048576)
def OpenSpec.upto (s : _root_.Go.ChangeSpec) : _root_.Go.OpenSpec := { _root_.Go.OpenSpec.ofChange s with cond := some uptoSmall }

/-- 'isobathlaw05.ClockOffsets', WHERE WHAT IT READS IS OF BULK AT MOST 1048576: true; the input reads as it did. -/
def clockOffsetsUptoRow : OpenClaim := { program := "ytcchmjbedppfnaa", sum := "a4fd2e4a659105c788553d0c8ec8910109fefb7fb50cb580041bd90f2bdd052d", func := "isobath/isobathlaw05.ClockOffsets", spec := "clockOffsets", unfollowed := true, recurses := true, apart := false, narrowed := true }
def ClockOffsetsUptoSaid : Prop := clockOffsetsUptoRow.holds Try.pinned (OpenSpec.upto clockOffsetsSpec)

/-- 'isobathlaw05.ClockPairs', WHERE WHAT IT READS IS OF BULK AT MOST 1048576: true; the input reads as it did. -/
def clockPairsUptoRow : OpenClaim := { program := "ytcchmjbedppfnaa", sum := "a4fd2e4a659105c788553d0c8ec8910109fefb7fb50cb580041bd90f2bdd052d", func := "isobath/isobathlaw05.ClockPairs", spec := "clockPairs", unfollowed := true, recurses := true, apart := false, narrowed := true }
def ClockPairsUptoSaid : Prop := clockPairsUptoRow.holds Try.pinned (OpenSpec.upto clockPairsSpec)

/-- 'isobathlaw05.ClockTimes', WHERE WHAT IT READS IS OF BULK AT MOST 1048576: true; the input reads as it did. -/
def clockTimesUptoRow : OpenClaim := { program := "ytcchmjbedppfnaa", sum := "a4fd2e4a659105c788553d0c8ec8910109fefb7fb50cb580041bd90f2bdd052d", func := "isobath/isobathlaw05.ClockTimes", spec := "clockTimes", unfollowed := true, recurses := true, apart := false, narrowed := true }
def ClockTimesUptoSaid : Prop := clockTimesUptoRow.holds Try.pinned (OpenSpec.upto clockTimesSpec)

/-- 'isobathlaw05.ClockEvents', WHERE WHAT IT READS IS OF BULK AT MOST 1048576: true; the input reads as it did. -/
def clockEventsUptoRow : OpenClaim := { program := "ytcchmjbedppfnaa", sum := "a4fd2e4a659105c788553d0c8ec8910109fefb7fb50cb580041bd90f2bdd052d", func := "isobath/isobathlaw05.ClockEvents", spec := "clockEvents", unfollowed := true, recurses := true, apart := false, narrowed := true }
def ClockEventsUptoSaid : Prop := clockEventsUptoRow.holds Try.pinned (OpenSpec.upto clockEventsSpec)

/-- 'isobathlaw05.ClockHolds', WHERE WHAT IT READS IS OF BULK AT MOST 1048576: true; the input reads as it did. -/
def clockHoldsUptoRow : OpenClaim := { program := "ytcchmjbedppfnaa", sum := "a4fd2e4a659105c788553d0c8ec8910109fefb7fb50cb580041bd90f2bdd052d", func := "isobath/isobathlaw05.ClockHolds", spec := "clockHolds", unfollowed := true, recurses := true, apart := false, narrowed := true }
def ClockHoldsUptoSaid : Prop := clockHoldsUptoRow.holds Try.pinned (OpenSpec.upto clockHoldsSpec)

/-- 'isobathlaw05.ClockTree', WHERE WHAT IT READS IS OF BULK AT MOST 1048576: true; the input reads as it did. -/
def clockTreeUptoRow : OpenClaim := { program := "ytcchmjbedppfnaa", sum := "a4fd2e4a659105c788553d0c8ec8910109fefb7fb50cb580041bd90f2bdd052d", func := "isobath/isobathlaw05.ClockTree", spec := "clockTree", unfollowed := true, recurses := true, apart := false, narrowed := true }
def ClockTreeUptoSaid : Prop := clockTreeUptoRow.holds Try.pinned (OpenSpec.upto clockTreeSpec)

/-- 'isobathlaw05.ClockMore', WHERE WHAT IT READS IS OF BULK AT MOST 1048576: true; the input reads as it did. -/
def clockMoreUptoRow : OpenClaim := { program := "ytcchmjbedppfnaa", sum := "a4fd2e4a659105c788553d0c8ec8910109fefb7fb50cb580041bd90f2bdd052d", func := "isobath/isobathlaw05.ClockMore", spec := "clockMore", unfollowed := true, recurses := true, apart := false, narrowed := true }
def ClockMoreUptoSaid : Prop := clockMoreUptoRow.holds Try.pinned (OpenSpec.upto clockMoreSpec)

/-- 'isobathlaw05.ClockContradicts', WHERE WHAT IT READS IS OF BULK AT MOST 1048576: true; the input reads as it did. -/
def clockContradictsUptoRow : OpenClaim := { program := "ytcchmjbedppfnaa", sum := "a4fd2e4a659105c788553d0c8ec8910109fefb7fb50cb580041bd90f2bdd052d", func := "isobath/isobathlaw05.ClockContradicts", spec := "clockContradicts", unfollowed := true, recurses := true, apart := false, narrowed := true }
def ClockContradictsUptoSaid : Prop := clockContradictsUptoRow.holds Try.pinned (OpenSpec.upto clockContradictsSpec)

/-- 'isobathlaw05.ClockSlow', WHERE WHAT IT READS IS OF BULK AT MOST 1048576: true; the input reads as it did. -/
def clockSlowUptoRow : OpenClaim := { program := "ytcchmjbedppfnaa", sum := "a4fd2e4a659105c788553d0c8ec8910109fefb7fb50cb580041bd90f2bdd052d", func := "isobath/isobathlaw05.ClockSlow", spec := "clockSlow", unfollowed := true, recurses := true, apart := false, narrowed := true }
def ClockSlowUptoSaid : Prop := clockSlowUptoRow.holds Try.pinned (OpenSpec.upto clockSlowSpec)

/-- 'isobathlaw05.ClockDue', WHERE WHAT IT READS IS OF BULK AT MOST 1048576: true; the input reads as it did. -/
def clockDueUptoRow : OpenClaim := { program := "ytcchmjbedppfnaa", sum := "a4fd2e4a659105c788553d0c8ec8910109fefb7fb50cb580041bd90f2bdd052d", func := "isobath/isobathlaw05.ClockDue", spec := "clockDue", unfollowed := true, recurses := true, apart := false, narrowed := true }
def ClockDueUptoSaid : Prop := clockDueUptoRow.holds Try.pinned (OpenSpec.upto clockDueSpec)

/-- 'isobathlaw05.ClockOrder', WHERE WHAT IT READS IS OF BULK AT MOST 1048576: true; the input reads as it did. -/
def clockOrderUptoRow : OpenClaim := { program := "ytcchmjbedppfnaa", sum := "a4fd2e4a659105c788553d0c8ec8910109fefb7fb50cb580041bd90f2bdd052d", func := "isobath/isobathlaw05.ClockOrder", spec := "clockOrder", unfollowed := true, recurses := true, apart := false, narrowed := true }
def ClockOrderUptoSaid : Prop := clockOrderUptoRow.holds Try.pinned (OpenSpec.upto clockOrderSpec)

/-- 'isobathlaw05.ClockKnown', WHERE WHAT IT READS IS OF BULK AT MOST 1048576: true; the input reads as it did. -/
def clockKnownUptoRow : OpenClaim := { program := "ytcchmjbedppfnaa", sum := "a4fd2e4a659105c788553d0c8ec8910109fefb7fb50cb580041bd90f2bdd052d", func := "isobath/isobathlaw05.ClockKnown", spec := "clockKnown", unfollowed := true, recurses := true, apart := false, narrowed := true }
def ClockKnownUptoSaid : Prop := clockKnownUptoRow.holds Try.pinned (OpenSpec.upto clockKnownSpec)

/-- 'isobathtop.TopLogged', WHERE WHAT IT READS IS OF BULK AT MOST 1048576: true; the input reads as it did. -/
def topLoggedUptoRow : OpenClaim := { program := "ytcchmjbedppfnaa", sum := "a4fd2e4a659105c788553d0c8ec8910109fefb7fb50cb580041bd90f2bdd052d", func := "isobath/isobathtop.TopLogged", spec := "topLogged", unfollowed := true, recurses := true, apart := false, narrowed := true }
def TopLoggedUptoSaid : Prop := topLoggedUptoRow.holds Try.pinned (OpenSpec.upto topLoggedSpec)

/-- 'isobathtop.TopOwnPath', WHERE WHAT IT READS IS OF BULK AT MOST 1048576: true; the input reads as it did. -/
def topOwnPathUptoRow : OpenClaim := { program := "ytcchmjbedppfnaa", sum := "a4fd2e4a659105c788553d0c8ec8910109fefb7fb50cb580041bd90f2bdd052d", func := "isobath/isobathtop.TopOwnPath", spec := "topOwnPath", unfollowed := true, recurses := true, apart := false, narrowed := true }
def TopOwnPathUptoSaid : Prop := topOwnPathUptoRow.holds Try.pinned (OpenSpec.upto topOwnPathSpec)

/-- 'isobathtop.TopOffset', WHERE WHAT IT READS IS OF BULK AT MOST 1048576: true; the input reads as it did. -/
def topOffsetUptoRow : OpenClaim := { program := "ytcchmjbedppfnaa", sum := "a4fd2e4a659105c788553d0c8ec8910109fefb7fb50cb580041bd90f2bdd052d", func := "isobath/isobathtop.TopOffset", spec := "topOffset", unfollowed := true, recurses := true, apart := false, narrowed := true }
def TopOffsetUptoSaid : Prop := topOffsetUptoRow.holds Try.pinned (OpenSpec.upto topOffsetSpec)

/-- 'isobathtop.TopEchoed', WHERE WHAT IT READS IS OF BULK AT MOST 1048576: true; the input reads as it did. -/
def topEchoedUptoRow : OpenClaim := { program := "ytcchmjbedppfnaa", sum := "a4fd2e4a659105c788553d0c8ec8910109fefb7fb50cb580041bd90f2bdd052d", func := "isobath/isobathtop.TopEchoed", spec := "topEchoed", unfollowed := true, recurses := true, apart := false, narrowed := true }
def TopEchoedUptoSaid : Prop := topEchoedUptoRow.holds Try.pinned (OpenSpec.upto topEchoedSpec)

/-- 'isobathtop.TopBefore', WHERE WHAT IT READS IS OF BULK AT MOST 1048576: true; the input reads as it did. -/
def topBeforeUptoRow : OpenClaim := { program := "ytcchmjbedppfnaa", sum := "a4fd2e4a659105c788553d0c8ec8910109fefb7fb50cb580041bd90f2bdd052d", func := "isobath/isobathtop.TopBefore", spec := "topBefore", unfollowed := true, recurses := true, apart := false, narrowed := true }
def TopBeforeUptoSaid : Prop := topBeforeUptoRow.holds Try.pinned (OpenSpec.upto topBeforeSpec)

end Rows
end Go.Proofs.Ytcchmjbedppfnaa

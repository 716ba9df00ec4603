/-
  No cell of these rows narrows 'for every input' (looked for: loops, veiled, ifaces, maps, wideKeys, modest, calm, conditions, laid).
  DERIVED. THE GIVEN ROWS OF THIS SEAT. 2 by the template 'for every input the law returns true; each argument reads behind the call as it read before'; 0 by the template 'total and deterministic' (their statements: YthegcbpmammokaaTotals.lean).
  GIVEN WITH THE SEED: the statements are not yours to turn. If you find one false, say at which input.
  Laid BY PROGRAM, IN A SANDBOX (cutbox-rows.mjs): the forced cells as the released guide's own fill.sh prints them over the translation f472abe7b15ddf22… (all of the seat's roots in one cut). By AI agents, Wed Nov 11 2026. No macro, syntax, notation, axiom, sorry.
-/
import Derived.Test.YthegcbpmammokaaChecked
import GoSem.Claim
import GoSem.ClaimJoined
import GoSem.ClaimMapViews
import Derived.JoinedTies
import Derived.KernelRfl
namespace Go.Proofs.Ythegcbpmammokaa
/- THE CELL 'sum', in the pinned program and in every row, IS THE sha256 OF THE DUMP (.gsa) THAT YthegcbpmammokaaProg.lean LOADS. Nothing in Lean hashes anything: it is a label: what it is worth is what the hold of that sum in a sandbox is worth. -/
noncomputable def Try.pinned : Pinned := { name := "ythegcbpmammokaa", sum := "f472abe7b15ddf227a1ae019b504df16e2e1b7276cfbe0019af2efbdbd02c103", checked := Try.checked }
namespace Rows
def none {H : Type} : Left H := { results := [], args := [] }

/-- 'isobathtop.TopCurrents': WHATEVER THE INPUT: true; the input reads as it did. -/
def topCurrentsSpec : ChangeSpec := { name := "topCurrents", fn := fun _ => fun
  | [d1, d2, d3, d4, d5] => { results := [.lit (.bool true)], args := [d1, d2, d3, d4, d5] }
  | _ => none }
def topCurrentsRow : OpenClaim := { program := "ythegcbpmammokaa", sum := "f472abe7b15ddf227a1ae019b504df16e2e1b7276cfbe0019af2efbdbd02c103", func := "isobath/isobathtop.TopCurrents", spec := "topCurrents", apart := false }
def TopCurrentsSaid : Prop := topCurrentsRow.holds Try.pinned (OpenSpec.ofChange topCurrentsSpec)

/-- ITS FALSE NEIGHBOUR: 'it returns false'. Refute it at one input. -/
def topCurrentsWrong : ChangeSpec := { name := "topCurrents", fn := fun _ => fun
  | [d1, d2, d3, d4, d5] => { results := [.lit (.bool false)], args := [d1, d2, d3, d4, d5] }
  | _ => none }
def TopCurrentsWrongFalsely : Prop := topCurrentsRow.holds Try.pinned (OpenSpec.ofChange topCurrentsWrong)

/-- 'isobathtop.TopInside': WHATEVER THE INPUT: true; the input reads as it did. -/
def topInsideSpec : ChangeSpec := { name := "topInside", fn := fun _ => fun
  | [d1, d2, d3, d4, d5] => { results := [.lit (.bool true)], args := [d1, d2, d3, d4, d5] }
  | _ => none }
def topInsideRow : OpenClaim := { program := "ythegcbpmammokaa", sum := "f472abe7b15ddf227a1ae019b504df16e2e1b7276cfbe0019af2efbdbd02c103", func := "isobath/isobathtop.TopInside", spec := "topInside", apart := false }
def TopInsideSaid : Prop := topInsideRow.holds Try.pinned (OpenSpec.ofChange topInsideSpec)

/-- ITS FALSE NEIGHBOUR: 'it returns false'. Refute it at one input. -/
def topInsideWrong : ChangeSpec := { name := "topInside", fn := fun _ => fun
  | [d1, d2, d3, d4, d5] => { results := [.lit (.bool false)], args := [d1, d2, d3, d4, d5] }
  | _ => none }
def TopInsideWrongFalsely : Prop := topInsideRow.holds Try.pinned (OpenSpec.ofChange topInsideWrong)

/- THE SECOND FORM. 'bulk': how many values and letters a reading holds, each counted each time it is reached (what is shared counts as often as it is met; a slice's spare places count too). A statement '..UptoSaid' is the law's where the arguments, and the package variables that the reading takes, are together of bulk at most 1048576: NARROWER than '..Said'. Prove '..Said' where nothing that the law and all that it calls make is longer than what came in: it says more and counts as full. Else prove '..UptoSaid'. A law counts once. -/
mutual
def uptoBulk {H : Type} : DataW H → Nat
  | .lit (.string bytes) => bytes.length + 1
  | .lit _ => 1
  | .nil => 1
  | .ptr d => uptoBulk d + 1
  | .slice elems spare => uptoBulkAll elems + uptoBulkAll spare + 1
  | .agg parts => uptoBulkAll parts + 1
  | .iface _ d => uptoBulk d + 1
  | .map entries => uptoBulkEntries entries + 1
  | .held _ => 1
def uptoBulkAll {H : Type} : List (DataW H) → Nat
  | [] => 0
  | d :: r => uptoBulk d + uptoBulkAll r
def uptoBulkEntries {H : Type} : List (Lit × DataW H) → Nat
  | [] => 0
  | x :: r => uptoBulkEntry x + uptoBulkEntries r
def uptoBulkEntry {H : Type} : Lit × DataW H → Nat
  | (.string bytes, d) => bytes.length + uptoBulk d + 1
  | (_, d) => uptoBulk d + 1
 end
def uptoSmall : (H : Type) → List (DataW H) → Bool := fun _ ds => decide (uptoBulkAll ds ≤ 1048576)
def OpenSpec.upto (s : _root_.Go.ChangeSpec) : _root_.Go.OpenSpec := { _root_.Go.OpenSpec.ofChange s with cond := some uptoSmall }

/-- 'isobathtop.TopCurrents', WHERE WHAT IT READS IS OF BULK AT MOST 1048576: true; the input reads as it did. -/
def topCurrentsUptoRow : OpenClaim := { program := "ythegcbpmammokaa", sum := "f472abe7b15ddf227a1ae019b504df16e2e1b7276cfbe0019af2efbdbd02c103", func := "isobath/isobathtop.TopCurrents", spec := "topCurrents", apart := false, narrowed := true }
def TopCurrentsUptoSaid : Prop := topCurrentsUptoRow.holds Try.pinned (OpenSpec.upto topCurrentsSpec)

/-- 'isobathtop.TopInside', WHERE WHAT IT READS IS OF BULK AT MOST 1048576: true; the input reads as it did. -/
def topInsideUptoRow : OpenClaim := { program := "ythegcbpmammokaa", sum := "f472abe7b15ddf227a1ae019b504df16e2e1b7276cfbe0019af2efbdbd02c103", func := "isobath/isobathtop.TopInside", spec := "topInside", apart := false, narrowed := true }
def TopInsideUptoSaid : Prop := topInsideUptoRow.holds Try.pinned (OpenSpec.upto topInsideSpec)

end Rows
end Go.Proofs.Ythegcbpmammokaa

/-
  The walk of TopOffset.
-/
import Derived.Test.YtcchmjbedppfnaaLawOfs0
import Derived.Test.YtcchmjbedppfnaaLawOfs5
namespace Go.Proofs.Ytcchmjbedppfnaa
open Go.RowKit Go.Shelf
theorem law_offset (p r t : Int) (sv : Value) (xs : List Xc) (w : World) (hX : Xcs w.heap.size w sv xs) :
    Calls Try.prog 17 #[.agg #[.int .i64 p, .int .i64 r, sv], .int .i64 t] w fun e w' => e = .returned (.bool true) ∧ Below w.heap.size w w' := by
  cases h : sdB r (ofA r xs)
  · exact law_offset5 p r t sv xs w hX (fun _ => h)
  · exact law_offset0 p r t sv xs w hX (fun _ => h)
end Go.Proofs.Ytcchmjbedppfnaa

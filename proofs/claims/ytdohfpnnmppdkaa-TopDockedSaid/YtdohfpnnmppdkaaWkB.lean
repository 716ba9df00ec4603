/-
  The small examples of layers 2 and 4: works04 (69): every Top row of this seat ends with it.
-/
import Derived.Test.YtdohfpnnmppdkaaWkA
import Derived.Test.YtdohfpnnmppdkaaMoF
namespace Go.Proofs.Ytdohfpnnmppdkaa
open Go.RowKit Go.Shelf
set_option linter.unusedSimpArgs false
theorem works04_any (w : World) : Calls Try.prog 69 #[] w fun e w' => e = .returned (.bool true) ∧ Below w.heap.size w w' := by
  refine works04_of (fun W b c hb hc hE hC => ?_) w
  have h := Moo.top_any 10000 3000 500 (.slice (some ⟨b, 0, none⟩) 2 2) (.slice (some ⟨c, 0, none⟩) 2 2) Moo.exZ Moo.exC false W
    (Moo.els_two _ _ hb (by simp [World.cell?, hE]) (by simp [World.cell?, hE]) (by simp [World.cell?, hE]) (by simp [World.cell?, hE]) (by simp [World.cell?, hE]) (by simp [World.cell?, hE]) (by simp [World.cell?, hE]) (by simp [World.cell?, hE]))
    (Moo.prs_two _ _ hc (by simp [World.cell?, hC]) (by simp [World.cell?, hC]) (by simp [World.cell?, hC]) (by simp [World.cell?, hC]))
  rw [Moo.top_ex, Moo.sta_ex] at h
  exact h
end Go.Proofs.Ytdohfpnnmppdkaa

/-
  mooring.Pulls and Tensions.
-/
import Derived.Test.YthogahdnidjelaaBelowT
import Derived.Test.YthogahdnidjelaaForcesP
namespace Go.Proofs.Ythogahdnidjelaa
open Go.RowKit Go.Shelf
set_option linter.unusedSimpArgs false
def pulV (d : Int) (zs : List El) (an fr : Int) (cs : List Pr) (free : Bool) : List Pr := if curE d zs an fr cs = 0 then rowL (pulG free zs cs) zs.length else []
noncomputable def tenV (d : Int) (zs : List El) (an fr : Int) (cs : List Pr) (free : Bool) : List Pr := if staE d zs an fr cs = 0 then rowL (tenG free zs cs) zs.length else []
set_option maxRecDepth 100000 in
set_option maxHeartbeats 4000000 in
theorem pulls_any (d an fr : Int) (sv cv : Value) (zs : List El) (cs : List Pr) (free : Bool) (w : World) (hI : Els w.heap.size w sv zs) (hC : Prs w.heap.size w cv cs) :
    Calls Try.prog 23 #[.agg #[.int .i64 d, sv, .int .i64 an, .int .i64 fr], cv, .bool free] w fun e w' => ∃ v, e = .returned (.tuple #[v, .int .i64 (curE d zs an fr cs)]) ∧ Prs w'.heap.size w' v (pulV d zs an fr cs free) ∧ Below w.heap.size w w' := by
  have c1 := fun w' (hb : Below w.heap.size w w') => checkCurrents_any d an fr sv cv zs cs w' (hI.at hb) (hC.at hb)
  have HV := Lib.hid (show pulV d zs an fr cs free = if curE d zs an fr cs = 0 then rowL (pulG free zs cs) zs.length else [] from rfl)
  have C2 := Lib.hid (fun (h : curE d zs an fr cs = 0) w' (hb : Below w.heap.size w w') => below_pull d an fr sv cv zs cs free (curE_ok h).1 w' (hI.at hb) (hC.at hb))
  obtain ⟨a, cap, rfl, -, -⟩ := hI
  obtain ⟨c, cap2, rfl, -, -⟩ := hC
  generalize pulV d zs an fr cs free = V at *
  generalize curE d zs an fr cs = E at *
  generalize rowL (pulG free zs cs) zs.length = L at *
  generalize zs.length = len at *
  generalize cs.length = len2 at *
  have HA := Lib.hid (show Below w.heap.size w (w.alloc (.cells #[.int .i64 d, .slice a len cap, .int .i64 an, .int .i64 fr] 24)) from (Below.refl _ _).alloc (Nat.le_refl _) _)
  by_cases hE : E = 0
  rotate_left
  · have hV : V = [] := by rw [HV.out, if_neg hE]
    subst hV
    have hb : (E != 0) = true := by simpa using hE
    clear HV C2 hE
    go_enter Try.func23, Try.ntmps23
    go_wp2_with fail
    refine (c1 _ HA.out).mono ?_
    rintro e w1 ⟨rfl, hb1⟩
    have hB1 := Lib.hid (HA.out.trans (hb1.mono (by simp)))
    clear hb1 c1
    go_wp2_with fail
    go_ret2
    exact ⟨_, rfl, prs_nil _ _, hB1.out⟩
  · subst hE
    have hV : V = L := by rw [HV.out, if_pos rfl]
    subst hV
    have c2 := C2.out rfl
    clear HV C2
    go_enter Try.func23, Try.ntmps23
    go_wp2_with fail
    refine (c1 _ HA.out).mono ?_
    rintro e w1 ⟨rfl, hb1⟩
    have hB1 := Lib.hid (HA.out.trans (hb1.mono (by simp)))
    have k0 : w1.cell? ⟨w.heap.size, 0, none⟩ = some (.int .i64 d) := (hb1.cell (p := ⟨w.heap.size, 0, none⟩) (by simp)).trans (by simp [go_sem])
    have k1 : w1.cell? ⟨w.heap.size, 1, none⟩ = some (.slice a len cap) := (hb1.cell (p := ⟨w.heap.size, 1, none⟩) (by simp)).trans (by simp [go_sem])
    have k2 : w1.cell? ⟨w.heap.size, 2, none⟩ = some (.int .i64 an) := (hb1.cell (p := ⟨w.heap.size, 2, none⟩) (by simp)).trans (by simp [go_sem])
    have k3 : w1.cell? ⟨w.heap.size, 3, none⟩ = some (.int .i64 fr) := (hb1.cell (p := ⟨w.heap.size, 3, none⟩) (by simp)).trans (by simp [go_sem])
    clear hb1 c1
    go_wp2_with fail
    refine (c2 _ hB1.out).mono ?_
    rintro e w2 ⟨v, rfl, hn, hb2⟩
    have hB2 := Lib.hid (hB1.out.trans (hb2.mono hB1.out.size))
    have HN := Lib.hid hn
    clear hn hb2
    go_wp2_with fail
    go_ret2
    exact ⟨_, rfl, HN.out, hB2.out⟩
set_option maxRecDepth 100000 in
set_option maxHeartbeats 4000000 in
theorem tensions_any (d an fr : Int) (sv cv : Value) (zs : List El) (cs : List Pr) (free : Bool) (w : World) (hI : Els w.heap.size w sv zs) (hC : Prs w.heap.size w cv cs) :
    Calls Try.prog 25 #[.agg #[.int .i64 d, sv, .int .i64 an, .int .i64 fr], cv, .bool free] w fun e w' => ∃ v, e = .returned (.tuple #[v, .int .i64 (staE d zs an fr cs)]) ∧ Prs w'.heap.size w' v (tenV d zs an fr cs free) ∧ Below w.heap.size w w' := by
  have c1 := fun w' (hb : Below w.heap.size w w') => checkStanding_any d an fr sv cv zs cs w' (hI.at hb) (hC.at hb)
  have HV := Lib.hid (show tenV d zs an fr cs free = if staE d zs an fr cs = 0 then rowL (tenG free zs cs) zs.length else [] from rfl)
  have C2 := Lib.hid (fun (h : staE d zs an fr cs = 0) w' (hb : Below w.heap.size w w') => below_tension d an fr sv cv zs cs free (staE_ok h).1 w' (hI.at hb) (hC.at hb))
  obtain ⟨a, cap, rfl, -, -⟩ := hI
  obtain ⟨c, cap2, rfl, -, -⟩ := hC
  generalize tenV d zs an fr cs free = V at *
  generalize staE d zs an fr cs = E at *
  generalize rowL (tenG free zs cs) zs.length = L at *
  generalize zs.length = len at *
  generalize cs.length = len2 at *
  have HA := Lib.hid (show Below w.heap.size w (w.alloc (.cells #[.int .i64 d, .slice a len cap, .int .i64 an, .int .i64 fr] 24)) from (Below.refl _ _).alloc (Nat.le_refl _) _)
  by_cases hE : E = 0
  rotate_left
  · have hV : V = [] := by rw [HV.out, if_neg hE]
    subst hV
    have hb : (E != 0) = true := by simpa using hE
    clear HV C2 hE
    go_enter Try.func25, Try.ntmps25
    go_wp2_with fail
    refine (c1 _ HA.out).mono ?_
    rintro e w1 ⟨rfl, hb1⟩
    have hB1 := Lib.hid (HA.out.trans (hb1.mono (by simp)))
    clear hb1 c1
    go_wp2_with fail
    go_ret2
    exact ⟨_, rfl, prs_nil _ _, hB1.out⟩
  · subst hE
    have hV : V = L := by rw [HV.out, if_pos rfl]
    subst hV
    have c2 := C2.out rfl
    clear HV C2
    go_enter Try.func25, Try.ntmps25
    go_wp2_with fail
    refine (c1 _ HA.out).mono ?_
    rintro e w1 ⟨rfl, hb1⟩
    have hB1 := Lib.hid (HA.out.trans (hb1.mono (by simp)))
    have k0 : w1.cell? ⟨w.heap.size, 0, none⟩ = some (.int .i64 d) := (hb1.cell (p := ⟨w.heap.size, 0, none⟩) (by simp)).trans (by simp [go_sem])
    have k1 : w1.cell? ⟨w.heap.size, 1, none⟩ = some (.slice a len cap) := (hb1.cell (p := ⟨w.heap.size, 1, none⟩) (by simp)).trans (by simp [go_sem])
    have k2 : w1.cell? ⟨w.heap.size, 2, none⟩ = some (.int .i64 an) := (hb1.cell (p := ⟨w.heap.size, 2, none⟩) (by simp)).trans (by simp [go_sem])
    have k3 : w1.cell? ⟨w.heap.size, 3, none⟩ = some (.int .i64 fr) := (hb1.cell (p := ⟨w.heap.size, 3, none⟩) (by simp)).trans (by simp [go_sem])
    clear hb1 c1
    go_wp2_with fail
    refine (c2 _ hB1.out).mono ?_
    rintro e w2 ⟨v, rfl, hn, hb2⟩
    have hB2 := Lib.hid (hB1.out.trans (hb2.mono hB1.out.size))
    have HN := Lib.hid hn
    clear hn hb2
    go_wp2_with fail
    go_ret2
    exact ⟨_, rfl, HN.out, hB2.out⟩
end Go.Proofs.Ythogahdnidjelaa

/-
  Glider in this seat: what is checked of seas.
-/
import Derived.Test.YthegcbpmammokaaGlC
import Derived.BigQuiet
import Derived.Deep.QuietTactic
namespace Go.Proofs.Ythegcbpmammokaa
open Go.RowKit
set_option linter.unusedSimpArgs false
set_option maxHeartbeats 4000000
set_option maxRecDepth 100000
theorem mul_bd {x y a b : Int} (hx : 1 ≤ x ∧ x ≤ a) (hy : 1 ≤ y ∧ y ≤ b) : 1 ≤ x * y ∧ x * y ≤ a * b := by
  constructor
  · have := Int.mul_le_mul hx.1 hy.1 (by decide) (by omega)
    simpa using this
  · exact Int.mul_le_mul hx.2 hy.2 (by omega) (by omega)
/-- a sea: its numbers, how many shores, and its currents -/
structure Sea where
  nx : Int
  ny : Int
  cell : Int
  slot : Int
  slots : Int
  layers : Int
  most : Int
  sl : Nat
  cs : List Q4
def curB (s : Sea) (k : Nat) : Bool := prtB (q4 s.cs k).a (q4 s.cs k).b (-s.most) s.most && prtB (q4 s.cs k).c (q4 s.cs k).d (-s.most) s.most
/-- the numbers of a sea -/
def seaN (s : Sea) : Prop := (1 ≤ s.nx ∧ s.nx ≤ 12) ∧ (1 ≤ s.ny ∧ s.ny ≤ 12) ∧ (100 ≤ s.cell ∧ s.cell ≤ 65536) ∧ (1 ≤ s.slot ∧ s.slot ≤ 1048576) ∧ (1 ≤ s.slots ∧ s.slots ≤ 16) ∧ (1 ≤ s.layers ∧ s.layers ≤ 3) ∧ (0 ≤ s.most ∧ s.most ≤ 5000)
def seaP (s : Sea) : Prop := seaN s ∧ (s.sl : Int) = s.nx * s.ny ∧ (s.cs.length : Int) = s.slots * s.layers * (s.nx * s.ny) ∧ ∀ k, k < s.cs.length → curB s k = true
open Classical in
noncomputable def seaE (s : Sea) : Int := if seaP s then 0 else 2
theorem seaE_ok {s : Sea} (h : seaP s) : seaE s = 0 := if_pos h
theorem seaE_bad {s : Sea} (h : ¬ seaP s) : seaE s = 2 := if_neg h
theorem seaE_get {s : Sea} (h : seaE s = 0) : seaP s := by
  by_cases q : seaP s
  · exact q
  · rw [seaE_bad q] at h; exact absurd h (by decide)
theorem checkSea_any (s : Sea) (sa : Option Addr) (sc : Nat) (cv : Value) (w : World) (hC : Q4s w.heap.size w cv s.cs) :
    Calls Try.prog 19 #[.agg #[.int .i64 s.nx, .int .i64 s.ny, .int .i64 s.cell, .int .i64 s.slot, .int .i64 s.slots, .int .i64 s.layers, .int .i64 s.most, .slice sa s.sl sc, cv]] w fun e w' => e = .returned (.int .i64 (seaE s)) ∧ Below w.heap.size w w' := by
  have HOK := Lib.hid (fun h => seaE_ok (s := s) h)
  have HBD := Lib.hid (fun h => seaE_bad (s := s) h)
  have HP := Lib.hid (show seaP s ↔ seaN s ∧ (s.sl : Int) = s.nx * s.ny ∧ (s.cs.length : Int) = s.slots * s.layers * (s.nx * s.ny) ∧ ∀ k, k < s.cs.length → curB s k = true from Iff.rfl)
  have HN := Lib.hid (show seaN s ↔ (1 ≤ s.nx ∧ s.nx ≤ 12) ∧ (1 ≤ s.ny ∧ s.ny ≤ 12) ∧ (100 ≤ s.cell ∧ s.cell ≤ 65536) ∧ (1 ≤ s.slot ∧ s.slot ≤ 1048576) ∧ (1 ≤ s.slots ∧ s.slots ≤ 16) ∧ (1 ≤ s.layers ∧ s.layers ≤ 3) ∧ (0 ≤ s.most ∧ s.most ≤ 5000) from Iff.rfl)
  have HCU := Lib.hid (fun k => show curB s k = (prtB (q4 s.cs k).a (q4 s.cs k).b (-s.most) s.most && prtB (q4 s.cs k).c (q4 s.cs k).d (-s.most) s.most) from rfl)
  obtain ⟨ca, cc, rfl⟩ := hC.form
  have HG := Lib.hid hC.get
  clear hC
  generalize seaE s = E at *
  generalize seaP s = SP at *
  generalize seaN s = SN at *
  generalize curB s = CU at *
  generalize s.cs.length = cl at *
  generalize q4 s.cs = cz at *
  generalize s.nx = nx at *
  generalize s.ny = ny at *
  generalize s.cell = cell at *
  generalize s.slot = slot at *
  generalize s.slots = slots at *
  generalize s.layers = layers at *
  generalize s.most = most at *
  generalize s.sl = sl at *
  clear s
  obtain ⟨A, hA⟩ : ∃ A, A = w.alloc (.cells #[.int .i64 nx, .int .i64 ny, .int .i64 cell, .int .i64 slot, .int .i64 slots, .int .i64 layers, .int .i64 most, .slice sa sl sc, .slice ca cl cc] 25) := ⟨_, rfl⟩
  have HBA := Lib.hid (show Below w.heap.size w A by rw [hA]; exact (Below.refl _ _).alloc (Nat.le_refl _) _)
  have hlt : w.heap.size < A.heap.size := by rw [hA]; simp
  have k : ∀ o, A.cell? ⟨w.heap.size, o, none⟩ = (#[.int .i64 nx, .int .i64 ny, .int .i64 cell, .int .i64 slot, .int .i64 slots, .int .i64 layers, .int .i64 most, .slice sa sl sc, .slice ca cl cc] : Array Value)[o]? := fun o => cellHB (by rw [hA]; exact World.alloc_heap_new w _) o
  have KK := Lib.hid (show ∀ W, Below A.heap.size A W → W.cell? ⟨w.heap.size, 0, none⟩ = some (.int .i64 nx) ∧ W.cell? ⟨w.heap.size, 1, none⟩ = some (.int .i64 ny) ∧ W.cell? ⟨w.heap.size, 2, none⟩ = some (.int .i64 cell) ∧ W.cell? ⟨w.heap.size, 3, none⟩ = some (.int .i64 slot) ∧ W.cell? ⟨w.heap.size, 4, none⟩ = some (.int .i64 slots) ∧ W.cell? ⟨w.heap.size, 5, none⟩ = some (.int .i64 layers) ∧ W.cell? ⟨w.heap.size, 6, none⟩ = some (.int .i64 most) ∧ W.cell? ⟨w.heap.size, 7, none⟩ = some (.slice sa sl sc) ∧ W.cell? ⟨w.heap.size, 8, none⟩ = some (.slice ca cl cc) from fun W h => ⟨(h.cell (p := ⟨w.heap.size, 0, none⟩) hlt).trans (k 0), (h.cell (p := ⟨w.heap.size, 1, none⟩) hlt).trans (k 1), (h.cell (p := ⟨w.heap.size, 2, none⟩) hlt).trans (k 2), (h.cell (p := ⟨w.heap.size, 3, none⟩) hlt).trans (k 3), (h.cell (p := ⟨w.heap.size, 4, none⟩) hlt).trans (k 4), (h.cell (p := ⟨w.heap.size, 5, none⟩) hlt).trans (k 5), (h.cell (p := ⟨w.heap.size, 6, none⟩) hlt).trans (k 6), (h.cell (p := ⟨w.heap.size, 7, none⟩) hlt).trans (k 7), (h.cell (p := ⟨w.heap.size, 8, none⟩) hlt).trans (k 8)⟩)
  have HLT := Lib.hid hlt
  clear hlt k
  obtain ⟨k0, k1, k2, k3, k4, k5, k6, k7, k8⟩ := KK.out _ (Below.refl _ _)
  have c0 := fun W => within22 nx 1 12 W
  have c1 := fun W => within22 ny 1 12 W
  have c2 := fun W => within46 cell 100 65536 W
  have c3 := fun W => within46 slot 1 1048576 W
  have c4 := fun W => within22 slots 1 16 W
  have c5 := fun W => within22 layers 1 3 W
  have c6 := fun W => within46 most 0 5000 W
  by_cases h0 : 1 ≤ nx ∧ nx ≤ 12
  rotate_left
  · obtain rfl : E = 2 := HBD.out (fun h => h0 ((HN.out.1 (HP.out.1 h).1).1))
    rw [decide_eq_false h0] at c0
    go_enter Try.func19, Try.ntmps19
    go_upto_region 1 with fail
    rw [← hA]
    clear hA
    go_wp2_with fail
    refine (c0 _).mono ?_
    rintro e w1 ⟨rfl, hw⟩
    subst hw
    go_wp2_with fail
    go_ret
    exact ⟨rfl, HBA.out⟩
  rw [decide_eq_true h0] at c0
  by_cases h1 : 1 ≤ ny ∧ ny ≤ 12
  rotate_left
  · obtain rfl : E = 2 := HBD.out (fun h => h1 ((HN.out.1 (HP.out.1 h).1).2.1))
    rw [decide_eq_false h1] at c1
    go_enter Try.func19, Try.ntmps19
    go_upto_region 1 with fail
    rw [← hA]
    clear hA
    go_wp2_with fail
    refine (c0 _).mono ?_
    rintro e w1 ⟨rfl, hw⟩
    subst hw
    go_wp2_with fail
    refine (c1 _).mono ?_
    rintro e w1 ⟨rfl, hw⟩
    subst hw
    go_wp2_with fail
    go_ret
    exact ⟨rfl, HBA.out⟩
  rw [decide_eq_true h1] at c1
  by_cases h2 : 100 ≤ cell ∧ cell ≤ 65536
  rotate_left
  · obtain rfl : E = 2 := HBD.out (fun h => h2 ((HN.out.1 (HP.out.1 h).1).2.2.1))
    rw [decide_eq_false h2] at c2
    go_enter Try.func19, Try.ntmps19
    go_upto_region 1 with fail
    rw [← hA]
    clear hA
    go_wp2_with fail
    refine (c0 _).mono ?_
    rintro e w1 ⟨rfl, hw⟩
    subst hw
    go_wp2_with fail
    refine (c1 _).mono ?_
    rintro e w1 ⟨rfl, hw⟩
    subst hw
    go_wp2_with fail
    refine (c2 _).mono ?_
    rintro e w1 ⟨rfl, hw⟩
    subst hw
    go_wp2_with fail
    go_ret
    exact ⟨rfl, HBA.out⟩
  rw [decide_eq_true h2] at c2
  by_cases h3 : 1 ≤ slot ∧ slot ≤ 1048576
  rotate_left
  · obtain rfl : E = 2 := HBD.out (fun h => h3 ((HN.out.1 (HP.out.1 h).1).2.2.2.1))
    rw [decide_eq_false h3] at c3
    go_enter Try.func19, Try.ntmps19
    go_upto_region 1 with fail
    rw [← hA]
    clear hA
    go_wp2_with fail
    refine (c0 _).mono ?_
    rintro e w1 ⟨rfl, hw⟩
    subst hw
    go_wp2_with fail
    refine (c1 _).mono ?_
    rintro e w1 ⟨rfl, hw⟩
    subst hw
    go_wp2_with fail
    refine (c2 _).mono ?_
    rintro e w1 ⟨rfl, hw⟩
    subst hw
    go_wp2_with fail
    refine (c3 _).mono ?_
    rintro e w1 ⟨rfl, hw⟩
    subst hw
    go_wp2_with fail
    go_ret
    exact ⟨rfl, HBA.out⟩
  rw [decide_eq_true h3] at c3
  by_cases h4 : 1 ≤ slots ∧ slots ≤ 16
  rotate_left
  · obtain rfl : E = 2 := HBD.out (fun h => h4 ((HN.out.1 (HP.out.1 h).1).2.2.2.2.1))
    rw [decide_eq_false h4] at c4
    go_enter Try.func19, Try.ntmps19
    go_upto_region 1 with fail
    rw [← hA]
    clear hA
    go_wp2_with fail
    refine (c0 _).mono ?_
    rintro e w1 ⟨rfl, hw⟩
    subst hw
    go_wp2_with fail
    refine (c1 _).mono ?_
    rintro e w1 ⟨rfl, hw⟩
    subst hw
    go_wp2_with fail
    refine (c2 _).mono ?_
    rintro e w1 ⟨rfl, hw⟩
    subst hw
    go_wp2_with fail
    refine (c3 _).mono ?_
    rintro e w1 ⟨rfl, hw⟩
    subst hw
    go_wp2_with fail
    refine (c4 _).mono ?_
    rintro e w1 ⟨rfl, hw⟩
    subst hw
    go_wp2_with fail
    go_ret
    exact ⟨rfl, HBA.out⟩
  rw [decide_eq_true h4] at c4
  by_cases h5 : 1 ≤ layers ∧ layers ≤ 3
  rotate_left
  · obtain rfl : E = 2 := HBD.out (fun h => h5 ((HN.out.1 (HP.out.1 h).1).2.2.2.2.2.1))
    rw [decide_eq_false h5] at c5
    go_enter Try.func19, Try.ntmps19
    go_upto_region 1 with fail
    rw [← hA]
    clear hA
    go_wp2_with fail
    refine (c0 _).mono ?_
    rintro e w1 ⟨rfl, hw⟩
    subst hw
    go_wp2_with fail
    refine (c1 _).mono ?_
    rintro e w1 ⟨rfl, hw⟩
    subst hw
    go_wp2_with fail
    refine (c2 _).mono ?_
    rintro e w1 ⟨rfl, hw⟩
    subst hw
    go_wp2_with fail
    refine (c3 _).mono ?_
    rintro e w1 ⟨rfl, hw⟩
    subst hw
    go_wp2_with fail
    refine (c4 _).mono ?_
    rintro e w1 ⟨rfl, hw⟩
    subst hw
    go_wp2_with fail
    refine (c5 _).mono ?_
    rintro e w1 ⟨rfl, hw⟩
    subst hw
    go_wp2_with fail
    go_ret
    exact ⟨rfl, HBA.out⟩
  rw [decide_eq_true h5] at c5
  by_cases h6 : 0 ≤ most ∧ most ≤ 5000
  rotate_left
  · obtain rfl : E = 2 := HBD.out (fun h => h6 ((HN.out.1 (HP.out.1 h).1).2.2.2.2.2.2))
    rw [decide_eq_false h6] at c6
    go_enter Try.func19, Try.ntmps19
    go_upto_region 1 with fail
    rw [← hA]
    clear hA
    go_wp2_with fail
    refine (c0 _).mono ?_
    rintro e w1 ⟨rfl, hw⟩
    subst hw
    go_wp2_with fail
    refine (c1 _).mono ?_
    rintro e w1 ⟨rfl, hw⟩
    subst hw
    go_wp2_with fail
    refine (c2 _).mono ?_
    rintro e w1 ⟨rfl, hw⟩
    subst hw
    go_wp2_with fail
    refine (c3 _).mono ?_
    rintro e w1 ⟨rfl, hw⟩
    subst hw
    go_wp2_with fail
    refine (c4 _).mono ?_
    rintro e w1 ⟨rfl, hw⟩
    subst hw
    go_wp2_with fail
    refine (c5 _).mono ?_
    rintro e w1 ⟨rfl, hw⟩
    subst hw
    go_wp2_with fail
    refine (c6 _).mono ?_
    rintro e w1 ⟨rfl, hw⟩
    subst hw
    go_wp2_with fail
    go_ret
    exact ⟨rfl, HBA.out⟩
  rw [decide_eq_true h6] at c6
  obtain ⟨N, hN⟩ : ∃ N, nx * ny = N := ⟨_, rfl⟩
  have hNb := mul_bd h0 h1
  rw [hN] at hNb
  obtain ⟨M, hM⟩ : ∃ M, slots * layers = M := ⟨_, rfl⟩
  have hMb := mul_bd h4 h5
  rw [hM] at hMb
  obtain ⟨T, hT⟩ : ∃ T, M * N = T := ⟨_, rfl⟩
  have hTb := mul_bd hMb hNb
  rw [hT] at hTb
  rw [hN, hM, hT] at HP
  have hw1 : wrap64 (nx * ny) = N := by rw [hN]; unfold wrap64; omega
  have hw2 : wrap64 (slots * layers) = M := by rw [hM]; unfold wrap64; omega
  have hw3 : wrap64 (M * N) = T := by rw [hT]; unfold wrap64; omega
  have HSN := Lib.hid (HN.out.2 ⟨h0, h1, h2, h3, h4, h5, h6⟩)
  clear hN hM hT
  by_cases g1 : (sl : Int) = N
  rotate_left
  · obtain rfl : E = 2 := HBD.out (fun h => g1 (HP.out.1 h).2.1)
    have g1b : ((sl : Int) != N) = true := by simpa using g1
    go_enter Try.func19, Try.ntmps19
    go_upto_region 1 with fail
    rw [← hA]
    clear hA
    go_wp2_with fail
    refine (c0 _).mono ?_
    rintro e w1 ⟨rfl, hw⟩
    subst hw
    go_wp2_with fail
    refine (c1 _).mono ?_
    rintro e w1 ⟨rfl, hw⟩
    subst hw
    go_wp2_with fail
    refine (c2 _).mono ?_
    rintro e w1 ⟨rfl, hw⟩
    subst hw
    go_wp2_with fail
    refine (c3 _).mono ?_
    rintro e w1 ⟨rfl, hw⟩
    subst hw
    go_wp2_with fail
    refine (c4 _).mono ?_
    rintro e w1 ⟨rfl, hw⟩
    subst hw
    go_wp2_with fail
    refine (c5 _).mono ?_
    rintro e w1 ⟨rfl, hw⟩
    subst hw
    go_wp2_with fail
    refine (c6 _).mono ?_
    rintro e w1 ⟨rfl, hw⟩
    subst hw
    go_wp2_with fail
    go_ret
    exact ⟨rfl, HBA.out⟩
  have g1b : ((sl : Int) != N) = false := by simpa using g1
  by_cases g2 : (cl : Int) = T
  rotate_left
  · obtain rfl : E = 2 := HBD.out (fun h => g2 (HP.out.1 h).2.2.1)
    have g2b : ((cl : Int) != T) = true := by simpa using g2
    go_enter Try.func19, Try.ntmps19
    go_upto_region 1 with fail
    rw [← hA]
    clear hA
    go_wp2_with fail
    refine (c0 _).mono ?_
    rintro e w1 ⟨rfl, hw⟩
    subst hw
    go_wp2_with fail
    refine (c1 _).mono ?_
    rintro e w1 ⟨rfl, hw⟩
    subst hw
    go_wp2_with fail
    refine (c2 _).mono ?_
    rintro e w1 ⟨rfl, hw⟩
    subst hw
    go_wp2_with fail
    refine (c3 _).mono ?_
    rintro e w1 ⟨rfl, hw⟩
    subst hw
    go_wp2_with fail
    refine (c4 _).mono ?_
    rintro e w1 ⟨rfl, hw⟩
    subst hw
    go_wp2_with fail
    refine (c5 _).mono ?_
    rintro e w1 ⟨rfl, hw⟩
    subst hw
    go_wp2_with fail
    refine (c6 _).mono ?_
    rintro e w1 ⟨rfl, hw⟩
    subst hw
    go_wp2_with fail
    go_ret
    exact ⟨rfl, HBA.out⟩
  have g2b : ((cl : Int) != T) = false := by simpa using g2
  have hcl : cl ≤ 6912 := by omega
  have HG1 := Lib.hid g1
  have HG2 := Lib.hid g2
  clear g1 g2
  go_enter Try.func19, Try.ntmps19
  go_upto_region 1 with fail
  rw [← hA]
  clear hA
  go_wp2_with fail
  refine (c0 _).mono ?_
  rintro e w1 ⟨rfl, hw⟩
  subst hw
  go_wp2_with fail
  refine (c1 _).mono ?_
  rintro e w1 ⟨rfl, hw⟩
  subst hw
  go_wp2_with fail
  refine (c2 _).mono ?_
  rintro e w1 ⟨rfl, hw⟩
  subst hw
  go_wp2_with fail
  refine (c3 _).mono ?_
  rintro e w1 ⟨rfl, hw⟩
  subst hw
  go_wp2_with fail
  refine (c4 _).mono ?_
  rintro e w1 ⟨rfl, hw⟩
  subst hw
  go_wp2_with fail
  refine (c5 _).mono ?_
  rintro e w1 ⟨rfl, hw⟩
  subst hw
  go_wp2_with fail
  refine (c6 _).mono ?_
  rintro e w1 ⟨rfl, hw⟩
  subst hw

  go_wp2_with fail
  simp only [hw1, hw2, hw3]
  clear hw1 hw2 hw3
  clear k0 k1 k2 k3 k4 k5 k6 k7 k8
  go_loopw [72] (fun i wr => ∃ k : Nat, k ≤ cl ∧ i = .int .i64 k ∧ (∀ j, j < k → CU j = true) ∧ Below w1.heap.size w1 wr) (fun i _ => cl - (intOf i).toNat)
  case atStart => exact ⟨0, Nat.zero_le _, rfl, fun j h => absurd h (Nat.not_lt_zero _), Below.refl _ _⟩
  case round =>
    obtain ⟨k, hk, rfl, hin, hB⟩ := hrel
    have HIN := Lib.hid hin
    have HB := Lib.hid hB
    have hsz := hB.size
    obtain ⟨k0, k1, k2, k3, k4, k5, k6, k7, k8⟩ := KK.out _ hB
    have hltw := HLT.out
    clear hin hB
    by_cases hlt : k < cl
    · have hki : (k : Int) < (cl : Int) := by omega
      obtain ⟨b, off, rfl, hb, q0, q1, q2, q3⟩ := HG.out k hlt
      have HWA := Lib.hid (HBA.out.trans (HB.out.mono HBA.out.size))
      have m0 := (HWA.out.cell (p := ⟨b, _, none⟩) hb).trans q0
      have m1 := (HWA.out.cell (p := ⟨b, _, none⟩) hb).trans q1
      have m2 := (HWA.out.cell (p := ⟨b, _, none⟩) hb).trans q2
      have m3 := (HWA.out.cell (p := ⟨b, _, none⟩) hb).trans q3
      have hcu := HCU.out k
      have p1 := fun W => isPart_any (cz k).a (cz k).b (-most) most W
      have p2 := fun W => isPart_any (cz k).c (cz k).d (-most) most W
      have HBDk := Lib.hid (fun (h : CU k = false) => HBD.out (fun h2 => by have := (HP.out.1 h2).2.2.2 k hlt; rw [h] at this; exact absurd this (by decide)))
      generalize prtB (cz k).a (cz k).b (-most) most = x at *
      generalize prtB (cz k).c (cz k).d (-most) most = y at *
      have HCK := Lib.hid hcu
      clear hcu q0 q1 q2 q3
      generalize (cz k).a = z0 at *
      generalize (cz k).b = z1 at *
      generalize (cz k).c = z2 at *
      generalize (cz k).d = z3 at *
      go_upto_region 9 with fail
      obtain ⟨V, hV⟩ : ∃ V, V = wr.alloc (.cells #[.int .i64 z0, .int .i64 z1, .int .i64 z2, .int .i64 z3] 33) := ⟨_, rfl⟩
      try rw [← hV]
      have HVB := Lib.hid (show Below w1.heap.size w1 V by rw [hV]; exact HB.out.alloc hsz _)
      have kv : ∀ o, V.cell? ⟨wr.heap.size, o, none⟩ = (#[.int .i64 z0, .int .i64 z1, .int .i64 z2, .int .i64 z3] : Array Value)[o]? := fun o => cellHB (by rw [hV]; exact World.alloc_heap_new wr _) o
      have hzv : wr.heap.size < V.heap.size := by rw [hV]; simp
      have KV := Lib.hid (show ∀ W, Below V.heap.size V W → (W.cell? ⟨wr.heap.size, 0, none⟩ = some (.int .i64 z0) ∧ W.cell? ⟨wr.heap.size, 1, none⟩ = some (.int .i64 z1) ∧ W.cell? ⟨wr.heap.size, 2, none⟩ = some (.int .i64 z2) ∧ W.cell? ⟨wr.heap.size, 3, none⟩ = some (.int .i64 z3)) ∧ Below w1.heap.size w1 W from fun W h => ⟨⟨(h.cell (p := ⟨wr.heap.size, 0, none⟩) hzv).trans (kv 0), (h.cell (p := ⟨wr.heap.size, 1, none⟩) hzv).trans (kv 1), (h.cell (p := ⟨wr.heap.size, 2, none⟩) hzv).trans (kv 2), (h.cell (p := ⟨wr.heap.size, 3, none⟩) hzv).trans (kv 3)⟩, HVB.out.trans (h.mono HVB.out.size)⟩)
      clear hV kv hzv k0 k1 k2 k3 k4 k5 k6 k7 k8 m0 m1 m2 m3
      obtain ⟨⟨v0, v1, v2, v3⟩, hvb⟩ := KV.out _ (Below.refl _ _)
      obtain ⟨k0, k1, k2, k3, k4, k5, k6, k7, k8⟩ := KK.out _ hvb
      clear hvb
      go_wp2_with fail
      refine (p1 _).mono ?_
      rintro e w5 ⟨rfl, hb5⟩
      have HB5 := Lib.hid hb5
      clear hb5 v0 v1 v2 v3 k0 k1 k2 k3 k4 k5 k6 k7 k8
      obtain ⟨⟨v0, v1, v2, v3⟩, hvb⟩ := KV.out _ HB5.out
      obtain ⟨k0, k1, k2, k3, k4, k5, k6, k7, k8⟩ := KK.out _ hvb
      have HVB5 := Lib.hid hvb
      clear hvb
      cases x
      · obtain rfl : E = 2 := HBDk.out (by rw [HCK.out]; rfl)
        go_wp2_with fail
        go_ret
        exact ⟨rfl, HBA.out.trans (HVB5.out.mono HBA.out.size)⟩
      go_wp2_with fail
      refine (p2 _).mono ?_
      rintro e w6 ⟨rfl, hb6⟩
      have HVB6 := Lib.hid (HVB5.out.trans (hb6.mono HVB5.out.size))
      clear hb6 v0 v1 v2 v3 k0 k1 k2 k3 k4 k5 k6 k7 k8
      cases y
      · obtain rfl : E = 2 := HBDk.out (by rw [HCK.out]; rfl)
        go_wp2_with fail
        go_ret
        exact ⟨rfl, HBA.out.trans (HVB6.out.mono HBA.out.size)⟩
      have HCT := Lib.hid (show CU k = true by rw [HCK.out]; rfl)
      go_wp2_with fail
      go_roundw
      case rel => exact ⟨k + 1, by omega, by go_num, fun j hj => (by by_cases e : j = k; (subst e; exact HCT.out); exact HIN.out j (by omega)), HVB6.out⟩
      case measure => simp [intOf]; omega
    · obtain rfl : k = cl := by omega
      obtain rfl : E = 0 := HOK.out (HP.out.2 ⟨HSN.out, HG1.out, HG2.out, HIN.out⟩)
      go_wp2_with fail
      go_ret
      exact ⟨rfl, HBA.out.trans (HB.out.mono HBA.out.size)⟩
end Go.Proofs.Ythegcbpmammokaa

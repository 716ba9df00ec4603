/-
  MooringShapes: the walk.
-/
import Derived.Test.YthogahdnidjelaaRefTop
import Derived.Test.YthogahdnidjelaaFine
namespace Go.Proofs.Ythogahdnidjelaa
open Go.RowKit Go.Shelf
set_option linter.unusedSimpArgs false
set_option maxRecDepth 100000 in
set_option maxHeartbeats 40000000 in
theorem law_shapes (d an fr : Int) (sv cv : Value) (zs : List El) (cs : List Pr) (free : Bool) (w : World) (hI : Els w.heap.size w sv zs) (hC : Prs w.heap.size w cv cs) :
    Calls Try.prog 4 #[.agg #[.int .i64 d, sv, .int .i64 an, .int .i64 fr], cv, .bool free] w fun e w' => e = .returned (.bool true) ∧ Below w.heap.size w w' := by
  have c27 := fun w' (hb : Below w.heap.size w w') => shape_any d an fr sv cv zs cs free w' (hI.at hb) (hC.at hb)
  have c28 := fun w' (hb : Below w.heap.size w w') => rshape_any d an fr sv cv zs cs free w' (hI.at hb) (hC.at hb)
  have c29 := fun w' (hb : Below w.heap.size w w') => top_any d an fr sv cv zs cs free w' (hI.at hb) (hC.at hb)
  have c30 := fun w' (hb : Below w.heap.size w w') => rtop_any d an fr sv cv zs cs free w' (hI.at hb) (hC.at hb)
  have c31 := fun w' (hb : Below w.heap.size w w') => circle_any d an fr sv cv zs cs free w' (hI.at hb) (hC.at hb)
  have c32 := fun w' (hb : Below w.heap.size w w') => rcircle_any d an fr sv cv zs cs free w' (hI.at hb) (hC.at hb)
  have c33 := fun w' (hb : Below w.heap.size w w') => knock_any d an fr sv cv zs cs free w' (hI.at hb) (hC.at hb)
  have c34 := fun w' (hb : Below w.heap.size w w') => rknock_any d an fr sv cv zs cs free w' (hI.at hb) (hC.at hb)
  have HF := Lib.hid (fun W => fine_any W)
  have n1 := (offV_bd d zs an fr cs free).1
  have n2 := (risV_bd d zs an fr cs free).1
  obtain ⟨a, cap, rfl, -, -⟩ := hI
  obtain ⟨c, cap2, rfl, -, -⟩ := hC
  have cl := fun W => long_any d an fr a c zs.length cs.length cap cap2 W
  unfold prv at c29 c30 c33 c34
  generalize totHi (offV d zs an fr cs free) (offV d zs an fr cs free).length = th at *
  generalize offV d zs an fr cs free = OV at *
  generalize risV d zs an fr cs free = RV at *
  generalize topS d zs an fr cs free = tp at *
  generalize knockS d zs an fr cs free = kn at *
  obtain ⟨tl, tu⟩ := tp
  obtain ⟨kl, ku⟩ := kn
  dsimp only at c29 c30 c33 c34
  generalize staE d zs an fr cs = E at *
  generalize zs.length = len at *
  generalize cs.length = len2 at *
  obtain ⟨A, hA⟩ : ∃ A, A = w.alloc (.cells #[.int .i64 d, .slice a len cap, .int .i64 an, .int .i64 fr] 24) := ⟨_, rfl⟩
  have hzA : A.heap.size = w.heap.size + 1 := by rw [hA]; simp
  have KK := Lib.hid (show ∀ W, Below (w.heap.size + 1) A W → W.cell? ⟨w.heap.size, 0, none⟩ = some (.int .i64 d) ∧ W.cell? ⟨w.heap.size, 1, none⟩ = some (.slice a len cap) ∧ W.cell? ⟨w.heap.size, 2, none⟩ = some (.int .i64 an) ∧ W.cell? ⟨w.heap.size, 3, none⟩ = some (.int .i64 fr) from fun W h => by
    refine ⟨(h.cell (p := ⟨w.heap.size, 0, none⟩) (Nat.lt_succ_self _)).trans ?_, (h.cell (p := ⟨w.heap.size, 1, none⟩) (Nat.lt_succ_self _)).trans ?_, (h.cell (p := ⟨w.heap.size, 2, none⟩) (Nat.lt_succ_self _)).trans ?_, (h.cell (p := ⟨w.heap.size, 3, none⟩) (Nat.lt_succ_self _)).trans ?_⟩ <;> (rw [hA]; simp [go_sem]))
  have HBA := Lib.hid (show ∀ W, Below (w.heap.size + 1) A W → Below w.heap.size w W from fun W h => by
    have e : Below w.heap.size w A := by rw [hA]; exact (Below.refl _ _).alloc (Nat.le_refl _) _
    exact e.trans (h.mono (Nat.le_succ _)))
  cases hl : (decide ((60 : Int) < (len : Int)) || decide ((60 : Int) < (len2 : Int)))
  rotate_left
  · rw [hl] at cl
    clear c27 c28 c29 c30 c31 c32 c33 c34 hl
    go_enter Try.func4, Try.ntmps4
    go_wp2_with fail
    try rw [← hA]
    refine (cl _).mono ?_
    rintro e w1 ⟨rfl, hb⟩
    have hB1 : Below (w.heap.size + 1) A w1 := hb.mono (by omega)
    clear hb hA
    obtain ⟨k0, k1, k2, k3⟩ := KK.out _ hB1
    have HB := Lib.hid (HBA.out _ hB1)
    clear k0 k1 k2 k3
    go_wp2_with fail
    refine (HF.out _).mono ?_
    rintro e w2 ⟨rfl, hb⟩
    have HB2 := Lib.hid (HB.out.trans (hb.mono HB.out.size))
    clear hb
    go_wp2_with fail
    go_ret
    exact ⟨rfl, HB2.out⟩
  rw [hl] at cl
  clear hl
  go_enter Try.func4, Try.ntmps4
  go_wp2_with fail
  try rw [← hA]
  refine (cl _).mono ?_
  rintro e w1 ⟨rfl, hb⟩
  have hB1 : Below (w.heap.size + 1) A w1 := hb.mono (by omega)
  clear hb hA
  obtain ⟨k0, k1, k2, k3⟩ := KK.out _ hB1
  go_wp2_with fail
  refine (c27 _ (HBA.out _ hB1)).mono ?_
  rintro e w2 ⟨v2, v2b, rfl, hP, hQ, hb⟩
  have hB2 : Below (w.heap.size + 1) A w2 := hB1.trans (hb.mono (by have := hB1.size; omega))
  have L0 := Lib.hid hP
  obtain ⟨a0, g0, rfl⟩ := hP.form
  clear hP
  have L1 := Lib.hid hQ
  obtain ⟨a1, g1, rfl⟩ := hQ.form
  clear hQ
  clear hb k0 k1 k2 k3
  obtain ⟨k0, k1, k2, k3⟩ := KK.out _ hB2
  go_wp2_with fail
  refine (c28 _ (HBA.out _ hB2)).mono ?_
  rintro e w3 ⟨v3, v3b, rfl, hP, hQ, hb⟩
  have hB3 : Below (w.heap.size + 1) A w3 := hB2.trans (hb.mono (by have := hB2.size; omega))
  replace L0 := Lib.hid (L0.out.at hb)
  replace L1 := Lib.hid (L1.out.at hb)
  have L2 := Lib.hid hP
  obtain ⟨a2, g2, rfl⟩ := hP.form
  clear hP
  have L3 := Lib.hid hQ
  obtain ⟨a3, g3, rfl⟩ := hQ.form
  clear hQ
  clear hb k0 k1 k2 k3
  obtain ⟨k0, k1, k2, k3⟩ := KK.out _ hB3
  go_wp2_with fail
  refine (spans_yes _ _ OV (by omega) _ L0.out L2.out).mono ?_
  rintro e w4 ⟨rfl, hb⟩
  have hB4 : Below (w.heap.size + 1) A w4 := hB3.trans (hb.mono (by have := hB3.size; omega))
  replace L0 := Lib.hid (L0.out.at hb)
  replace L1 := Lib.hid (L1.out.at hb)
  replace L2 := Lib.hid (L2.out.at hb)
  replace L3 := Lib.hid (L3.out.at hb)
  clear hb k0 k1 k2 k3
  obtain ⟨k0, k1, k2, k3⟩ := KK.out _ hB4
  go_wp2_with fail
  refine (spans_yes _ _ RV (by omega) _ L1.out L3.out).mono ?_
  rintro e w5 ⟨rfl, hb⟩
  have hB5 : Below (w.heap.size + 1) A w5 := hB4.trans (hb.mono (by have := hB4.size; omega))
  replace L0 := Lib.hid (L0.out.at hb)
  replace L1 := Lib.hid (L1.out.at hb)
  replace L2 := Lib.hid (L2.out.at hb)
  replace L3 := Lib.hid (L3.out.at hb)
  clear hb k0 k1 k2 k3
  obtain ⟨k0, k1, k2, k3⟩ := KK.out _ hB5
  clear L0 L1 L2 L3 cl c27 c28 n1 n2
  have hs5 := hB5.size
  rw [hzA] at hs5
  go_wp2_with fail
  refine Calls.mono (c29 _ (HBA.out _ ?_)) ?_
  · repeat (first | exact hB5 | refine Below.drew ?_ | refine below_drewN ?_ _ | refine Below.setCell ?_ (by first | omega | (simp; omega) | (simp; done)) _ | refine Below.alloc ?_ (by first | omega | (simp; omega) | (simp; done)) _ | refine chainN (by assumption) ?_ (Nat.le_of_eq hzA.symm))
  rintro e v1 ⟨rfl, hb⟩
  obtain ⟨hc, hf⟩ := bcell hb
  have hV1 : Below (w.heap.size + 1) A v1 := by repeat (first | exact hB5 | refine Below.drew ?_ | refine below_drewN ?_ _ | refine Below.setCell ?_ (by first | omega | (simp; omega) | (simp; done)) _ | refine Below.alloc ?_ (by first | omega | (simp; omega) | (simp; done)) _ | refine chainN (by assumption) ?_ (Nat.le_of_eq hzA.symm))
  have hs1' := hV1.size
  rw [hzA] at hs1'
  have hz1 := hb.size
  try simp at hz1
  clear hc hf hb k0 k1 k2 k3 
  obtain ⟨k0, k1, k2, k3⟩ := KK.out _ hV1
  have zz1 : w.heap.size < v1.heap.size := by omega
  have zy1 : ¬ w.heap.size = v1.heap.size := by omega
  go_wp2_with fail
  refine Calls.mono (c30 _ (HBA.out _ ?_)) ?_
  · repeat (first | exact hV1 | refine Below.drew ?_ | refine below_drewN ?_ _ | refine Below.setCell ?_ (by first | omega | (simp; omega) | (simp; done)) _ | refine Below.alloc ?_ (by first | omega | (simp; omega) | (simp; done)) _ | refine chainN (by assumption) ?_ (Nat.le_of_eq hzA.symm))
  rintro e v2 ⟨rfl, hb⟩
  obtain ⟨hc, hf⟩ := bcell hb
  have hV2 : Below (w.heap.size + 1) A v2 := by repeat (first | exact hV1 | refine Below.drew ?_ | refine below_drewN ?_ _ | refine Below.setCell ?_ (by first | omega | (simp; omega) | (simp; done)) _ | refine Below.alloc ?_ (by first | omega | (simp; omega) | (simp; done)) _ | refine chainN (by assumption) ?_ (Nat.le_of_eq hzA.symm))
  have hs2' := hV2.size
  rw [hzA] at hs2'
  have hz2 := hb.size
  try simp at hz2
  have yv10_2 : v2.cell? ⟨v1.heap.size, 0, none⟩ = some (.int .i64 tl) := by rw [hc _ _ (by first | omega | (simp; omega) | (simp; done))]; simp [go_sem, *]
  have xv10_2 : v2.frozen? ⟨v1.heap.size, 0, none⟩ = false := by rw [hf _ _ (by first | omega | (simp; omega) | (simp; done))]; simp [go_sem, *]
  have yv11_2 : v2.cell? ⟨v1.heap.size, 1, none⟩ = some (.int .i64 tu) := by rw [hc _ _ (by first | omega | (simp; omega) | (simp; done))]; simp [go_sem, *]
  have xv11_2 : v2.frozen? ⟨v1.heap.size, 1, none⟩ = false := by rw [hf _ _ (by first | omega | (simp; omega) | (simp; done))]; simp [go_sem, *]
  clear hc hf hb k0 k1 k2 k3 
  obtain ⟨k0, k1, k2, k3⟩ := KK.out _ hV2
  have zz2 : w.heap.size < v2.heap.size := by omega
  have zy2 : ¬ w.heap.size = v2.heap.size := by omega
  have zwv12 : v1.heap.size < v2.heap.size := by omega
  have zvv12 : ¬ v1.heap.size = v2.heap.size := by omega
  have zuv12 : ¬ v2.heap.size = v1.heap.size := by omega
  have zq1 : w.heap.size + 1 ≤ v1.heap.size := by omega
  have zq2 : w.heap.size + 1 ≤ v2.heap.size := by omega
  have zr0 : ¬ v1.heap.size = w.heap.size := by omega
  have zr1 : ¬ v2.heap.size = w.heap.size := by omega
  go_wp2_with fail
  refine Calls.mono (c31 _ (HBA.out _ ?_)) ?_
  · repeat (first | exact hV2 | refine Below.drew ?_ | refine below_drewN ?_ _ | refine Below.setCell ?_ (by first | omega | (simp; omega) | (simp; done)) _ | refine Below.alloc ?_ (by first | omega | (simp; omega) | (simp; done)) _ | refine chainN (by assumption) ?_ (Nat.le_of_eq hzA.symm))
  rintro e v3 ⟨rfl, hb⟩
  obtain ⟨hc, hf⟩ := bcell hb
  have hV3 : Below (w.heap.size + 1) A v3 := by repeat (first | exact hV2 | refine Below.drew ?_ | refine below_drewN ?_ _ | refine Below.setCell ?_ (by first | omega | (simp; omega) | (simp; done)) _ | refine Below.alloc ?_ (by first | omega | (simp; omega) | (simp; done)) _ | refine chainN (by assumption) ?_ (Nat.le_of_eq hzA.symm))
  have hs3' := hV3.size
  rw [hzA] at hs3'
  have hz3 := hb.size
  try simp at hz3
  have yv10_3 : v3.cell? ⟨v1.heap.size, 0, none⟩ = some (.int .i64 tl) := by rw [hc _ _ (by first | omega | (simp; omega) | (simp; done))]; simp [go_sem, *]
  have xv10_3 : v3.frozen? ⟨v1.heap.size, 0, none⟩ = false := by rw [hf _ _ (by first | omega | (simp; omega) | (simp; done))]; simp [go_sem, *]
  have yv11_3 : v3.cell? ⟨v1.heap.size, 1, none⟩ = some (.int .i64 tu) := by rw [hc _ _ (by first | omega | (simp; omega) | (simp; done))]; simp [go_sem, *]
  have xv11_3 : v3.frozen? ⟨v1.heap.size, 1, none⟩ = false := by rw [hf _ _ (by first | omega | (simp; omega) | (simp; done))]; simp [go_sem, *]
  have yv20_3 : v3.cell? ⟨v2.heap.size, 0, none⟩ = some (.int .i64 tl) := by rw [hc _ _ (by first | omega | (simp; omega) | (simp; done))]; simp [go_sem, *]
  have xv20_3 : v3.frozen? ⟨v2.heap.size, 0, none⟩ = false := by rw [hf _ _ (by first | omega | (simp; omega) | (simp; done))]; simp [go_sem, *]
  have yv21_3 : v3.cell? ⟨v2.heap.size, 1, none⟩ = some (.int .i64 tu) := by rw [hc _ _ (by first | omega | (simp; omega) | (simp; done))]; simp [go_sem, *]
  have xv21_3 : v3.frozen? ⟨v2.heap.size, 1, none⟩ = false := by rw [hf _ _ (by first | omega | (simp; omega) | (simp; done))]; simp [go_sem, *]
  clear hc hf hb k0 k1 k2 k3 yv10_2 xv10_2 yv11_2 xv11_2
  obtain ⟨k0, k1, k2, k3⟩ := KK.out _ hV3
  have zz3 : w.heap.size < v3.heap.size := by omega
  have zy3 : ¬ w.heap.size = v3.heap.size := by omega
  have zwv13 : v1.heap.size < v3.heap.size := by omega
  have zvv13 : ¬ v1.heap.size = v3.heap.size := by omega
  have zuv13 : ¬ v3.heap.size = v1.heap.size := by omega
  have zwv23 : v2.heap.size < v3.heap.size := by omega
  have zvv23 : ¬ v2.heap.size = v3.heap.size := by omega
  have zuv23 : ¬ v3.heap.size = v2.heap.size := by omega
  go_wp2_with fail
  refine Calls.mono (c32 _ (HBA.out _ ?_)) ?_
  · repeat (first | exact hV3 | refine Below.drew ?_ | refine below_drewN ?_ _ | refine Below.setCell ?_ (by first | omega | (simp; omega) | (simp; done)) _ | refine Below.alloc ?_ (by first | omega | (simp; omega) | (simp; done)) _ | refine chainN (by assumption) ?_ (Nat.le_of_eq hzA.symm))
  rintro e v4 ⟨rfl, hb⟩
  obtain ⟨hc, hf⟩ := bcell hb
  have hV4 : Below (w.heap.size + 1) A v4 := by repeat (first | exact hV3 | refine Below.drew ?_ | refine below_drewN ?_ _ | refine Below.setCell ?_ (by first | omega | (simp; omega) | (simp; done)) _ | refine Below.alloc ?_ (by first | omega | (simp; omega) | (simp; done)) _ | refine chainN (by assumption) ?_ (Nat.le_of_eq hzA.symm))
  have hs4' := hV4.size
  rw [hzA] at hs4'
  have hz4 := hb.size
  try simp at hz4
  have yv10_4 : v4.cell? ⟨v1.heap.size, 0, none⟩ = some (.int .i64 tl) := by rw [hc _ _ (by first | omega | (simp; omega) | (simp; done))]; simp [go_sem, *]
  have xv10_4 : v4.frozen? ⟨v1.heap.size, 0, none⟩ = false := by rw [hf _ _ (by first | omega | (simp; omega) | (simp; done))]; simp [go_sem, *]
  have yv11_4 : v4.cell? ⟨v1.heap.size, 1, none⟩ = some (.int .i64 tu) := by rw [hc _ _ (by first | omega | (simp; omega) | (simp; done))]; simp [go_sem, *]
  have xv11_4 : v4.frozen? ⟨v1.heap.size, 1, none⟩ = false := by rw [hf _ _ (by first | omega | (simp; omega) | (simp; done))]; simp [go_sem, *]
  have yv20_4 : v4.cell? ⟨v2.heap.size, 0, none⟩ = some (.int .i64 tl) := by rw [hc _ _ (by first | omega | (simp; omega) | (simp; done))]; simp [go_sem, *]
  have xv20_4 : v4.frozen? ⟨v2.heap.size, 0, none⟩ = false := by rw [hf _ _ (by first | omega | (simp; omega) | (simp; done))]; simp [go_sem, *]
  have yv21_4 : v4.cell? ⟨v2.heap.size, 1, none⟩ = some (.int .i64 tu) := by rw [hc _ _ (by first | omega | (simp; omega) | (simp; done))]; simp [go_sem, *]
  have xv21_4 : v4.frozen? ⟨v2.heap.size, 1, none⟩ = false := by rw [hf _ _ (by first | omega | (simp; omega) | (simp; done))]; simp [go_sem, *]
  clear hc hf hb k0 k1 k2 k3 yv10_3 xv10_3 yv11_3 xv11_3 yv20_3 xv20_3 yv21_3 xv21_3
  obtain ⟨k0, k1, k2, k3⟩ := KK.out _ hV4
  have zz4 : w.heap.size < v4.heap.size := by omega
  have zy4 : ¬ w.heap.size = v4.heap.size := by omega
  have zwv14 : v1.heap.size < v4.heap.size := by omega
  have zvv14 : ¬ v1.heap.size = v4.heap.size := by omega
  have zuv14 : ¬ v4.heap.size = v1.heap.size := by omega
  have zwv24 : v2.heap.size < v4.heap.size := by omega
  have zvv24 : ¬ v2.heap.size = v4.heap.size := by omega
  have zuv24 : ¬ v4.heap.size = v2.heap.size := by omega
  go_wp2_with fail
  refine Calls.mono (c33 _ (HBA.out _ ?_)) ?_
  · repeat (first | exact hV4 | refine Below.drew ?_ | refine below_drewN ?_ _ | refine Below.setCell ?_ (by first | omega | (simp; omega) | (simp; done)) _ | refine Below.alloc ?_ (by first | omega | (simp; omega) | (simp; done)) _ | refine chainN (by assumption) ?_ (Nat.le_of_eq hzA.symm))
  rintro e v5 ⟨rfl, hb⟩
  obtain ⟨hc, hf⟩ := bcell hb
  have hV5 : Below (w.heap.size + 1) A v5 := by repeat (first | exact hV4 | refine Below.drew ?_ | refine below_drewN ?_ _ | refine Below.setCell ?_ (by first | omega | (simp; omega) | (simp; done)) _ | refine Below.alloc ?_ (by first | omega | (simp; omega) | (simp; done)) _ | refine chainN (by assumption) ?_ (Nat.le_of_eq hzA.symm))
  have hs5' := hV5.size
  rw [hzA] at hs5'
  have hz5 := hb.size
  try simp at hz5
  have yv10_5 : v5.cell? ⟨v1.heap.size, 0, none⟩ = some (.int .i64 tl) := by rw [hc _ _ (by first | omega | (simp; omega) | (simp; done))]; simp [go_sem, *]
  have xv10_5 : v5.frozen? ⟨v1.heap.size, 0, none⟩ = false := by rw [hf _ _ (by first | omega | (simp; omega) | (simp; done))]; simp [go_sem, *]
  have yv11_5 : v5.cell? ⟨v1.heap.size, 1, none⟩ = some (.int .i64 tu) := by rw [hc _ _ (by first | omega | (simp; omega) | (simp; done))]; simp [go_sem, *]
  have xv11_5 : v5.frozen? ⟨v1.heap.size, 1, none⟩ = false := by rw [hf _ _ (by first | omega | (simp; omega) | (simp; done))]; simp [go_sem, *]
  have yv20_5 : v5.cell? ⟨v2.heap.size, 0, none⟩ = some (.int .i64 tl) := by rw [hc _ _ (by first | omega | (simp; omega) | (simp; done))]; simp [go_sem, *]
  have xv20_5 : v5.frozen? ⟨v2.heap.size, 0, none⟩ = false := by rw [hf _ _ (by first | omega | (simp; omega) | (simp; done))]; simp [go_sem, *]
  have yv21_5 : v5.cell? ⟨v2.heap.size, 1, none⟩ = some (.int .i64 tu) := by rw [hc _ _ (by first | omega | (simp; omega) | (simp; done))]; simp [go_sem, *]
  have xv21_5 : v5.frozen? ⟨v2.heap.size, 1, none⟩ = false := by rw [hf _ _ (by first | omega | (simp; omega) | (simp; done))]; simp [go_sem, *]
  clear hc hf hb k0 k1 k2 k3 yv10_4 xv10_4 yv11_4 xv11_4 yv20_4 xv20_4 yv21_4 xv21_4
  obtain ⟨k0, k1, k2, k3⟩ := KK.out _ hV5
  have zz5 : w.heap.size < v5.heap.size := by omega
  have zy5 : ¬ w.heap.size = v5.heap.size := by omega
  have zwv15 : v1.heap.size < v5.heap.size := by omega
  have zvv15 : ¬ v1.heap.size = v5.heap.size := by omega
  have zuv15 : ¬ v5.heap.size = v1.heap.size := by omega
  have zwv25 : v2.heap.size < v5.heap.size := by omega
  have zvv25 : ¬ v2.heap.size = v5.heap.size := by omega
  have zuv25 : ¬ v5.heap.size = v2.heap.size := by omega
  go_wp2_with fail
  refine Calls.mono (c34 _ (HBA.out _ ?_)) ?_
  · repeat (first | exact hV5 | refine Below.drew ?_ | refine below_drewN ?_ _ | refine Below.setCell ?_ (by first | omega | (simp; omega) | (simp; done)) _ | refine Below.alloc ?_ (by first | omega | (simp; omega) | (simp; done)) _ | refine chainN (by assumption) ?_ (Nat.le_of_eq hzA.symm))
  rintro e v6 ⟨rfl, hb⟩
  obtain ⟨hc, hf⟩ := bcell hb
  have hV6 : Below (w.heap.size + 1) A v6 := by repeat (first | exact hV5 | refine Below.drew ?_ | refine below_drewN ?_ _ | refine Below.setCell ?_ (by first | omega | (simp; omega) | (simp; done)) _ | refine Below.alloc ?_ (by first | omega | (simp; omega) | (simp; done)) _ | refine chainN (by assumption) ?_ (Nat.le_of_eq hzA.symm))
  have hs6' := hV6.size
  rw [hzA] at hs6'
  have hz6 := hb.size
  try simp at hz6
  have yv10_6 : v6.cell? ⟨v1.heap.size, 0, none⟩ = some (.int .i64 kl) := by rw [hc _ _ (by first | omega | (simp; omega) | (simp; done))]; simp [go_sem, *]
  have xv10_6 : v6.frozen? ⟨v1.heap.size, 0, none⟩ = false := by rw [hf _ _ (by first | omega | (simp; omega) | (simp; done))]; simp [go_sem, *]
  have yv11_6 : v6.cell? ⟨v1.heap.size, 1, none⟩ = some (.int .i64 ku) := by rw [hc _ _ (by first | omega | (simp; omega) | (simp; done))]; simp [go_sem, *]
  have xv11_6 : v6.frozen? ⟨v1.heap.size, 1, none⟩ = false := by rw [hf _ _ (by first | omega | (simp; omega) | (simp; done))]; simp [go_sem, *]
  have yv20_6 : v6.cell? ⟨v2.heap.size, 0, none⟩ = some (.int .i64 tl) := by rw [hc _ _ (by first | omega | (simp; omega) | (simp; done))]; simp [go_sem, *]
  have xv20_6 : v6.frozen? ⟨v2.heap.size, 0, none⟩ = false := by rw [hf _ _ (by first | omega | (simp; omega) | (simp; done))]; simp [go_sem, *]
  have yv21_6 : v6.cell? ⟨v2.heap.size, 1, none⟩ = some (.int .i64 tu) := by rw [hc _ _ (by first | omega | (simp; omega) | (simp; done))]; simp [go_sem, *]
  have xv21_6 : v6.frozen? ⟨v2.heap.size, 1, none⟩ = false := by rw [hf _ _ (by first | omega | (simp; omega) | (simp; done))]; simp [go_sem, *]
  clear hc hf hb k0 k1 k2 k3 yv10_5 xv10_5 yv11_5 xv11_5 yv20_5 xv20_5 yv21_5 xv21_5
  obtain ⟨k0, k1, k2, k3⟩ := KK.out _ hV6
  have zz6 : w.heap.size < v6.heap.size := by omega
  have zy6 : ¬ w.heap.size = v6.heap.size := by omega
  have zwv16 : v1.heap.size < v6.heap.size := by omega
  have zvv16 : ¬ v1.heap.size = v6.heap.size := by omega
  have zuv16 : ¬ v6.heap.size = v1.heap.size := by omega
  have zwv26 : v2.heap.size < v6.heap.size := by omega
  have zvv26 : ¬ v2.heap.size = v6.heap.size := by omega
  have zuv26 : ¬ v6.heap.size = v2.heap.size := by omega
  have HBf := Lib.hid (HBA.out _ (show Below (w.heap.size + 1) A ((v6.setCell ⟨v2.heap.size, 0, none⟩ (.int .i64 kl)).setCell ⟨v2.heap.size, 1, none⟩ (.int .i64 ku)) by repeat (first | exact hV6 | refine Below.drew ?_ | refine below_drewN ?_ _ | refine Below.setCell ?_ (by first | omega | (simp; omega) | (simp; done)) _ | refine Below.alloc ?_ (by first | omega | (simp; omega) | (simp; done)) _ | refine chainN (by assumption) ?_ (Nat.le_of_eq hzA.symm))))
  go_wp2_with fail
  refine (HF.out _).mono ?_
  rintro e v7 ⟨rfl, hb⟩
  have HBg := Lib.hid (HBf.out.trans (hb.mono HBf.out.size))
  clear hb
  go_wp2_with fail
  go_ret
  exact ⟨rfl, HBg.out⟩
end Go.Proofs.Ythogahdnidjelaa

/-
  Clock: the ranks of events.
-/
import Derived.Test.YtcchmjbedppfnaaEvA
namespace Go.Proofs.Ytcchmjbedppfnaa
open Go.RowKit Go.Shelf
set_option linter.unusedSimpArgs false
def flat2 : List (Int × Int) → List Value
  | [] => []
  | z :: zs => .int .i64 z.1 :: .int .i64 z.2 :: flat2 zs
theorem flat2_get : ∀ (zs : List (Int × Int)) (j : Nat), j < zs.length → (flat2 zs)[j * 2]? = some (.int .i64 (sp zs j).1) ∧ (flat2 zs)[j * 2 + 1]? = some (.int .i64 (sp zs j).2)
  | z :: zs, 0, _ => ⟨rfl, rfl⟩
  | z :: zs, j + 1, h => by
    have ih := flat2_get zs j (by simpa using h)
    have e : (j + 1) * 2 = j * 2 + 2 := by omega
    rw [e]
    simpa [flat2, sp] using ih
theorem flat2_snoc (zs : List (Int × Int)) (z : Int × Int) : flat2 (zs ++ [z]) = flat2 zs ++ [.int .i64 z.1, .int .i64 z.2] := by
  induction zs with
  | nil => rfl
  | cons x zs ih => simp [flat2, ih]
theorem sps_of_owns {W : World} {base : Nat} {t : TypeId} {v : Value} {zs : List (Int × Int)} (h : W.ownsRow base t 2 v zs.length (flat2 zs)) : Sps W.heap.size W v zs := by
  rcases h.2 with ⟨rfl, h0⟩ | ⟨g, cap, cur, rfl, hb, hg, r1, r2, r3, r4⟩
  · exact ⟨none, 0, by rw [h0], by omega, fun j hj => by omega⟩
  · refine ⟨_, cap, rfl, r1, fun j hj => ⟨g, 0, rfl, (Array.getElem?_eq_some_iff.1 hg).1, ?_⟩⟩
    obtain ⟨e1, e2⟩ := flat2_get zs j hj
    have h4 : ∀ i, i < zs.length * 2 → cur.toList[i]? = (flat2 zs)[i]? := by
      intro i hi
      rw [← r4, List.getElem?_take_of_lt hi]
    rw [Nat.zero_add]
    simp only [World.cell?, hg]
    refine ⟨?_, ?_⟩
    · have := (h4 (j * 2) (by omega)).trans e1; simpa using this
    · have := (h4 (j * 2 + 1) (by omega)).trans e2; simpa using this
/-- how many of the first k events are before an event; how many it is before -/
def rkA (zs : List (Int × Int)) (a : Int × Int) : Nat → Nat
  | 0 => 0
  | k + 1 => rkA zs a k + (if befS (sp zs k) a = 2 then 1 else 0)
def rkB (zs : List (Int × Int)) (a : Int × Int) : Nat → Nat
  | 0 => 0
  | k + 1 => rkB zs a k + (if befS a (sp zs k) = 2 then 1 else 0)
theorem rkA_le (zs : List (Int × Int)) (a : Int × Int) : ∀ k, rkA zs a k ≤ k
  | 0 => Nat.le_refl _
  | k + 1 => by have := rkA_le zs a k; unfold rkA; split <;> omega
theorem rkB_le (zs : List (Int × Int)) (a : Int × Int) : ∀ k, rkB zs a k ≤ k
  | 0 => Nat.le_refl _
  | k + 1 => by have := rkB_le zs a k; unfold rkB; split <;> omega
/-- the first and the last rank of an event -/
def rkS (zs : List (Int × Int)) (a : Int × Int) : Int × Int := ((rkA zs a zs.length : Int), (zs.length : Int) - 1 - (rkB zs a zs.length : Int))
/-- the ranks of the first k events -/
def rkTo (zs : List (Int × Int)) : Nat → List (Int × Int)
  | 0 => []
  | k + 1 => rkTo zs k ++ [rkS zs (sp zs k)]
theorem rkTo_len (zs : List (Int × Int)) : ∀ k, (rkTo zs k).length = k
  | 0 => rfl
  | k + 1 => by simp [rkTo, rkTo_len zs k]
theorem rkTo_get (zs : List (Int × Int)) : ∀ k j, j < k → sp (rkTo zs k) j = rkS zs (sp zs j)
  | k + 1, j, hj => by
    show sp (rkTo zs k ++ [rkS zs (sp zs k)]) j = _
    unfold sp
    by_cases e : j = k
    · subst e
      rw [List.getElem?_append_right (by rw [rkTo_len]; exact Nat.le_refl _), rkTo_len]
      simp
    · rw [List.getElem?_append_left (by rw [rkTo_len]; omega)]
      exact rkTo_get zs k j (by omega)
section
set_option maxRecDepth 100000
set_option maxHeartbeats 4000000
theorem ranks_any (sv : Value) (zs : List (Int × Int)) (a : Int × Int) (hl : zs.length ≤ 128) (w : World) (hZ : Sps w.heap.size w sv zs) :
    Calls Try.prog 104 #[sv, spv a] w fun e w' => e = .returned (spv (rkS zs a)) ∧ Below w.heap.size w w' := by
  obtain ⟨q, cap, rfl, -, hcc⟩ := hZ
  have HC := Lib.hid hcc
  have HRA := Lib.hid (fun k => show rkA zs a (k + 1) = rkA zs a k + (if befS (sp zs k) a = 2 then 1 else 0) from rfl)
  have HRB := Lib.hid (fun k => show rkB zs a (k + 1) = rkB zs a k + (if befS a (sp zs k) = 2 then 1 else 0) from rfl)
  have HA0 := Lib.hid (show rkA zs a 0 = 0 from rfl)
  have HB0 := Lib.hid (show rkB zs a 0 = 0 from rfl)
  have HAL := Lib.hid (fun k => rkA_le zs a k)
  have HBL := Lib.hid (fun k => rkB_le zs a k)
  unfold rkS spv
  dsimp only
  clear hcc
  generalize hlen : zs.length = len at *
  clear hlen
  obtain ⟨A, hA⟩ : ∃ A, A = (w.alloc (.cells #[.int .i64 a.1, .int .i64 a.2] 23)).alloc (.cells #[.int .i64 0, .int .i64 0] 63) := ⟨_, rfl⟩
  have hzA : A.heap.size = w.heap.size + 2 := by rw [hA]; simp
  have HBA := Lib.hid (show Below w.heap.size w A by rw [hA]; exact ((Below.refl _ _).alloc (Nat.le_refl _) _).alloc (by simp) _)
  have k0 : A.cell? ⟨w.heap.size, 0, none⟩ = some (.int .i64 a.1) := by rw [hA]; simp [go_sem]
  have k1 : A.cell? ⟨w.heap.size, 1, none⟩ = some (.int .i64 a.2) := by rw [hA]; simp [go_sem]
  have k2 : A.cell? ⟨w.heap.size + 1, 0, none⟩ = some (.int .i64 0) := by rw [hA]; simp [go_sem]
  have k3 : A.cell? ⟨w.heap.size + 1, 1, none⟩ = some (.int .i64 0) := by rw [hA]; simp [go_sem]
  have k4 : A.frozen? ⟨w.heap.size + 1, 0, none⟩ = false := by rw [hA]; simp [go_sem]
  have k5 : A.frozen? ⟨w.heap.size + 1, 1, none⟩ = false := by rw [hA]; simp [go_sem]
  have KK := Lib.hid (show ∀ W, Below A.heap.size A W → (W.cell? ⟨w.heap.size, 0, none⟩ = some (.int .i64 a.1) ∧ W.cell? ⟨w.heap.size, 1, none⟩ = some (.int .i64 a.2)) ∧ (W.cell? ⟨w.heap.size + 1, 0, none⟩ = some (.int .i64 0) ∧ W.cell? ⟨w.heap.size + 1, 1, none⟩ = some (.int .i64 0)) ∧ W.frozen? ⟨w.heap.size + 1, 0, none⟩ = false ∧ W.frozen? ⟨w.heap.size + 1, 1, none⟩ = false from fun W h => by
    have hlt : w.heap.size + 1 < A.heap.size := by omega
    exact ⟨⟨(h.cell (p := ⟨w.heap.size, 0, none⟩) (by show w.heap.size < A.heap.size; omega)).trans k0, (h.cell (p := ⟨w.heap.size, 1, none⟩) (by show w.heap.size < A.heap.size; omega)).trans k1⟩, ⟨(h.cell (p := ⟨w.heap.size + 1, 0, none⟩) hlt).trans k2, (h.cell (p := ⟨w.heap.size + 1, 1, none⟩) hlt).trans k3⟩, (h.frozen (p := ⟨w.heap.size + 1, 0, none⟩) hlt).trans k4, (h.frozen (p := ⟨w.heap.size + 1, 1, none⟩) hlt).trans k5⟩)
  have HEND := Lib.hid (show ∀ W v0 v1, Below A.heap.size A W → Below w.heap.size w ((W.setCell ⟨w.heap.size + 1, 0, none⟩ v0).setCell ⟨w.heap.size + 1, 1, none⟩ v1) from fun W v0 v1 h =>
    ((HBA.out.trans (h.mono HBA.out.size)).setCell (p := ⟨w.heap.size + 1, 0, none⟩) (by show w.heap.size ≤ w.heap.size + 1; omega) _).setCell (p := ⟨w.heap.size + 1, 1, none⟩) (by show w.heap.size ≤ w.heap.size + 1; omega) _)
  have hzw : w.heap.size ≤ A.heap.size := by omega
  clear k0 k1 k2 k3 k4 k5 hzA
  go_enter Try.func104, Try.ntmps104
  go_wp2_with fail
  try rw [← hA]
  clear hA
  go_loopw [5, 6, 14] (fun fv lv iv wr => ∃ k : Nat, k ≤ len ∧ iv = .int .i64 k ∧ fv = .int .i64 (rkA zs a k : Int) ∧ lv = .int .i64 ((len : Int) - 1 - (rkB zs a k : Int)) ∧ Below A.heap.size A wr) (fun _ _ iv _ => len - (intOf iv).toNat)
  case atStart => exact ⟨0, Nat.zero_le _, rfl, by rw [HA0.out]; rfl, by rw [HB0.out]; simp, Below.refl _ _⟩
  case round =>
    obtain ⟨k, hk, rfl, rfl, rfl, hB⟩ := hrel
    have HB := Lib.hid hB
    obtain ⟨⟨g0, g1⟩, ⟨g2, g3⟩, g4, g5⟩ := KK.out _ hB
    by_cases hlt : k < len
    · have hki : (k : Int) < (len : Int) := by omega
      obtain ⟨b, off, hab, hb, e0, e1⟩ := HC.out k hlt
      subst hab
      have hbw : Below w.heap.size w wr := HBA.out.trans (hB.mono hzw)
      have m0 := (hbw.cell (p := ⟨b, off + k * 2, none⟩) hb).trans e0
      have m1 := (hbw.cell (p := ⟨b, off + k * 2 + 1, none⟩) hb).trans e1
      have HAk := Lib.hid (HRA.out k)
      have HBk := Lib.hid (HRB.out k)
      have hal := HAL.out k
      have hbl := HBL.out k
      have c1 := fun W => before_any (sp zs k) a W
      have c2 := fun W => before_any a (sp zs k) W
      unfold spv at c1 c2
      clear e0 e1 hB hbw
      generalize befS (sp zs k) a = f1 at *
      generalize befS a (sp zs k) = f2 at *
      generalize sp zs k = s at *
      generalize rkA zs a k = ra at *
      generalize rkB zs a k = rb at *
      generalize a.1 = a0 at *
      generalize a.2 = a1 at *
      generalize s.1 = s0 at *
      generalize s.2 = s1 at *
      have HB1 := Lib.hid (HB.out.alloc HB.out.size (.cells #[.int .i64 s0, .int .i64 s1] 23))
      have k8 := Lib.hid (Bx2.new wr (.int .i64 s0) (.int .i64 s1))
      have hzr := HB.out.size
      have hneA : w.heap.size < wr.heap.size := by have := (Nat.lt_of_lt_of_le (Nat.lt_of_le_of_ne hzw (fun e => by have := KK.out A (Below.refl _ _); have q := World.block_lt_of_cell? _ _ this.1.1; simp at q; omega)) hzr); exact this
      clear g2 g3 g4 g5
      go_wp2_with fail
      refine (c1 _).mono ?_
      rintro e w2 ⟨rfl, hb2⟩
      have HB2 := Lib.hid (HB1.out.trans (hb2.mono HB1.out.size))
      have q0 := (k8.out.keep hb2).c0
      have q1 := (k8.out.keep hb2).c1
      have k82 := Lib.hid (k8.out.keep hb2)
      obtain ⟨⟨g0, g1⟩, -⟩ := KK.out _ HB2.out
      clear hb2
      by_cases h1 : f1 = 2
      · go_wp2_with fail
        refine (c2 _).mono ?_
        rintro e w3 ⟨rfl, hb3⟩
        have HB3 := Lib.hid (HB2.out.trans (hb3.mono HB2.out.size))
        clear hb3
        by_cases h2 : f2 = 2
        · go_wp2_with fail
          go_roundw
          case rel => exact ⟨k + 1, by omega, by go_num, by rw [HAk.out, if_pos h1]; go_num, by rw [HBk.out, if_pos h2]; go_num, HB3.out⟩
          case measure => simp [intOf]; omega
        · go_wp2_with fail
          go_roundw
          case rel => exact ⟨k + 1, by omega, by go_num, by rw [HAk.out, if_pos h1]; go_num, by rw [HBk.out, if_neg h2]; rfl, HB3.out⟩
          case measure => simp [intOf]; omega
      · go_wp2_with fail
        refine (c2 _).mono ?_
        rintro e w3 ⟨rfl, hb3⟩
        have HB3 := Lib.hid (HB2.out.trans (hb3.mono HB2.out.size))
        clear hb3
        by_cases h2 : f2 = 2
        · go_wp2_with fail
          go_roundw
          case rel => exact ⟨k + 1, by omega, by go_num, by rw [HAk.out, if_neg h1]; rfl, by rw [HBk.out, if_pos h2]; go_num, HB3.out⟩
          case measure => simp [intOf]; omega
        · go_wp2_with fail
          go_roundw
          case rel => exact ⟨k + 1, by omega, by go_num, by rw [HAk.out, if_neg h1]; rfl, by rw [HBk.out, if_neg h2]; rfl, HB3.out⟩
          case measure => simp [intOf]; omega
    · obtain rfl : k = len := by omega
      clear hB
      go_wp2_with fail
      refine bodyPost_ret (v := .agg #[.int .i64 (rkA zs a k : Int), .int .i64 ((k : Int) - 1 - (rkB zs a k : Int))]) (by simp [results, Try.results104, go_sem, g2, g3]) rfl ⟨by first | rfl | trivial, HEND.out _ _ _ HB.out⟩
end
end Go.Proofs.Ytcchmjbedppfnaa

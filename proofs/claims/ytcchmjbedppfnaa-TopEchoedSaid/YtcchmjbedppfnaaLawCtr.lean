/-
  Clock: the mathematics and the walk of ClockContradicts.
-/
import Derived.Test.YtcchmjbedppfnaaCkZ
namespace Go.Proofs.Ytcchmjbedppfnaa
open Go.RowKit Go.Shelf
set_option linter.unusedSimpArgs false
/-- too many exchanges for a statement -/
def lngB (n : Nat) : Bool := decide ((12 < n ∧ n ≤ 64) ∨ 70 < n)
set_option maxRecDepth 100000 in
set_option maxHeartbeats 2000000 in
theorem long_any (p r : Int) (sv : Value) (xs : List Xc) (w : World) (hX : Xcs w.heap.size w sv xs) :
    Calls Try.prog 20 #[.agg #[.int .i64 p, .int .i64 r, sv]] w fun e w' => e = .returned (.bool (lngB xs.length)) ∧ Below w.heap.size w w' := by
  obtain ⟨a, cap, hsv⟩ := hX.form
  subst hsv
  have HA := Lib.hid (show Below w.heap.size w (w.alloc (.cells #[.int .i64 p, .int .i64 r, .slice a xs.length cap] 28)) from (Below.refl _ _).alloc (Nat.le_refl _) _)
  have HL := Lib.hid (show lngB xs.length = decide ((12 < xs.length ∧ xs.length ≤ 64) ∨ 70 < xs.length) from rfl)
  generalize lngB xs.length = b at *
  clear hX
  generalize xs.length = len at *
  have HR := Lib.hid (fun (b' : Bool) (h : decide ((12 < len ∧ len ≤ 64) ∨ 70 < len) = b') => show b = b' from HL.out.trans h)
  by_cases h1 : (12 : Int) < (len : Int)
  · by_cases h2 : (len : Int) ≤ 64
    · have e := HR.out true (decide_eq_true (by omega))
      subst e
      go_enter Try.func20, Try.ntmps20
      go_wp2_with fail
      go_ret
      exact ⟨rfl, HA.out⟩
    · by_cases h3 : (70 : Int) < (len : Int)
      · have e := HR.out true (decide_eq_true (by omega))
        subst e
        go_enter Try.func20, Try.ntmps20
        go_wp2_with fail
        go_ret
        exact ⟨rfl, HA.out⟩
      · have e := HR.out false (decide_eq_false (by omega))
        subst e
        go_enter Try.func20, Try.ntmps20
        go_wp2_with fail
        go_ret
        exact ⟨rfl, HA.out⟩
  · have h3 : ¬ (70 : Int) < (len : Int) := by omega
    have e := HR.out false (decide_eq_false (by omega))
    subst e
    go_enter Try.func20, Try.ntmps20
    go_wp2_with fail
    go_ret
    exact ⟨rfl, HA.out⟩
theorem lrnE_ne5 (p r : Int) (xs : List Xc) : lrnE p r xs ≠ 5 := by
  unfold lrnE
  split
  · decide
  split
  · decide
  split
  · decide
  split
  · decide
  split <;> decide
theorem cd_iff {r : Int} {os : List Of} (hv : Valid r os) {i k : Nat} (hi : i < os.length) (hk : k < os.length) : cdB r os i k = false ↔ ((of os i).lo - grw r (gap (of os k).rd (of os i).rd) ≤ (of os k).hi ∧ (of os k).lo ≤ (of os i).hi + grw r (gap (of os k).rd (of os i).rd)) := by
  have h1 := (hv.2.2 i hi).1
  have h2 := (hv.2.2 k hk).1
  have h3 := (hv.2.2 i hi).2
  have h4 := (hv.2.2 k hk).2
  have g := (grw_bd (r := r) (d := gap (of os k).rd (of os i).rd) hv.1 ⟨gap_nn _ _, by unfold gap; omega⟩).2.2.1
  unfold cdB
  generalize grw r (gap (of os k).rd (of os i).rd) = G at *
  rw [Bool.not_eq_false', decide_eq_true_iff]
  omega
theorem cd_comm {r : Int} {os : List Of} (hv : Valid r os) {i k : Nat} (hi : i < os.length) (hk : k < os.length) : cdB r os i k = cdB r os k i := by
  have a := cd_iff hv hi hk
  have b := cd_iff hv hk hi
  rw [gap_comm] at b
  generalize grw r (gap (of os k).rd (of os i).rd) = G at *
  cases h1 : cdB r os i k <;> cases h2 : cdB r os k i
  · rfl
  · exact absurd (b.2 ⟨by have := a.1 h1; omega, by have := a.1 h1; omega⟩) (by rw [h2]; decide)
  · exact absurd (a.2 ⟨by have := b.1 h2; omega, by have := b.1 h2; omega⟩) (by rw [h1]; decide)
  · rfl
theorem cd_self {r : Int} {os : List Of} (hv : Valid r os) {i : Nat} (hi : i < os.length) : cdB r os i i = false := by
  rw [cd_iff hv hi hi, gap_self, grw_zero]
  have := (hv.2.2 i hi).1
  omega
theorem xc_take (xs : List Xc) (n j : Nat) (h : j < n) : xc (xs.take n) j = xc xs j := by
  unfold xc
  rw [List.getElem?_take_of_lt h]
theorem of_ofA {r : Int} {xs : List Xc} {j : Nat} (h : j < xs.length) : of (ofA r xs) j = ofX r (xc xs j) := ofTo_get r xs xs.length j h
theorem lrn_take {p r : Int} {xs : List Xc} (h : lrnE p r xs = 0) {n : Nat} (h1 : 1 ≤ n) (h2 : n ≤ xs.length) : lrnE p r (xs.take n) = 0 := by
  obtain ⟨⟨a1, a2⟩, a3, a4, a5⟩ := lrnE_ok h
  have hl : (xs.take n).length = n := by rw [List.length_take]; omega
  unfold lrnE
  rw [if_neg (by omega), if_neg (by omega), if_neg (by omega), if_neg (by rw [a4]; decide), if_pos (xs_ok fun k hk => by rw [hl] at hk; rw [xc_take xs n k hk]; exact a5 k (by omega))]
/-- before the first contradiction there is none -/
theorem ct_take {p r : Int} {xs : List Xc} {z : Nat × Nat} (h0 : lrnE p r xs = 0) (h : CdP r (ofA r xs) z) (hz : z.1 < z.2) (hl : z.2 < xs.length) {i k e : Int} (g : CtrP p r (xs.take z.2) i k e) : e = 5 := by
  have hle : (xs.take z.2).length = z.2 := by rw [List.length_take]; omega
  have hla : (ofA r (xs.take z.2)).length = z.2 := (ofTo_len r _ _).trans hle
  have h1 : lrnE p r (xs.take z.2) = 0 := lrn_take h0 (by omega) (by omega)
  rcases g with ⟨g, -⟩ | ⟨-, y, hy, ⟨-, -, -, g⟩ | ⟨g1, -, -, g⟩⟩
  · exact absurd h1 g
  · exact g
  · exfalso
    rcases hy with ⟨rfl, -⟩ | ⟨y1, y2, y3, -⟩
    · simp at g1
    · rw [hla] at y2
      have hne : z ≠ (0, 0) := fun e => by rw [e] at hz; simp at hz
      rcases h with ⟨q, -⟩ | ⟨-, -, -, hm⟩
      · exact hne q
      · have q := hm y.1 y.2 y1 (by show y.2 < (ofTo r xs xs.length).length; rw [ofTo_len]; omega) (.inl y2)
        have e : cdB r (ofA r (xs.take z.2)) y.1 y.2 = cdB r (ofA r xs) y.1 y.2 := by
          unfold cdB
          rw [of_ofA (xs := xs.take z.2) (j := y.1) (by omega), of_ofA (xs := xs.take z.2) (j := y.2) (by omega), of_ofA (xs := xs) (j := y.1) (by omega), of_ofA (xs := xs) (j := y.2) (by omega), xc_take xs z.2 y.1 (by omega), xc_take xs z.2 y.2 y2]
        rw [e, q] at y3
        exact absurd y3 (by decide)
theorem Xcs.take {n₀ : Nat} {W : World} {a : Option Addr} {cap : Nat} {xs : List Xc} (h : Xcs n₀ W (.slice a xs.length cap) xs) {n : Nat} (hn : n ≤ xs.length) : Xcs n₀ W (.slice a n cap) (xs.take n) := by
  obtain ⟨a', cap', e, hl, hc⟩ := h
  simp only [Value.slice.injEq, true_and] at e
  obtain ⟨rfl, rfl⟩ := e
  have hle : (xs.take n).length = n := by rw [List.length_take]; omega
  refine ⟨a, cap, by rw [hle], by omega, fun k hk => ?_⟩
  rw [hle] at hk
  rw [xc_take xs n k hk]
  exact hc k (by omega)
theorem cck_yes {p r : Int} {xs : List Xc} (h0 : lrnE p r xs = 0) {i k : Nat} (hi : i < xs.length) (hk : k < xs.length) : cckE p r xs i k = if cdB r (ofA r xs) i k = true then 0 else 16 := by
  unfold cckE
  rw [if_pos h0, if_pos ⟨by omega, by omega⟩, if_pos ⟨by omega, by omega⟩]
  rfl
/-- the law -/
theorem law_contradicts_note : True := trivial
set_option maxRecDepth 100000 in
set_option maxHeartbeats 8000000 in
theorem law_contradicts (p r t : Int) (sv : Value) (xs : List Xc) (w : World) (hX : Xcs w.heap.size w sv xs) :
    Calls Try.prog 10 #[.agg #[.int .i64 p, .int .i64 r, sv], .int .i64 t] w fun e w' => e = .returned (.bool true) ∧ Below w.heap.size w w' := by
  have c20 := Lib.hid (fun W (hb : Below w.heap.size w W) => long_any p r sv xs W (hX.at hb))
  have c21 := fun W => works_any W
  have c30 := Lib.hid (fun W (hb : Below w.heap.size w W) => contra30_any p r sv xs W (hX.at hb))
  have c24 := Lib.hid (fun W (hb : Below w.heap.size w W) => at24_any p r t sv xs W (hX.at hb))
  have c34 := Lib.hid (fun (i k : Int) W (hb : Below w.heap.size w W) => cck_any p r i k sv xs W (hX.at hb))
  obtain ⟨a, cap, hsv⟩ := hX.form
  subst hsv
  have hcap : xs.length ≤ cap := by
    obtain ⟨a', cap', e, hl, -⟩ := hX
    simp only [Value.slice.injEq, true_and] at e
    omega
  have c30t := Lib.hid (fun n (hn : n ≤ xs.length) W (hb : Below w.heap.size w W) => contra30_any p r (.slice a n cap) (xs.take n) W ((hX.at hb).take hn))
  have HAT := Lib.hid (show atR p r xs t = if lrnE p r xs = 0 then (if tmB t = true then (if sdB r (ofA r xs) = true then ⟨(atS r t (ofA r xs)).1, (atS r t (ofA r xs)).2, 0⟩ else ⟨0, 0, 5⟩) else ⟨0, 0, 3⟩) else ⟨0, 0, lrnE p r xs⟩ from rfl)
  have HLN := Lib.hid (show lngB xs.length = decide ((12 < xs.length ∧ xs.length ≤ 64) ∨ 70 < xs.length) from rfl)
  unfold R3.out at c24
  obtain ⟨A, hA⟩ : ∃ A, A = w.alloc (.cells #[.int .i64 p, .int .i64 r, .slice a xs.length cap] 28) := ⟨_, rfl⟩
  have hzA : A.heap.size = w.heap.size + 1 := by rw [hA]; simp
  have HBA := Lib.hid (show Below w.heap.size w A by rw [hA]; exact (Below.refl _ _).alloc (Nat.le_refl _) _)
  have k0 : A.cell? ⟨w.heap.size, 0, none⟩ = some (.int .i64 p) := by rw [hA]; simp [go_sem]
  have k1 : A.cell? ⟨w.heap.size, 1, none⟩ = some (.int .i64 r) := by rw [hA]; simp [go_sem]
  have k2 : A.cell? ⟨w.heap.size, 2, none⟩ = some (.slice a xs.length cap) := by rw [hA]; simp [go_sem]
  have KK := Lib.hid (show ∀ W, Below A.heap.size A W → W.cell? ⟨w.heap.size, 0, none⟩ = some (.int .i64 p) ∧ W.cell? ⟨w.heap.size, 1, none⟩ = some (.int .i64 r) ∧ W.cell? ⟨w.heap.size, 2, none⟩ = some (.slice a xs.length cap) from fun W h => ⟨(h.cell (p := ⟨w.heap.size, 0, none⟩) (by show w.heap.size < A.heap.size; omega)).trans k0, (h.cell (p := ⟨w.heap.size, 1, none⟩) (by show w.heap.size < A.heap.size; omega)).trans k1, (h.cell (p := ⟨w.heap.size, 2, none⟩) (by show w.heap.size < A.heap.size; omega)).trans k2⟩)
  have HUP := Lib.hid (show ∀ W, Below A.heap.size A W → Below w.heap.size w W from fun W h => HBA.out.trans (h.mono HBA.out.size))
  clear k0 k1 k2 hzA hX
  have hfin : ∀ b, lngB xs.length = b → (b = true ∨ (12 : Int) < (xs.length : Int) ∨ t < 0 ∨ 1125899906842624 < t) → Calls Try.prog 10 #[.agg #[.int .i64 p, .int .i64 r, .slice a xs.length cap], .int .i64 t] w fun e w' => e = .returned (.bool true) ∧ Below w.heap.size w w' := by
    intro b hb hor
    clear HLN c30 c30t c24 c34 HAT
    rw [hb] at c20
    clear hb
    generalize xs.length = len at *
    cases b
    · by_cases q1 : (12 : Int) < (len : Int)
      · go_enter Try.func10, Try.ntmps10
        go_wp2_with fail
        try rw [← hA]
        clear hA
        refine (c20.out _ HBA.out).mono ?_
        rintro e w1 ⟨rfl, hb1⟩
        have HB1 := Lib.hid hb1
        obtain ⟨g0, g1, g2⟩ := KK.out _ hb1
        clear hb1
        go_wp2_with fail
        refine (c21 _).mono ?_
        rintro e wz ⟨rfl, hbz⟩
        have HBZ := Lib.hid (show Below A.heap.size A wz from HB1.out.trans (hbz.mono HB1.out.size))
        clear hbz
        go_wp2_with fail
        go_ret
        exact ⟨rfl, HUP.out _ HBZ.out⟩
      by_cases q2 : t < 0
      · go_enter Try.func10, Try.ntmps10
        go_wp2_with fail
        try rw [← hA]
        clear hA
        refine (c20.out _ HBA.out).mono ?_
        rintro e w1 ⟨rfl, hb1⟩
        have HB1 := Lib.hid hb1
        obtain ⟨g0, g1, g2⟩ := KK.out _ hb1
        clear hb1
        go_wp2_with fail
        refine (c21 _).mono ?_
        rintro e wz ⟨rfl, hbz⟩
        have HBZ := Lib.hid (show Below A.heap.size A wz from HB1.out.trans (hbz.mono HB1.out.size))
        clear hbz
        go_wp2_with fail
        go_ret
        exact ⟨rfl, HUP.out _ HBZ.out⟩
      have q3 : 1125899906842624 < t := by rcases hor with h | h | h | h; exact absurd h (by decide); exact absurd h q1; exact absurd h q2; exact h
      go_enter Try.func10, Try.ntmps10
      go_wp2_with fail
      try rw [← hA]
      clear hA
      refine (c20.out _ HBA.out).mono ?_
      rintro e w1 ⟨rfl, hb1⟩
      have HB1 := Lib.hid hb1
      obtain ⟨g0, g1, g2⟩ := KK.out _ hb1
      clear hb1
      go_wp2_with fail
      refine (c21 _).mono ?_
      rintro e wz ⟨rfl, hbz⟩
      have HBZ := Lib.hid (show Below A.heap.size A wz from HB1.out.trans (hbz.mono HB1.out.size))
      clear hbz
      go_wp2_with fail
      go_ret
      exact ⟨rfl, HUP.out _ HBZ.out⟩
    · go_enter Try.func10, Try.ntmps10
      go_wp2_with fail
      try rw [← hA]
      clear hA
      refine (c20.out _ HBA.out).mono ?_
      rintro e w1 ⟨rfl, hb1⟩
      have HB1 := Lib.hid hb1
      obtain ⟨g0, g1, g2⟩ := KK.out _ hb1
      clear hb1
      go_wp2_with fail
      refine (c21 _).mono ?_
      rintro e wz ⟨rfl, hbz⟩
      have HBZ := Lib.hid (show Below A.heap.size A wz from HB1.out.trans (hbz.mono HB1.out.size))
      clear hbz
      go_wp2_with fail
      go_ret
      exact ⟨rfl, HUP.out _ HBZ.out⟩
  by_cases hbig : lngB xs.length = true
  · exact hfin _ hbig (.inl rfl)
  have hbig2 : lngB xs.length = false := by simpa using hbig
  by_cases h12 : (12 : Int) < (xs.length : Int)
  · exact hfin _ rfl (.inr (.inl h12))
  by_cases ht0 : t < 0
  · exact hfin _ rfl (.inr (.inr (.inl ht0)))
  by_cases ht1 : 1125899906842624 < t
  · exact hfin _ rfl (.inr (.inr (.inr ht1)))
  clear hfin hbig HLN
  rw [hbig2] at c20
  clear hbig2
  have htm : tmB t = true := (tmB_iff t).2 ⟨by omega, by omega⟩
  have HN5 := Lib.hid (lrnE_ne5 p r xs)
  have HTK := Lib.hid (fun (h0 : lrnE p r xs = 0) (z : Nat × Nat) (h : CdP r (ofA r xs) z) (hz : z.1 < z.2) (hl : z.2 < xs.length) (i k e : Int) (g : CtrP p r (xs.take z.2) i k e) => ct_take h0 h hz hl g)
  have HCK := Lib.hid (fun (h0 : lrnE p r xs = 0) (i k : Nat) (hi : i < xs.length) (hk : k < xs.length) => cck_yes (p := p) h0 hi hk)
  have HOL := Lib.hid (show (ofA r xs).length = xs.length from ofTo_len r xs _)
  unfold CtrP at c30
  generalize hE : lrnE p r xs = E0 at *
  have hat1 : E0 ≠ 0 → atR p r xs t = ⟨0, 0, E0⟩ := fun h => by rw [HAT.out, if_neg h]
  have hat2 : E0 = 0 → sdB r (ofA r xs) = true → ∃ x y, atR p r xs t = ⟨x, y, 0⟩ := fun h h2 => ⟨_, _, by rw [HAT.out, if_pos h, if_pos htm, if_pos h2]⟩
  have hat3 : E0 = 0 → sdB r (ofA r xs) = false → atR p r xs t = ⟨0, 0, 5⟩ := fun h h2 => by rw [HAT.out, if_pos h, if_pos htm, if_neg (by rw [h2]; decide)]
  have HAT1 := Lib.hid hat1
  have HAT2 := Lib.hid hat2
  have HAT3 := Lib.hid hat3
  have HE := Lib.hid hE
  clear hat1 hat2 hat3 HAT hE htm
  generalize atR p r xs t = z at *
  obtain ⟨z0, z1, ze⟩ := z
  dsimp only at c24
  generalize hlen : xs.length = len at *
  have HLEN := Lib.hid hlen
  clear hlen
  go_enter Try.func10, Try.ntmps10
  go_wp2_with fail
  try rw [← hA]
  clear hA
  refine (c20.out _ HBA.out).mono ?_
  rintro e w1 ⟨rfl, hb1⟩
  have HB1 := Lib.hid hb1
  obtain ⟨g0, g1, g2⟩ := KK.out _ hb1
  clear hb1
  go_wp2_with fail
  refine (c30.out _ (HUP.out _ HB1.out)).mono ?_
  rintro e w2 ⟨i, k, f, rfl, hD, hb2⟩
  have HB2 := Lib.hid (HB1.out.trans (hb2.mono HB1.out.size))
  obtain ⟨g0, g1, g2⟩ := KK.out _ HB2.out
  clear hb2
  go_wp2_with fail
  refine (c24.out _ (HUP.out _ HB2.out)).mono ?_
  rintro e w3 ⟨rfl, hb3⟩
  have HB3 := Lib.hid (HB2.out.trans (hb3.mono HB2.out.size))
  clear hb3
  have HB3a := Lib.hid (HB3.out.alloc HB3.out.size (.cells #[.int .i64 z0, .int .i64 z1] 23))
  rcases hD with ⟨h0, rfl, rfl, rfl⟩ | ⟨h0, y, hy, ⟨rfl, rfl, rfl, rfl⟩ | ⟨hlt, rfl, rfl, rfl⟩⟩
  · obtain ⟨rfl, rfl, rfl⟩ : z0 = 0 ∧ z1 = 0 ∧ ze = f := by have q := HAT1.out h0; simp only [R3.mk.injEq] at q; exact q
    have hn5 := HN5.out
    have b0 : (ze != 0) = true := by simpa using h0
    have b5 : (ze != 5) = true := by simpa using hn5
    obtain ⟨g0, g1, g2⟩ := KK.out _ HB3a.out
    go_wp2_with fail
    refine (c21 _).mono ?_
    rintro e wz ⟨rfl, hbz⟩
    have HBZ := Lib.hid (show Below A.heap.size A wz from HB3a.out.trans (hbz.mono HB3a.out.size))
    clear hbz
    go_wp2_with fail
    go_ret
    exact ⟨rfl, HUP.out _ HBZ.out⟩
  · have hs : sdB r (ofA r xs) = true := by
      rcases hy.sd with ⟨-, h⟩ | ⟨h, -⟩
      · exact h
      · simp at h
    obtain ⟨x, y, q⟩ := HAT2.out h0 hs
    simp only [R3.mk.injEq] at q
    obtain ⟨rfl, rfl, rfl⟩ := q
    clear hy hs
    obtain ⟨g0, g1, g2⟩ := KK.out _ HB3a.out
    go_wp2_with fail
    refine (c21 _).mono ?_
    rintro e wz ⟨rfl, hbz⟩
    have HBZ := Lib.hid (show Below A.heap.size A wz from HB3a.out.trans (hbz.mono HB3a.out.size))
    clear hbz
    go_wp2_with fail
    go_ret
    exact ⟨rfl, HUP.out _ HBZ.out⟩
  obtain ⟨hs, hyl⟩ : sdB r (ofA r xs) = false ∧ y.2 < len := by
    rcases hy.sd with ⟨h, -⟩ | ⟨-, h1, h2⟩
    · rw [h] at hlt; simp at hlt
    · exact ⟨h2, by rwa [HOL.out] at h1⟩
  have q := HAT3.out h0 hs
  simp only [R3.mk.injEq] at q
  obtain ⟨rfl, rfl, rfl⟩ := q
  have hcy : cdB r (ofA r xs) y.1 y.2 = true := by
    rcases hy with ⟨h, -⟩ | ⟨-, -, h, -⟩
    · rw [h] at hlt; simp at hlt
    · exact h
  have hval : Valid r (ofA r xs) := valid_of (HE.out.trans h0)
  have hq1 := HCK.out h0 y.1 y.2 (by omega) hyl
  have hq2 := HCK.out h0 y.2 y.1 hyl (by omega)
  have hq3 := HCK.out h0 y.1 y.1 (by omega) (by omega)
  have hol : (ofA r xs).length = len := HOL.out
  rw [if_pos hcy] at hq1
  rw [cd_comm hval (by omega) (by omega), if_pos hcy] at hq2
  rw [cd_self hval (by omega), if_neg (by decide)] at hq3
  have HTK2 := Lib.hid (HTK.out h0 y hy hlt hyl)
  have cA := Lib.hid (fun W hb => c34.out y.1 y.2 W hb)
  have cB := Lib.hid (fun W hb => c34.out y.2 y.1 W hb)
  have cC := Lib.hid (fun W hb => c34.out y.1 y.1 W hb)
  rw [hq1] at cA
  rw [hq2] at cB
  rw [hq3] at cC
  have cD := Lib.hid (c30t.out y.2 (by omega))
  clear hs hcy hval hq1 hq2 hq3 hol hy c34 c30t HAT1 HAT2 HAT3 HTK HCK HOL HE HN5
  obtain ⟨y1, y2⟩ := y
  dsimp only at *
  have hi1 : (y1 : Int) < (y2 : Int) := by omega
  have hi2 : (y2 : Int) < (len : Int) := by omega
  have hi3 : ¬ (y1 : Int) < 0 := by omega
  have hi4 : ¬ (y2 : Int) ≤ (y1 : Int) := by omega
  have hi5 : ¬ (len : Int) ≤ (y2 : Int) := by omega
  have hi6 : y2 ≤ cap := by omega
  have hi7 : (y2 : Int) ≤ (cap : Int) := by omega
  have hi8 : (0 : Int) ≤ (y2 : Int) := by omega
  subst h0
  obtain ⟨g0, g1, g2⟩ := KK.out _ HB3a.out
  go_wp2_with fail
  refine (cA.out _ (HUP.out _ HB3a.out)).mono ?_
  rintro e w4 ⟨rfl, hb4⟩
  have HB4 := Lib.hid (HB3a.out.trans (hb4.mono HB3a.out.size))
  clear hb4
  obtain ⟨g0, g1, g2⟩ := KK.out _ HB4.out
  go_wp2_with fail
  refine (cB.out _ (HUP.out _ HB4.out)).mono ?_
  rintro e w5 ⟨rfl, hb5⟩
  have HB5 := Lib.hid (HB4.out.trans (hb5.mono HB4.out.size))
  clear hb5
  obtain ⟨g0, g1, g2⟩ := KK.out _ HB5.out
  go_wp2_with fail
  refine (cC.out _ (HUP.out _ HB5.out)).mono ?_
  rintro e w6 ⟨rfl, hb6⟩
  have HB6 := Lib.hid (HB5.out.trans (hb6.mono HB5.out.size))
  clear hb6
  have HB6a := Lib.hid (HB6.out.alloc HB6.out.size (.cells #[.int .i64 p, .int .i64 r, .slice a len cap] 28))
  obtain ⟨g0, g1, g2⟩ := KK.out _ HB6.out
  obtain ⟨q0, q1, q2⟩ := KK.out _ HB6a.out
  have hz6 := HB6.out.size
  go_wp2_with fail
  have HB6b := Lib.hid (HB6.out.alloc HB6.out.size (.cells #[.int .i64 p, .int .i64 r, .slice a y2 cap] 28))
  refine (cD.out _ (HUP.out _ HB6b.out)).mono ?_
  rintro e w7 ⟨i7, k7, f7, rfl, hD7, hb7⟩
  have hf7 := HTK2.out _ _ _ hD7
  subst hf7
  have HB7 := Lib.hid (HB6b.out.trans (hb7.mono HB6b.out.size))
  clear hb7 hD7
  go_wp2_with fail
  refine (c21 _).mono ?_
  rintro e wz ⟨rfl, hbz⟩
  have HBZ := Lib.hid (show Below A.heap.size A wz from HB7.out.trans (hbz.mono HB7.out.size))
  clear hbz
  go_wp2_with fail
  go_ret
  exact ⟨rfl, HUP.out _ HBZ.out⟩
end Go.Proofs.Ytcchmjbedppfnaa

/-
  Clock: the walk of ClockSlow.
-/
import Derived.Test.YtcchmjbedppfnaaLawDue
import Derived.Test.YtcchmjbedppfnaaRkA
namespace Go.Proofs.Ytcchmjbedppfnaa
open Go.RowKit Go.Shelf
set_option linter.unusedSimpArgs false
theorem max2_runS {P : Program} (w : World) (k k' : IntKind) (x y : Int) : (Builtin.max2 (.int k x) (.int k' y)).run P w = .ok (.int k (max x y)) w := by
  have e : (if y > x then y else x) = max x y := by rw [Int.max_def]; split <;> split <;> omega
  simp [Builtin.max2, e]
@[go_sem high] theorem run_max4S {P : Program} (w : World) (ts : Array TypeId) (t : TypeId) (k k' k'' k3 : IntKind) (x y z u : Int) :
    (Builtin.max_ ts t #[.int k x, .int k' y, .int k'' z, .int k3 u]).run P w = .ok (.int k (max (max (max x y) z) u)) w := by
  simp [Builtin.max_, max2_runS]
theorem lrn_root {p r : Int} {xs : List Xc} (h : lrnE p r xs = 0) : lrnE (-1) r xs = 0 := by
  obtain ⟨⟨a1, a2⟩, a3, a4, a5⟩ := lrnE_ok h
  unfold lrnE
  rw [if_neg (by omega), if_neg (by omega), if_neg (by omega), if_neg (by rw [a4]; decide), if_pos (xs_ok a5)]
theorem ent_one {p r : Int} {xs : List Xc} (h0 : lrnE p r xs = 0) (hs : sdB r (ofA r xs) = true) : entE [⟨-1, r, xs⟩] = 0 := by
  have h1 : fstE [⟨-1, r, xs⟩] = 0 := by unfold fstE; rw [if_pos (lrn_root h0)]; rfl
  have h2 : jnB (([⟨-1, r, xs⟩] : List Cl).map knC) = true := by rfl
  have h3 : shB (([⟨-1, r, xs⟩] : List Cl).map knC) = true := by
    refine shB_ok fun k hk => ?_
    have hk2 : k < 1 := hk
    obtain rfl : k = 0 := by omega
    exact hs
  unfold entE
  rw [if_neg (by simp), if_neg (by simp), if_neg (by rw [h1]; decide), if_neg (by rw [h2]; decide), if_neg (by rw [h3]; decide)]
theorem time_one {p r t : Int} {xs : List Xc} (h0 : lrnE p r xs = 0) (hs : sdB r (ofA r xs) = true) (ht : 0 ≤ t ∧ t ≤ 1125899906842624) : timeR [⟨-1, r, xs⟩] 0 t = ⟨t + (atS r t (ofA r xs)).1, t + (atS r t (ofA r xs)).2, 0⟩ := by
  unfold timeR
  rw [if_pos (ent_one h0 hs)]
  unfold timR
  rw [if_pos ⟨by simp, (tmB_iff t).2 ht⟩]
  rfl
/-- what is told of two readings -/
theorem slow_cases {p r t l : Int} {xs : List Xc} (ht : 0 ≤ t ∧ t ≤ 562949953421312) (hl : 0 ≤ l ∧ l ≤ 4294967295) :
    (∃ E, E ≠ 0 ∧ atR p r xs t = ⟨0, 0, E⟩ ∧ atR p r xs (t + l) = ⟨0, 0, E⟩) ∨
    (∃ z0 z1 y0 y1, atR p r xs t = ⟨z0, z1, 0⟩ ∧ atR p r xs (t + l) = ⟨y0, y1, 0⟩ ∧ (0 ≤ r ∧ r ≤ 1000000) ∧ timeR [⟨-1, r, xs⟩] 0 t = ⟨t + z0, t + z1, 0⟩ ∧ timeR [⟨-1, r, xs⟩] 0 (t + l) = ⟨(t + l) + y0, (t + l) + y1, 0⟩ ∧ (z0 - y0 ≤ grw r l ∧ y0 - z0 ≤ grw r l ∧ z1 - y1 ≤ grw r l ∧ y1 - z1 ≤ grw r l) ∧ (0 ≤ grw r l ∧ grw r l ≤ l) ∧ (-10000000000000 ≤ z0 ∧ z0 ≤ 10000000000000) ∧ (-10000000000000 ≤ z1 ∧ z1 ≤ 10000000000000) ∧ (-10000000000000 ≤ y0 ∧ y0 ≤ 10000000000000) ∧ (-10000000000000 ≤ y1 ∧ y1 ≤ 10000000000000)) := by
  have t1 : tmB t = true := (tmB_iff t).2 (by omega)
  have t2 : tmB (t + l) = true := (tmB_iff _).2 (by omega)
  unfold atR
  rw [t1, t2]
  by_cases h0 : lrnE p r xs = 0
  · rw [if_pos h0, if_pos h0, if_pos rfl, if_pos rfl]
    cases hs : sdB r (ofA r xs)
    · exact .inl ⟨5, by decide, by rw [if_neg (by decide)], by rw [if_neg (by decide)]⟩
    · rw [if_pos rfl, if_pos rfl]
      have hv := valid_of h0
      have h1 : 1 ≤ (ofA r xs).length := by have := (lrnE_ok h0).1.1; show 1 ≤ (ofTo r xs xs.length).length; rw [ofTo_len]; exact this
      have b1 := atS_bd hv h1 (t := t) (by omega)
      have b2 := atS_bd hv h1 (t := t + l) (by omega)
      have sl := atS_slow (r := r) (s := t) (t := t + l) (os := ofA r xs) hv.1.1 (by omega)
      rw [show t + l - t = l by omega] at sl
      have g1 := grw_nn hv.1.1 hl.1
      have g2 := grw_le hv.1 hl.1
      exact .inr ⟨_, _, _, _, rfl, rfl, hv.1, time_one h0 hs (by omega), time_one h0 hs (by omega), by omega, ⟨g1, g2⟩, b1.1, b1.2, b2.1, b2.2⟩
  · rw [if_neg h0, if_neg h0]
    exact .inl ⟨_, h0, rfl, rfl⟩
set_option maxRecDepth 100000 in
set_option maxHeartbeats 8000000 in
theorem law_slow (p r t l : Int) (hl : 0 ≤ l ∧ l ≤ 4294967295) (sv : Value) (xs : List Xc) (w : World) (hX : Xcs w.heap.size w sv xs) :
    Calls Try.prog 11 #[.agg #[.int .i64 p, .int .i64 r, sv], .int .i64 t, .int .u32 l] w fun e w' => e = .returned (.bool true) ∧ Below w.heap.size w w' := by
  have c20 := Lib.hid (fun W (hb : Below w.heap.size w W) => long_any p r sv xs W (hX.at hb))
  have c21 := fun W => works_any W
  have c24 := Lib.hid (fun t W (hb : Below w.heap.size w W) => at24_any p r t sv xs W (hX.at hb))
  have c37 := Lib.hid (fun t W (hb : Below w.heap.size w W) => time37_any (.slice (some ⟨W.heap.size, 0, none⟩) 1 1) [⟨-1, r, xs⟩] 0 t (W.alloc (.cells #[.int .i64 (-1), .int .i64 r, sv] 28)) (cls_one W (-1) r sv xs (hX.at hb)))
  obtain ⟨a, cap, hsv⟩ := hX.form
  subst hsv
  unfold R3.out at c24 c37
  obtain ⟨A, hA⟩ : ∃ A, A = w.alloc (.cells #[.int .i64 p, .int .i64 r, .slice a xs.length cap] 28) := ⟨_, rfl⟩
  have hzA : A.heap.size = w.heap.size + 1 := by rw [hA]; simp
  have HBA := Lib.hid (show Below w.heap.size w A by rw [hA]; exact (Below.refl _ _).alloc (Nat.le_refl _) _)
  have kb : A.heap[w.heap.size]? = some (.cells #[.int .i64 p, .int .i64 r, .slice a xs.length cap] 28 (0, 0)) := by rw [hA]; exact World.alloc_heap_new w _
  have k0 : A.cell? ⟨w.heap.size, 0, none⟩ = some (.int .i64 p) := by rw [hA]; simp [go_sem]
  have k1 : A.cell? ⟨w.heap.size, 1, none⟩ = some (.int .i64 r) := by rw [hA]; simp [go_sem]
  have k2 : A.cell? ⟨w.heap.size, 2, none⟩ = some (.slice a xs.length cap) := by rw [hA]; simp [go_sem]
  have kf : A.frozen? ⟨w.heap.size, 0, none⟩ = false := by rw [hA]; simp [go_sem]
  have KK := Lib.hid (show ∀ W, Below A.heap.size A W → W.cell? ⟨w.heap.size, 0, none⟩ = some (.int .i64 p) ∧ W.cell? ⟨w.heap.size, 1, none⟩ = some (.int .i64 r) ∧ W.cell? ⟨w.heap.size, 2, none⟩ = some (.slice a xs.length cap) from fun W h => ⟨(h.cell (p := ⟨w.heap.size, 0, none⟩) (by show w.heap.size < A.heap.size; omega)).trans k0, (h.cell (p := ⟨w.heap.size, 1, none⟩) (by show w.heap.size < A.heap.size; omega)).trans k1, (h.cell (p := ⟨w.heap.size, 2, none⟩) (by show w.heap.size < A.heap.size; omega)).trans k2⟩)
  have KF := Lib.hid (show ∀ W, Below A.heap.size A W → W.frozen? ⟨w.heap.size, 0, none⟩ = false from fun W h => (h.frozen (p := ⟨w.heap.size, 0, none⟩) (by show w.heap.size < A.heap.size; omega)).trans kf)
  have HUP := Lib.hid (show ∀ W, Below A.heap.size A W → Below w.heap.size w W from fun W h => HBA.out.trans (h.mono HBA.out.size))
  have HZA := Lib.hid (show w.heap.size < A.heap.size by omega)
  clear k0 k1 k2 kf kb hzA hX
  have hfin : ∀ b, lngB xs.length = b → (b = true ∨ (12 : Int) < (xs.length : Int) ∨ t < 0 ∨ 562949953421312 < t) → Calls Try.prog 11 #[.agg #[.int .i64 p, .int .i64 r, .slice a xs.length cap], .int .i64 t, .int .u32 l] w fun e w' => e = .returned (.bool true) ∧ Below w.heap.size w w' := by
    intro b hb hor
    clear c24 c37
    rw [hb] at c20
    clear hb
    generalize xs.length = len at *
    cases b
    · by_cases q1 : (12 : Int) < (len : Int)
      · go_enter Try.func11, Try.ntmps11
        go_wp2_with fail
        try rw [← hA]
        clear hA
        refine (c20.out _ HBA.out).mono ?_
        rintro e w1 ⟨rfl, hb1⟩
        have HB1 := Lib.hid hb1
        obtain ⟨g0, g1, g2⟩ := KK.out _ hb1
        clear hb1
        go_wp2_with fail
        refine (c21 _).mono ?_
        rintro e wz ⟨rfl, hbz⟩
        have HBZ := Lib.hid (show Below A.heap.size A wz from HB1.out.trans (hbz.mono HB1.out.size))
        clear hbz
        go_wp2_with fail
        go_ret
        exact ⟨rfl, HUP.out _ HBZ.out⟩
      by_cases q2 : t < 0
      · go_enter Try.func11, Try.ntmps11
        go_wp2_with fail
        try rw [← hA]
        clear hA
        refine (c20.out _ HBA.out).mono ?_
        rintro e w1 ⟨rfl, hb1⟩
        have HB1 := Lib.hid hb1
        obtain ⟨g0, g1, g2⟩ := KK.out _ hb1
        clear hb1
        go_wp2_with fail
        refine (c21 _).mono ?_
        rintro e wz ⟨rfl, hbz⟩
        have HBZ := Lib.hid (show Below A.heap.size A wz from HB1.out.trans (hbz.mono HB1.out.size))
        clear hbz
        go_wp2_with fail
        go_ret
        exact ⟨rfl, HUP.out _ HBZ.out⟩
      have q3 : 562949953421312 < t := by rcases hor with h | h | h | h; exact absurd h (by decide); exact absurd h q1; exact absurd h q2; exact h
      go_enter Try.func11, Try.ntmps11
      go_wp2_with fail
      try rw [← hA]
      clear hA
      refine (c20.out _ HBA.out).mono ?_
      rintro e w1 ⟨rfl, hb1⟩
      have HB1 := Lib.hid hb1
      obtain ⟨g0, g1, g2⟩ := KK.out _ hb1
      clear hb1
      go_wp2_with fail
      refine (c21 _).mono ?_
      rintro e wz ⟨rfl, hbz⟩
      have HBZ := Lib.hid (show Below A.heap.size A wz from HB1.out.trans (hbz.mono HB1.out.size))
      clear hbz
      go_wp2_with fail
      go_ret
      exact ⟨rfl, HUP.out _ HBZ.out⟩
    · go_enter Try.func11, Try.ntmps11
      go_wp2_with fail
      try rw [← hA]
      clear hA
      refine (c20.out _ HBA.out).mono ?_
      rintro e w1 ⟨rfl, hb1⟩
      have HB1 := Lib.hid hb1
      obtain ⟨g0, g1, g2⟩ := KK.out _ hb1
      clear hb1
      go_wp2_with fail
      refine (c21 _).mono ?_
      rintro e wz ⟨rfl, hbz⟩
      have HBZ := Lib.hid (show Below A.heap.size A wz from HB1.out.trans (hbz.mono HB1.out.size))
      clear hbz
      go_wp2_with fail
      go_ret
      exact ⟨rfl, HUP.out _ HBZ.out⟩
  by_cases hbig : lngB xs.length = true
  · exact hfin _ hbig (.inl rfl)
  have hbig2 : lngB xs.length = false := by simpa using hbig
  by_cases h12 : (12 : Int) < (xs.length : Int)
  · exact hfin _ rfl (.inr (.inl h12))
  by_cases ht0 : t < 0
  · exact hfin _ rfl (.inr (.inr (.inl ht0)))
  by_cases ht1 : 562949953421312 < t
  · exact hfin _ rfl (.inr (.inr (.inr ht1)))
  clear hfin hbig
  rw [hbig2] at c20
  clear hbig2
  have hsc := slow_cases (p := p) (r := r) (xs := xs) (t := t) (l := l) ⟨by omega, by omega⟩ hl
  have c24a := Lib.hid (c24.out t)
  have c24b := Lib.hid (c24.out (t + l))
  have c37a := Lib.hid (c37.out t)
  have c37b := Lib.hid (c37.out (t + l))
  clear c24 c37
  have ht2 : 0 ≤ t := by omega
  have ht3 : t ≤ 562949953421312 := by omega
  obtain ⟨hl1, hl2⟩ := hl
  generalize timeR [⟨-1, r, xs⟩] 0 t = ta at *
  generalize timeR [⟨-1, r, xs⟩] 0 (t + l) = tb at *
  generalize atR p r xs t = za at *
  generalize atR p r xs (t + l) = zb at *
  have HXL := Lib.hid (show xs.length = xs.length from rfl)
  generalize xs.length = len at *
  rcases hsc with ⟨E, hE, rfl, rfl⟩ | ⟨z0, z1, y0, y1, rfl, rfl, hr, rfl, rfl, hsl, hg, hz0, hz1, hy0, hy1⟩
  · dsimp only at c24a c24b
    have b0 : (E != 0) = true := by simpa using hE
    go_enter Try.func11, Try.ntmps11
    go_wp2_with fail
    try rw [← hA]
    clear hA
    refine (c20.out _ HBA.out).mono ?_
    rintro e w1 ⟨rfl, hb1⟩
    have HB1 := Lib.hid hb1
    obtain ⟨g0, g1, g2⟩ := KK.out _ hb1
    clear hb1
    go_wp2_with fail
    refine (c24a.out _ (HUP.out _ HB1.out)).mono ?_
    rintro e w2 ⟨rfl, hb2⟩
    have HB2 := Lib.hid (HB1.out.trans (hb2.mono HB1.out.size))
    have HB2a := Lib.hid (HB2.out.alloc HB2.out.size (.cells #[.int .i64 0, .int .i64 0] 23))
    obtain ⟨g0, g1, g2⟩ := KK.out _ HB2a.out
    clear hb2
    go_wp2_with fail
    refine (c24b.out _ (HUP.out _ HB2a.out)).mono ?_
    rintro e w3 ⟨rfl, hb3⟩
    have HB3 := Lib.hid (HB2a.out.trans (hb3.mono HB2a.out.size))
    have HB3a := Lib.hid (HB3.out.alloc HB3.out.size (.cells #[.int .i64 0, .int .i64 0] 23))
    clear hb3
    obtain ⟨g0, g1, g2⟩ := KK.out _ HB3a.out
    go_wp2_with fail
    refine (c21 _).mono ?_
    rintro e wz ⟨rfl, hbz⟩
    have HBZ := Lib.hid (show Below A.heap.size A wz from HB3a.out.trans (hbz.mono HB3a.out.size))
    clear hbz
    go_wp2_with fail
    go_ret
    exact ⟨rfl, HUP.out _ HBZ.out⟩
  dsimp only at c24a c24b c37a c37b
  have c55 := fun W => rgrowth_any r l hr ⟨by omega, by omega⟩ W
  rw [show max l (-l) = l by omega] at c55
  have WG : wrap64 (grw r l + 2) = grw r l + 2 := wrap64_id (by omega) (by omega)
  have v1 : wrap64 (z0 - y0) = z0 - y0 := wrap64_id (by omega) (by omega)
  have v2 : wrap64 (y0 - z0) = y0 - z0 := wrap64_id (by omega) (by omega)
  have v3 : wrap64 (z1 - y1) = z1 - y1 := wrap64_id (by omega) (by omega)
  have v4 : wrap64 (y1 - z1) = y1 - z1 := wrap64_id (by omega) (by omega)
  have hmx : ¬ grw r l + 2 < max (z0 - y0) (max (y0 - z0) (max (z1 - y1) (y1 - z1))) := by omega
  have hu1 : t + z0 ≤ t + l + y0 := by omega
  have hu2 : t + z1 ≤ t + l + y1 := by omega
  clear hsl hg hr hz0 hz1 hy0 hy1
  generalize grw r l = G at *
  go_enter Try.func11, Try.ntmps11
  go_wp2_with fail
  try rw [← hA]
  clear hA
  refine (c20.out _ HBA.out).mono ?_
  rintro e w1 ⟨rfl, hb1⟩
  have HB1 := Lib.hid hb1
  obtain ⟨g0, g1, g2⟩ := KK.out _ hb1
  clear hb1
  go_wp2_with fail
  refine (c24a.out _ (HUP.out _ HB1.out)).mono ?_
  rintro e w2 ⟨rfl, hb2⟩
  have HB2 := Lib.hid (HB1.out.trans (hb2.mono HB1.out.size))
  have HB2a := Lib.hid (HB2.out.alloc HB2.out.size (.cells #[.int .i64 z0, .int .i64 z1] 23))
  obtain ⟨g0, g1, g2⟩ := KK.out _ HB2a.out
  clear hb2
  go_wp2_with fail
  refine (c24b.out _ (HUP.out _ HB2a.out)).mono ?_
  rintro e w3 ⟨rfl, hb3⟩
  have HB3 := Lib.hid (HB2a.out.trans (hb3.mono HB2a.out.size))
  have HB3a := Lib.hid (HB3.out.alloc HB3.out.size (.cells #[.int .i64 y0, .int .i64 y1] 23))
  have k7 := ((Bx2.new w2 (.int .i64 z0) (.int .i64 z1)).keep hb3).keep ((Below.refl _ _).alloc (Nat.le_refl _) (.cells #[.int .i64 y0, .int .i64 y1] 23))
  have K7 := Lib.hid k7
  have K9 := Lib.hid (Bx2.new w3 (.int .i64 y0) (.int .i64 y1))
  clear hb3 k7
  obtain ⟨g0, g1, g2⟩ := KK.out _ HB3a.out
  have q0 := K7.out.c0
  have q1 := K7.out.c1
  have q2 := K9.out.c0
  have q3 := K9.out.c1
  go_wp2_with fail
  refine (c55 _).mono ?_
  rintro e w4 ⟨rfl, hw4⟩
  have hw5 := hw4.symm
  subst hw5
  have gf := KF.out _ HB3a.out
  have hzw := HZA.out
  have hz3 := HB3.out.size
  obtain ⟨V, hV⟩ : ∃ V, V = (w3.alloc (.cells #[.int .i64 y0, .int .i64 y1] 23)).setCell ⟨w.heap.size, 0, none⟩ (.int .i64 (-1)) := ⟨_, rfl⟩
  go_upto_region 13 with fail
  try rw [← hV]
  have HUV := Lib.hid (show Below w.heap.size w V by rw [hV]; exact (HUP.out _ HB3a.out).setCell (p := ⟨w.heap.size, 0, none⟩) (Nat.le_refl _) _)
  have hzV : V.heap.size = w3.heap.size + 1 := by rw [hV]; simp
  have e1 : V.cell? ⟨w.heap.size, 0, none⟩ = some (.int .i64 (-1)) := by rw [hV]; exact World.cell?_setCell_same' _ _ _ (by rw [g0]; rfl)
  have e2 : V.cell? ⟨w.heap.size, 1, none⟩ = some (.int .i64 r) := by rw [hV]; exact (World.cell?_setCell_other _ _ _ _ (by intro q; exact absurd (Addr.mk.inj q).2.1 (by decide))).trans g1
  have e3 : V.cell? ⟨w.heap.size, 2, none⟩ = some (.slice a len cap) := by rw [hV]; exact (World.cell?_setCell_other _ _ _ _ (by intro q; exact absurd (Addr.mk.inj q).2.1 (by decide))).trans g2
  have hwV : w.heap.size < V.heap.size := by omega
  have KV := Lib.hid (show ∀ W, Below V.heap.size V W → W.cell? ⟨w.heap.size, 0, none⟩ = some (.int .i64 (-1)) ∧ W.cell? ⟨w.heap.size, 1, none⟩ = some (.int .i64 r) ∧ W.cell? ⟨w.heap.size, 2, none⟩ = some (.slice a len cap) from fun W h => ⟨(h.cell (p := ⟨w.heap.size, 0, none⟩) hwV).trans e1, (h.cell (p := ⟨w.heap.size, 1, none⟩) hwV).trans e2, (h.cell (p := ⟨w.heap.size, 2, none⟩) hwV).trans e3⟩)
  clear hV q0 q1 q2 q3 g0 g1 g2 gf hzV
  obtain ⟨g0, g1, g2⟩ := KV.out _ (Below.refl _ _)
  go_wp2_with fail
  refine (c37a.out _ HUV.out).mono ?_
  rintro e w5 ⟨rfl, hb5⟩
  have hwz : V.heap.size = V.heap.size := rfl
  have HB5 := Lib.hid (((Below.refl V.heap.size V).alloc (Nat.le_refl _) (.cells #[.int .i64 (-1), .int .i64 r, .slice a len cap] 28)).trans (hb5.mono (by simp)))
  clear hb5 e1 e2 e3
  go_upto_region 14 with fail
  obtain ⟨V2, hV2⟩ : ∃ V2, V2 = w5.alloc (.cells #[.int .i64 (t + z0), .int .i64 (t + z1)] 23) := ⟨_, rfl⟩
  try rw [← hV2]
  have HB5a := Lib.hid (show Below V.heap.size V V2 by rw [hV2]; exact HB5.out.alloc HB5.out.size _)
  have K12 := Lib.hid (show Bx2 V2 w5.heap.size (.int .i64 (t + z0)) (.int .i64 (t + z1)) by rw [hV2]; exact Bx2.new _ _ _)
  have hlt5 : w5.heap.size < V2.heap.size := by rw [hV2]; simp
  clear hV2
  clear g0 g1 g2
  obtain ⟨g0, g1, g2⟩ := KV.out _ HB5a.out
  go_wp2_with fail
  refine (c37b.out _ (HUV.out.trans (HB5a.out.mono HUV.out.size))).mono ?_
  rintro e w6 ⟨rfl, hb6⟩
  have hA6 : Below V2.heap.size V2 (V2.alloc (.cells #[.int .i64 (-1), .int .i64 r, .slice a len cap] 28)) := (Below.refl _ _).alloc (Nat.le_refl _) _
  have K12b := Lib.hid ((K12.out.keep hA6).keep hb6)
  have HB6 := Lib.hid (HB5a.out.trans ((hA6.trans (hb6.mono hA6.size)).mono HB5a.out.size))
  have hlt6 : w5.heap.size < w6.heap.size := by have h1 := hb6.size; have h2 := hA6.size; omega
  clear hb6 hA6
  have q0 := K12b.out.c0
  have q1 := K12b.out.c1
  have HB6a := Lib.hid (HB6.out.alloc HB6.out.size (.cells #[.int .i64 (t + l + y0), .int .i64 (t + l + y1)] 23))
  go_wp2_with fail
  refine (c21 _).mono ?_
  rintro e wz ⟨rfl, hbz⟩
  have HBZ := Lib.hid (HUV.out.trans ((HB6a.out.trans (hbz.mono HB6a.out.size)).mono HUV.out.size))
  clear hbz
  go_wp2_with fail
  go_ret
  exact ⟨rfl, HBZ.out⟩
end Go.Proofs.Ytcchmjbedppfnaa

/-
  Clock: the walk of ClockMore, its regions.
-/
import Derived.Test.YtcchmjbedppfnaaMoreMx
import Derived.Deep.AppendLies
namespace Go.Proofs.Ytcchmjbedppfnaa
open Go.RowKit Go.Shelf
set_option linter.unusedSimpArgs false
theorem add_plain' (b off j : Nat) : (⟨b, off, none⟩ : Addr).add j = ⟨b, off + j, none⟩ := by unfold Addr.add; split <;> simp_all
theorem own_emptyB (V : World) (o : Obj) : ((V.alloc o).alloc (.cells #[] 25)).ownsRow V.heap.size 25 8 (.slice (some ⟨V.heap.size + 1, 0, none⟩) 0 0) 0 [] :=
  ⟨rfl, .inr ⟨V.heap.size + 1, 0, #[], rfl, Nat.le_succ _, by have q := World.alloc_heap_new (V.alloc o) (.cells #[] 25); rwa [World.size_alloc] at q, Nat.le_refl _, Nat.zero_le _, rfl, rfl⟩⟩
theorem flatX_one : ∀ (xs : List Xc), ∀ u ∈ flatX xs, u.oneCell' = true
  | [], u, h => by cases h
  | y :: xs, u, h => by
    simp only [flatX, List.mem_cons] at h
    rcases h with rfl | rfl | rfl | rfl | rfl | rfl | rfl | rfl | h
    all_goals first | rfl | exact flatX_one xs u h
set_option maxRecDepth 100000 in
set_option maxHeartbeats 8000000 in
theorem law_more (p r t q wd : Int) (hq : 0 ≤ q ∧ q ≤ 65535) (hwd : 0 ≤ wd ∧ wd ≤ 65535) (sv : Value) (xs : List Xc) (x : Xc) (w : World) (hX : Xcs w.heap.size w sv xs) :
    Calls Try.prog 9 #[.agg #[.int .i64 p, .int .i64 r, sv], x.val, .int .i64 t, .int .u16 q, .int .u16 wd] w fun e w' => e = .returned (.bool true) ∧ Below w.heap.size w w' := by
  obtain ⟨i0, hi0, hz0, hz1, hz2'⟩ := info_parts infoX
  have c20 := Lib.hid (fun W (hb : Below w.heap.size w W) => long_any p r sv xs W (hX.at hb))
  have c21 := fun W => works_any W
  have c24 := Lib.hid (fun p r v ys W (hX : Xcs W.heap.size W v ys) => at24_any p r t v ys W hX)
  have HXG := Lib.hid (fun W (hb : Below w.heap.size w W) => hX.at hb)
  obtain ⟨a, cap, hsv⟩ := hX.form
  subst hsv
  unfold Xc.val
  obtain ⟨x0, x1, x2, x3, x4, x5, x6, x7⟩ := x
  dsimp only
  obtain ⟨A, hA⟩ : ∃ A, A = (w.alloc (.cells #[.int .i64 p, .int .i64 r, .slice a xs.length cap] 28)).alloc (.cells #[.int .i64 x0, .int .i64 x1, .int .i64 x2, .int .i64 x3, .int .i64 x4, .int .i64 x5, .int .i64 x6, .int .i64 x7] 25) := ⟨_, rfl⟩
  have hzA : A.heap.size = w.heap.size + 2 := by rw [hA]; simp
  have HBA := Lib.hid (show Below w.heap.size w A by rw [hA]; exact ((Below.refl _ _).alloc (Nat.le_refl _) _).alloc (by simp) _)
  have k0 : A.cell? ⟨w.heap.size, 0, none⟩ = some (.int .i64 p) := by rw [hA]; simp [go_sem]
  have k1 : A.cell? ⟨w.heap.size, 1, none⟩ = some (.int .i64 r) := by rw [hA]; simp [go_sem]
  have k2 : A.cell? ⟨w.heap.size, 2, none⟩ = some (.slice a xs.length cap) := by rw [hA]; simp [go_sem]
  have j0 : A.cell? ⟨w.heap.size + 1, 0, none⟩ = some (.int .i64 x0) := by rw [hA]; simp [go_sem]
  have j1 : A.cell? ⟨w.heap.size + 1, 1, none⟩ = some (.int .i64 x1) := by rw [hA]; simp [go_sem]
  have j2 : A.cell? ⟨w.heap.size + 1, 2, none⟩ = some (.int .i64 x2) := by rw [hA]; simp [go_sem]
  have j3 : A.cell? ⟨w.heap.size + 1, 3, none⟩ = some (.int .i64 x3) := by rw [hA]; simp [go_sem]
  have j4 : A.cell? ⟨w.heap.size + 1, 4, none⟩ = some (.int .i64 x4) := by rw [hA]; simp [go_sem]
  have j5 : A.cell? ⟨w.heap.size + 1, 5, none⟩ = some (.int .i64 x5) := by rw [hA]; simp [go_sem]
  have j6 : A.cell? ⟨w.heap.size + 1, 6, none⟩ = some (.int .i64 x6) := by rw [hA]; simp [go_sem]
  have j7 : A.cell? ⟨w.heap.size + 1, 7, none⟩ = some (.int .i64 x7) := by rw [hA]; simp [go_sem]
  have KK := Lib.hid (show ∀ W, Below A.heap.size A W → W.cell? ⟨w.heap.size, 0, none⟩ = some (.int .i64 p) ∧ W.cell? ⟨w.heap.size, 1, none⟩ = some (.int .i64 r) ∧ W.cell? ⟨w.heap.size, 2, none⟩ = some (.slice a xs.length cap) ∧ W.cell? ⟨w.heap.size + 1, 0, none⟩ = some (.int .i64 x0) ∧ W.cell? ⟨w.heap.size + 1, 1, none⟩ = some (.int .i64 x1) ∧ W.cell? ⟨w.heap.size + 1, 2, none⟩ = some (.int .i64 x2) ∧ W.cell? ⟨w.heap.size + 1, 3, none⟩ = some (.int .i64 x3) ∧ W.cell? ⟨w.heap.size + 1, 4, none⟩ = some (.int .i64 x4) ∧ W.cell? ⟨w.heap.size + 1, 5, none⟩ = some (.int .i64 x5) ∧ W.cell? ⟨w.heap.size + 1, 6, none⟩ = some (.int .i64 x6) ∧ W.cell? ⟨w.heap.size + 1, 7, none⟩ = some (.int .i64 x7) from fun W h => ⟨(h.cell (p := ⟨w.heap.size, 0, none⟩) (by show w.heap.size < A.heap.size; omega)).trans k0, (h.cell (p := ⟨w.heap.size, 1, none⟩) (by show w.heap.size < A.heap.size; omega)).trans k1, (h.cell (p := ⟨w.heap.size, 2, none⟩) (by show w.heap.size < A.heap.size; omega)).trans k2, (h.cell (p := ⟨w.heap.size + 1, 0, none⟩) (by show w.heap.size + 1 < A.heap.size; omega)).trans j0, (h.cell (p := ⟨w.heap.size + 1, 1, none⟩) (by show w.heap.size + 1 < A.heap.size; omega)).trans j1, (h.cell (p := ⟨w.heap.size + 1, 2, none⟩) (by show w.heap.size + 1 < A.heap.size; omega)).trans j2, (h.cell (p := ⟨w.heap.size + 1, 3, none⟩) (by show w.heap.size + 1 < A.heap.size; omega)).trans j3, (h.cell (p := ⟨w.heap.size + 1, 4, none⟩) (by show w.heap.size + 1 < A.heap.size; omega)).trans j4, (h.cell (p := ⟨w.heap.size + 1, 5, none⟩) (by show w.heap.size + 1 < A.heap.size; omega)).trans j5, (h.cell (p := ⟨w.heap.size + 1, 6, none⟩) (by show w.heap.size + 1 < A.heap.size; omega)).trans j6, (h.cell (p := ⟨w.heap.size + 1, 7, none⟩) (by show w.heap.size + 1 < A.heap.size; omega)).trans j7⟩)
  have HUP := Lib.hid (show ∀ W, Below A.heap.size A W → Below w.heap.size w W from fun W h => HBA.out.trans (h.mono HBA.out.size))
  have HZA := Lib.hid hzA
  clear hzA hX
  have hfin : ∀ b, lngB xs.length = b → (b = true ∨ (12 : Int) < (xs.length : Int)) → Calls Try.prog 9 #[.agg #[.int .i64 p, .int .i64 r, .slice a xs.length cap], .agg #[.int .i64 x0, .int .i64 x1, .int .i64 x2, .int .i64 x3, .int .i64 x4, .int .i64 x5, .int .i64 x6, .int .i64 x7], .int .i64 t, .int .u16 q, .int .u16 wd] w fun e w' => e = .returned (.bool true) ∧ Below w.heap.size w w' := by
    intro b hb hor
    rw [hb] at c20
    clear hb c24 HXG
    generalize xs.length = len at *
    cases b
    · have q1 : (12 : Int) < (len : Int) := by rcases hor with h | h; exact absurd h (by decide); exact h
      go_enter Try.func9, Try.ntmps9
      go_upto_region 1 with fail
      rw [← hA]
      clear hA
      go_wp2_with fail
      refine (c20.out _ HBA.out).mono ?_
      rintro e w1 ⟨rfl, hb1⟩
      have HB1 := Lib.hid hb1
      obtain ⟨k0, k1, k2, j0, j1, j2, j3, j4, j5, j6, j7⟩ := KK.out _ hb1
      clear hb1
      go_wp2_with fail
      refine (c21 _).mono ?_
      rintro e wz ⟨rfl, hbz⟩
      have HBZ := Lib.hid (show Below A.heap.size A wz from HB1.out.trans (hbz.mono HB1.out.size))
      clear hbz
      go_wp2_with fail
      go_ret
      exact ⟨rfl, HUP.out _ HBZ.out⟩
    · go_enter Try.func9, Try.ntmps9
      go_upto_region 1 with fail
      rw [← hA]
      clear hA
      go_wp2_with fail
      refine (c20.out _ HBA.out).mono ?_
      rintro e w1 ⟨rfl, hb1⟩
      have HB1 := Lib.hid hb1
      obtain ⟨k0, k1, k2, j0, j1, j2, j3, j4, j5, j6, j7⟩ := KK.out _ hb1
      clear hb1
      go_wp2_with fail
      refine (c21 _).mono ?_
      rintro e wz ⟨rfl, hbz⟩
      have HBZ := Lib.hid (show Below A.heap.size A wz from HB1.out.trans (hbz.mono HB1.out.size))
      clear hbz
      go_wp2_with fail
      go_ret
      exact ⟨rfl, HUP.out _ HBZ.out⟩
  by_cases hbig : lngB xs.length = true
  · exact hfin _ hbig (.inl rfl)
  have hbig2 : lngB xs.length = false := by simpa using hbig
  by_cases h12 : (12 : Int) < (xs.length : Int)
  · exact hfin _ rfl (.inr h12)
  clear hfin hbig
  rw [hbig2] at c20
  clear hbig2
  obtain ⟨za, hza⟩ : ∃ z, z = atR p r xs t := ⟨_, rfl⟩
  have c24a := Lib.hid (fun W (hb : Below w.heap.size w W) => c24.out p r (.slice a xs.length cap) xs W (HXG.out W hb))
  rw [← hza] at c24a
  obtain ⟨a0, a1, ae⟩ := za
  unfold R3.out at c24a
  dsimp only at c24a
  have HZ := Lib.hid hza
  clear hza
  have HN12 := Lib.hid h12
  go_enter Try.func9, Try.ntmps9
  go_upto_region 1 with fail
  rw [← hA]
  clear hA
  go_wp2_with fail
  refine (c20.out _ HBA.out).mono ?_
  rintro e w1 ⟨rfl, hb1⟩
  have HB1 := Lib.hid hb1
  obtain ⟨k0, k1, k2, j0, j1, j2, j3, j4, j5, j6, j7⟩ := KK.out _ hb1
  clear hb1
  go_wp2_with fail
  refine (c24a.out _ (HUP.out _ HB1.out)).mono ?_
  rintro e w2 ⟨rfl, hb2⟩
  have HB2 := Lib.hid (HB1.out.trans (hb2.mono HB1.out.size))
  clear hb2 h12
  by_cases hae : ae = 0
  rotate_left
  · have b0 : (ae != 0) = true := by simpa using hae
    have HB2a := Lib.hid (HB2.out.alloc HB2.out.size (.cells #[.int .i64 a0, .int .i64 a1] 23))
    go_wp2_with fail
    refine (c21 _).mono ?_
    rintro e wz ⟨rfl, hbz⟩
    have HBZ := Lib.hid (show Below A.heap.size A wz from HB2a.out.trans (hbz.mono HB2a.out.size))
    clear hbz
    go_wp2_with fail
    go_ret
    exact ⟨rfl, HUP.out _ HBZ.out⟩
  subst hae
  have hz0 := HZ.out.symm
  obtain ⟨h0, htm, -⟩ := at_ok hz0
  have hl1 := (lrnE_ok h0).1.1
  have hrr := (rtB_iff r).1 (lrnE_ok h0).2.2.1
  have HM1 := Lib.hid (fun y c d (g : atR p r (xs ++ [y]) t = ⟨c, d, 0⟩) => more_one hz0 g)
  have HM2 := Lib.hid (fun s (hs : r ≤ s) c d (g : atR p s xs t = ⟨c, d, 0⟩) => more_rate hs hz0 g)
  have HM3 := Lib.hid (fun v (hv : 0 ≤ v) c d (g : atR p r (xs.map (wdX v)) t = ⟨c, d, 0⟩) => more_wide hv hz0 g)
  obtain ⟨ad, had⟩ : ∃ ad, a = some ad := by
    obtain ⟨a', c', e, -, hc⟩ := HXG.out w (Below.refl _ _)
    simp only [Value.slice.injEq] at e
    obtain ⟨b, off, hab, -⟩ := hc 0 hl1
    exact ⟨_, e.1.trans hab⟩
  subst had
  have HOKX := Lib.hid (fun k (hk : k < xs.length) => (xcB_iff _).1 (okX_get ((lrnE_ok h0).2.2.2 k hk)).2.2.1)
  clear hz0 h0 htm HZ k0 k1 k2 j0 j1 j2 j3 j4 j5 j6 j7
  have hl12 : xs.length ≤ 12 := by have := HN12.out; omega
  clear HN12
  obtain ⟨V3, hV⟩ : ∃ V, V = w2.alloc (.cells #[.int .i64 a0, .int .i64 a1] 23) := ⟨_, rfl⟩
  go_upto_region 6 with fail
  try rw [← hV]
  have hbV : Below w2.heap.size w2 V3 := by rw [hV]; exact (Below.refl _ _).alloc (Nat.le_refl _) _
  have HA3 := Lib.hid (show Bx2 V3 w2.heap.size (.int .i64 a0) (.int .i64 a1) by rw [hV]; exact Bx2.new _ _ _)
  have HB3 := Lib.hid (HB2.out.trans (hbV.mono HB2.out.size))
  have HUA := Lib.hid (show ∀ W, Below V3.heap.size V3 W → Below A.heap.size A W from fun W h => HB3.out.trans (h.mono HB3.out.size))
  have HXX := Lib.hid (show ∀ W, Below V3.heap.size V3 W → Xcs W.heap.size W (.slice (some ad) xs.length cap) xs from fun W h => HXG.out W (HUP.out W (HUA.out W h)))
  have HVA := HB3.out.size
  have HZ2 := HZA.out
  clear hV hbV
  obtain ⟨k0, k1, k2, j0, j1, j2, j3, j4, j5, j6, j7⟩ := KK.out _ HB3.out
  go_upto_region 7 with fail
  obtain ⟨V6, hV⟩ : ∃ V, V = V3.alloc (.cells #[.int .i64 p, .int .i64 r, .slice (some ad) xs.length cap] 28) := ⟨_, rfl⟩
  try rw [← hV]
  have HB6 := Lib.hid (show Below V3.heap.size V3 V6 by rw [hV]; exact (Below.refl _ _).alloc (Nat.le_refl _) _)
  have HD6 := Lib.hid (show V6.heap[V3.heap.size]? = some (.cells #[.int .i64 p, .int .i64 r, .slice (some ad) xs.length cap] 28 (0, 0)) by rw [hV]; exact World.alloc_heap_new _ _)
  clear hV k0 k1 k2 j0 j1 j2 j3 j4 j5 j6 j7
  obtain ⟨k0, k1, k2, j0, j1, j2, j3, j4, j5, j6, j7⟩ := KK.out _ (HUA.out _ HB6.out)
  have hV36 : V3.heap.size < V6.heap.size := (Array.getElem?_eq_some_iff.1 HD6.out).1
  have HKN := Lib.hid (show ∀ W, Below V6.heap.size V6 W → KnAt W V3.heap.size p r (.slice (some ad) xs.length cap) from fun W h => KnAt.keep ⟨hV36, cellH HD6.out 0, cellH HD6.out 1, cellH HD6.out 2, frozH HD6.out 2⟩ h)
  have KW := Lib.hid (show ∀ W, Below V6.heap.size V6 W → W.cell? ⟨w.heap.size, 2, none⟩ = some (.slice (some ad) xs.length cap) ∧ W.cell? ⟨w.heap.size + 1, 0, none⟩ = some (.int .i64 x0) ∧ W.cell? ⟨w.heap.size + 1, 1, none⟩ = some (.int .i64 x1) ∧ W.cell? ⟨w.heap.size + 1, 2, none⟩ = some (.int .i64 x2) ∧ W.cell? ⟨w.heap.size + 1, 3, none⟩ = some (.int .i64 x3) ∧ W.cell? ⟨w.heap.size + 1, 4, none⟩ = some (.int .i64 x4) ∧ W.cell? ⟨w.heap.size + 1, 5, none⟩ = some (.int .i64 x5) ∧ W.cell? ⟨w.heap.size + 1, 6, none⟩ = some (.int .i64 x6) ∧ W.cell? ⟨w.heap.size + 1, 7, none⟩ = some (.int .i64 x7) from fun W h => ⟨(h.cell (p := ⟨w.heap.size, 2, none⟩) (by show w.heap.size < V6.heap.size; omega)).trans k2, (h.cell (p := ⟨w.heap.size + 1, 0, none⟩) (by show w.heap.size + 1 < V6.heap.size; omega)).trans j0, (h.cell (p := ⟨w.heap.size + 1, 1, none⟩) (by show w.heap.size + 1 < V6.heap.size; omega)).trans j1, (h.cell (p := ⟨w.heap.size + 1, 2, none⟩) (by show w.heap.size + 1 < V6.heap.size; omega)).trans j2, (h.cell (p := ⟨w.heap.size + 1, 3, none⟩) (by show w.heap.size + 1 < V6.heap.size; omega)).trans j3, (h.cell (p := ⟨w.heap.size + 1, 4, none⟩) (by show w.heap.size + 1 < V6.heap.size; omega)).trans j4, (h.cell (p := ⟨w.heap.size + 1, 5, none⟩) (by show w.heap.size + 1 < V6.heap.size; omega)).trans j5, (h.cell (p := ⟨w.heap.size + 1, 6, none⟩) (by show w.heap.size + 1 < V6.heap.size; omega)).trans j6, (h.cell (p := ⟨w.heap.size + 1, 7, none⟩) (by show w.heap.size + 1 < V6.heap.size; omega)).trans j7⟩)
  have HXW := Lib.hid (show ∀ W, Below V6.heap.size V6 W → Xcs W.heap.size W (.slice (some ad) xs.length cap) xs from fun W h => HXX.out W (HB6.out.trans (h.mono HB6.out.size)))
  go_cut [] from 38 to 45 (fun wc => ∃ a7 c7, KnAt wc V3.heap.size p r (.slice a7 (xs.length + 1) c7) ∧ Xcs wc.heap.size wc (.slice a7 (xs.length + 1) c7) (xs ++ [⟨x0, x1, x2, x3, x4, x5, x6, x7⟩]) ∧ Below V3.heap.size V3 wc)
  case first =>
    refine wp_region_held_drew (S := fun w' => w'.cell? ⟨w.heap.size, 2, none⟩ = some (.slice (some ad) xs.length cap) ∧ w'.cell? ⟨w.heap.size + 1, 0, none⟩ = some (.int .i64 x0) ∧ w'.cell? ⟨w.heap.size + 1, 1, none⟩ = some (.int .i64 x1) ∧ w'.cell? ⟨w.heap.size + 1, 2, none⟩ = some (.int .i64 x2) ∧ w'.cell? ⟨w.heap.size + 1, 3, none⟩ = some (.int .i64 x3) ∧ w'.cell? ⟨w.heap.size + 1, 4, none⟩ = some (.int .i64 x4) ∧ w'.cell? ⟨w.heap.size + 1, 5, none⟩ = some (.int .i64 x5) ∧ w'.cell? ⟨w.heap.size + 1, 6, none⟩ = some (.int .i64 x6) ∧ w'.cell? ⟨w.heap.size + 1, 7, none⟩ = some (.int .i64 x7)) (by kernel_rfl) ⟨by simpa [go_sem] using k2, by simpa [go_sem] using j0, by simpa [go_sem] using j1, by simpa [go_sem] using j2, by simpa [go_sem] using j3, by simpa [go_sem] using j4, by simpa [go_sem] using j5, by simpa [go_sem] using j6, by simpa [go_sem] using j7⟩ (fun hHeld => ?_)
    refine wpAnyH_take (i := 1) (oi := _) (v := Value.pointer (some ⟨w.heap.size, 2, none⟩)) rfl (by kernel_rfl) (by kernel_rfl) (by kernel_rfl) (fun _ _ _ h => h) (Or.inl ⟨by rfl, fun w' hSw => ?_⟩) hHeld ?_
    · obtain ⟨t0, t1, t2, t3, t4, t5, t6, t7, t8⟩ := hSw
      go_simp
      try simp [*]
      try (intro hh; exfalso; omega)
      try omega
    try simp only [Act.put, List.setIfInBounds_toArray, List.set_cons_zero, List.set_cons_succ, List.getElem_toArray, List.getElem_cons_succ, List.getElem_cons_zero]
    refine wpAnyH_take (i := 2) (oi := _) (v := Value.slice (some ad) xs.length cap) rfl (by kernel_rfl) (by kernel_rfl) (by kernel_rfl) (fun _ _ _ h => h) (Or.inl ⟨by rfl, fun w' hSw => ?_⟩) hHeld ?_
    · obtain ⟨t0, t1, t2, t3, t4, t5, t6, t7, t8⟩ := hSw
      go_simp
      try simp [*]
      try (intro hh; exfalso; omega)
      try omega
    try simp only [Act.put, List.setIfInBounds_toArray, List.set_cons_zero, List.set_cons_succ, List.getElem_toArray, List.getElem_cons_succ, List.getElem_cons_zero]
    refine wpAnyH_take (i := 4) (oi := _) (v := Value.agg #[Value.int .i64 x0, Value.int .i64 x1, Value.int .i64 x2, Value.int .i64 x3, Value.int .i64 x4, Value.int .i64 x5, Value.int .i64 x6, Value.int .i64 x7]) rfl (by kernel_rfl) (by kernel_rfl) (by kernel_rfl) (fun _ _ _ h => h) (Or.inl ⟨by rfl, fun w' hSw => ?_⟩) hHeld ?_
    · obtain ⟨t0, t1, t2, t3, t4, t5, t6, t7, t8⟩ := hSw
      go_simp
      try simp [*]
      try (intro hh; exfalso; omega)
      try omega
    try simp only [Act.put, List.setIfInBounds_toArray, List.set_cons_zero, List.set_cons_succ, List.getElem_toArray, List.getElem_cons_succ, List.getElem_cons_zero]
    have HE1 := Lib.hid (show Below V6.heap.size V6 (V6.alloc (.cells #[] 25)).drew from ((Below.refl _ _).alloc (Nat.le_refl _) _).drew)
    have HF1 := Lib.hid (show Below V6.heap.size V6 (V6.alloc (.cells #[.int .i64 x0, .int .i64 x1, .int .i64 x2, .int .i64 x3, .int .i64 x4, .int .i64 x5, .int .i64 x6, .int .i64 x7] 25)).drew from ((Below.refl _ _).alloc (Nat.le_refl _) _).drew)
    have HOW1 := Lib.hid (show (V6.alloc (.cells #[] 25)).drew.ownsRow V6.heap.size 25 8 (Value.slice (some ⟨V6.heap.size, 0, none⟩) 0 0) 0 [] from own_below (own_empty V6) ((Below.refl _ _).drew))
    refine wpAnyH_ready (rs := [0, 5]) (by kernel_rfl) (by simp) ?_
    refine AllReadyH.cons (o := _) rfl (fun K hK => ?_) (AllReadyH.cons (o := _) rfl (fun K hK => ?_) (AllReadyH.nil))
    · go_simp
      clear hHeld
      refine hK.out _ _ (KW.out _ HE1.out) (fun hHeld => ?_)
      clear hK K
      try simp only [Act.put, List.setIfInBounds_toArray, List.set_cons_zero, List.set_cons_succ, List.getElem_toArray, List.getElem_cons_succ, List.getElem_cons_zero]
      have NX := Lib.hid ((HXW.out _ HE1.out).news)
      refine wpAnyH_ready (rs := [3, 5]) (by kernel_rfl) (by simp) ?_
      refine AllReadyH.cons (o := _) rfl (fun K hK => ?_) (AllReadyH.cons (o := _) rfl (fun K hK => ?_) (AllReadyH.nil))
      · refine step_append_lies _ rfl _ _ 26 rfl V6.heap.size 25 i0 (.agg #[.int .i64 0, .int .i64 0, .int .i64 0, .int .i64 0, .int .i64 0, .int .i64 0, .int .i64 0, .int .i64 0]) 8 64 Try.underlying26 hi0 hz0 hz1 hz2' rfl (by decide) (Value.slice (some ⟨V6.heap.size, 0, none⟩) 0 0) 0 [] rfl HOW1.out ad xs.length cap (flatX xs) rfl (flatX_len xs) NX.out (flatX_one xs) hl1 (by unfold maxLen; omega) (by omega) (Below.size HE1.out) _ rfl ?_
        intro g3 c3 w3 hrow3 hgr3 hor3 hlt3
        rw [Nat.zero_add, List.nil_append] at hrow3
        rw [Nat.zero_add]
        have HG3 := Lib.hid hgr3
        have R3 := Lib.hid hrow3
        have E3 := Lib.hid (show Below V6.heap.size V6 w3 from HE1.out.grown HG3.out (Below.size HE1.out) (fun j hj => (HOW1.out.lt j hj).1))
        clear hrow3 hgr3 hor3 hlt3
        clear hHeld
        refine hK.out _ _ (KW.out _ E3.out) (fun hHeld => ?_)
        clear hK K
        try simp only [Act.put, List.setIfInBounds_toArray, List.set_cons_zero, List.set_cons_succ, List.getElem_toArray, List.getElem_cons_succ, List.getElem_cons_zero]
        refine wpAnyH_ready (rs := [5]) (by kernel_rfl) (by simp) ?_
        refine AllReadyH.cons (o := _) rfl (fun K hK => ?_) AllReadyH.nil
        go_simp
        have E5 := Lib.hid (show Below V6.heap.size V6 (w3.alloc (.cells #[.int .i64 x0, .int .i64 x1, .int .i64 x2, .int .i64 x3, .int .i64 x4, .int .i64 x5, .int .i64 x6, .int .i64 x7] 25)) from E3.out.alloc E3.out.size _)
        have R5 := Lib.hid (R3.out.alloc (.cells #[.int .i64 x0, .int .i64 x1, .int .i64 x2, .int .i64 x3, .int .i64 x4, .int .i64 x5, .int .i64 x6, .int .i64 x7] 25))
        have N5 := Lib.hid (eight_new w3 (.int .i64 x0) (.int .i64 x1) (.int .i64 x2) (.int .i64 x3) (.int .i64 x4) (.int .i64 x5) (.int .i64 x6) (.int .i64 x7))
        clear hHeld
        refine hK.out _ _ (KW.out _ E5.out) (fun hHeld => ?_)
        clear hK K
        try simp only [Act.put, List.setIfInBounds_toArray, List.set_cons_zero, List.set_cons_succ, List.getElem_toArray, List.getElem_cons_succ, List.getElem_cons_zero]
        refine wpAnyH_ready (rs := [6]) (by kernel_rfl) (by simp) ?_
        refine AllReadyH.cons (o := _) rfl (fun K hK => ?_) AllReadyH.nil
        refine step_append_lies _ rfl _ _ 26 rfl V6.heap.size 25 i0 (.agg #[.int .i64 0, .int .i64 0, .int .i64 0, .int .i64 0, .int .i64 0, .int .i64 0, .int .i64 0, .int .i64 0]) 8 64 Try.underlying26 hi0 hz0 hz1 hz2' rfl (by decide) (Value.slice (some ⟨g3, 0, none⟩) xs.length c3) xs.length (flatX xs) rfl R5.out ⟨w3.heap.size, 0, none⟩ 1 1 [.int .i64 x0, .int .i64 x1, .int .i64 x2, .int .i64 x3, .int .i64 x4, .int .i64 x5, .int .i64 x6, .int .i64 x7] rfl rfl N5.out (by simp [Value.oneCell']) (by omega) (by unfold maxLen; omega) (by omega) (Below.size E5.out) _ rfl ?_
        intro g6 c6 w6 hrow6 hgr6 hor6 hlt6
        have R6 := Lib.hid hrow6
        have E6 := Lib.hid (show Below V6.heap.size V6 w6 from E5.out.grown hgr6 (Below.size E5.out) (fun j hj => (R5.out.lt j hj).1))
        clear hrow6 hgr6 hor6 hlt6
        clear hHeld
        refine hK.out _ _ (KW.out _ E6.out) (fun hHeld => ?_)
        clear hK K
        try simp only [Act.put, List.setIfInBounds_toArray, List.set_cons_zero, List.set_cons_succ, List.getElem_toArray, List.getElem_cons_succ, List.getElem_cons_zero]
        refine wpAnyH_take (i := 7) (oi := _) (v := Value.pointer (some ⟨V3.heap.size, 2, none⟩)) rfl (by kernel_rfl) (by kernel_rfl) (by kernel_rfl) (fun _ _ _ h => h) (Or.inl ⟨by rfl, fun w' hSw => ?_⟩) hHeld ?_
        · obtain ⟨t0, t1, t2, t3, t4, t5, t6, t7, t8⟩ := hSw
          go_simp
          try simp [*]
          try (intro hh; exfalso; omega)
          try omega
        try simp only [Act.put, List.setIfInBounds_toArray, List.set_cons_zero, List.set_cons_succ, List.getElem_toArray, List.getElem_cons_succ, List.getElem_cons_zero]
        have KN := Lib.hid (HKN.out _ E6.out)
        have kn := KN.out
        obtain ⟨-, -, -, kn2, knf⟩ := kn
        obtain ⟨Z, hZ⟩ : ∃ Z, Z = w6.setCell ⟨V3.heap.size, 2, none⟩ (Value.slice (some ⟨g6, 0, none⟩) (xs.length + 1) c6) := ⟨_, rfl⟩
        have EZ := Lib.hid (show Below V3.heap.size V3 Z by rw [hZ]; exact (HB6.out.trans (E6.out.mono HB6.out.size)).setCell (p := ⟨V3.heap.size, 2, none⟩) (Nat.le_refl _) _)
        have l0 : Z.cell? ⟨w.heap.size, 2, none⟩ = some (.slice (some ad) xs.length cap) ∧ Z.cell? ⟨w.heap.size + 1, 0, none⟩ = some (.int .i64 x0) ∧ Z.cell? ⟨w.heap.size + 1, 1, none⟩ = some (.int .i64 x1) ∧ Z.cell? ⟨w.heap.size + 1, 2, none⟩ = some (.int .i64 x2) ∧ Z.cell? ⟨w.heap.size + 1, 3, none⟩ = some (.int .i64 x3) ∧ Z.cell? ⟨w.heap.size + 1, 4, none⟩ = some (.int .i64 x4) ∧ Z.cell? ⟨w.heap.size + 1, 5, none⟩ = some (.int .i64 x5) ∧ Z.cell? ⟨w.heap.size + 1, 6, none⟩ = some (.int .i64 x6) ∧ Z.cell? ⟨w.heap.size + 1, 7, none⟩ = some (.int .i64 x7) := by
          rw [hZ]
          have q : ∀ b' o', b' ≠ V3.heap.size → (w6.setCell ⟨V3.heap.size, 2, none⟩ (Value.slice (some ⟨g6, 0, none⟩) (xs.length + 1) c6)).cell? ⟨b', o', none⟩ = w6.cell? ⟨b', o', none⟩ := fun b' o' hne => World.cell?_setCell_other _ _ _ _ (by intro e; exact hne (Addr.mk.inj e).1.symm)
          obtain ⟨p0, p1, p2, p3, p4, p5, p6, p7, p8⟩ := KW.out _ E6.out
          exact ⟨(q _ _ (by omega)).trans p0, (q _ _ (by omega)).trans p1, (q _ _ (by omega)).trans p2, (q _ _ (by omega)).trans p3, (q _ _ (by omega)).trans p4, (q _ _ (by omega)).trans p5, (q _ _ (by omega)).trans p6, (q _ _ (by omega)).trans p7, (q _ _ (by omega)).trans p8⟩
        refine wpAnyH_ready (rs := [8]) (by kernel_rfl) (by simp) ?_
        refine AllReadyH.cons (o := _) rfl (fun K hK => ?_) AllReadyH.nil
        go_simp
        try rw [← hZ]
        clear hHeld
        refine hK.out _ _ l0 (fun hHeld => ?_)
        clear hK K
        try simp only [Act.put, List.setIfInBounds_toArray, List.set_cons_zero, List.set_cons_succ, List.getElem_toArray, List.getElem_cons_succ, List.getElem_cons_zero]
        refine wpAnyH_done (by kernel_rfl) ?_ _
        clear hHeld
        have hkz : KnAt Z V3.heap.size p r (Value.slice (some ⟨g6, 0, none⟩) (xs.length + 1) c6) := by rw [hZ]; exact KN.out.set _
        have hrz : Z.ownsRow V6.heap.size 25 8 (Value.slice (some ⟨g6, 0, none⟩) (xs.length + 1) c6) (xs.length + 1) (flatX xs ++ [.int .i64 x0, .int .i64 x1, .int .i64 x2, .int .i64 x3, .int .i64 x4, .int .i64 x5, .int .i64 x6, .int .i64 x7]) := by rw [hZ]; exact own_set R6.out V3.heap.size 2 _ hV36
        have hxz : Xcs Z.heap.size Z (Value.slice (some ⟨g6, 0, none⟩) (xs.length + 1) c6) (xs ++ [⟨x0, x1, x2, x3, x4, x5, x6, x7⟩]) := xcs_of_owns (base := V6.heap.size) (by rw [flatX_snoc, List.length_append]; exact hrz)
        have HKZ := Lib.hid hkz
        have HXZ := Lib.hid hxz
        clear hZ hkz hrz hxz l0 kn2 knf
        go_wp2_with fail
        go_meet
        case rel => exact ⟨_, c6, HKZ.out, HXZ.out, EZ.out⟩
      · go_simp
        have E5 := Lib.hid (show Below V6.heap.size V6 ((V6.alloc (.cells #[] 25)).alloc (.cells #[.int .i64 x0, .int .i64 x1, .int .i64 x2, .int .i64 x3, .int .i64 x4, .int .i64 x5, .int .i64 x6, .int .i64 x7] 25)).drew from (((Below.refl _ _).alloc (Nat.le_refl _) _).alloc (by simp) _).drew)
        have R5 := Lib.hid (show ((V6.alloc (.cells #[] 25)).alloc (.cells #[.int .i64 x0, .int .i64 x1, .int .i64 x2, .int .i64 x3, .int .i64 x4, .int .i64 x5, .int .i64 x6, .int .i64 x7] 25)).drew.ownsRow V6.heap.size 25 8 (Value.slice (some ⟨V6.heap.size, 0, none⟩) 0 0) 0 [] from own_below ((own_empty V6).alloc (.cells #[.int .i64 x0, .int .i64 x1, .int .i64 x2, .int .i64 x3, .int .i64 x4, .int .i64 x5, .int .i64 x6, .int .i64 x7] 25)) ((Below.refl _ _).drew))
        have N5 := Lib.hid (show ∀ j u, ([.int .i64 x0, .int .i64 x1, .int .i64 x2, .int .i64 x3, .int .i64 x4, .int .i64 x5, .int .i64 x6, .int .i64 x7] : List Value)[j]? = some u → ((V6.alloc (.cells #[] 25)).alloc (.cells #[.int .i64 x0, .int .i64 x1, .int .i64 x2, .int .i64 x3, .int .i64 x4, .int .i64 x5, .int .i64 x6, .int .i64 x7] 25)).drew.cell? ((⟨V6.heap.size + 1, 0, none⟩ : Addr).add j) = some u from fun j u hj => by have q := eight_new (V6.alloc (.cells #[] 25)) (.int .i64 x0) (.int .i64 x1) (.int .i64 x2) (.int .i64 x3) (.int .i64 x4) (.int .i64 x5) (.int .i64 x6) (.int .i64 x7) j u hj; rw [World.size_alloc] at q; exact q)
        clear hHeld
        refine hK.out _ _ (KW.out _ E5.out) (fun hHeld => ?_)
        clear hK K
        try simp only [Act.put, List.setIfInBounds_toArray, List.set_cons_zero, List.set_cons_succ, List.getElem_toArray, List.getElem_cons_succ, List.getElem_cons_zero]
        have NX2 := Lib.hid ((HXW.out _ E5.out).news)
        refine wpAnyH_ready (rs := [3]) (by kernel_rfl) (by simp) ?_
        refine AllReadyH.cons (o := _) rfl (fun K hK => ?_) AllReadyH.nil
        refine step_append_lies _ rfl _ _ 26 rfl V6.heap.size 25 i0 (.agg #[.int .i64 0, .int .i64 0, .int .i64 0, .int .i64 0, .int .i64 0, .int .i64 0, .int .i64 0, .int .i64 0]) 8 64 Try.underlying26 hi0 hz0 hz1 hz2' rfl (by decide) (Value.slice (some ⟨V6.heap.size, 0, none⟩) 0 0) 0 [] rfl R5.out ad xs.length cap (flatX xs) rfl (flatX_len xs) NX2.out (flatX_one xs) hl1 (by unfold maxLen; omega) (by omega) (Below.size E5.out) _ rfl ?_
        intro g3 c3 w3 hrow3 hgr3 hor3 hlt3
        rw [Nat.zero_add, List.nil_append] at hrow3
        rw [Nat.zero_add]
        have HG3 := Lib.hid hgr3
        have R3 := Lib.hid hrow3
        have E3 := Lib.hid (show Below V6.heap.size V6 w3 from E5.out.grown HG3.out (Below.size E5.out) (fun j hj => (R5.out.lt j hj).1))
        clear hrow3 hgr3 hor3 hlt3
        clear hHeld
        refine hK.out _ _ (KW.out _ E3.out) (fun hHeld => ?_)
        clear hK K
        try simp only [Act.put, List.setIfInBounds_toArray, List.set_cons_zero, List.set_cons_succ, List.getElem_toArray, List.getElem_cons_succ, List.getElem_cons_zero]
        have N6 := Lib.hid (show ∀ j u, ([.int .i64 x0, .int .i64 x1, .int .i64 x2, .int .i64 x3, .int .i64 x4, .int .i64 x5, .int .i64 x6, .int .i64 x7] : List Value)[j]? = some u → w3.cell? ((⟨V6.heap.size + 1, 0, none⟩ : Addr).add j) = some u from fun j u hj => (HG3.out.cell_far _ (by rw [add_plain']; show V6.heap.size + 1 < _; simp) (by rw [add_plain']; simp [Value.ownBlock])).trans (N5.out j u hj))
        refine wpAnyH_ready (rs := [6]) (by kernel_rfl) (by simp) ?_
        refine AllReadyH.cons (o := _) rfl (fun K hK => ?_) AllReadyH.nil
        refine step_append_lies _ rfl _ _ 26 rfl V6.heap.size 25 i0 (.agg #[.int .i64 0, .int .i64 0, .int .i64 0, .int .i64 0, .int .i64 0, .int .i64 0, .int .i64 0, .int .i64 0]) 8 64 Try.underlying26 hi0 hz0 hz1 hz2' rfl (by decide) (Value.slice (some ⟨g3, 0, none⟩) xs.length c3) xs.length (flatX xs) rfl R3.out ⟨V6.heap.size + 1, 0, none⟩ 1 1 [.int .i64 x0, .int .i64 x1, .int .i64 x2, .int .i64 x3, .int .i64 x4, .int .i64 x5, .int .i64 x6, .int .i64 x7] rfl rfl N6.out (by simp [Value.oneCell']) (by omega) (by unfold maxLen; omega) (by omega) (Below.size E3.out) _ rfl ?_
        intro g6 c6 w6 hrow6 hgr6 hor6 hlt6
        have R6 := Lib.hid hrow6
        have E6 := Lib.hid (show Below V6.heap.size V6 w6 from E3.out.grown hgr6 (Below.size E3.out) (fun j hj => (R3.out.lt j hj).1))
        clear hrow6 hgr6 hor6 hlt6
        clear hHeld
        refine hK.out _ _ (KW.out _ E6.out) (fun hHeld => ?_)
        clear hK K
        try simp only [Act.put, List.setIfInBounds_toArray, List.set_cons_zero, List.set_cons_succ, List.getElem_toArray, List.getElem_cons_succ, List.getElem_cons_zero]
        refine wpAnyH_take (i := 7) (oi := _) (v := Value.pointer (some ⟨V3.heap.size, 2, none⟩)) rfl (by kernel_rfl) (by kernel_rfl) (by kernel_rfl) (fun _ _ _ h => h) (Or.inl ⟨by rfl, fun w' hSw => ?_⟩) hHeld ?_
        · obtain ⟨t0, t1, t2, t3, t4, t5, t6, t7, t8⟩ := hSw
          go_simp
          try simp [*]
          try (intro hh; exfalso; omega)
          try omega
        try simp only [Act.put, List.setIfInBounds_toArray, List.set_cons_zero, List.set_cons_succ, List.getElem_toArray, List.getElem_cons_succ, List.getElem_cons_zero]
        have KN := Lib.hid (HKN.out _ E6.out)
        have kn := KN.out
        obtain ⟨-, -, -, kn2, knf⟩ := kn
        obtain ⟨Z, hZ⟩ : ∃ Z, Z = w6.setCell ⟨V3.heap.size, 2, none⟩ (Value.slice (some ⟨g6, 0, none⟩) (xs.length + 1) c6) := ⟨_, rfl⟩
        have EZ := Lib.hid (show Below V3.heap.size V3 Z by rw [hZ]; exact (HB6.out.trans (E6.out.mono HB6.out.size)).setCell (p := ⟨V3.heap.size, 2, none⟩) (Nat.le_refl _) _)
        have l0 : Z.cell? ⟨w.heap.size, 2, none⟩ = some (.slice (some ad) xs.length cap) ∧ Z.cell? ⟨w.heap.size + 1, 0, none⟩ = some (.int .i64 x0) ∧ Z.cell? ⟨w.heap.size + 1, 1, none⟩ = some (.int .i64 x1) ∧ Z.cell? ⟨w.heap.size + 1, 2, none⟩ = some (.int .i64 x2) ∧ Z.cell? ⟨w.heap.size + 1, 3, none⟩ = some (.int .i64 x3) ∧ Z.cell? ⟨w.heap.size + 1, 4, none⟩ = some (.int .i64 x4) ∧ Z.cell? ⟨w.heap.size + 1, 5, none⟩ = some (.int .i64 x5) ∧ Z.cell? ⟨w.heap.size + 1, 6, none⟩ = some (.int .i64 x6) ∧ Z.cell? ⟨w.heap.size + 1, 7, none⟩ = some (.int .i64 x7) := by
          rw [hZ]
          have q : ∀ b' o', b' ≠ V3.heap.size → (w6.setCell ⟨V3.heap.size, 2, none⟩ (Value.slice (some ⟨g6, 0, none⟩) (xs.length + 1) c6)).cell? ⟨b', o', none⟩ = w6.cell? ⟨b', o', none⟩ := fun b' o' hne => World.cell?_setCell_other _ _ _ _ (by intro e; exact hne (Addr.mk.inj e).1.symm)
          obtain ⟨p0, p1, p2, p3, p4, p5, p6, p7, p8⟩ := KW.out _ E6.out
          exact ⟨(q _ _ (by omega)).trans p0, (q _ _ (by omega)).trans p1, (q _ _ (by omega)).trans p2, (q _ _ (by omega)).trans p3, (q _ _ (by omega)).trans p4, (q _ _ (by omega)).trans p5, (q _ _ (by omega)).trans p6, (q _ _ (by omega)).trans p7, (q _ _ (by omega)).trans p8⟩
        refine wpAnyH_ready (rs := [8]) (by kernel_rfl) (by simp) ?_
        refine AllReadyH.cons (o := _) rfl (fun K hK => ?_) AllReadyH.nil
        go_simp
        try rw [← hZ]
        clear hHeld
        refine hK.out _ _ l0 (fun hHeld => ?_)
        clear hK K
        try simp only [Act.put, List.setIfInBounds_toArray, List.set_cons_zero, List.set_cons_succ, List.getElem_toArray, List.getElem_cons_succ, List.getElem_cons_zero]
        refine wpAnyH_done (by kernel_rfl) ?_ _
        clear hHeld
        have hkz : KnAt Z V3.heap.size p r (Value.slice (some ⟨g6, 0, none⟩) (xs.length + 1) c6) := by rw [hZ]; exact KN.out.set _
        have hrz : Z.ownsRow V6.heap.size 25 8 (Value.slice (some ⟨g6, 0, none⟩) (xs.length + 1) c6) (xs.length + 1) (flatX xs ++ [.int .i64 x0, .int .i64 x1, .int .i64 x2, .int .i64 x3, .int .i64 x4, .int .i64 x5, .int .i64 x6, .int .i64 x7]) := by rw [hZ]; exact own_set R6.out V3.heap.size 2 _ hV36
        have hxz : Xcs Z.heap.size Z (Value.slice (some ⟨g6, 0, none⟩) (xs.length + 1) c6) (xs ++ [⟨x0, x1, x2, x3, x4, x5, x6, x7⟩]) := xcs_of_owns (base := V6.heap.size) (by rw [flatX_snoc, List.length_append]; exact hrz)
        have HKZ := Lib.hid hkz
        have HXZ := Lib.hid hxz
        clear hZ hkz hrz hxz l0 kn2 knf
        go_wp2_with fail
        go_meet
        case rel => exact ⟨_, c6, HKZ.out, HXZ.out, EZ.out⟩
    · go_simp
      clear hHeld
      refine hK.out _ _ (KW.out _ HF1.out) (fun hHeld => ?_)
      clear hK K
      try simp only [Act.put, List.setIfInBounds_toArray, List.set_cons_zero, List.set_cons_succ, List.getElem_toArray, List.getElem_cons_succ, List.getElem_cons_zero]
      refine wpAnyH_ready (rs := [0]) (by kernel_rfl) (by simp) ?_
      refine AllReadyH.cons (o := _) rfl (fun K hK => ?_) AllReadyH.nil
      go_simp
      have E5 := Lib.hid (show Below V6.heap.size V6 ((V6.alloc (.cells #[.int .i64 x0, .int .i64 x1, .int .i64 x2, .int .i64 x3, .int .i64 x4, .int .i64 x5, .int .i64 x6, .int .i64 x7] 25)).alloc (.cells #[] 25)).drew from (((Below.refl _ _).alloc (Nat.le_refl _) _).alloc (by simp) _).drew)
      have R5 := Lib.hid (show ((V6.alloc (.cells #[.int .i64 x0, .int .i64 x1, .int .i64 x2, .int .i64 x3, .int .i64 x4, .int .i64 x5, .int .i64 x6, .int .i64 x7] 25)).alloc (.cells #[] 25)).drew.ownsRow V6.heap.size 25 8 (Value.slice (some ⟨V6.heap.size + 1, 0, none⟩) 0 0) 0 [] from own_below (own_emptyB V6 (.cells #[.int .i64 x0, .int .i64 x1, .int .i64 x2, .int .i64 x3, .int .i64 x4, .int .i64 x5, .int .i64 x6, .int .i64 x7] 25)) ((Below.refl _ _).drew))
      have N5 := Lib.hid (show ∀ j u, ([.int .i64 x0, .int .i64 x1, .int .i64 x2, .int .i64 x3, .int .i64 x4, .int .i64 x5, .int .i64 x6, .int .i64 x7] : List Value)[j]? = some u → ((V6.alloc (.cells #[.int .i64 x0, .int .i64 x1, .int .i64 x2, .int .i64 x3, .int .i64 x4, .int .i64 x5, .int .i64 x6, .int .i64 x7] 25)).alloc (.cells #[] 25)).drew.cell? ((⟨V6.heap.size, 0, none⟩ : Addr).add j) = some u from fun j u hj => by have q := eight_new V6 (.int .i64 x0) (.int .i64 x1) (.int .i64 x2) (.int .i64 x3) (.int .i64 x4) (.int .i64 x5) (.int .i64 x6) (.int .i64 x7) j u hj; have q2 := ((Below.refl (V6.alloc (.cells #[.int .i64 x0, .int .i64 x1, .int .i64 x2, .int .i64 x3, .int .i64 x4, .int .i64 x5, .int .i64 x6, .int .i64 x7] 25)).heap.size (V6.alloc (.cells #[.int .i64 x0, .int .i64 x1, .int .i64 x2, .int .i64 x3, .int .i64 x4, .int .i64 x5, .int .i64 x6, .int .i64 x7] 25))).alloc (Nat.le_refl _) (.cells #[] 25)).cell (p := (⟨V6.heap.size, 0, none⟩ : Addr).add j) (by rw [add_plain']; show V6.heap.size < _; simp); exact q2.trans q)
      clear hHeld
      refine hK.out _ _ (KW.out _ E5.out) (fun hHeld => ?_)
      clear hK K
      try simp only [Act.put, List.setIfInBounds_toArray, List.set_cons_zero, List.set_cons_succ, List.getElem_toArray, List.getElem_cons_succ, List.getElem_cons_zero]
      have NX2 := Lib.hid ((HXW.out _ E5.out).news)
      refine wpAnyH_ready (rs := [3]) (by kernel_rfl) (by simp) ?_
      refine AllReadyH.cons (o := _) rfl (fun K hK => ?_) AllReadyH.nil
      refine step_append_lies _ rfl _ _ 26 rfl V6.heap.size 25 i0 (.agg #[.int .i64 0, .int .i64 0, .int .i64 0, .int .i64 0, .int .i64 0, .int .i64 0, .int .i64 0, .int .i64 0]) 8 64 Try.underlying26 hi0 hz0 hz1 hz2' rfl (by decide) (Value.slice (some ⟨V6.heap.size + 1, 0, none⟩) 0 0) 0 [] rfl R5.out ad xs.length cap (flatX xs) rfl (flatX_len xs) NX2.out (flatX_one xs) hl1 (by unfold maxLen; omega) (by omega) (Below.size E5.out) _ rfl ?_
      intro g3 c3 w3 hrow3 hgr3 hor3 hlt3
      rw [Nat.zero_add, List.nil_append] at hrow3
      rw [Nat.zero_add]
      have HG3 := Lib.hid hgr3
      have R3 := Lib.hid hrow3
      have E3 := Lib.hid (show Below V6.heap.size V6 w3 from E5.out.grown HG3.out (Below.size E5.out) (fun j hj => (R5.out.lt j hj).1))
      clear hrow3 hgr3 hor3 hlt3
      clear hHeld
      refine hK.out _ _ (KW.out _ E3.out) (fun hHeld => ?_)
      clear hK K
      try simp only [Act.put, List.setIfInBounds_toArray, List.set_cons_zero, List.set_cons_succ, List.getElem_toArray, List.getElem_cons_succ, List.getElem_cons_zero]
      have N6 := Lib.hid (show ∀ j u, ([.int .i64 x0, .int .i64 x1, .int .i64 x2, .int .i64 x3, .int .i64 x4, .int .i64 x5, .int .i64 x6, .int .i64 x7] : List Value)[j]? = some u → w3.cell? ((⟨V6.heap.size, 0, none⟩ : Addr).add j) = some u from fun j u hj => (HG3.out.cell_far _ (by rw [add_plain']; show V6.heap.size < _; simp; omega) (by rw [add_plain']; simp [Value.ownBlock])).trans (N5.out j u hj))
      refine wpAnyH_ready (rs := [6]) (by kernel_rfl) (by simp) ?_
      refine AllReadyH.cons (o := _) rfl (fun K hK => ?_) AllReadyH.nil
      refine step_append_lies _ rfl _ _ 26 rfl V6.heap.size 25 i0 (.agg #[.int .i64 0, .int .i64 0, .int .i64 0, .int .i64 0, .int .i64 0, .int .i64 0, .int .i64 0, .int .i64 0]) 8 64 Try.underlying26 hi0 hz0 hz1 hz2' rfl (by decide) (Value.slice (some ⟨g3, 0, none⟩) xs.length c3) xs.length (flatX xs) rfl R3.out ⟨V6.heap.size, 0, none⟩ 1 1 [.int .i64 x0, .int .i64 x1, .int .i64 x2, .int .i64 x3, .int .i64 x4, .int .i64 x5, .int .i64 x6, .int .i64 x7] rfl rfl N6.out (by simp [Value.oneCell']) (by omega) (by unfold maxLen; omega) (by omega) (Below.size E3.out) _ rfl ?_
      intro g6 c6 w6 hrow6 hgr6 hor6 hlt6
      have R6 := Lib.hid hrow6
      have E6 := Lib.hid (show Below V6.heap.size V6 w6 from E3.out.grown hgr6 (Below.size E3.out) (fun j hj => (R3.out.lt j hj).1))
      clear hrow6 hgr6 hor6 hlt6
      clear hHeld
      refine hK.out _ _ (KW.out _ E6.out) (fun hHeld => ?_)
      clear hK K
      try simp only [Act.put, List.setIfInBounds_toArray, List.set_cons_zero, List.set_cons_succ, List.getElem_toArray, List.getElem_cons_succ, List.getElem_cons_zero]
      refine wpAnyH_take (i := 7) (oi := _) (v := Value.pointer (some ⟨V3.heap.size, 2, none⟩)) rfl (by kernel_rfl) (by kernel_rfl) (by kernel_rfl) (fun _ _ _ h => h) (Or.inl ⟨by rfl, fun w' hSw => ?_⟩) hHeld ?_
      · obtain ⟨t0, t1, t2, t3, t4, t5, t6, t7, t8⟩ := hSw
        go_simp
        try simp [*]
        try (intro hh; exfalso; omega)
        try omega
      try simp only [Act.put, List.setIfInBounds_toArray, List.set_cons_zero, List.set_cons_succ, List.getElem_toArray, List.getElem_cons_succ, List.getElem_cons_zero]
      have KN := Lib.hid (HKN.out _ E6.out)
      have kn := KN.out
      obtain ⟨-, -, -, kn2, knf⟩ := kn
      obtain ⟨Z, hZ⟩ : ∃ Z, Z = w6.setCell ⟨V3.heap.size, 2, none⟩ (Value.slice (some ⟨g6, 0, none⟩) (xs.length + 1) c6) := ⟨_, rfl⟩
      have EZ := Lib.hid (show Below V3.heap.size V3 Z by rw [hZ]; exact (HB6.out.trans (E6.out.mono HB6.out.size)).setCell (p := ⟨V3.heap.size, 2, none⟩) (Nat.le_refl _) _)
      have l0 : Z.cell? ⟨w.heap.size, 2, none⟩ = some (.slice (some ad) xs.length cap) ∧ Z.cell? ⟨w.heap.size + 1, 0, none⟩ = some (.int .i64 x0) ∧ Z.cell? ⟨w.heap.size + 1, 1, none⟩ = some (.int .i64 x1) ∧ Z.cell? ⟨w.heap.size + 1, 2, none⟩ = some (.int .i64 x2) ∧ Z.cell? ⟨w.heap.size + 1, 3, none⟩ = some (.int .i64 x3) ∧ Z.cell? ⟨w.heap.size + 1, 4, none⟩ = some (.int .i64 x4) ∧ Z.cell? ⟨w.heap.size + 1, 5, none⟩ = some (.int .i64 x5) ∧ Z.cell? ⟨w.heap.size + 1, 6, none⟩ = some (.int .i64 x6) ∧ Z.cell? ⟨w.heap.size + 1, 7, none⟩ = some (.int .i64 x7) := by
        rw [hZ]
        have q : ∀ b' o', b' ≠ V3.heap.size → (w6.setCell ⟨V3.heap.size, 2, none⟩ (Value.slice (some ⟨g6, 0, none⟩) (xs.length + 1) c6)).cell? ⟨b', o', none⟩ = w6.cell? ⟨b', o', none⟩ := fun b' o' hne => World.cell?_setCell_other _ _ _ _ (by intro e; exact hne (Addr.mk.inj e).1.symm)
        obtain ⟨p0, p1, p2, p3, p4, p5, p6, p7, p8⟩ := KW.out _ E6.out
        exact ⟨(q _ _ (by omega)).trans p0, (q _ _ (by omega)).trans p1, (q _ _ (by omega)).trans p2, (q _ _ (by omega)).trans p3, (q _ _ (by omega)).trans p4, (q _ _ (by omega)).trans p5, (q _ _ (by omega)).trans p6, (q _ _ (by omega)).trans p7, (q _ _ (by omega)).trans p8⟩
      refine wpAnyH_ready (rs := [8]) (by kernel_rfl) (by simp) ?_
      refine AllReadyH.cons (o := _) rfl (fun K hK => ?_) AllReadyH.nil
      go_simp
      try rw [← hZ]
      clear hHeld
      refine hK.out _ _ l0 (fun hHeld => ?_)
      clear hK K
      try simp only [Act.put, List.setIfInBounds_toArray, List.set_cons_zero, List.set_cons_succ, List.getElem_toArray, List.getElem_cons_succ, List.getElem_cons_zero]
      refine wpAnyH_done (by kernel_rfl) ?_ _
      clear hHeld
      have hkz : KnAt Z V3.heap.size p r (Value.slice (some ⟨g6, 0, none⟩) (xs.length + 1) c6) := by rw [hZ]; exact KN.out.set _
      have hrz : Z.ownsRow V6.heap.size 25 8 (Value.slice (some ⟨g6, 0, none⟩) (xs.length + 1) c6) (xs.length + 1) (flatX xs ++ [.int .i64 x0, .int .i64 x1, .int .i64 x2, .int .i64 x3, .int .i64 x4, .int .i64 x5, .int .i64 x6, .int .i64 x7]) := by rw [hZ]; exact own_set R6.out V3.heap.size 2 _ hV36
      have hxz : Xcs Z.heap.size Z (Value.slice (some ⟨g6, 0, none⟩) (xs.length + 1) c6) (xs ++ [⟨x0, x1, x2, x3, x4, x5, x6, x7⟩]) := xcs_of_owns (base := V6.heap.size) (by rw [flatX_snoc, List.length_append]; exact hrz)
      have HKZ := Lib.hid hkz
      have HXZ := Lib.hid hxz
      clear hZ hkz hrz hxz l0 kn2 knf
      go_wp2_with fail
      go_meet
      case rel => exact ⟨_, c6, HKZ.out, HXZ.out, EZ.out⟩
  case rest =>
    obtain ⟨a7, c7, hk7, hx7, hb7⟩ := hcut
    have HB7 := Lib.hid hb7
    have c24d := Lib.hid (c24.out p r (.slice a7 (xs.length + 1) c7) (xs ++ [⟨x0, x1, x2, x3, x4, x5, x6, x7⟩]) _ hx7)
    obtain ⟨-, kd0, kd1, kd2, -⟩ := hk7
    have HM1b := Lib.hid (HM1.out ⟨x0, x1, x2, x3, x4, x5, x6, x7⟩)
    obtain ⟨zy, hzy⟩ : ∃ z, z = atR p r (xs ++ [⟨x0, x1, x2, x3, x4, x5, x6, x7⟩]) t := ⟨_, rfl⟩
    rw [← hzy] at c24d
    have HY := Lib.hid hzy
    obtain ⟨y0, y1, ye⟩ := zy
    unfold R3.out at c24d
    dsimp only at c24d
    clear hx7 hb7 hzy HKN HXW KW HD6 HB6 hV36 k0 k1 k2 j0 j1 j2 j3 j4 j5 j6 j7
    go_wp2_with fail
    refine c24d.out.mono ?_
    rintro e w8 ⟨rfl, hb⟩
    have HB8 := Lib.hid (HB7.out.trans (hb.mono HB7.out.size))
    clear hb kd0 kd1 kd2 c24d
    go_upto_region 9 with fail
    obtain ⟨V8, hV⟩ : ∃ V, V = w8.alloc (.cells #[.int .i64 y0, .int .i64 y1] 23) := ⟨_, rfl⟩
    try rw [← hV]
    have hbV : Below w8.heap.size w8 V8 := by rw [hV]; exact (Below.refl _ _).alloc (Nat.le_refl _) _
    have HT8 := Lib.hid (show Bx2 V8 w8.heap.size (.int .i64 y0) (.int .i64 y1) by rw [hV]; exact Bx2.new _ _ _)
    have HB9 := Lib.hid (HB8.out.trans (hbV.mono HB8.out.size))
    have HT3 := HB8.out.size
    clear hV hbV
    have HAW := Lib.hid (show ∀ W, Below V3.heap.size V3 W → Bx2 W w2.heap.size (.int .i64 a0) (.int .i64 a1) from fun W h => HA3.out.keep h)
    have c54 := Lib.hid (fun u v W => inside_any u v W)
    go_cut [59] from 52 to 59 (fun sc wc => sc = Value.bool false ∧ Below V8.heap.size V8 wc)
    case first =>
      by_cases hye : ye = 0
      · have b0 : (ye == 0) = true := by rw [hye]; rfl
        subst hye
        have HIN := Lib.hid (HM1b.out y0 y1 HY.out.symm)
        have g0 := (HAW.out _ HB9.out).c0
        have g1 := (HAW.out _ HB9.out).c1
        have g2 := HT8.out.c0
        have g3 := HT8.out.c1
        have hc54 := c54.out (y0, y1) (a0, a1)
        unfold spv at hc54
        dsimp only at hc54
        rw [decide_eq_true HIN.out] at hc54
        have HC54 := Lib.hid hc54
        clear hc54
        go_wp2_with fail
        refine (HC54.out _).mono ?_
        rintro e w9 ⟨rfl, hb⟩
        have HB := Lib.hid hb
        clear hb
        go_wp2_with fail
        go_meet
        case rel => exact ⟨rfl, HB.out⟩
      · have b0 : (ye == 0) = false := by simpa using hye
        go_wp2_with fail
        go_meet
        case rel => exact ⟨rfl, Below.refl _ _⟩
    case rest =>
      obtain ⟨hc1, hbc⟩ := hcut
      subst hc1
      have HBc := Lib.hid (HB9.out.trans (hbc.mono HB9.out.size))
      have HT9 := Lib.hid (HT8.out.keep hbc)
      have hz9 := hbc.size
      have hz8 := HT8.out.lt
      clear hbc HM1b HY
      obtain ⟨s, hs⟩ : ∃ s, s = min 1000000 (r + q) := ⟨_, rfl⟩
      have hrs : r ≤ s := by omega
      have vq : wrap64 q = q := wrap64_id (by omega) (by omega)
      have vrq : wrap64 (r + q) = r + q := wrap64_id (by omega) (by omega)
      have HS2 := Lib.hid (show min 1000000 (r + q) = s from hs.symm)
      obtain ⟨k0, k1, k2, j0, j1, j2, j3, j4, j5, j6, j7⟩ := KK.out _ (HUA.out _ HBc.out)
      go_upto_region 12 with fail
      obtain ⟨V11, hV⟩ : ∃ V, V = wc.alloc (.cells #[.int .i64 p, .int .i64 r, .slice (some ad) xs.length cap] 28) := ⟨_, rfl⟩
      try rw [← hV]
      have hbV : Below wc.heap.size wc V11 := by rw [hV]; exact (Below.refl _ _).alloc (Nat.le_refl _) _
      have HF11 := Lib.hid (show V11.heap[wc.heap.size]? = some (.cells #[.int .i64 p, .int .i64 r, .slice (some ad) xs.length cap] 28 (0, 0)) by rw [hV]; exact World.alloc_heap_new _ _)
      have HB11 := Lib.hid (HBc.out.trans (hbV.mono HBc.out.size))
      have HT11 := Lib.hid (HT9.out.keep hbV)
      clear hV hbV k0 k1 k2 j0 j1 j2 j3 j4 j5 j6 j7
      obtain ⟨k0, k1, k2, j0, j1, j2, j3, j4, j5, j6, j7⟩ := KK.out _ (HUA.out _ HB11.out)
      have f0 : V11.cell? ⟨wc.heap.size, 0, none⟩ = some (.int .i64 p) := cellH HF11.out 0
      have f1 : V11.cell? ⟨wc.heap.size, 1, none⟩ = some (.int .i64 r) := cellH HF11.out 1
      have f2 : V11.cell? ⟨wc.heap.size, 2, none⟩ = some (.slice (some ad) xs.length cap) := cellH HF11.out 2
      have ff := frozH HF11.out 1
      go_upto_region 13 with fail
      obtain ⟨V12, hV⟩ : ∃ V, V = V11.setCell ⟨wc.heap.size, 1, none⟩ (.int .i64 (min 1000000 (r + q))) := ⟨_, rfl⟩
      try rw [← hV]
      rw [HS2.out] at hV
      have hwc3 : V3.heap.size ≤ wc.heap.size := HBc.out.size
      have HB12 := Lib.hid (show Below V3.heap.size V3 V12 by rw [hV]; exact HB11.out.setCell (p := ⟨wc.heap.size, 1, none⟩) hwc3 _)
      have HF12 := Lib.hid (show V12.heap[wc.heap.size]? = some (.cells #[.int .i64 p, .int .i64 s, .slice (some ad) xs.length cap] 28 (0, 0)) by rw [hV]; simp [World.setCell, Array.getElem?_modify, HF11.out])
      have HT12 := Lib.hid (show Bx2 V12 w8.heap.size (.int .i64 y0) (.int .i64 y1) by rw [hV]; exact HT11.out.far (by omega))
      clear hV f0 f1 f2 ff vq vrq HS2 hs k0 k1 k2 j0 j1 j2 j3 j4 j5 j6 j7
      have c24f := Lib.hid (c24.out p s (.slice (some ad) xs.length cap) xs _ (HXX.out _ HB12.out))
      obtain ⟨zy, hzy⟩ : ∃ z, z = atR p s xs t := ⟨_, rfl⟩
      rw [← hzy] at c24f
      have HM2b := Lib.hid (HM2.out s hrs)
      have HY := Lib.hid hzy
      obtain ⟨z0, z1, ze⟩ := zy
      unfold R3.out at c24f
      dsimp only at c24f
      clear hzy hrs
      have f0 : V12.cell? ⟨wc.heap.size, 0, none⟩ = some (.int .i64 p) := cellH HF12.out 0
      have f1 : V12.cell? ⟨wc.heap.size, 1, none⟩ = some (.int .i64 s) := cellH HF12.out 1
      have f2 : V12.cell? ⟨wc.heap.size, 2, none⟩ = some (.slice (some ad) xs.length cap) := cellH HF12.out 2
      go_wp2_with fail
      refine c24f.out.mono ?_
      rintro e w13 ⟨rfl, hb⟩
      have HB13 := Lib.hid (HB12.out.trans (hb.mono HB12.out.size))
      have hT13 := HT12.out.keep hb
      have HT13 := Lib.hid hT13
      have g0 := hT13.c0
      have g1 := hT13.c1
      have gf0 := hT13.f0 0
      have gf1 := hT13.f0 1
      clear hb f0 f1 f2 c24f hT13 HF11 HF12
      go_upto_region 14 with fail
      obtain ⟨V13, hV⟩ : ∃ V, V = (w13.setCell ⟨w8.heap.size, 0, none⟩ (.int .i64 z0)).setCell ⟨w8.heap.size, 1, none⟩ (.int .i64 z1) := ⟨_, rfl⟩
      try rw [← hV]
      have HB14 := Lib.hid (show Below V3.heap.size V3 V13 by rw [hV]; exact (HB13.out.setCell (p := ⟨w8.heap.size, 0, none⟩) HT3 _).setCell (p := ⟨w8.heap.size, 1, none⟩) HT3 _)
      have HT14 := Lib.hid (show Bx2 V13 w8.heap.size (.int .i64 z0) (.int .i64 z1) by rw [hV]; exact HT13.out.set _ _)
      clear hV g0 g1 gf0 gf1
      go_cut [81] from 74 to 81 (fun sc wc2 => sc = Value.bool false ∧ Below V13.heap.size V13 wc2)
      case first =>
        by_cases hye : ze = 0
        · have b0 : (ze == 0) = true := by rw [hye]; rfl
          subst hye
          have HIN := Lib.hid (HM2b.out z0 z1 HY.out.symm)
          have g0 := (HAW.out _ HB14.out).c0
          have g1 := (HAW.out _ HB14.out).c1
          have g2 := HT14.out.c0
          have g3 := HT14.out.c1
          have hc54 := c54.out (a0, a1) (z0, z1)
          unfold spv at hc54
          dsimp only at hc54
          rw [decide_eq_true HIN.out] at hc54
          have HC54 := Lib.hid hc54
          clear hc54
          go_wp2_with fail
          refine (HC54.out _).mono ?_
          rintro e w9 ⟨rfl, hb⟩
          have HB := Lib.hid hb
          clear hb
          go_wp2_with fail
          go_meet
          case rel => exact ⟨rfl, HB.out⟩
        · have b0 : (ze == 0) = false := by simpa using hye
          go_wp2_with fail
          go_meet
          case rel => exact ⟨rfl, Below.refl _ _⟩
      case rest =>
        obtain ⟨hc1, hbc⟩ := hcut
        subst hc1
        have HBd := Lib.hid (HB14.out.trans (hbc.mono HB14.out.size))
        have HT15 := Lib.hid (HT14.out.keep hbc)
        have hzd := hbc.size
        have hT14l := HT14.out.lt
        clear hbc HM2b HY HB14 HT14
        obtain ⟨k0, k1, k2, j0, j1, j2, j3, j4, j5, j6, j7⟩ := KK.out _ (HUA.out _ HBd.out)
        go_upto_region 17 with fail
        obtain ⟨V16, hV⟩ : ∃ V, V = wc.alloc (.cells #[.int .i64 p, .int .i64 r, .slice (some ad) xs.length cap] 28) := ⟨_, rfl⟩
        try rw [← hV]
        have hbV : Below wc.heap.size wc V16 := by rw [hV]; exact (Below.refl _ _).alloc (Nat.le_refl _) _
        have HG16 := Lib.hid (show V16.heap[wc.heap.size]? = some (.cells #[.int .i64 p, .int .i64 r, .slice (some ad) xs.length cap] 28 (0, 0)) by rw [hV]; exact World.alloc_heap_new _ _)
        have hG16 : wc.heap.size < V16.heap.size := (Array.getElem?_eq_some_iff.1 HG16.out).1
        have HC16 := Lib.hid hbV
        have hwd3 : V3.heap.size ≤ wc.heap.size := HBd.out.size
        have HW3 := Lib.hid (show ∀ W, Below wc.heap.size wc W → Below V3.heap.size V3 W from fun W h => HBd.out.trans (h.mono hwd3))
        have HKG := Lib.hid (show ∀ W, Below V16.heap.size V16 W → KnAt W wc.heap.size p r (.slice (some ad) xs.length cap) from fun W h => KnAt.keep ⟨hG16, cellH HG16.out 0, cellH HG16.out 1, cellH HG16.out 2, frozH HG16.out 2⟩ h)
        clear hV hbV k0 k1 k2 j0 j1 j2 j3 j4 j5 j6 j7
        have HA17 := Lib.hid (show Below V16.heap.size V16 (V16.alloc (.cells #[] 25)) from (Below.refl _ _).alloc (Nat.le_refl _) _)
        have HC17 := Lib.hid (show Below wc.heap.size wc (V16.alloc (.cells #[] 25)) from HC16.out.alloc HC16.out.size _)
        have NX := Lib.hid (HXX.out _ (HW3.out _ HC17.out)).news
        obtain ⟨k0, k1, k2, j0, j1, j2, j3, j4, j5, j6, j7⟩ := KK.out _ (HUA.out _ (HW3.out _ HC17.out))
        iterate 10 go_step
        refine wpList_append_own _ rfl _ _ 26 rfl V16.heap.size 25 i0 (.agg #[.int .i64 0, .int .i64 0, .int .i64 0, .int .i64 0, .int .i64 0, .int .i64 0, .int .i64 0, .int .i64 0]) 8 64 Try.underlying26 hi0 hz0 hz1 hz2' rfl (by decide) _ _ _ rfl (own_empty V16) ad xs.length cap (flatX xs) rfl (flatX_len xs) NX (flatX_one xs) (by unfold maxLen; omega) (by omega) HA17.out.size ?_
        intro v' w17 hrow' hgrow _
        have HE17 := Lib.hid (show Below V16.heap.size V16 w17 from HA17.out.grown hgrow HA17.out.size (fun j hj => ((own_empty V16).lt j hj).1))
        rw [Nat.zero_add, List.nil_append] at hrow'
        obtain ⟨g, cg, hvg, hg1, hg2, -⟩ := own_some hrow' hl1
        subst hvg
        have HROW17 := Lib.hid hrow'
        have hkg := HKG.out _ HE17.out
        have HKG17 := Lib.hid hkg
        obtain ⟨-, kg0, kg1, kg2, kgf⟩ := hkg
        clear hrow' hgrow NX HA17 HC17 HKG k0 k1 k2 j0 j1 j2 j3 j4 j5 j6 j7
        go_upto_region 18 with fail
        obtain ⟨V18, hV⟩ : ∃ V, V = w17.setCell ⟨wc.heap.size, 2, none⟩ (.slice (some ⟨g, 0, none⟩) xs.length cg) := ⟨_, rfl⟩
        try simp only [Nat.zero_add]
        try rw [← hV]
        have HK18 := Lib.hid (show KnAt V18 wc.heap.size p r (.slice (some ⟨g, 0, none⟩) xs.length cg) by rw [hV]; exact HKG17.out.set _)
        have HROW18 := Lib.hid (show V18.ownsRow V16.heap.size 25 8 (.slice (some ⟨g, 0, none⟩) xs.length cg) xs.length (flatX xs) by rw [hV]; exact own_set HROW17.out wc.heap.size 2 _ hG16)
        have HB18 := Lib.hid (show Below wc.heap.size wc V18 by rw [hV]; exact (HC16.out.trans (HE17.out.mono HC16.out.size)).setCell (p := ⟨wc.heap.size, 2, none⟩) (Nat.le_refl _) _)
        clear hV kg0 kg1 kg2 kgf HROW17 HKG17 HE17 hg2
        have HMS := Lib.hid (fun k => show mxX wd xs (k + 1) = (mxX wd xs k).set k (wdX wd (xc xs k)) from rfl)
        have HML := Lib.hid (fun k => mxX_len wd xs k)
        have HMG := Lib.hid (fun k (hk : k < xs.length) => show xc (mxX wd xs k) k = xc xs k from by rw [mxX_get wd xs k k hk, if_neg (by omega)])
        have HME := Lib.hid (mxX_end wd xs)
        have HM0 := Lib.hid (show mxX wd xs 0 = xs from rfl)
        have HFS := Lib.hid (fun k (hk : k < xs.length) => flatX_set (mxX wd xs k) k (max 0 ((xc xs k).fLo - wd)) (min 1073741824 ((xc xs k).fHi + wd)) (max 0 ((xc xs k).hLo - wd)) (min 1073741824 ((xc xs k).hHi + wd)) (by rw [mxX_len]; exact hk))
        go_wp2_with fail
        go_loopw [17] (fun iv wq => ∃ k : Nat, k ≤ xs.length ∧ iv = .int .i64 k ∧ KnAt wq wc.heap.size p r (.slice (some ⟨g, 0, none⟩) xs.length cg) ∧ wq.ownsRow V16.heap.size 25 8 (.slice (some ⟨g, 0, none⟩) xs.length cg) xs.length (flatX (mxX wd xs k)) ∧ Below wc.heap.size wc wq) (fun iv _ => xs.length - (intOf iv).toNat)
        case atStart => exact ⟨0, Nat.zero_le _, rfl, HK18.out, by rw [HM0.out]; exact HROW18.out, HB18.out⟩
        case round =>
          obtain ⟨k, hk, rfl, hkn, hrow, hB⟩ := hrel
          have HKN := Lib.hid hkn
          have HROW := Lib.hid hrow
          have HB := Lib.hid hB
          obtain ⟨-, -, -, kg2, -⟩ := hkn
          by_cases hlt : k < xs.length
          · have hki : (k : Int) < (xs.length : Int) := by omega
            obtain ⟨ha1, ha2, ha3, ha4⟩ := HOKX.out k hlt
            obtain ⟨ar, cr, er, -, hcr⟩ := xcs_of_owns (xs := mxX wd xs k) (base := V16.heap.size) (by rw [HML.out]; exact hrow)
            obtain ⟨b, off, hab, -, m0, m1, m2, m3, m4, m5, m6, m7⟩ := hcr k (by rw [HML.out]; exact hlt)
            have ex : (⟨g, 0, none⟩ : Addr) = ⟨b, off, none⟩ := by
              simp only [Value.slice.injEq] at er
              rw [hab] at er
              exact Option.some.inj er.1
            simp only [Addr.mk.injEq, and_true] at ex
            obtain ⟨rfl, rfl⟩ := ex
            rw [HMG.out k hlt] at m0 m1 m2 m3 m4 m5 m6 m7
            simp only [Nat.zero_add] at m0 m1 m2 m3 m4 m5 m6 m7
            have HFSk := Lib.hid (HFS.out k hlt)
            have HMSk := Lib.hid (HMS.out k)
            have HWD := Lib.hid (show wdX wd (xc xs k) = ⟨(xc xs k).se, (xc xs k).he, (xc xs k).an, (xc xs k).ba, max 0 ((xc xs k).fLo - wd), min 1073741824 ((xc xs k).fHi + wd), max 0 ((xc xs k).hLo - wd), min 1073741824 ((xc xs k).hHi + wd)⟩ from rfl)
            have HMGk := Lib.hid (HMG.out k hlt)
            clear hrow hB hcr hab er ha1 ha2
            generalize hy : xc xs k = y at *
            clear hy
            obtain ⟨y0, y1, y2, y3, y4, y5, y6, y7⟩ := y
            dsimp only at *
            have w0 : wrap64 wd = wd := wrap64_id (by omega) (by omega)
            have w1 : wrap64 (y4 - wd) = y4 - wd := wrap64_id (by omega) (by omega)
            have w2 : wrap64 (y5 + wd) = y5 + wd := wrap64_id (by omega) (by omega)
            have w3 : wrap64 (y6 - wd) = y6 - wd := wrap64_id (by omega) (by omega)
            have w4 : wrap64 (y7 + wd) = y7 + wd := wrap64_id (by omega) (by omega)
            clear ha3 ha4
            go_upto_region 22 with fail
            obtain ⟨V21, hV⟩ : ∃ V, V = wr.alloc (.cells #[.int .i64 y0, .int .i64 y1, .int .i64 y2, .int .i64 y3, .int .i64 y4, .int .i64 y5, .int .i64 y6, .int .i64 y7] 25) := ⟨_, rfl⟩
            try rw [← hV]
            have hbV : Below wr.heap.size wr V21 := by rw [hV]; exact (Below.refl _ _).alloc (Nat.le_refl _) _
            have hE := show V21.heap[wr.heap.size]? = some (.cells #[.int .i64 y0, .int .i64 y1, .int .i64 y2, .int .i64 y3, .int .i64 y4, .int .i64 y5, .int .i64 y6, .int .i64 y7] 25 (0, 0)) by rw [hV]; exact World.alloc_heap_new _ _
            have HK21 := Lib.hid (HKN.out.keep hbV)
            have HROW21 := Lib.hid (own_below HROW.out hbV)
            have HB21 := Lib.hid (HB.out.trans (hbV.mono HB.out.size))
            have hgw : g < wr.heap.size := (HROW.out.lt g rfl).2
            have hge : g ≠ wr.heap.size := by omega
            have n4 := (hbV.cell (p := ⟨g, k * 8 + 4, none⟩) hgw).trans m4
            have n5 := (hbV.cell (p := ⟨g, k * 8 + 5, none⟩) hgw).trans m5
            have n6 := (hbV.cell (p := ⟨g, k * 8 + 6, none⟩) hgw).trans m6
            have n7 := (hbV.cell (p := ⟨g, k * 8 + 7, none⟩) hgw).trans m7
            have f4 := own_froz HROW21.out hl1 (k * 8 + 4)
            have f5 := own_froz HROW21.out hl1 (k * 8 + 5)
            have f6 := own_froz HROW21.out hl1 (k * 8 + 6)
            have f7 := own_froz HROW21.out hl1 (k * 8 + 7)
            have e4 : V21.cell? ⟨wr.heap.size, 4, none⟩ = some (.int .i64 y4) := cellH hE 4
            have e5 : V21.cell? ⟨wr.heap.size, 5, none⟩ = some (.int .i64 y5) := cellH hE 5
            have e6 : V21.cell? ⟨wr.heap.size, 6, none⟩ = some (.int .i64 y6) := cellH hE 6
            have e7 : V21.cell? ⟨wr.heap.size, 7, none⟩ = some (.int .i64 y7) := cellH hE 7
            have hk21 := HK21.out
            obtain ⟨-, -, -, kk2, -⟩ := hk21
            clear hV hbV hE m0 m1 m2 m3 m4 m5 m6 m7 kg2
            go_upto_region 23 with fail
            obtain ⟨V22, hV⟩ : ∃ V, V = (V21.setCell ⟨g, k * 8 + 4, none⟩ (.int .i64 (max 0 (y4 - wd)))).setCell ⟨g, k * 8 + 5, none⟩ (.int .i64 (min 1073741824 (y5 + wd))) := ⟨_, rfl⟩
            try rw [← hV]
            have HB22 := Lib.hid (show Below V16.heap.size V21 V22 by rw [hV]; exact ((Below.refl _ _).setCell (p := ⟨g, k * 8 + 4, none⟩) hg1 _).setCell (p := ⟨g, k * 8 + 5, none⟩) hg1 _)
            have HROW22 := Lib.hid (show V22.ownsRow V16.heap.size 25 8 (.slice (some ⟨g, 0, none⟩) xs.length cg) xs.length (((flatX (mxX wd xs k)).set (k * 8 + 4) (.int .i64 (max 0 (y4 - wd)))).set (k * 8 + 5) (.int .i64 (min 1073741824 (y5 + wd)))) by rw [hV]; exact own_cell (own_cell HROW21.out rfl _) rfl _)
            have hsz22 : V22.heap.size = V21.heap.size := by rw [hV]; simp
            have far : ∀ o, o ≠ k * 8 + 4 → o ≠ k * 8 + 5 → V22.cell? ⟨g, o, none⟩ = V21.cell? ⟨g, o, none⟩ := fun o h4 h5 => by
              rw [hV]
              exact (World.cell?_setCell_other _ _ _ _ (by intro e; exact h5 (Addr.mk.inj e).2.1.symm)).trans (World.cell?_setCell_other _ _ _ _ (by intro e; exact h4 (Addr.mk.inj e).2.1.symm))
            have far2 : ∀ o, V22.cell? ⟨wr.heap.size, o, none⟩ = V21.cell? ⟨wr.heap.size, o, none⟩ := fun o => by
              rw [hV]
              exact (World.cell?_setCell_other _ _ _ _ (by intro e; exact hge (Addr.mk.inj e).1)).trans (World.cell?_setCell_other _ _ _ _ (by intro e; exact hge (Addr.mk.inj e).1))
            have HK22 := Lib.hid (HK21.out.same (by omega) (HB22.out.block _ hG16))
            have n6' := (far (k * 8 + 6) (by omega) (by omega)).trans n6
            have n7' := (far (k * 8 + 7) (by omega) (by omega)).trans n7
            have f6' := own_froz HROW22.out hl1 (k * 8 + 6)
            have f7' := own_froz HROW22.out hl1 (k * 8 + 7)
            have e6' := (far2 6).trans e6
            have e7' := (far2 7).trans e7
            have hk22 := HK22.out
            obtain ⟨-, -, -, kk2', -⟩ := hk22
            have HSZ := Lib.hid hsz22
            clear hV n4 n5 n6 n7 f4 f5 f6 f7 e4 e5 e6 e7 kk2 far far2 hsz22
            go_upto_region 20 with fail
            obtain ⟨V23, hV⟩ : ∃ V, V = (V22.setCell ⟨g, k * 8 + 6, none⟩ (.int .i64 (max 0 (y6 - wd)))).setCell ⟨g, k * 8 + 7, none⟩ (.int .i64 (min 1073741824 (y7 + wd))) := ⟨_, rfl⟩
            try rw [← hV]
            have HB23 := Lib.hid (show Below V16.heap.size V22 V23 by rw [hV]; exact ((Below.refl _ _).setCell (p := ⟨g, k * 8 + 6, none⟩) hg1 _).setCell (p := ⟨g, k * 8 + 7, none⟩) hg1 _)
            have HROW23 := Lib.hid (show V23.ownsRow V16.heap.size 25 8 (.slice (some ⟨g, 0, none⟩) xs.length cg) xs.length (((((flatX (mxX wd xs k)).set (k * 8 + 4) (.int .i64 (max 0 (y4 - wd)))).set (k * 8 + 5) (.int .i64 (min 1073741824 (y5 + wd)))).set (k * 8 + 6) (.int .i64 (max 0 (y6 - wd)))).set (k * 8 + 7) (.int .i64 (min 1073741824 (y7 + wd)))) by rw [hV]; exact own_cell (own_cell HROW22.out rfl _) rfl _)
            have hsz23 : V23.heap.size = V22.heap.size := by rw [hV]; simp
            have HK23 := Lib.hid (HK22.out.same (by omega) (HB23.out.block _ hG16))
            have HBN := Lib.hid (show Below wc.heap.size wc V23 from HB21.out.trans ((HB22.out.trans HB23.out).mono (by omega)))
            clear hV n6' n7' f6' f7' e6' e7' kk2' hsz23
            go_wp2_with fail
            go_roundw
            case rel => exact ⟨k + 1, by omega, by go_num, HK23.out, by rw [HMSk.out, HWD.out]; have q := HFSk.out; rw [HMGk.out] at q; rw [← q]; exact HROW23.out, HBN.out⟩
            case measure => simp [intOf]; omega
          · have hke : k = xs.length := by omega
            subst hke
            have HROWE := Lib.hid (show wr.ownsRow V16.heap.size 25 8 (.slice (some ⟨g, 0, none⟩) xs.length cg) xs.length (flatX (xs.map (wdX wd))) from by rw [← HME.out]; exact HROW.out)
            have HXE := Lib.hid (show Xcs wr.heap.size wr (.slice (some ⟨g, 0, none⟩) xs.length cg) (xs.map (wdX wd)) from xcs_of_owns (base := V16.heap.size) (by rw [List.length_map]; exact HROWE.out))
            have c24g := Lib.hid (c24.out p r (.slice (some ⟨g, 0, none⟩) xs.length cg) (xs.map (wdX wd)) wr HXE.out)
            obtain ⟨zy, hzy⟩ : ∃ z, z = atR p r (xs.map (wdX wd)) t := ⟨_, rfl⟩
            rw [← hzy] at c24g
            have HM3b := Lib.hid (HM3.out wd hwd.1)
            have HY := Lib.hid hzy
            obtain ⟨b0', b1', be⟩ := zy
            unfold R3.out at c24g
            dsimp only at c24g
            have hkn2 := HKN.out
            obtain ⟨-, q0, q1, q2, -⟩ := hkn2
            have HB25 := Lib.hid (HW3.out _ HB.out)
            have HT16 := Lib.hid (HT15.out.keep HB.out)
            clear hzy hrow hB kg2 HMS HML HMG HME HM0 HFS HROWE HXE HM3 HM2 HM1 HOKX c24 HXX HXG
            generalize xs.map (wdX wd) = xm at *
            generalize xs.length = n at *
            go_wp2_with fail
            refine c24g.out.mono ?_
            rintro e w24 ⟨rfl, hb⟩
            have HB24 := Lib.hid (HB25.out.trans (hb.mono HB25.out.size))
            have hT13 := HT16.out.keep hb
            have HT17 := Lib.hid hT13
            have g0 := hT13.c0
            have g1 := hT13.c1
            have gf0 := hT13.f0 0
            have gf1 := hT13.f0 1
            clear hb c24g hT13 q0 q1 q2
            go_upto_region 25 with fail
            obtain ⟨V24, hV⟩ : ∃ V, V = (w24.setCell ⟨w8.heap.size, 0, none⟩ (.int .i64 b0')).setCell ⟨w8.heap.size, 1, none⟩ (.int .i64 b1') := ⟨_, rfl⟩
            try rw [← hV]
            have HBL := Lib.hid (show Below V3.heap.size V3 V24 by rw [hV]; exact (HB24.out.setCell (p := ⟨w8.heap.size, 0, none⟩) HT3 _).setCell (p := ⟨w8.heap.size, 1, none⟩) HT3 _)
            have HTL := Lib.hid (show Bx2 V24 w8.heap.size (.int .i64 b0') (.int .i64 b1') by rw [hV]; exact HT17.out.set _ _)
            clear hV g0 g1 gf0 gf1
            by_cases hye : be = 0
            · have b0 : (be != 0) = false := by rw [hye]; rfl
              subst hye
              have HIN := Lib.hid (HM3b.out b0' b1' HY.out.symm)
              have g0 := (HAW.out _ HBL.out).c0
              have g1 := (HAW.out _ HBL.out).c1
              have g2 := HTL.out.c0
              have g3 := HTL.out.c1
              have hc54 := c54.out (a0, a1) (b0', b1')
              unfold spv at hc54
              dsimp only at hc54
              rw [decide_eq_true HIN.out] at hc54
              have HC54 := Lib.hid hc54
              clear hc54
              go_wp2_with fail
              refine (HC54.out _).mono ?_
              rintro e w9 ⟨rfl, hb⟩
              have HBM := Lib.hid (HBL.out.trans (hb.mono HBL.out.size))
              clear hb
              go_wp2_with fail
              refine (c21 _).mono ?_
              rintro e wz ⟨rfl, hbz⟩
              have HBZ := Lib.hid (HBM.out.trans (hbz.mono HBM.out.size))
              clear hbz
              go_wp2_with fail
              go_ret
              exact ⟨rfl, HUP.out _ (HUA.out _ HBZ.out)⟩
            · have b0 : (be != 0) = true := by simpa using hye
              go_wp2_with fail
              refine (c21 _).mono ?_
              rintro e wz ⟨rfl, hbz⟩
              have HBZ := Lib.hid (HBL.out.trans (hbz.mono HBL.out.size))
              clear hbz
              go_wp2_with fail
              go_ret
              exact ⟨rfl, HUP.out _ (HUA.out _ HBZ.out)⟩
end Go.Proofs.Ytcchmjbedppfnaa

/-
  Clock: the walk of ClockDue.
-/
import Derived.Test.YtcchmjbedppfnaaMonMath
namespace Go.Proofs.Ytcchmjbedppfnaa
open Go.RowKit Go.Shelf
set_option linter.unusedSimpArgs false
theorem wrap64_id {x : Int} (h : -9223372036854775808 ≤ x) (h2 : x ≤ 9223372036854775807) : wrap64 x = x := by unfold wrap64; omega
/-- how wide an offset is -/
def wid (r : Int) (os : List Of) (t : Int) : Int := (atS r t os).2 - (atS r t os).1
theorem lrnE_ne15 (p r : Int) (xs : List Xc) : lrnE p r xs ≠ 15 := by
  unfold lrnE
  split
  · decide
  split
  · decide
  split
  · decide
  split
  · decide
  split <;> decide
theorem lstX_all {p r : Int} {xs : List Xc} (h : lrnE p r xs = 0) : lstX xs xs.length = lstA (ofA r xs) := by
  obtain ⟨⟨h1, h2⟩, -, h3, h4⟩ := lrnE_ok h
  have e := (lstX_of (r := r) (xs := xs) (fun k hk => by
    have q := ((xcB_iff _).1 (okX_get (h4 k hk)).2.2.1)
    omega) xs.length (Nat.le_refl _) h1).2 h1
  rw [e]
  unfold lstA
  rw [show (ofA r xs).length = xs.length from ofTo_len r xs _]
/-- what Due returns, once more -/
theorem due_cases {p r limit m f : Int} {xs : List Xc} (h : DueP p r xs limit m f) :
    (m = 0 ∧ f ≠ 0 ∧ f ≠ 15) ∨ ((lrnE p r xs = 0 ∧ sdB r (ofA r xs) = true ∧ 0 ≤ lstX xs xs.length) ∧ ((f = 15 ∧ m = 0 ∧ wid r (ofA r xs) 1125899906842624 ≤ limit) ∨
      (f = 0 ∧ lstX xs xs.length ≤ m ∧ m ≤ 1125899906842624 ∧ limit < wid r (ofA r xs) m ∧ (m = lstX xs xs.length ∨ ∀ n, lstX xs xs.length ≤ n → n ≤ m - 1 → wid r (ofA r xs) n ≤ limit)))) := by
  have h5 := lrnE_ne5 p r xs
  have h15 := lrnE_ne15 p r xs
  have hnn : ∀ k, 0 ≤ lstX xs k := fun k => by
    induction k with
    | zero => exact Int.le_refl _
    | succ k ih => show 0 ≤ max (lstX xs k) (xc xs k).ba; omega
  rcases h with ⟨h, rfl, rfl⟩ | ⟨h0, ⟨h, rfl, rfl⟩ | ⟨-, ⟨h, rfl, rfl⟩ | ⟨hs, ⟨h, rfl, rfl⟩ | ⟨h1, h2, h3, h4, rfl⟩⟩⟩⟩
  · exact .inl ⟨rfl, h, h15⟩
  · exact .inl ⟨rfl, by decide, by decide⟩
  · exact .inl ⟨rfl, by decide, by decide⟩
  · refine .inr ⟨⟨h0, hs, hnn _⟩, .inl ⟨rfl, rfl, ?_⟩⟩
    have := of_decide_eq_false h
    unfold wid
    omega
  · refine .inr ⟨⟨h0, hs, hnn _⟩, .inr ⟨rfl, by rw [lstX_all h0]; exact h1, h2, of_decide_eq_true h3, ?_⟩⟩
    rw [lstX_all h0]
    rcases h4 with h4 | h4
    · exact .inl h4
    · refine .inr fun n a b => ?_
      by_cases q : limit < wid r (ofA r xs) n
      · have := wd_mono (r := r) (l := limit) (s := n) (t := m - 1) (os := ofA r xs) (valid_of h0).1.1 a b (decide_eq_true q)
        rw [this] at h4
        exact absurd h4 (by decide)
      · omega
/-- the part of the readings between -/
theorem part_bd {D q : Int} (hD : 0 ≤ D) (hq : 0 ≤ q ∧ q ≤ 65535) : (0 ≤ D / 65536 * q ∧ 0 ≤ D % 65536 * q ∧ D % 65536 * q ≤ 65535 * 65535) ∧ 0 ≤ D % 65536 * q / 65535 ∧ D / 65536 * q + D % 65536 * q / 65535 ≤ D := by
  have a1 : 0 ≤ D / 65536 := by omega
  have a2 : 0 ≤ D % 65536 ∧ D % 65536 ≤ 65535 := by omega
  have b1 := Int.mul_le_mul_of_nonneg_left hq.2 a1
  have b2 := Int.mul_le_mul_of_nonneg_left hq.2 a2.1
  have c1 := Int.mul_nonneg a1 hq.1
  have c2 := Int.mul_nonneg a2.1 hq.1
  generalize D / 65536 * q = u at *
  generalize D % 65536 * q = v at *
  omega
set_option maxRecDepth 100000 in
set_option maxHeartbeats 8000000 in
theorem law_due (p r limit q : Int) (hq : 0 ≤ q ∧ q ≤ 65535) (sv : Value) (xs : List Xc) (w : World) (hX : Xcs w.heap.size w sv xs) :
    Calls Try.prog 12 #[.agg #[.int .i64 p, .int .i64 r, sv], .int .i64 limit, .int .u16 q] w fun e w' => e = .returned (.bool true) ∧ Below w.heap.size w w' := by
  have c20 := Lib.hid (fun W (hb : Below w.heap.size w W) => long_any p r sv xs W (hX.at hb))
  have c21 := fun W => works_any W
  have c32 := Lib.hid (fun W (hb : Below w.heap.size w W) => due_any p r limit sv xs W (hX.at hb))
  have c24 := Lib.hid (fun t W (hb : Below w.heap.size w W) => at24_any p r t sv xs W (hX.at hb))
  have HXC := Lib.hid (fun W (hb : Below w.heap.size w W) => hX.at hb)
  obtain ⟨a, cap, hsv⟩ := hX.form
  subst hsv
  have HAT := Lib.hid (show lrnE p r xs = 0 → sdB r (ofA r xs) = true → ∀ t, 0 ≤ t ∧ t ≤ 1125899906842624 → ∃ x y, atR p r xs t = ⟨x, y, 0⟩ ∧ y - x = wid r (ofA r xs) t ∧ (-10000000000000 ≤ x ∧ x ≤ 10000000000000) ∧ (-10000000000000 ≤ y ∧ y ≤ 10000000000000) from fun h0 hs t ht => by
    have hb := atS_bd (valid_of h0) (by have := (lrnE_ok h0).1.1; show 1 ≤ (ofTo r xs xs.length).length; rw [ofTo_len]; exact this) (t := t) (by omega)
    refine ⟨(atS r t (ofA r xs)).1, (atS r t (ofA r xs)).2, ?_, rfl, hb.1, hb.2⟩
    unfold atR
    rw [if_pos h0, if_pos ((tmB_iff t).2 ht), if_pos hs])
  have HDC := Lib.hid (fun (m f : Int) (h : DueP p r xs limit m f) => due_cases h)
  have HL0 := Lib.hid (show lstX xs 0 = 0 from rfl)
  have HLS := Lib.hid (fun k => show lstX xs (k + 1) = max (lstX xs k) (xc xs k).ba from rfl)
  unfold R3.out at c24
  obtain ⟨A, hA⟩ : ∃ A, A = w.alloc (.cells #[.int .i64 p, .int .i64 r, .slice a xs.length cap] 28) := ⟨_, rfl⟩
  have hzA : A.heap.size = w.heap.size + 1 := by rw [hA]; simp
  have HBA := Lib.hid (show Below w.heap.size w A by rw [hA]; exact (Below.refl _ _).alloc (Nat.le_refl _) _)
  have k0 : A.cell? ⟨w.heap.size, 0, none⟩ = some (.int .i64 p) := by rw [hA]; simp [go_sem]
  have k1 : A.cell? ⟨w.heap.size, 1, none⟩ = some (.int .i64 r) := by rw [hA]; simp [go_sem]
  have k2 : A.cell? ⟨w.heap.size, 2, none⟩ = some (.slice a xs.length cap) := by rw [hA]; simp [go_sem]
  have KK := Lib.hid (show ∀ W, Below A.heap.size A W → W.cell? ⟨w.heap.size, 0, none⟩ = some (.int .i64 p) ∧ W.cell? ⟨w.heap.size, 1, none⟩ = some (.int .i64 r) ∧ W.cell? ⟨w.heap.size, 2, none⟩ = some (.slice a xs.length cap) from fun W h => ⟨(h.cell (p := ⟨w.heap.size, 0, none⟩) (by show w.heap.size < A.heap.size; omega)).trans k0, (h.cell (p := ⟨w.heap.size, 1, none⟩) (by show w.heap.size < A.heap.size; omega)).trans k1, (h.cell (p := ⟨w.heap.size, 2, none⟩) (by show w.heap.size < A.heap.size; omega)).trans k2⟩)
  have HUP := Lib.hid (show ∀ W, Below A.heap.size A W → Below w.heap.size w W from fun W h => HBA.out.trans (h.mono HBA.out.size))
  have HZA := Lib.hid (show w.heap.size < A.heap.size by omega)
  clear k0 k1 k2 hzA hX
  have hfin : ∀ b, lngB xs.length = b → (b = true ∨ (12 : Int) < (xs.length : Int)) → Calls Try.prog 12 #[.agg #[.int .i64 p, .int .i64 r, .slice a xs.length cap], .int .i64 limit, .int .u16 q] w fun e w' => e = .returned (.bool true) ∧ Below w.heap.size w w' := by
    intro b hb hor
    clear c32 c24 HAT HDC HL0 HLS HXC
    rw [hb] at c20
    clear hb
    generalize xs.length = len at *
    cases b
    · have q1 : (12 : Int) < (len : Int) := by rcases hor with h | h; exact absurd h (by decide); exact h
      go_enter Try.func12, Try.ntmps12
      go_wp2_with fail
      try rw [← hA]
      clear hA
      refine (c20.out _ HBA.out).mono ?_
      rintro e w1 ⟨rfl, hb1⟩
      have HB1 := Lib.hid hb1
      obtain ⟨g0, g1, g2⟩ := KK.out _ hb1
      clear hb1
      go_wp2_with fail
      refine (c21 _).mono ?_
      rintro e wz ⟨rfl, hbz⟩
      have HBZ := Lib.hid (show Below A.heap.size A wz from HB1.out.trans (hbz.mono HB1.out.size))
      clear hbz
      go_wp2_with fail
      go_ret
      exact ⟨rfl, HUP.out _ HBZ.out⟩
    · go_enter Try.func12, Try.ntmps12
      go_wp2_with fail
      try rw [← hA]
      clear hA
      refine (c20.out _ HBA.out).mono ?_
      rintro e w1 ⟨rfl, hb1⟩
      have HB1 := Lib.hid hb1
      obtain ⟨g0, g1, g2⟩ := KK.out _ hb1
      clear hb1
      go_wp2_with fail
      refine (c21 _).mono ?_
      rintro e wz ⟨rfl, hbz⟩
      have HBZ := Lib.hid (show Below A.heap.size A wz from HB1.out.trans (hbz.mono HB1.out.size))
      clear hbz
      go_wp2_with fail
      go_ret
      exact ⟨rfl, HUP.out _ HBZ.out⟩
  by_cases hbig : lngB xs.length = true
  · exact hfin _ hbig (.inl rfl)
  have hbig2 : lngB xs.length = false := by simpa using hbig
  by_cases h12 : (12 : Int) < (xs.length : Int)
  · exact hfin _ rfl (.inr h12)
  clear hfin hbig
  rw [hbig2] at c20
  clear hbig2
  generalize sdB r (ofA r xs) = sd at *
  generalize ofA r xs = os at *
  generalize lrnE p r xs = E0 at *
  generalize hlen : xs.length = len at *
  have HLEN := Lib.hid hlen
  clear hlen
  go_enter Try.func12, Try.ntmps12
  go_wp2_with fail
  try rw [← hA]
  clear hA
  refine (c20.out _ HBA.out).mono ?_
  rintro e w1 ⟨rfl, hb1⟩
  have HB1 := Lib.hid hb1
  obtain ⟨g0, g1, g2⟩ := KK.out _ hb1
  clear hb1
  go_wp2_with fail
  refine (c32.out _ (HUP.out _ HB1.out)).mono ?_
  rintro e w2 ⟨m, f, rfl, hD, hb2⟩
  have HB2 := Lib.hid (HB1.out.trans (hb2.mono HB1.out.size))
  obtain ⟨g0, g1, g2⟩ := KK.out _ HB2.out
  clear hb2
  rcases HDC.out m f hD with ⟨rfl, hf0, hf15⟩ | ⟨⟨h0, hs, hl0⟩, hD2⟩
  · have b0 : (f != 0) = true := by simpa using hf0
    have b5 : (f != 15) = true := by simpa using hf15
    go_wp2_with fail
    refine (c21 _).mono ?_
    rintro e wz ⟨rfl, hbz⟩
    have HBZ := Lib.hid (show Below A.heap.size A wz from HB2.out.trans (hbz.mono HB2.out.size))
    clear hbz
    go_wp2_with fail
    go_ret
    exact ⟨rfl, HUP.out _ HBZ.out⟩
  clear hD HDC
  have HD2 := Lib.hid hD2
  have hff : f = 15 ∨ f = 0 := by rcases hD2 with ⟨h, -⟩ | ⟨h, -⟩; exact .inl h; exact .inr h
  clear hD2
  have HAT2 := Lib.hid (HAT.out h0 hs)
  clear HAT
  rcases hff with hf | hf
  · obtain ⟨rfl, hw⟩ : m = 0 ∧ wid r os 1125899906842624 ≤ limit := by
      rcases HD2.out with h | h
      · exact h.2
      · exact absurd h.1 (by rw [hf]; decide)
    subst hf
    obtain ⟨x, y, hxy, hwd, hx, hy⟩ := HAT2.out 1125899906842624 ⟨by decide, by decide⟩
    have c24a := Lib.hid (c24.out 1125899906842624)
    rw [hxy] at c24a
    dsimp only at c24a
    have hle : y - x ≤ limit := by omega
    have hwr : IntKind.i64.wrap (y - x) = y - x := by rw [IntKind.wrap_i64]; omega
    clear HD2 HAT2 c24 hxy hwd hx hy hw
    go_wp2_with fail
    go_loopw [9, 10] (fun lv iv wr => ∃ k : Nat, k ≤ len ∧ iv = .int .i64 k ∧ lv = .int .i64 (lstX xs k) ∧ wr = w2) (fun _ iv _ => len - (intOf iv).toNat)
    case atStart => exact ⟨0, Nat.zero_le _, rfl, by rw [HL0.out], rfl⟩
    case round =>
      obtain ⟨k, hk, rfl, rfl, rfl⟩ := hrel
      by_cases hlt : k < len
      · have hki : (k : Int) < (len : Int) := by omega
        obtain ⟨a9, c9, e9, -, hcc⟩ := HXC.out wr (HUP.out _ HB2.out)
        rw [HLEN.out] at e9 hcc
        simp only [Value.slice.injEq, true_and] at e9
        obtain ⟨rfl, rfl⟩ := e9
        obtain ⟨b, off, hab, hb, -, -, -, m3, -, -, -, -⟩ := hcc k hlt
        subst hab
        have HLk := Lib.hid (HLS.out k)
        clear hcc hb
        generalize (xc xs k).ba = y3 at *
        generalize lstX xs k = z at *
        go_wp2_with fail
        go_roundw
        case rel => exact ⟨k + 1, by omega, by go_num, by rw [HLk.out], by first | trivial | rfl⟩
        case measure => simp [intOf]; omega
      · obtain rfl : k = len := by omega
        generalize lstX xs k = last at *
        clear HL0 HLS
        go_wp2_with fail
        refine (c24a.out _ (HUP.out _ HB2.out)).mono ?_
        rintro e w3 ⟨rfl, hb3⟩
        have HB3 := Lib.hid (HB2.out.trans (hb3.mono HB2.out.size))
        clear hb3
        have HB3a := Lib.hid (HB3.out.alloc HB3.out.size (.cells #[.int .i64 x, .int .i64 y] 23))
        go_wp2_with fail
        refine (c21 _).mono ?_
        rintro e wz ⟨rfl, hbz⟩
        have HBZ := Lib.hid (show Below A.heap.size A wz from HB3a.out.trans (hbz.mono HB3a.out.size))
        clear hbz
        go_wp2_with fail
        go_ret
        exact ⟨rfl, HUP.out _ HBZ.out⟩
  have hD3 : lstX xs len ≤ m ∧ m ≤ 1125899906842624 ∧ limit < wid r os m ∧ (m = lstX xs len ∨ ∀ n, lstX xs len ≤ n → n ≤ m - 1 → wid r os n ≤ limit) := by
    rcases HD2.out with h | h
    · exact absurd h.1 (by rw [hf]; decide)
    · exact h.2
  subst hf
  obtain ⟨hm1, hm2, hm3, hm4⟩ := hD3
  have HM4 := Lib.hid hm4
  clear hm4 HD2
  have hm0 : 0 ≤ m := by omega
  obtain ⟨x, y, hxy, hwd, hx, hy⟩ := HAT2.out m ⟨hm0, hm2⟩
  have c24a := Lib.hid (c24.out m)
  rw [hxy] at c24a
  dsimp only at c24a
  have hle : ¬ y - x ≤ limit := by omega
  have hwr : IntKind.i64.wrap (y - x) = y - x := by rw [IntKind.wrap_i64]; omega
  clear hxy hwd hx hy hm3
  go_wp2_with fail
  go_loopw [9, 10] (fun lv iv wr => ∃ k : Nat, k ≤ len ∧ iv = .int .i64 k ∧ lv = .int .i64 (lstX xs k) ∧ wr = w2) (fun _ iv _ => len - (intOf iv).toNat)
  case atStart => exact ⟨0, Nat.zero_le _, rfl, by rw [HL0.out], rfl⟩
  case round =>
    obtain ⟨k, hk, rfl, rfl, rfl⟩ := hrel
    by_cases hlt : k < len
    · have hki : (k : Int) < (len : Int) := by omega
      obtain ⟨a9, c9, e9, -, hcc⟩ := HXC.out wr (HUP.out _ HB2.out)
      rw [HLEN.out] at e9 hcc
      simp only [Value.slice.injEq, true_and] at e9
      obtain ⟨rfl, rfl⟩ := e9
      obtain ⟨b, off, hab, hb, -, -, -, m3, -, -, -, -⟩ := hcc k hlt
      subst hab
      have HLk := Lib.hid (HLS.out k)
      clear hcc hb
      generalize (xc xs k).ba = y3 at *
      generalize lstX xs k = z at *
      go_wp2_with fail
      go_roundw
      case rel => exact ⟨k + 1, by omega, by go_num, by rw [HLk.out], by first | trivial | rfl⟩
      case measure => simp [intOf]; omega
    · obtain rfl : k = len := by omega
      have hlm : ¬ m < lstX xs k := by omega
      clear HL0 HLS
      generalize lstX xs k = last at *
      go_wp2_with fail
      refine (c24a.out _ (HUP.out _ HB2.out)).mono ?_
      rintro e w3 ⟨rfl, hb3⟩
      have HB3 := Lib.hid (HB2.out.trans (hb3.mono HB2.out.size))
      clear hb3
      have HB3a := Lib.hid (HB3.out.alloc HB3.out.size (.cells #[.int .i64 x, .int .i64 y] 23))
      have k13 := Bx2.new w3 (.int .i64 x) (.int .i64 y)
      have K13 := Lib.hid k13
      clear k13
      obtain ⟨g0, g1, g2⟩ := KK.out _ HB3a.out
      have hz3 := HB3.out.size
      have hza := HZA.out
      by_cases heq : m = last
      · subst heq
        go_wp2_with fail
        refine (c21 _).mono ?_
        rintro e wz ⟨rfl, hbz⟩
        have HBZ := Lib.hid (show Below A.heap.size A wz from HB3a.out.trans (hbz.mono HB3a.out.size))
        clear hbz
        go_wp2_with fail
        go_ret
        exact ⟨rfl, HUP.out _ HBZ.out⟩
      have hne := heq
      have hbet : ∀ n, last ≤ n → n ≤ m - 1 → wid r os n ≤ limit := by rcases HM4.out with h | h; exact absurd h heq; exact h
      have hpb := part_bd (D := m - 1 - last) (q := q) (by omega) hq
      obtain ⟨hp1, hp2, hp3⟩ := hpb
      obtain ⟨u, hu⟩ : ∃ u, u = (m - 1 - last) / 65536 * q := ⟨_, rfl⟩
      obtain ⟨v, hv⟩ : ∃ v, v = (m - 1 - last) % 65536 * q := ⟨_, rfl⟩
      obtain ⟨v2, hv2⟩ : ∃ v2, v2 = v / 65535 := ⟨_, rfl⟩
      rw [← hu, ← hv] at hp1 hp3
      rw [← hv] at hp2
      rw [← hv2] at hp2 hp3
      have W5 : wrap64 ((m - 1 - last) / 65536 * q) = u := by rw [← hu]; exact wrap64_id (by omega) (by omega)
      have W6 : wrap64 ((m - 1 - last) % 65536 * q) = v := by rw [← hv]; exact wrap64_id (by omega) (by omega)
      have W7 : v.tdiv 65535 = v2 := by rw [hv2]; exact Int.tdiv_eq_ediv_of_nonneg hp1.2.1
      have W8 : wrap64 v2 = v2 := wrap64_id (by omega) (by omega)
      obtain ⟨lu, hlu⟩ : ∃ lu, lu = last + u := ⟨_, rfl⟩
      obtain ⟨n, hn⟩ : ∃ n, n = lu + v2 := ⟨_, rfl⟩
      have W9 : wrap64 (last + u) = lu := by rw [← hlu]; exact wrap64_id (by omega) (by omega)
      have W10 : wrap64 (lu + v2) = n := by rw [← hn]; exact wrap64_id (by omega) (by omega)
      have hn1 : last ≤ n := by omega
      have hn2 : n ≤ m - 1 := by omega
      have W11 : min (m - 1) n = n := by omega
      clear hu hv hv2 hlu hn hp1 hp2 hp3 HM4
      obtain ⟨x2, y2, hxy2, hwd2, hx2, hy2⟩ := HAT2.out n ⟨by omega, by omega⟩
      obtain ⟨x3, y3, hxy3, hwd3, hx3, hy3⟩ := HAT2.out (m - 1) ⟨by omega, by omega⟩
      have hle2 : y2 - x2 ≤ limit := by have := hbet n hn1 hn2; omega
      have hle3 : y3 - x3 ≤ limit := by have := hbet (m - 1) (by omega) (by omega); omega
      have c24b := Lib.hid (c24.out n)
      rw [hxy2] at c24b
      have c24c := Lib.hid (c24.out (m - 1))
      rw [hxy3] at c24c
      dsimp only at c24b c24c
      have V2 : wrap64 (y2 - x2) = y2 - x2 := wrap64_id (by omega) (by omega)
      have V3 : wrap64 (y3 - x3) = y3 - x3 := wrap64_id (by omega) (by omega)
      clear hxy2 hwd2 hx2 hy2 hxy3 hwd3 hx3 hy3 hbet HAT2 c24 c24a
      have r0 := K13.out.c0
      have r1 := K13.out.c1
      have r2 := K13.out.f0 0
      have r3 := K13.out.f0 1
      go_wp2_with fail
      refine (c24b.out _ (HUP.out _ HB3a.out)).mono ?_
      rintro e w4 ⟨rfl, hb4⟩
      have HB4 := Lib.hid (HB3a.out.trans (hb4.mono HB3a.out.size))
      have K14 := Lib.hid (K13.out.keep hb4)
      have hlt4 : w3.heap.size < w4.heap.size := by have := hb4.size; simp at this; omega
      clear hb4 r0 r1 r2 r3
      have r0 := K14.out.c0
      have r1 := K14.out.c1
      have r2 := K14.out.f0 0
      have r3 := K14.out.f0 1
      obtain ⟨V, hV⟩ : ∃ V, V = (w4.setCell ⟨w3.heap.size, 0, none⟩ (.int .i64 x2)).setCell ⟨w3.heap.size, 1, none⟩ (.int .i64 y2) := ⟨_, rfl⟩
      have HBV := Lib.hid (show Below A.heap.size A V by rw [hV]; exact (HB4.out.setCell (p := ⟨w3.heap.size, 0, none⟩) HB3.out.size _).setCell (p := ⟨w3.heap.size, 1, none⟩) HB3.out.size _)
      have KV := Lib.hid (show Bx2 V w3.heap.size (.int .i64 x2) (.int .i64 y2) by rw [hV]; exact K14.out.set _ _)
      have hzV : V.heap.size = w4.heap.size := by rw [hV]; simp
      obtain ⟨g0, g1, g2⟩ := KK.out _ HBV.out
      go_upto_region 21 with fail
      try rw [← hV]
      clear hV r0 r1 r2 r3
      go_wp2_with fail
      refine (c24c.out _ (HUP.out _ HBV.out)).mono ?_
      rintro e w5 ⟨rfl, hb5⟩
      have HB5 := Lib.hid (HBV.out.trans (hb5.mono HBV.out.size))
      have K15 := Lib.hid (KV.out.keep hb5)
      have hlt5 : w3.heap.size < w5.heap.size := by have := hb5.size; omega
      clear hb5
      have HB5a := Lib.hid (HB5.out.alloc HB5.out.size (.cells #[.int .i64 x3, .int .i64 y3] 23))
      have r0 := K15.out.c0
      have r1 := K15.out.c1
      go_wp2_with fail
      refine (c21 _).mono ?_
      rintro e wz ⟨rfl, hbz⟩
      have HBZ := Lib.hid (show Below A.heap.size A wz from HB5a.out.trans (hbz.mono HB5a.out.size))
      clear hbz
      go_wp2_with fail
      go_ret
      exact ⟨rfl, HUP.out _ HBZ.out⟩
end Go.Proofs.Ytcchmjbedppfnaa

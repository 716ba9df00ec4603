/-
  Clock: Due.
-/
import Derived.Test.YtcchmjbedppfnaaCkO
namespace Go.Proofs.Ytcchmjbedppfnaa
open Go.RowKit Go.Shelf
set_option linter.unusedSimpArgs false
theorem meets_ge (B : Int) : ∀ (ys : List (Int × Int)) (f : Int × Int), (∀ y ∈ ys, (-B ≤ y.1 ∧ y.1 ≤ B) ∧ (-B ≤ y.2 ∧ y.2 ≤ B)) → f.1 ≤ B → -B ≤ f.2 → ((meets f ys).1 ≤ B ∧ f.1 ≤ (meets f ys).1) ∧ (-B ≤ (meets f ys).2 ∧ (meets f ys).2 ≤ f.2)
  | [], f, _, h1, h2 => ⟨⟨h1, Int.le_refl _⟩, h2, Int.le_refl _⟩
  | y :: ys, f, h, h1, h2 => by
    have hy := h y (by simp)
    have ih := meets_ge B ys (meetS f y) (fun z hz => h z (by simp [hz])) (by unfold meetS; simp only; omega) (by unfold meetS; simp only; omega)
    have e : meets f (y :: ys) = meets (meetS f y) ys := rfl
    rw [e]
    unfold meetS at ih ⊢
    simp only at ih ⊢
    omega
theorem meets_bd (B : Int) (y : Int × Int) (ys : List (Int × Int)) (f : Int × Int) (h : ∀ z ∈ y :: ys, (-B ≤ z.1 ∧ z.1 ≤ B) ∧ (-B ≤ z.2 ∧ z.2 ≤ B)) (h1 : f.1 ≤ B) (h2 : -B ≤ f.2) : (-B ≤ (meets f (y :: ys)).1 ∧ (meets f (y :: ys)).1 ≤ B) ∧ (-B ≤ (meets f (y :: ys)).2 ∧ (meets f (y :: ys)).2 ≤ B) := by
  have hy := h y (by simp)
  have ih := meets_ge B ys (meetS f y) (fun z hz => h z (by simp [hz])) (by unfold meetS; simp only; omega) (by unfold meetS; simp only; omega)
  have e : meets f (y :: ys) = meets (meetS f y) ys := rfl
  rw [e]
  unfold meetS at ih ⊢
  simp only at ih ⊢
  omega
theorem bnd_bd {r t : Int} {os : List Of} (hv : Valid r os) (ht : -4503599627370496 ≤ t ∧ t ≤ 4503599627370496) : ∀ z ∈ os.map (bnd r t), (-10000000000000 ≤ z.1 ∧ z.1 ≤ 10000000000000) ∧ (-10000000000000 ≤ z.2 ∧ z.2 ≤ 10000000000000) := by
  intro z hz
  obtain ⟨o, ho, rfl⟩ := List.mem_map.1 hz
  obtain ⟨k, hk, rfl⟩ := List.getElem_of_mem ho
  obtain ⟨h1, h2⟩ := hv.2.2 k hk
  have h3 := (small_of hv ht k hk).2.2
  unfold of at h1 h2 h3
  rw [List.getElem?_eq_getElem hk, Option.getD_some] at h1 h2 h3
  have h4 := (grw_bd hv.1 ⟨gap_nn t os[k].rd, h3⟩).2.2
  unfold bnd
  simp only
  omega
theorem atS_bd {r t : Int} {os : List Of} (hv : Valid r os) (h1 : 1 ≤ os.length) (ht : -4503599627370496 ≤ t ∧ t ≤ 4503599627370496) : (-10000000000000 ≤ (atS r t os).1 ∧ (atS r t os).1 ≤ 10000000000000) ∧ (-10000000000000 ≤ (atS r t os).2 ∧ (atS r t os).2 ≤ 10000000000000) := by
  have hb := bnd_bd hv ht
  unfold atS
  cases os with
  | nil => simp at h1
  | cons o os =>
    rw [List.map_cons] at hb ⊢
    exact meets_bd _ _ _ _ hb (by decide) (by decide)
/-- the offset is wider than a limit -/
def wdB (r : Int) (os : List Of) (limit t : Int) : Bool := decide (limit < (atS r t os).2 - (atS r t os).1)
set_option maxRecDepth 100000 in
set_option maxHeartbeats 2000000 in
theorem dueC_any (p r limit t : Int) (sv : Value) (os : List Of) (hv : Valid r os) (h1 : 1 ≤ os.length) (ht : 0 ≤ t ∧ t ≤ 1125899906842624) (P1 P2 : Nat) (W : World) (k0 : W.cell? ⟨P1, 0, none⟩ = some (.int .i64 p)) (k1 : W.cell? ⟨P1, 1, none⟩ = some (.int .i64 r)) (k2 : W.cell? ⟨P1, 2, none⟩ = some sv) (k3 : W.cell? ⟨P2, 0, none⟩ = some (.int .i64 limit)) (hO : Ofs W.heap.size W sv os) :
    Calls Try.prog 94 #[.int .i64 t, .pointer (some ⟨P1, 0, none⟩), .pointer (some ⟨P2, 0, none⟩)] W fun e w' => e = .returned (.bool (wdB r os limit t)) ∧ Below W.heap.size W w' := by
  have hA := atc_any p r t sv os hv.2.1 hv.1 (small_of hv (by omega)) W hO
  obtain ⟨⟨b1, b2⟩, b3, b4⟩ := atS_bd hv h1 (t := t) (by omega)
  obtain ⟨a, cap, hsv⟩ := hO.form
  subst hsv
  unfold spv at hA
  unfold wdB
  have hP2 : P2 < W.heap.size := World.block_lt_of_cell? W ⟨P2, 0, none⟩ k3
  have hP1 : P1 < W.heap.size := World.block_lt_of_cell? W ⟨P1, 0, none⟩ k0
  clear hO
  generalize (atS r t os).1 = z0 at *
  generalize (atS r t os).2 = z1 at *
  have v1 : wrap64 (z1 - z0) = z1 - z0 := by unfold wrap64; omega
  clear b1 b2 b3 b4
  go_enter Try.func94, Try.ntmps94
  go_wp2_with fail
  refine hA.mono ?_
  rintro e w1 ⟨rfl, hb⟩
  have q3 := (hb.cell (p := ⟨P2, 0, none⟩) hP2).trans k3
  have hz := hb.size
  have z1' : ¬ w1.heap.size = P2 := by omega
  have z2' : ¬ P2 = w1.heap.size := by omega
  have z3' : P2 < w1.heap.size := by omega
  have HB := Lib.hid (hb.alloc hb.size (.cells #[.int .i64 z0, .int .i64 z1] 23))
  clear hb k0 k1 k2 k3 hA
  go_wp2_with fail
  go_ret
  exact ⟨rfl, HB.out⟩
theorem lst_bd {r : Int} {os : List Of} (hv : Valid r os) (h1 : 1 ≤ os.length) : ∀ k, k ≤ os.length → 0 ≤ lstTo os k ∧ lstTo os k ≤ 1125899906842624
  | 0, _ => by
    have := (hv.2.2 0 (by omega)).2
    exact this
  | k + 1, hk => by
    have ih := lst_bd hv h1 k (by omega)
    have := (hv.2.2 k (by omega)).2
    show 0 ≤ max (lstTo os k) (of os k).rd ∧ max (lstTo os k) (of os k).rd ≤ 1125899906842624
    omega
/-- the last reading of a clock -/
def lstA (os : List Of) : Int := lstTo os os.length
/-- what Due returns -/
def DueP (p r : Int) (xs : List Xc) (limit m e : Int) : Prop :=
  (lrnE p r xs ≠ 0 ∧ m = 0 ∧ e = lrnE p r xs) ∨
  (lrnE p r xs = 0 ∧ ((¬ (0 ≤ limit ∧ limit ≤ 1073741824) ∧ m = 0 ∧ e = 3) ∨
    ((0 ≤ limit ∧ limit ≤ 1073741824) ∧ ((sdB r (ofA r xs) = false ∧ m = 0 ∧ e = 5) ∨
      (sdB r (ofA r xs) = true ∧ ((wdB r (ofA r xs) limit 1125899906842624 = false ∧ m = 0 ∧ e = 15) ∨
        (lstA (ofA r xs) ≤ m ∧ m ≤ 1125899906842624 ∧ wdB r (ofA r xs) limit m = true ∧ (m = lstA (ofA r xs) ∨ wdB r (ofA r xs) limit (m - 1) = false) ∧ e = 0)))))))
set_option maxRecDepth 100000 in
set_option maxHeartbeats 4000000 in
theorem due_any (p r limit : Int) (sv : Value) (xs : List Xc) (w : World) (hX : Xcs w.heap.size w sv xs) :
    Calls Try.prog 32 #[.agg #[.int .i64 p, .int .i64 r, sv], .int .i64 limit] w fun e w' => ∃ m f, e = .returned (.tuple #[.int .i64 m, .int .i64 f]) ∧ DueP p r xs limit m f ∧ Below w.heap.size w w' := by
  have c79 := Lib.hid (fun W (hb : Below w.heap.size w W) => learn_any p r sv xs W (hX.at hb))
  have c91 := fun W => within64_any limit 0 1073741824 W
  have c81 := Lib.hid (fun v (h0 : lrnE p r xs = 0) W (hO : Ofs W.heap.size W v (ofA r xs)) => sound_any p r v (ofA r xs) (valid_of h0) W hO)
  have hla : (ofA r xs).length = xs.length := ofTo_len r xs _
  have c93 := Lib.hid (fun v (h0 : lrnE p r xs = 0) W (hO : Ofs W.heap.size W v (ofA r xs)) => show Calls Try.prog 93 #[.agg #[.int .i64 p, .int .i64 r, v]] W fun e w' => e = .returned (.int .i64 (lstA (ofA r xs))) ∧ Below W.heap.size W w' from last_any p r v (ofA r xs) (by rw [hla]; exact (lrnE_ok h0).1) W hO)
  have c92 := Lib.hid (fun v (h0 : lrnE p r xs = 0) P1 P2 W (hO : Ofs W.heap.size W v (ofA r xs)) (k0 : W.cell? ⟨P1, 0, none⟩ = some (.int .i64 p)) (k1 : W.cell? ⟨P1, 1, none⟩ = some (.int .i64 r)) (k2 : W.cell? ⟨P1, 2, none⟩ = some v) (k3 : W.cell? ⟨P2, 0, none⟩ = some (.int .i64 limit)) =>
    earliest_any (lstA (ofA r xs)) 1125899906842624 (by have := lst_bd (valid_of h0) (by have := (lrnE_ok h0).1.1; rw [ofTo_len]; exact this) _ (Nat.le_refl _); exact ⟨this.1, this.2, Int.le_refl _⟩) P1 P2 (wdB r (ofA r xs) limit) W (fun t Z a b hb =>
      dueC_any p r limit t v (ofA r xs) (valid_of h0) (by rw [hla]; exact (lrnE_ok h0).1.1) (by have := lst_bd (valid_of h0) (by have := (lrnE_ok h0).1.1; rw [ofTo_len]; exact this) _ (Nat.le_refl _); exact ⟨Int.le_trans this.1 a, b⟩) P1 P2 Z
        ((hb.cell (p := ⟨P1, 0, none⟩) (World.block_lt_of_cell? W ⟨P1, 0, none⟩ k0)).trans k0) ((hb.cell (p := ⟨P1, 1, none⟩) (World.block_lt_of_cell? W ⟨P1, 1, none⟩ k1)).trans k1) ((hb.cell (p := ⟨P1, 2, none⟩) (World.block_lt_of_cell? W ⟨P1, 2, none⟩ k2)).trans k2) ((hb.cell (p := ⟨P2, 0, none⟩) (World.block_lt_of_cell? W ⟨P2, 0, none⟩ k3)).trans k3) (hO.at hb)))
  have HD1 := Lib.hid (show lrnE p r xs ≠ 0 → DueP p r xs limit 0 (lrnE p r xs) from fun h => .inl ⟨h, rfl, rfl⟩)
  have HD2 := Lib.hid (show lrnE p r xs = 0 → ¬ (0 ≤ limit ∧ limit ≤ 1073741824) → DueP p r xs limit 0 3 from fun h h2 => .inr ⟨h, .inl ⟨h2, rfl, rfl⟩⟩)
  have HD3 := Lib.hid (show lrnE p r xs = 0 → (0 ≤ limit ∧ limit ≤ 1073741824) → sdB r (ofA r xs) = false → DueP p r xs limit 0 5 from fun h h2 h3 => .inr ⟨h, .inr ⟨h2, .inl ⟨h3, rfl, rfl⟩⟩⟩)
  have HD4 := Lib.hid (show lrnE p r xs = 0 → (0 ≤ limit ∧ limit ≤ 1073741824) → sdB r (ofA r xs) = true → ∀ v, ErP (wdB r (ofA r xs) limit) (lstA (ofA r xs)) 1125899906842624 v → (v = .tuple #[.int .i64 0, .bool false] ∧ DueP p r xs limit 0 15) ∨ ∃ m, v = .tuple #[.int .i64 m, .bool true] ∧ DueP p r xs limit m 0 from fun h h2 h3 v hv => by
    rcases hv with ⟨e, q⟩ | ⟨m, e, q1, q2, q3, q4⟩
    · exact .inl ⟨e, .inr ⟨h, .inr ⟨h2, .inr ⟨h3, .inl ⟨q, rfl, rfl⟩⟩⟩⟩⟩
    · exact .inr ⟨m, e, .inr ⟨h, .inr ⟨h2, .inr ⟨h3, .inr ⟨q1, q2, q3, q4, rfl⟩⟩⟩⟩⟩)
  generalize DueP p r xs limit = DP at *
  obtain ⟨a, cap, hsv⟩ := hX.form
  subst hsv
  unfold LrnR at c79
  have HOA := Lib.hid (show ofA r xs = ofTo r xs xs.length from rfl)
  have hBA : Below w.heap.size w ((w.alloc (.cells #[.int .i64 p, .int .i64 r, .slice a xs.length cap] 28)).alloc (.cells #[.int .i64 limit] 2)) := ((Below.refl _ _).alloc (Nat.le_refl _) _).alloc (by simp) _
  have hkl : ((w.alloc (.cells #[.int .i64 p, .int .i64 r, .slice a xs.length cap] 28)).alloc (.cells #[.int .i64 limit] 2)).cell? ⟨w.heap.size + 1, 0, none⟩ = some (.int .i64 limit) := by simp [go_sem]
  have hzA : ((w.alloc (.cells #[.int .i64 p, .int .i64 r, .slice a xs.length cap] 28)).alloc (.cells #[.int .i64 limit] 2)).heap.size = w.heap.size + 2 := by simp
  generalize hV : (w.alloc (.cells #[.int .i64 p, .int .i64 r, .slice a xs.length cap] 28)).alloc (.cells #[.int .i64 limit] 2) = V at *
  have HV := Lib.hid hV
  have HZA := Lib.hid hzA
  have HKL := Lib.hid hkl
  have HBA := Lib.hid hBA
  have HLA := Lib.hid hla
  have hlt1 : w.heap.size + 1 < V.heap.size := by omega
  clear hV hzA hkl hBA hX hla
  generalize hE : lrnE p r xs = E0 at *
  clear hE
  generalize ofA r xs = oa at *
  generalize hsd : sdB r oa = sd at *
  generalize lstA oa = la at *
  generalize wdB r oa limit = wd at *
  clear hsd
  go_enter Try.func32, Try.ntmps32
  go_wp2_with fail
  try rw [HV.out]
  refine (c79.out _ HBA.out).mono ?_
  rintro e w1 ⟨p', r', v, E, rfl, hE1, hok, ⟨a1, n1, c1, rfl⟩, hb⟩
  have hE2 := hE1.symm
  subst hE2
  have HB1 := Lib.hid (HBA.out.trans (hb.mono HBA.out.size))
  have HOK := Lib.hid hok
  have hl1 := (hb.cell (p := ⟨w.heap.size + 1, 0, none⟩) hlt1).trans HKL.out
  have hzz := hb.size
  have y1 : ¬ w1.heap.size = w.heap.size + 1 := by omega
  have y2 : ¬ w.heap.size + 1 = w1.heap.size := by omega
  have y3 : w.heap.size + 1 < w1.heap.size := by omega
  clear hb hok
  have HB1a := Lib.hid (HB1.out.alloc HB1.out.size (.cells #[.int .i64 p', .int .i64 r', .slice a1 n1 c1] 129))
  by_cases h0 : E0 = 0
  rotate_left
  · have hb0 : (E0 != 0) = true := by simpa using h0
    have hd := HD1.out h0
    go_wp2_with fail
    refine bodyPost_ret (v := .tuple #[.int .i64 0, .int .i64 E0]) (by simp [results, Try.results32, go_sem]) rfl ⟨0, E0, rfl, hd, HB1a.out⟩
  obtain ⟨hp, hr, hO⟩ := HOK.out h0
  subst hp hr
  subst h0
  have hO1 : Ofs w1.heap.size w1 (.slice a1 n1 c1) oa := by rw [HOA.out]; exact hO
  have HO1 := Lib.hid hO1
  clear hO hO1
  by_cases hlm : 0 ≤ limit ∧ limit ≤ 1073741824
  rotate_left
  · have c91' : ∀ W, Calls Try.prog 91 #[.int .i64 limit, .int .i64 0, .int .i64 1073741824] W fun e w' => e = .returned (.bool false) ∧ w' = W := fun W => by have q := c91 W; rwa [decide_eq_false hlm] at q
    have hd := HD2.out (by trivial) hlm
    clear c91
    go_wp2_with fail
    refine (c91' _).mono ?_
    rintro e w2 ⟨rfl, hw2⟩
    have hw3 := hw2.symm
    subst hw3
    go_wp2_with fail
    refine bodyPost_ret (v := .tuple #[.int .i64 0, .int .i64 3]) (by simp [results, Try.results32, go_sem]) rfl ⟨0, 3, rfl, hd, HB1a.out⟩
  have c91' : ∀ W, Calls Try.prog 91 #[.int .i64 limit, .int .i64 0, .int .i64 1073741824] W fun e w' => e = .returned (.bool true) ∧ w' = W := fun W => by have q := c91 W; rwa [decide_eq_true hlm] at q
  have hA1 : Below w1.heap.size w1 (w1.alloc (.cells #[.int .i64 p', .int .i64 r', .slice a1 n1 c1] 129)) := (Below.refl _ _).alloc (Nat.le_refl _) _
  have HO2 := Lib.hid (HO1.out.at hA1)
  have HC1 := Lib.hid (c81.out _ (by trivial) _ HO2.out)
  have HL2 := Lib.hid ((hA1.cell (p := ⟨w.heap.size + 1, 0, none⟩) (by show w.heap.size + 1 < w1.heap.size; omega)).trans hl1)
  clear c91 hA1
  go_wp2_with fail
  refine (c91' _).mono ?_
  rintro e w2 ⟨rfl, hw2⟩
  have hw3 := hw2.symm
  subst hw3
  go_wp2_with fail
  refine HC1.out.mono ?_
  rintro e w3 ⟨rfl, hb3⟩
  have hz3 := hb3.size
  simp at hz3
  have k0 := hb3.cell (p := ⟨w1.heap.size, 0, none⟩) (by simp)
  have k1 := hb3.cell (p := ⟨w1.heap.size, 1, none⟩) (by simp)
  have k2 := hb3.cell (p := ⟨w1.heap.size, 2, none⟩) (by simp)
  simp [go_sem] at k0 k1 k2
  have k3 := (hb3.cell (p := ⟨w.heap.size + 1, 0, none⟩) (by show w.heap.size + 1 < (w1.alloc _).heap.size; simp; omega)).trans HL2.out
  have HB3 := Lib.hid (HB1a.out.trans (hb3.mono (by have := HB1a.out.size; exact this)))
  have HO3 := Lib.hid (HO2.out.at hb3)
  clear hb3
  cases sd
  · have hd := HD3.out (by trivial) hlm (by trivial)
    go_wp2_with fail
    refine bodyPost_ret (v := .tuple #[.int .i64 0, .int .i64 5]) (by simp [results, Try.results32, go_sem]) rfl ⟨0, 5, rfl, hd, HB3.out⟩
  have HC2 := Lib.hid (c93.out _ (by trivial) _ HO3.out)
  have HD5 := Lib.hid (HD4.out (by trivial) hlm (by trivial))
  go_wp2_with fail
  refine HC2.out.mono ?_
  rintro e w4 ⟨rfl, hb4⟩
  have hz4 := hb4.size
  have j0 := (hb4.cell (p := ⟨w1.heap.size, 0, none⟩) (by show w1.heap.size < w3.heap.size; omega)).trans k0
  have j1 := (hb4.cell (p := ⟨w1.heap.size, 1, none⟩) (by show w1.heap.size < w3.heap.size; omega)).trans k1
  have j2 := (hb4.cell (p := ⟨w1.heap.size, 2, none⟩) (by show w1.heap.size < w3.heap.size; omega)).trans k2
  have j3 := (hb4.cell (p := ⟨w.heap.size + 1, 0, none⟩) (by show w.heap.size + 1 < w3.heap.size; omega)).trans k3
  have HB4 := Lib.hid (HB3.out.trans (hb4.mono HB3.out.size))
  have HC3 := Lib.hid (c92.out _ (by trivial) w1.heap.size (w.heap.size + 1) w4 (HO3.out.at hb4) j0 j1 j2 j3)
  clear hb4 k0 k1 k2 k3 j0 j1 j2 j3
  go_wp2_with fail
  refine HC3.out.mono ?_
  rintro e w5 ⟨v5, rfl, hv5, hb5⟩
  have HB5 := Lib.hid (HB4.out.trans (hb5.mono HB4.out.size))
  rcases HD5.out v5 hv5 with ⟨rfl, hd⟩ | ⟨m, rfl, hd⟩
  · clear hb5 hv5
    go_wp2_with fail
    refine bodyPost_ret (v := .tuple #[.int .i64 0, .int .i64 15]) (by simp [results, Try.results32, go_sem]) rfl ⟨0, 15, rfl, hd, HB5.out⟩
  · clear hb5 hv5
    go_wp2_with fail
    refine bodyPost_ret (v := .tuple #[.int .i64 m, .int .i64 0]) (by simp [results, Try.results32, go_sem]) rfl ⟨m, 0, rfl, hd, HB5.out⟩
end Go.Proofs.Ytcchmjbedppfnaa

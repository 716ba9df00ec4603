/-
  Clock: a clock is learnt.
-/
import Derived.Test.YtcchmjbedppfnaaCkE
namespace Go.Proofs.Ytcchmjbedppfnaa
open Go.RowKit Go.Shelf
set_option linter.unusedSimpArgs false
/-- the offsets by the first k exchanges -/
def ofTo (r : Int) (xs : List Xc) : Nat → List Of
  | 0 => []
  | k + 1 => ofTo r xs k ++ [ofX r (xc xs k)]
theorem ofTo_len (r : Int) (xs : List Xc) : ∀ k, (ofTo r xs k).length = k
  | 0 => rfl
  | k + 1 => by simp [ofTo, ofTo_len r xs k]
theorem ofTo_get (r : Int) (xs : List Xc) : ∀ k j, j < k → of (ofTo r xs k) j = ofX r (xc xs j)
  | k + 1, j, hj => by
    unfold of
    show (ofTo r xs k ++ [ofX r (xc xs k)])[j]?.getD default = _
    by_cases e : j = k
    · subst e
      rw [List.getElem?_append_right (by rw [ofTo_len]; exact Nat.le_refl _), ofTo_len]
      simp
    · rw [List.getElem?_append_left (by rw [ofTo_len]; omega)]
      exact ofTo_get r xs k j (by omega)
theorem xs_bad {r : Int} {xs : List Xc} {k : Nat} (hk : k < xs.length) (h : okX r (xc xs k) = false) : ¬ xs.all (okX r) = true := by
  intro h2
  have := List.all_eq_true.1 h2 xs[k] (List.getElem_mem hk)
  unfold xc at h
  rw [List.getElem?_eq_getElem hk, Option.getD_some, this] at h
  exact absurd h (by decide)
theorem xs_ok {r : Int} {xs : List Xc} (h : ∀ k, k < xs.length → okX r (xc xs k) = true) : xs.all (okX r) = true := by
  refine List.all_eq_true.2 fun z hz => ?_
  obtain ⟨k, hk, rfl⟩ := List.getElem_of_mem hz
  have := h k hk
  unfold xc at this
  rwa [List.getElem?_eq_getElem hk, Option.getD_some] at this
theorem lrnE_ok {p r : Int} {xs : List Xc} (h : lrnE p r xs = 0) : (1 ≤ xs.length ∧ xs.length ≤ 64) ∧ -1 ≤ p ∧ rtB r = true ∧ ∀ k, k < xs.length → okX r (xc xs k) = true := by
  unfold lrnE at h
  split at h
  · exact absurd h (by decide)
  split at h
  · exact absurd h (by decide)
  split at h
  · exact absurd h (by decide)
  split at h
  · exact absurd h (by decide)
  split at h
  · rename_i h1 h2 h3 h4 h5
    refine ⟨⟨by omega, by omega⟩, by omega, by cases g : rtB r <;> simp_all, fun k hk => ?_⟩
    unfold xc
    rw [List.getElem?_eq_getElem hk, Option.getD_some]
    exact List.all_eq_true.1 h5 _ (List.getElem_mem hk)
  · exact absurd h (by decide)
/-- a clock with its offsets in a block -/
def KnAt (W : World) (K : Nat) (p r : Int) (sv : Value) : Prop := K < W.heap.size ∧ W.cell? ⟨K, 0, none⟩ = some (.int .i64 p) ∧ W.cell? ⟨K, 1, none⟩ = some (.int .i64 r) ∧ W.cell? ⟨K, 2, none⟩ = some sv ∧ W.frozen? ⟨K, 2, none⟩ = false
theorem KnAt.same {W W' : World} {K : Nat} {p r : Int} {sv : Value} (h : KnAt W K p r sv) (hz : W.heap.size ≤ W'.heap.size) (hk : W'.heap[K]? = W.heap[K]?) : KnAt W' K p r sv := by
  obtain ⟨l, c0, c1, c2, f⟩ := h
  exact ⟨Nat.lt_of_lt_of_le l hz, (World.cell?_of_block hk).trans c0, (World.cell?_of_block hk).trans c1, (World.cell?_of_block hk).trans c2, (World.frozen?_of_block hk).trans f⟩
theorem KnAt.keep {W W' : World} {K : Nat} {p r : Int} {sv : Value} (h : KnAt W K p r sv) (hb : Below W.heap.size W W') : KnAt W' K p r sv := h.same hb.size (hb.block K h.1)
theorem KnAt.grown {W W' : World} {K : Nat} {p r : Int} {sv : Value} {row : Option Nat} (h : KnAt W K p r sv) (hg : W.grownBy W' row) (hne : row = some K → False) : KnAt W' K p r sv := h.same hg.size (hg.block K h.1 (fun e => hne e.symm))
theorem KnAt.set {W : World} {K : Nat} {p r : Int} {sv : Value} (h : KnAt W K p r sv) (v : Value) : KnAt (W.setCell ⟨K, 2, none⟩ v) K p r v := by
  obtain ⟨l, c0, c1, c2, f⟩ := h
  have e : ∀ o' x, o' ≠ 2 → W.cell? ⟨K, o', none⟩ = some x → (W.setCell ⟨K, 2, none⟩ v).cell? ⟨K, o', none⟩ = some x := fun o' x ho hx =>
    (World.cell?_setCell_other _ _ _ _ (by intro q; exact ho (Addr.mk.inj q).2.1.symm)).trans hx
  exact ⟨by simpa using l, e 0 _ (by decide) c0, e 1 _ (by decide) c1, World.cell?_setCell_same' _ _ _ (by rw [c2]; rfl), by simpa [go_sem] using f⟩
/-- what learning gives: the clock's cells, and the error -/
def LrnR (p r : Int) (xs : List Xc) (w : World) (e : Ending) (w' : World) : Prop :=
  ∃ p' r' v E, e = .returned (.tuple #[.agg #[.int .i64 p', .int .i64 r', v], .int .i64 E]) ∧ E = lrnE p r xs ∧ (E = 0 → p' = p ∧ r' = r ∧ Ofs w'.heap.size w' v (ofTo r xs xs.length)) ∧ (∃ a n c, v = .slice a n c) ∧ Below w.heap.size w w'
set_option maxRecDepth 100000 in
set_option maxHeartbeats 8000000 in
theorem learn_any (p r : Int) (sv : Value) (xs : List Xc) (w : World) (hX : Xcs w.heap.size w sv xs) :
    Calls Try.prog 79 #[.agg #[.int .i64 p, .int .i64 r, sv]] w (LrnR p r xs w) := by
  obtain ⟨i0, hi0, hz0, hz1, hz2⟩ := info_parts infoOf
  have c95 := fun W => withinI_any (xs.length : Int) 1 64 W
  have c72 := fun W => isRate_any r W
  have HR := Lib.hid (show ∀ E w', E = lrnE p r xs → E ≠ 0 → Below w.heap.size w w' → LrnR p r xs w (.returned (.tuple #[.agg #[.int .i64 0, .int .i64 0, .slice none 0 0], .int .i64 E])) w' from fun E w' h1 h2 h3 => ⟨0, 0, _, E, rfl, h1, fun h => absurd h h2, ⟨_, _, _, rfl⟩, h3⟩)
  have HR0 := Lib.hid (show ∀ v w', 0 = lrnE p r xs → Ofs w'.heap.size w' v (ofTo r xs xs.length) → (∃ a n c, v = .slice a n c) → Below w.heap.size w w' → LrnR p r xs w (.returned (.tuple #[.agg #[.int .i64 p, .int .i64 r, v], .int .i64 0])) w' from fun v w' h1 h2 h3 h4 => ⟨p, r, v, 0, rfl, h1, fun _ => ⟨rfl, rfl, h2⟩, h3, h4⟩)
  generalize LrnR p r xs w = POST at *
  have HE := Lib.hid (show lrnE p r xs = if xs.length < 1 then 6 else if 64 < xs.length then 6 else if p < -1 then 2 else if rtB r = false then 2 else if xs.all (okX r) = true then 0 else 2 from rfl)
  generalize lrnE p r xs = E at *
  have HX := Lib.hid hX
  obtain ⟨a, cap, rfl, -, -⟩ := hX
  obtain ⟨A, hA⟩ : ∃ A, A = (w.alloc (.cells #[.int .i64 p, .int .i64 r, .slice a xs.length cap] 28)).alloc (.cells #[.int .i64 0, .int .i64 0, .slice none 0 0] 129) := ⟨_, rfl⟩
  have hzA : A.heap.size = w.heap.size + 2 := by rw [hA]; simp
  have HBA := Lib.hid (show Below w.heap.size w A by rw [hA]; exact ((Below.refl _ _).alloc (Nat.le_refl _) _).alloc (by simp) _)
  have HBW := Lib.hid (show ∀ W, Below (w.heap.size + 2) A W → Below w.heap.size w W from fun W h => HBA.out.trans (h.mono (by omega)))
  have KK := Lib.hid (show ∀ W, Below (w.heap.size + 2) A W → W.cell? ⟨w.heap.size, 0, none⟩ = some (.int .i64 p) ∧ W.cell? ⟨w.heap.size, 1, none⟩ = some (.int .i64 r) ∧ W.cell? ⟨w.heap.size, 2, none⟩ = some (.slice a xs.length cap) from fun W h => by
    have e : ∀ o, W.cell? ⟨w.heap.size, o, none⟩ = A.cell? ⟨w.heap.size, o, none⟩ := fun o => h.cell (p := ⟨w.heap.size, o, none⟩) (by show w.heap.size < w.heap.size + 2; omega)
    refine ⟨?_, ?_, ?_⟩ <;> (rw [e, hA]; simp [go_sem]))
  have KR := Lib.hid (show ∀ W, Below (w.heap.size + 2) A W → (W.cell? ⟨w.heap.size + 1, 0, none⟩ = some (.int .i64 0) ∧ W.cell? ⟨w.heap.size + 1, 1, none⟩ = some (.int .i64 0) ∧ W.cell? ⟨w.heap.size + 1, 2, none⟩ = some (.slice none 0 0)) ∧ W.frozen? ⟨w.heap.size + 1, 0, none⟩ = false ∧ W.frozen? ⟨w.heap.size + 1, 1, none⟩ = false ∧ W.frozen? ⟨w.heap.size + 1, 2, none⟩ = false from fun W h => by
    have e : ∀ o, W.cell? ⟨w.heap.size + 1, o, none⟩ = A.cell? ⟨w.heap.size + 1, o, none⟩ := fun o => h.cell (p := ⟨w.heap.size + 1, o, none⟩) (by show w.heap.size + 1 < w.heap.size + 2; omega)
    have f : ∀ o, W.frozen? ⟨w.heap.size + 1, o, none⟩ = A.frozen? ⟨w.heap.size + 1, o, none⟩ := fun o => h.frozen (p := ⟨w.heap.size + 1, o, none⟩) (by show w.heap.size + 1 < w.heap.size + 2; omega)
    refine ⟨⟨?_, ?_, ?_⟩, ?_, ?_, ?_⟩ <;> first | (rw [e, hA]; simp [go_sem]; done) | (rw [f, hA]; simp [go_sem]))
  have HEND := Lib.hid (show ∀ W v0 v1 v2, Below (w.heap.size + 2) A W → Below w.heap.size w (((W.setCell ⟨w.heap.size + 1, 0, none⟩ v0).setCell ⟨w.heap.size + 1, 1, none⟩ v1).setCell ⟨w.heap.size + 1, 2, none⟩ v2) from fun W v0 v1 v2 h =>
    (((HBW.out W h).setCell (p := ⟨w.heap.size + 1, 0, none⟩) (by show w.heap.size ≤ w.heap.size + 1; omega) _).setCell (p := ⟨w.heap.size + 1, 1, none⟩) (by show w.heap.size ≤ w.heap.size + 1; omega) _).setCell (p := ⟨w.heap.size + 1, 2, none⟩) (by show w.heap.size ≤ w.heap.size + 1; omega) _)
  have HA0 := Lib.hid (show Below (w.heap.size + 2) A A from Below.refl _ _)
  by_cases h1 : (1 : Int) ≤ (xs.length : Int) ∧ (xs.length : Int) ≤ 64
  rotate_left
  · have c95' : ∀ W, Calls Try.prog 95 #[.int .i64 (xs.length : Int), .int .i64 1, .int .i64 64] W fun e w' => e = .returned (.bool false) ∧ w' = W := fun W => by have q := c95 W; rwa [decide_eq_false h1] at q
    have HE6 := Lib.hid (show (6 : Int) = E by rw [HE.out]; by_cases q : xs.length < 1; rw [if_pos q]; rw [if_neg q, if_pos (by omega)])
    clear c95 h1 HX HE
    generalize xs.length = len at *
    go_enter Try.func79, Try.ntmps79
    go_wp2_with fail
    try rw [← hA]
    clear hA
    obtain ⟨k0, k1, k2⟩ := KK.out _ HA0.out
    refine (c95' _).mono ?_
    rintro e w1 ⟨rfl, hw⟩
    have hw2 := hw.symm
    subst hw2
    obtain ⟨⟨q0, q1, q2⟩, q3, q4, q5⟩ := KR.out _ (HA0.out)
    go_wp2_with fail
    refine bodyPost_ret (v := .tuple #[.agg #[.int .i64 0, .int .i64 0, .slice none 0 0], .int .i64 6]) (by simp [results, Try.results79, go_sem, q0, q1, q2]) rfl (HR.out _ _ ?_ (by decide) (HEND.out _ _ _ _ (HA0.out)))
    exact HE6.out
  have hl1 : 1 ≤ xs.length := by omega
  have hl2 : xs.length ≤ 64 := by omega
  have c95' : ∀ W, Calls Try.prog 95 #[.int .i64 (xs.length : Int), .int .i64 1, .int .i64 64] W fun e w' => e = .returned (.bool true) ∧ w' = W := fun W => by have q := c95 W; rwa [decide_eq_true h1] at q
  have HE1 := Lib.hid (show E = if p < -1 then 2 else if rtB r = false then 2 else if xs.all (okX r) = true then 0 else 2 by rw [HE.out, if_neg (by omega), if_neg (by omega)])
  clear c95 h1 HE
  by_cases h2 : p < -1
  · have HE2 := Lib.hid (show (2 : Int) = E by rw [HE1.out, if_pos h2])
    clear HX HE1 hl1 hl2
    generalize xs.length = len at *
    go_enter Try.func79, Try.ntmps79
    go_wp2_with fail
    try rw [← hA]
    clear hA
    obtain ⟨k0, k1, k2⟩ := KK.out _ HA0.out
    refine (c95' _).mono ?_
    rintro e w1 ⟨rfl, hw⟩
    have hw2 := hw.symm
    subst hw2
    obtain ⟨⟨q0, q1, q2⟩, q3, q4, q5⟩ := KR.out _ (HA0.out)
    go_wp2_with fail
    refine bodyPost_ret (v := .tuple #[.agg #[.int .i64 0, .int .i64 0, .slice none 0 0], .int .i64 2]) (by simp [results, Try.results79, go_sem, q0, q1, q2]) rfl (HR.out _ _ ?_ (by decide) (HEND.out _ _ _ _ (HA0.out)))
    exact HE2.out
  cases hr : rtB r
  · have HE2 := Lib.hid (show (2 : Int) = E by rw [HE1.out, if_neg h2, if_pos hr])
    rw [hr] at c72
    clear HX HE1 hl1 hl2 hr
    generalize xs.length = len at *
    go_enter Try.func79, Try.ntmps79
    go_wp2_with fail
    try rw [← hA]
    clear hA
    obtain ⟨k0, k1, k2⟩ := KK.out _ HA0.out
    refine (c95' _).mono ?_
    rintro e w1 ⟨rfl, hw⟩
    have hw2 := hw.symm
    subst hw2
    go_wp2_with fail
    refine (c72 _).mono ?_
    rintro e w1 ⟨rfl, hw⟩
    have hw2 := hw.symm
    subst hw2
    obtain ⟨⟨q0, q1, q2⟩, q3, q4, q5⟩ := KR.out _ (HA0.out)
    go_wp2_with fail
    refine bodyPost_ret (v := .tuple #[.agg #[.int .i64 0, .int .i64 0, .slice none 0 0], .int .i64 2]) (by simp [results, Try.results79, go_sem, q0, q1, q2]) rfl (HR.out _ _ ?_ (by decide) (HEND.out _ _ _ _ (HA0.out)))
    exact HE2.out
  rw [hr] at c72
  have HE2 := Lib.hid (show (∃ k, k < xs.length ∧ okX r (xc xs k) = false) → (2 : Int) = E from fun ⟨k, hk, h⟩ => by rw [HE1.out, if_neg h2, if_neg (by rw [hr]; decide), if_neg (xs_bad hk h)])
  have HE0 := Lib.hid (show (∀ k, k < xs.length → okX r (xc xs k) = true) → (0 : Int) = E from fun h => by rw [HE1.out, if_neg h2, if_neg (by rw [hr]; decide), if_pos (xs_ok h)])
  have HGET := Lib.hid (show ∀ W, Below w.heap.size w W → Xcs w.heap.size W (.slice a xs.length cap) xs from fun W hb => by
    obtain ⟨a', c', e, hl, hc⟩ := HX.out
    refine ⟨a', c', e, hl, fun k hk => ?_⟩
    obtain ⟨b, off, g1, g2, g⟩ := hc k hk
    have ce : ∀ o, W.cell? ⟨b, o, none⟩ = w.cell? ⟨b, o, none⟩ := fun o => hb.cell (p := ⟨b, o, none⟩) g2
    exact ⟨b, off, g1, g2, by simpa only [ce] using g⟩)
  have HOT := Lib.hid (fun k => show ofTo r xs (k + 1) = ofTo r xs k ++ [ofX r (xc xs k)] from rfl)
  have HOL := Lib.hid (fun k => ofTo_len r xs k)
  have HO0 := Lib.hid (show ofTo r xs 0 = [] from rfl)
  clear HX HE1
  generalize hlen : xs.length = len at *
  have HLEN := Lib.hid hlen
  clear hlen
  go_enter Try.func79, Try.ntmps79
  go_wp2_with fail
  try rw [← hA]
  clear hA
  obtain ⟨k0, k1, k2⟩ := KK.out _ HA0.out
  refine (c95' _).mono ?_
  rintro e w1 ⟨rfl, hw⟩
  have hw2 := hw.symm
  subst hw2
  go_wp2_with fail
  refine (c72 _).mono ?_
  rintro e w1 ⟨rfl, hw⟩
  have hw2 := hw.symm
  subst hw2
  have HK0 := Lib.hid (show KnAt (A.alloc (.cells #[.int .i64 p, .int .i64 r, .slice none 0 0] 129)) (w.heap.size + 2) p r (.slice none 0 0) from by refine ⟨by simp; omega, ?_, ?_, ?_, ?_⟩ <;> (rw [← hzA]; simp [go_sem]))
  have HB0 := Lib.hid (show Below (w.heap.size + 2) A (A.alloc (.cells #[.int .i64 p, .int .i64 r, .slice none 0 0] 129)) from HA0.out.alloc (by omega) _)
  have hz0' : (A.alloc (.cells #[.int .i64 p, .int .i64 r, .slice none 0 0] 129)).heap.size = w.heap.size + 3 := by simp; omega
  generalize hV : A.alloc (.cells #[.int .i64 p, .int .i64 r, .slice none 0 0] 129) = V at HK0 HB0 hz0'
  have HV := Lib.hid hV
  clear hV
  go_wp2_with fail
  try rw [HV.out]
  go_loopw [33] (fun i wr => ∃ (k : Nat) (sv : Value), k ≤ len ∧ i = .int .i64 k ∧ KnAt wr (w.heap.size + 2) p r sv ∧ wr.ownsRow (w.heap.size + 3) 122 3 sv k (flatO (ofTo r xs k)) ∧ (∀ j, j < k → okX r (xc xs j) = true) ∧ Below (w.heap.size + 2) A wr) (fun i _ => len - (intOf i).toNat)
  case atStart => exact ⟨0, _, Nat.zero_le _, rfl, HK0.out, by rw [HO0.out]; exact World.ownsRow_nil _ _ _ _, fun j hj => absurd hj (Nat.not_lt_zero _), HB0.out⟩
  case round =>
    obtain ⟨k, sv, hk, rfl, hkn, hrow, hin, hB⟩ := hrel
    obtain ⟨a0, n0, c0, hsv⟩ : ∃ a n c, sv = .slice a n c := by obtain ⟨a, c, e⟩ := own_form hrow; exact ⟨a, k, c, e⟩
    have hrl := hkn.1
    have zz1 : ¬ wr.heap.size = w.heap.size := by omega
    have zz2 : ¬ w.heap.size = wr.heap.size := by omega
    have zz3 : w.heap.size < wr.heap.size := by omega
    have HKN := Lib.hid hkn
    have HROW := Lib.hid hrow
    have HIN := Lib.hid hin
    have HB := Lib.hid hB
    obtain ⟨g0, g1, g2⟩ := KK.out _ hB
    clear hkn hrow hin hB
    by_cases hlt : k < len
    · have hki : (k : Int) < (len : Int) := by omega
      obtain ⟨a9, c9, e9, -, hcc⟩ := HGET.out _ (HBW.out _ HB.out)
      rw [HLEN.out] at e9
      simp only [Value.slice.injEq, true_and] at e9
      obtain ⟨rfl, rfl⟩ := e9
      obtain ⟨b, off, rfl, hb, m0, m1, m2, m3, m4, m5, m6, m7⟩ := hcc k (by rw [HLEN.out]; exact hlt)
      have c22 := fun W => offset_any (xc xs k) r W
      have HOK := Lib.hid (show okX r (xc xs k) = (decide ((offR r (xc xs k)).e = 0) && vB (offR r (xc xs k)).lo (offR r (xc xs k)).hi) from rfl)
      have HGT := Lib.hid (fun h => okX_get (r := r) (x := xc xs k) h)
      have HSN := Lib.hid (show ofX r (xc xs k) = ⟨offL r (xc xs k), offH r (xc xs k), (xc xs k).ba⟩ from rfl)
      have HOTk := Lib.hid (HOT.out k)
      have HIN2 := Lib.hid (show okX r (xc xs k) = true → ∀ j, j < k + 1 → okX r (xc xs j) = true from fun h j hj => by by_cases e : j = k; (subst e; exact h); exact HIN.out j (by omega))
      have HBAD := Lib.hid (show okX r (xc xs k) = false → (2 : Int) = E from fun h => HE2.out ⟨k, hlt, h⟩)
      unfold Xc.val R3.out at c22
      generalize hz : offR r (xc xs k) = z at *
      have HZ := Lib.hid hz
      obtain ⟨z0, z1, ze⟩ := z
      dsimp only at *
      generalize hok : okX r (xc xs k) = ok at *
      generalize hy : ofX r (xc xs k) = oo at *
      have c70 := fun W => check_any z0 z1 W
      generalize (xc xs k).se = y0 at *
      generalize (xc xs k).he = y1 at *
      generalize (xc xs k).an = y2 at *
      generalize hy3 : (xc xs k).ba = y3 at *
      generalize (xc xs k).fLo = y4 at *
      generalize (xc xs k).fHi = y5 at *
      generalize (xc xs k).hLo = y6 at *
      generalize (xc xs k).hHi = y7 at *
      clear hz hok hy hy3 hcc
      go_wp2_with fail
      refine (c22 _).mono ?_
      rintro e w2 ⟨rfl, hb2⟩
      have hw2 := hb2.size
      simp at hw2
      have n3 := hb2.cell (p := ⟨wr.heap.size, 3, none⟩) (by simp)
      simp [go_sem] at n3
      have hB2 : Below (w.heap.size + 2) A w2 := (HB.out.alloc (by omega) _).trans (hb2.mono (by simp; omega))
      have HB2 := Lib.hid hB2
      have HKN2 := Lib.hid ((HKN.out.keep ((Below.refl _ _).alloc (Nat.le_refl _) _)).keep hb2)
      have HROW2 := Lib.hid (own_below (HROW.out.alloc _) hb2)
      obtain ⟨g0, g1, g2⟩ := KK.out _ hB2
      clear hb2 hB2 m0 m1 m2 m3 m4 m5 m6 m7 c22
      by_cases hze : ze = 0
      rotate_left
      · have hzb : (ze != 0) = true := by simpa using hze
        have hokf : ok = false := by rw [HOK.out, decide_eq_false hze, Bool.false_and]
        have HB2f := Lib.hid (HB2.out.alloc (by omega) (.cells #[.int .i64 z0, .int .i64 z1] 23))
        obtain ⟨⟨q0, q1, q2⟩, q3, q4, q5⟩ := KR.out _ (HB2f.out)
        go_wp2_with fail
        refine bodyPost_ret (v := .tuple #[.agg #[.int .i64 0, .int .i64 0, .slice none 0 0], .int .i64 2]) (by simp [results, Try.results79, go_sem, q0, q1, q2]) rfl (HR.out _ _ ?_ (by decide) (HEND.out _ _ _ _ (HB2f.out)))
        exact HBAD.out hokf
      subst hze
      cases hv : vB z0 z1
      · have hokf : ok = false := by rw [HOK.out, hv, Bool.and_false]
        have c70' : ∀ W, Calls Try.prog 70 #[.agg #[.int .i64 z0, .int .i64 z1]] W fun e w' => e = .returned (.int .i64 2) ∧ Below W.heap.size W w' := fun W => by have q := c70 W; rwa [hv, if_neg (by decide)] at q
        clear c70
        go_wp2_with fail
        refine (c70' _).mono ?_
        rintro e w3 ⟨rfl, hb3⟩
        have HB3 := Lib.hid (show Below (w.heap.size + 2) A w3 from (HB2.out.alloc (by omega) (.cells #[.int .i64 z0, .int .i64 z1] 23)).trans (hb3.mono (by simp; omega)))
        clear hb3
        obtain ⟨⟨q0, q1, q2⟩, q3, q4, q5⟩ := KR.out _ (HB3.out)
        go_wp2_with fail
        refine bodyPost_ret (v := .tuple #[.agg #[.int .i64 0, .int .i64 0, .slice none 0 0], .int .i64 2]) (by simp [results, Try.results79, go_sem, q0, q1, q2]) rfl (HR.out _ _ ?_ (by decide) (HEND.out _ _ _ _ (HB3.out)))
        exact HBAD.out hokf
      have hokt : ok = true := by rw [HOK.out, hv]; rfl
      have c70' : ∀ W, Calls Try.prog 70 #[.agg #[.int .i64 z0, .int .i64 z1]] W fun e w' => e = .returned (.int .i64 0) ∧ Below W.heap.size W w' := fun W => by have q := c70 W; rwa [hv, if_pos rfl] at q
      obtain ⟨q1, -, -, -, -⟩ := HGT.out hokt
      have q2 := q1
      simp only [R3.mk.injEq] at q2
      have HOO := Lib.hid (show oo = ⟨z0, z1, y3⟩ by rw [HSN.out, q2.1, q2.2.1])
      clear c70 q1 q2 HZ HGT
      go_wp2_with fail
      refine (c70' _).mono ?_
      rintro e w3 ⟨rfl, hb3⟩
      have hw3 := hb3.size
      simp at hw3
      have n3a := ((Below.refl w2.heap.size w2).alloc (Nat.le_refl _) (.cells #[.int .i64 z0, .int .i64 z1] 23)).cell (p := ⟨wr.heap.size, 3, none⟩) (by show wr.heap.size < w2.heap.size; omega)
      have n3' := (hb3.cell (p := ⟨wr.heap.size, 3, none⟩) (by simp; omega)).trans (n3a.trans n3)
      clear n3a
      have t0 := hb3.cell (p := ⟨w2.heap.size, 0, none⟩) (by simp)
      have t1 := hb3.cell (p := ⟨w2.heap.size, 1, none⟩) (by simp)
      simp [go_sem] at t0 t1
      have hB3 : Below (w.heap.size + 2) A w3 := (HB2.out.alloc (by omega) (.cells #[.int .i64 z0, .int .i64 z1] 23)).trans (hb3.mono (by simp; omega))
      have HB3 := Lib.hid hB3
      have hKN3 := ((HKN2.out.keep ((Below.refl _ _).alloc (Nat.le_refl _) _)).keep hb3)
      have HKN3 := Lib.hid hKN3
      have HROW3 := Lib.hid (own_below (HROW2.out.alloc _) hb3)
      obtain ⟨-, -, -, k32, k3f⟩ := hKN3
      subst hsv
      clear hb3 hB3 n3
      go_wp2_with (at_builtin; refine wpList_append_own _ rfl _ _ 127 rfl (w.heap.size + 3) 122 i0 (.agg #[.int .i64 0, .int .i64 0, .int .i64 0]) 3 24 Try.underlying127 hi0 hz0 hz1 hz2 rfl (by decide) _ _ _ rfl (HROW3.out.alloc _) ⟨w3.heap.size, 0, none⟩ 1 1 [.int .i64 z0, .int .i64 z1, .int .i64 y3] rfl rfl (three_new _ _ _ _) (by simp [Value.oneCell']) (by unfold maxLen; omega) (by omega) (by simp; omega) ?_; intro v' w5 hrow' hgrow _; obtain ⟨a5, c5, rfl⟩ := own_form hrow'; have hkn5 := (HKN3.out.keep ((Below.refl _ _).alloc (Nat.le_refl _) _)).grown hgrow (fun hj => by have := ((HROW3.out.alloc (.cells #[.int .i64 z0, .int .i64 z1, .int .i64 y3] 122)).lt _ hj).1; omega); have HKN5 := Lib.hid hkn5; have HROW5 := Lib.hid hrow'; have HB5 := Lib.hid ((HB3.out.alloc (by omega) _).grown hgrow (by simp; omega) (fun j hj => by have := ((HROW3.out.alloc (.cells #[.int .i64 z0, .int .i64 z1, .int .i64 y3] 122)).lt j hj).1; omega)); obtain ⟨-, -, -, k52, k5f⟩ := hkn5; clear hrow' hgrow)
      have HB6 := Lib.hid (HB5.out.setCell (p := ⟨w.heap.size + 2, 2, none⟩) (Nat.le_refl _) (.slice a5 (k + 1) c5))
      have HKN6 := Lib.hid (HKN5.out.set (.slice a5 (k + 1) c5))
      have HROW6 := Lib.hid (own_set HROW5.out (w.heap.size + 2) 2 (.slice a5 (k + 1) c5) (Nat.lt_succ_self _))
      go_roundw
      case rel => exact ⟨k + 1, .slice a5 (k + 1) c5, by omega, by go_num, HKN6.out, by rw [HOTk.out, HOO.out, flatO_snoc]; exact HROW6.out, HIN2.out hokt, HB6.out⟩
      case measure => simp [intOf]; omega
    · obtain rfl : k = len := by omega
      obtain ⟨-, kk0, kk1, kk2, -⟩ := HKN.out
      obtain ⟨⟨q0, q1, q2⟩, q3, q4, q5⟩ := KR.out _ HB.out
      subst hsv
      go_wp2_with fail
      refine bodyPost_ret (v := .tuple #[.agg #[.int .i64 p, .int .i64 r, .slice a0 n0 c0], .int .i64 0]) (by simp [results, Try.results79, go_sem, q0, q1, q2]) rfl (HR0.out _ _ (HE0.out HIN.out) ?_ ⟨_, _, _, rfl⟩ (HEND.out _ _ _ _ HB.out))
      exact ofs_of_owns (by rw [HOL.out]; exact own_set (own_set (own_set HROW.out (w.heap.size + 1) 0 _ (by omega)) (w.heap.size + 1) 1 _ (by omega)) (w.heap.size + 1) 2 _ (by omega))
end Go.Proofs.Ytcchmjbedppfnaa

/-
  Clock: the reference's Contradiction, CheckContradiction and Due.
-/
import Derived.Test.YtcchmjbedppfnaaRkI
import Derived.Test.YtcchmjbedppfnaaLawDue
namespace Go.Proofs.Ytcchmjbedppfnaa
open Go.RowKit Go.Shelf
set_option linter.unusedSimpArgs false
theorem CtrP.one {p r : Int} {xs : List Xc} {i k e i' k' e' : Int} (h : CtrP p r xs i k e) (g : CtrP p r xs i' k' e') : i = i' ∧ k = k' ∧ e = e' := by
  rcases h with ⟨h, rfl, rfl, rfl⟩ | ⟨h0, z, hz, h⟩
  · rcases g with ⟨-, rfl, rfl, rfl⟩ | ⟨g0, -⟩
    · exact ⟨rfl, rfl, rfl⟩
    · exact absurd g0 h
  · rcases g with ⟨g, -⟩ | ⟨-, y, hy, g⟩
    · exact absurd h0 g
    · obtain rfl := hz.one hy
      rcases h with ⟨rfl, rfl, rfl, rfl⟩ | ⟨h, rfl, rfl, rfl⟩
      · rcases g with ⟨-, rfl, rfl, rfl⟩ | ⟨g, -⟩
        · exact ⟨rfl, rfl, rfl⟩
        · exact absurd g (by decide)
      · rcases g with ⟨g, -⟩ | ⟨-, rfl, rfl, rfl⟩
        · rw [g] at h; exact absurd h (by decide)
        · exact ⟨rfl, rfl, rfl⟩
theorem DueP.one {p r : Int} {xs : List Xc} {l m e m' e' : Int} (h : DueP p r xs l m e) (g : DueP p r xs l m' e') : m = m' ∧ e = e' := by
  rcases h with ⟨h, rfl, rfl⟩ | ⟨h0, h⟩
  · rcases g with ⟨-, rfl, rfl⟩ | ⟨g0, -⟩
    · exact ⟨rfl, rfl⟩
    · exact absurd g0 h
  rcases g with ⟨g, -⟩ | ⟨-, g⟩
  · exact absurd h0 g
  rcases h with ⟨h, rfl, rfl⟩ | ⟨hl, h⟩
  · rcases g with ⟨-, rfl, rfl⟩ | ⟨g, -⟩
    · exact ⟨rfl, rfl⟩
    · exact absurd g h
  rcases g with ⟨g, -⟩ | ⟨-, g⟩
  · exact absurd hl g
  rcases h with ⟨h, rfl, rfl⟩ | ⟨hs, h⟩
  · rcases g with ⟨-, rfl, rfl⟩ | ⟨g, -⟩
    · exact ⟨rfl, rfl⟩
    · rw [g] at h; exact absurd h (by decide)
  rcases g with ⟨g, -⟩ | ⟨-, g⟩
  · rw [hs] at g; exact absurd g (by decide)
  have hr := (valid_of h0).1.1
  rcases h with ⟨h, rfl, rfl⟩ | ⟨h1, h2, h3, h4, rfl⟩
  · rcases g with ⟨-, rfl, rfl⟩ | ⟨g1, g2, g3, -, -⟩
    · exact ⟨rfl, rfl⟩
    · have := wd_mono hr g1 g2 g3
      rw [this] at h; exact absurd h (by decide)
  · rcases g with ⟨g, -⟩ | ⟨g1, g2, g3, g4, rfl⟩
    · have := wd_mono hr h1 h2 h3
      rw [this] at g; exact absurd g (by decide)
    · refine ⟨?_, rfl⟩
      rcases Int.lt_trichotomy m m' with q | q | q
      · exfalso
        rcases g4 with g4 | g4
        · omega
        · have := wd_mono (t := m' - 1) hr h1 (by omega) h3
          rw [this] at g4; exact absurd g4 (by decide)
      · exact q
      · exfalso
        rcases h4 with h4 | h4
        · omega
        · have := wd_mono (t := m - 1) hr g1 (by omega) g3
          rw [this] at h4; exact absurd h4 (by decide)
section
set_option maxRecDepth 100000
set_option maxHeartbeats 4000000
theorem rcontra31_any (p r : Int) (sv : Value) (xs : List Xc) (w : World) (hX : Xcs w.heap.size w sv xs) :
    Calls Try.prog 31 #[.agg #[.int .i64 p, .int .i64 r, sv]] w fun e w' => ∃ i k f, e = .returned (.tuple #[.int .i64 i, .int .i64 k, .int .i64 f]) ∧ CtrP p r xs i k f ∧ Below w.heap.size w w' := by
  have c29 := Lib.hid (fun W (hb : Below w.heap.size w W) => rcheckClock_any p r sv xs W (hX.at hb))
  have c90 := Lib.hid (fun (h0 : lrnE p r xs = 0) W (hb : Below w.heap.size w W) => rcontradiction_any p r sv xs h0 W (hX.at hb))
  have HD1 := Lib.hid (show lrnE p r xs ≠ 0 → CtrP p r xs 0 0 (lrnE p r xs) from fun h => .inl ⟨h, rfl, rfl, rfl⟩)
  have HD2 := Lib.hid (show lrnE p r xs = 0 → ∀ i k, RctP r (ofA r xs) i k → (i = -1 ∧ CtrP p r xs 0 0 5) ∨ (0 ≤ i ∧ CtrP p r xs i k 0) from fun h i k hz => by
    obtain ⟨z, hz, ⟨h1, rfl, rfl⟩ | ⟨h1, rfl, rfl⟩⟩ := hz
    · exact .inl ⟨rfl, .inr ⟨h, z, hz, .inl ⟨h1, rfl, rfl, rfl⟩⟩⟩
    · exact .inr ⟨by omega, .inr ⟨h, z, hz, .inr ⟨h1, rfl, rfl, rfl⟩⟩⟩)
  generalize CtrP p r xs = PP at *
  generalize RctP r (ofA r xs) = RR at *
  obtain ⟨a, cap, hsv⟩ := hX.form
  subst hsv
  clear hX
  generalize lrnE p r xs = E0 at *
  generalize xs.length = len at *
  obtain ⟨A, hA⟩ : ∃ A, A = w.alloc (.cells #[.int .i64 p, .int .i64 r, .slice a len cap] 28) := ⟨_, rfl⟩
  have hzA : A.heap.size = w.heap.size + 1 := by rw [hA]; simp
  have HBA := Lib.hid (show Below w.heap.size w A by rw [hA]; exact (Below.refl _ _).alloc (Nat.le_refl _) _)
  have k0 : A.cell? ⟨w.heap.size, 0, none⟩ = some (.int .i64 p) := by rw [hA]; simp [go_sem]
  have k1 : A.cell? ⟨w.heap.size, 1, none⟩ = some (.int .i64 r) := by rw [hA]; simp [go_sem]
  have k2 : A.cell? ⟨w.heap.size, 2, none⟩ = some (.slice a len cap) := by rw [hA]; simp [go_sem]
  have KK := Lib.hid (show ∀ W, Below A.heap.size A W → W.cell? ⟨w.heap.size, 0, none⟩ = some (.int .i64 p) ∧ W.cell? ⟨w.heap.size, 1, none⟩ = some (.int .i64 r) ∧ W.cell? ⟨w.heap.size, 2, none⟩ = some (.slice a len cap) from fun W h => ⟨(h.cell (p := ⟨w.heap.size, 0, none⟩) (by show w.heap.size < A.heap.size; omega)).trans k0, (h.cell (p := ⟨w.heap.size, 1, none⟩) (by show w.heap.size < A.heap.size; omega)).trans k1, (h.cell (p := ⟨w.heap.size, 2, none⟩) (by show w.heap.size < A.heap.size; omega)).trans k2⟩)
  have HUP := Lib.hid (show ∀ W, Below A.heap.size A W → Below w.heap.size w W from fun W h => HBA.out.trans (h.mono HBA.out.size))
  clear hzA
  go_enter Try.func31, Try.ntmps31
  go_wp2_with fail
  try rw [← hA]
  clear hA
  refine (c29.out _ HBA.out).mono ?_
  rintro e w1 ⟨rfl, hb⟩
  have HB1 := Lib.hid hb
  clear hb k0 k1 k2
  obtain ⟨g0, g1, g2⟩ := KK.out _ HB1.out
  by_cases h0 : E0 = 0
  rotate_left
  · have hb0 : (E0 != 0) = true := by simpa using h0
    go_wp2_with fail
    refine (c29.out _ (HUP.out _ HB1.out)).mono ?_
    rintro e w2 ⟨rfl, hb⟩
    have HB2 := Lib.hid (HB1.out.trans (hb.mono HB1.out.size))
    have hd := HD1.out h0
    have HD := Lib.hid hd
    clear hb hd
    go_wp2_with fail
    refine bodyPost_ret (v := .tuple #[.int .i64 0, .int .i64 0, .int .i64 E0]) (by simp [results, Try.results31, go_sem]) rfl ⟨0, 0, E0, rfl, HD.out, HUP.out _ HB2.out⟩
  have HC := Lib.hid (c90.out h0 _ (HUP.out _ HB1.out))
  have HD3 := Lib.hid (HD2.out h0)
  subst h0
  go_wp2_with fail
  refine HC.out.mono ?_
  rintro e w2 ⟨i, k, rfl, hP, hb⟩
  have HB2 := Lib.hid (HB1.out.trans (hb.mono HB1.out.size))
  clear hb
  rcases HD3.out i k hP with ⟨rfl, hd⟩ | ⟨hi, hd⟩
  · have HD := Lib.hid hd
    clear hd hP
    go_wp2_with fail
    refine bodyPost_ret (v := .tuple #[.int .i64 0, .int .i64 0, .int .i64 5]) (by simp [results, Try.results31, go_sem]) rfl ⟨0, 0, 5, rfl, HD.out, HUP.out _ HB2.out⟩
  · have HD := Lib.hid hd
    have hi2 : ¬ i < 0 := by omega
    clear hd hP
    go_wp2_with fail
    refine bodyPost_ret (v := .tuple #[.int .i64 i, .int .i64 k, .int .i64 0]) (by simp [results, Try.results31, go_sem]) rfl ⟨i, k, 0, rfl, HD.out, HUP.out _ HB2.out⟩
theorem rcck_any (p r i k : Int) (sv : Value) (xs : List Xc) (w : World) (hX : Xcs w.heap.size w sv xs) :
    Calls Try.prog 35 #[.agg #[.int .i64 p, .int .i64 r, sv], .int .i64 i, .int .i64 k] w fun e w' => e = .returned (.int .i64 (cckE p r xs i k)) ∧ Below w.heap.size w w' := by
  have c29 := Lib.hid (fun W (hb : Below w.heap.size w W) => rcheckClock_any p r sv xs W (hX.at hb))
  have c97 := Lib.hid (fun (h0 : lrnE p r xs = 0) (i k : Nat) (hi : i < xs.length) (hk : k < xs.length) W (hb : Below w.heap.size w W) => rcontradict_any p r sv xs (lrnE_ok h0).2.2.1 (lrnE_ok h0).2.2.2 i k hi hk (lrnE_ok h0).1.2 W (hX.at hb))
  have H1 := Lib.hid (show lrnE p r xs ≠ 0 → cckE p r xs i k = lrnE p r xs from fun h => by unfold cckE; rw [if_neg h])
  have H2 := Lib.hid (show lrnE p r xs = 0 → (i < 0 ∨ (xs.length : Int) ≤ i ∨ k < 0 ∨ (xs.length : Int) ≤ k) → cckE p r xs i k = 3 from fun h h2 => by
    unfold cckE
    rw [if_pos h]
    by_cases q : 0 ≤ i ∧ i ≤ (xs.length : Int) - 1
    · rw [if_pos q, if_neg (by omega)]
    · rw [if_neg q])
  have H3 := Lib.hid (show lrnE p r xs = 0 → ∀ m n : Nat, i = (m : Int) → k = (n : Int) → m < xs.length → n < xs.length → cckE p r xs i k = if cdB r (ofTo r xs xs.length) m n = true then 0 else 16 from fun h m n e1 e2 h1 h2 => by subst e1 e2; exact cck_yes h h1 h2)
  have H4 := Lib.hid (show lrnE p r xs = 0 → ∀ m : Nat, m < xs.length → cdB r (ofTo r xs xs.length) m m = false from fun h m h1 => cd_self (valid_of h) (by show m < (ofTo r xs xs.length).length; rw [ofTo_len]; exact h1))
  obtain ⟨a, cap, hsv⟩ := hX.form
  subst hsv
  clear hX
  generalize cckE p r xs i k = Z at *
  generalize ofTo r xs xs.length = os at *
  generalize lrnE p r xs = E0 at *
  generalize xs.length = len at *
  obtain ⟨A, hA⟩ : ∃ A, A = w.alloc (.cells #[.int .i64 p, .int .i64 r, .slice a len cap] 28) := ⟨_, rfl⟩
  have hzA : A.heap.size = w.heap.size + 1 := by rw [hA]; simp
  have HBA := Lib.hid (show Below w.heap.size w A by rw [hA]; exact (Below.refl _ _).alloc (Nat.le_refl _) _)
  have k0 : A.cell? ⟨w.heap.size, 0, none⟩ = some (.int .i64 p) := by rw [hA]; simp [go_sem]
  have k1 : A.cell? ⟨w.heap.size, 1, none⟩ = some (.int .i64 r) := by rw [hA]; simp [go_sem]
  have k2 : A.cell? ⟨w.heap.size, 2, none⟩ = some (.slice a len cap) := by rw [hA]; simp [go_sem]
  have KK := Lib.hid (show ∀ W, Below A.heap.size A W → W.cell? ⟨w.heap.size, 0, none⟩ = some (.int .i64 p) ∧ W.cell? ⟨w.heap.size, 1, none⟩ = some (.int .i64 r) ∧ W.cell? ⟨w.heap.size, 2, none⟩ = some (.slice a len cap) from fun W h => ⟨(h.cell (p := ⟨w.heap.size, 0, none⟩) (by show w.heap.size < A.heap.size; omega)).trans k0, (h.cell (p := ⟨w.heap.size, 1, none⟩) (by show w.heap.size < A.heap.size; omega)).trans k1, (h.cell (p := ⟨w.heap.size, 2, none⟩) (by show w.heap.size < A.heap.size; omega)).trans k2⟩)
  have HUP := Lib.hid (show ∀ W, Below A.heap.size A W → Below w.heap.size w W from fun W h => HBA.out.trans (h.mono HBA.out.size))
  clear hzA
  by_cases h0 : E0 = 0
  rotate_left
  · have hz := H1.out h0
    have hb0 : (E0 != 0) = true := by simpa using h0
    subst hz
    go_enter Try.func35, Try.ntmps35
    go_wp2_with fail
    try rw [← hA]
    clear hA
    refine (c29.out _ HBA.out).mono ?_
    rintro e w1 ⟨rfl, hb⟩
    have HB1 := Lib.hid hb
    clear hb k0 k1 k2
    obtain ⟨g0, g1, g2⟩ := KK.out _ HB1.out
    go_wp2_with fail
    refine (c29.out _ (HUP.out _ HB1.out)).mono ?_
    rintro e w2 ⟨rfl, hb⟩
    have HB2 := Lib.hid (HB1.out.trans (hb.mono HB1.out.size))
    clear hb
    go_wp2_with fail
    go_ret
    exact ⟨rfl, HUP.out _ HB2.out⟩
  have H2b := Lib.hid (H2.out h0)
  have H3b := Lib.hid (H3.out h0)
  have H4b := Lib.hid (H4.out h0)
  have c97b := Lib.hid (c97.out h0)
  clear H1 H2 H3 H4 c97
  subst h0
  by_cases hi0 : i < 0
  · have hz := H2b.out (.inl hi0)
    subst hz
    go_enter Try.func35, Try.ntmps35
    go_wp2_with fail
    try rw [← hA]
    clear hA
    refine (c29.out _ HBA.out).mono ?_
    rintro e w1 ⟨rfl, hb⟩
    have HB1 := Lib.hid hb
    clear hb k0 k1 k2
    obtain ⟨g0, g1, g2⟩ := KK.out _ HB1.out
    go_wp2_with fail
    go_ret
    exact ⟨rfl, HUP.out _ HB1.out⟩
  by_cases hi1 : (len : Int) ≤ i
  · have hz := H2b.out (.inr (.inl hi1))
    subst hz
    go_enter Try.func35, Try.ntmps35
    go_wp2_with fail
    try rw [← hA]
    clear hA
    refine (c29.out _ HBA.out).mono ?_
    rintro e w1 ⟨rfl, hb⟩
    have HB1 := Lib.hid hb
    clear hb k0 k1 k2
    obtain ⟨g0, g1, g2⟩ := KK.out _ HB1.out
    go_wp2_with fail
    go_ret
    exact ⟨rfl, HUP.out _ HB1.out⟩
  by_cases hk0 : k < 0
  · have hz := H2b.out (.inr (.inr (.inl hk0)))
    subst hz
    go_enter Try.func35, Try.ntmps35
    go_wp2_with fail
    try rw [← hA]
    clear hA
    refine (c29.out _ HBA.out).mono ?_
    rintro e w1 ⟨rfl, hb⟩
    have HB1 := Lib.hid hb
    clear hb k0 k1 k2
    obtain ⟨g0, g1, g2⟩ := KK.out _ HB1.out
    go_wp2_with fail
    go_ret
    exact ⟨rfl, HUP.out _ HB1.out⟩
  by_cases hk1 : (len : Int) ≤ k
  · have hz := H2b.out (.inr (.inr (.inr hk1)))
    subst hz
    go_enter Try.func35, Try.ntmps35
    go_wp2_with fail
    try rw [← hA]
    clear hA
    refine (c29.out _ HBA.out).mono ?_
    rintro e w1 ⟨rfl, hb⟩
    have HB1 := Lib.hid hb
    clear hb k0 k1 k2
    obtain ⟨g0, g1, g2⟩ := KK.out _ HB1.out
    go_wp2_with fail
    go_ret
    exact ⟨rfl, HUP.out _ HB1.out⟩
  obtain ⟨m, em⟩ : ∃ m : Nat, i = (m : Int) := ⟨i.toNat, by omega⟩
  obtain ⟨n, en⟩ : ∃ n : Nat, k = (n : Int) := ⟨k.toNat, by omega⟩
  have hz := H3b.out m n em en (by omega) (by omega)
  subst em en
  have hm : m < len := by omega
  have hn : n < len := by omega
  by_cases hmn : m = n
  · subst hmn
    rw [H4b.out m hm, if_neg (by decide)] at hz
    subst hz
    go_enter Try.func35, Try.ntmps35
    go_wp2_with fail
    try rw [← hA]
    clear hA
    refine (c29.out _ HBA.out).mono ?_
    rintro e w1 ⟨rfl, hb⟩
    have HB1 := Lib.hid hb
    clear hb k0 k1 k2
    obtain ⟨g0, g1, g2⟩ := KK.out _ HB1.out
    go_wp2_with fail
    go_ret
    exact ⟨rfl, HUP.out _ HB1.out⟩
  have hmn2 : ¬ ((m : Int) = (n : Int)) := by omega
  have HC := Lib.hid (c97b.out m n hm hn)
  clear H2b H3b H4b c97b
  generalize cdB r os m n = cd at *
  cases cd
  · rw [if_neg (by decide)] at hz
    subst hz
    go_enter Try.func35, Try.ntmps35
    go_wp2_with fail
    try rw [← hA]
    clear hA
    refine (c29.out _ HBA.out).mono ?_
    rintro e w1 ⟨rfl, hb⟩
    have HB1 := Lib.hid hb
    clear hb k0 k1 k2
    obtain ⟨g0, g1, g2⟩ := KK.out _ HB1.out
    go_wp2_with fail
    refine (HC.out _ (HUP.out _ HB1.out)).mono ?_
    rintro e w2 ⟨rfl, hb⟩
    have HB2 := Lib.hid (HB1.out.trans (hb.mono HB1.out.size))
    clear hb
    go_wp2_with fail
    go_ret
    exact ⟨rfl, HUP.out _ HB2.out⟩
  · rw [if_pos rfl] at hz
    subst hz
    go_enter Try.func35, Try.ntmps35
    go_wp2_with fail
    try rw [← hA]
    clear hA
    refine (c29.out _ HBA.out).mono ?_
    rintro e w1 ⟨rfl, hb⟩
    have HB1 := Lib.hid hb
    clear hb k0 k1 k2
    obtain ⟨g0, g1, g2⟩ := KK.out _ HB1.out
    go_wp2_with fail
    refine (HC.out _ (HUP.out _ HB1.out)).mono ?_
    rintro e w2 ⟨rfl, hb⟩
    have HB2 := Lib.hid (HB1.out.trans (hb.mono HB1.out.size))
    clear hb
    go_wp2_with fail
    go_ret
    exact ⟨rfl, HUP.out _ HB2.out⟩
theorem rdue_any (p r limit : Int) (sv : Value) (xs : List Xc) (w : World) (hX : Xcs w.heap.size w sv xs) :
    Calls Try.prog 33 #[.agg #[.int .i64 p, .int .i64 r, sv], .int .i64 limit] w fun e w' => ∃ m f, e = .returned (.tuple #[.int .i64 m, .int .i64 f]) ∧ DueP p r xs limit m f ∧ Below w.heap.size w w' := by
  have c29 := Lib.hid (fun W (hb : Below w.heap.size w W) => rcheckClock_any p r sv xs W (hX.at hb))
  have c84 := Lib.hid (fun (h0 : lrnE p r xs = 0) W (hb : Below w.heap.size w W) => rsound_any p r sv xs h0 W (hX.at hb))
  have c85 := Lib.hid (fun (h0 : lrnE p r xs = 0) t (ht : 0 ≤ t ∧ t ≤ 1125899906842624) W (hb : Below w.heap.size w W) => show Calls Try.prog 85 #[.agg #[.int .i64 p, .int .i64 r, sv], .int .i64 t] W fun e w' => e = .returned (spv (atS r t (ofA r xs))) ∧ Below W.heap.size W w' from by
    have q := rat_any p r t sv xs (lrnE_ok h0).2.2.1 (lrnE_ok h0).1.2 (lrnE_ok h0).2.2.2 (by omega) W (hX.at hb)
    rwa [ratK_at (valid_of h0) (lrnE_ok h0).1.1 (by omega)] at q)
  have HBD := Lib.hid (fun (h0 : lrnE p r xs = 0) t (ht : 0 ≤ t ∧ t ≤ 1125899906842624) => atS_bd (t := t) (os := ofA r xs) (valid_of h0) (by have := (lrnE_ok h0).1.1; show 1 ≤ (ofTo r xs xs.length).length; rw [ofTo_len]; exact this) (by omega))
  have HWD := Lib.hid (show ∀ t, wdB r (ofA r xs) limit t = decide (limit < (atS r t (ofA r xs)).2 - (atS r t (ofA r xs)).1) from fun t => rfl)
  have D1 := Lib.hid (show lrnE p r xs ≠ 0 → DueP p r xs limit 0 (lrnE p r xs) from fun h => .inl ⟨h, rfl, rfl⟩)
  have D2 := Lib.hid (show lrnE p r xs = 0 → ¬ (0 ≤ limit ∧ limit ≤ 1073741824) → DueP p r xs limit 0 3 from fun h h2 => .inr ⟨h, .inl ⟨h2, rfl, rfl⟩⟩)
  have D3 := Lib.hid (show lrnE p r xs = 0 → (0 ≤ limit ∧ limit ≤ 1073741824) → sdB r (ofA r xs) = false → DueP p r xs limit 0 5 from fun h h2 h3 => .inr ⟨h, .inr ⟨h2, .inl ⟨h3, rfl, rfl⟩⟩⟩)
  have D4 := Lib.hid (show lrnE p r xs = 0 → (0 ≤ limit ∧ limit ≤ 1073741824) → sdB r (ofA r xs) = true → wdB r (ofA r xs) limit 1125899906842624 = false → DueP p r xs limit 0 15 from fun h h2 h3 h4 => .inr ⟨h, .inr ⟨h2, .inr ⟨h3, .inl ⟨h4, rfl, rfl⟩⟩⟩⟩)
  have D5 := Lib.hid (show lrnE p r xs = 0 → (0 ≤ limit ∧ limit ≤ 1073741824) → sdB r (ofA r xs) = true → ∀ m, lstX xs xs.length ≤ m → m ≤ 1125899906842624 → wdB r (ofA r xs) limit m = true → (m = lstX xs xs.length ∨ wdB r (ofA r xs) limit (m - 1) = false) → DueP p r xs limit m 0 from fun h h2 h3 m a b c d => .inr ⟨h, .inr ⟨h2, .inr ⟨h3, .inr ⟨by rw [← lstX_all h]; exact a, b, c, by rw [← lstX_all h]; exact d, rfl⟩⟩⟩⟩)
  have HLL := Lib.hid (show lrnE p r xs = 0 → 0 ≤ lstX xs xs.length ∧ lstX xs xs.length ≤ 1125899906842624 from fun h => by
    have q := lst_bd (valid_of h) (by have := (lrnE_ok h).1.1; show 1 ≤ (ofTo r xs xs.length).length; rw [ofTo_len]; exact this) _ (Nat.le_refl _)
    rw [lstX_all h]
    exact ⟨q.1, q.2⟩)
  have HL64 := Lib.hid (show lrnE p r xs = 0 → xs.length ≤ 64 from fun h => (lrnE_ok h).1.2)
  have HL0 := Lib.hid (show lstX xs 0 = 0 from rfl)
  have HLS := Lib.hid (fun k => show lstX xs (k + 1) = max (lstX xs k) (xc xs k).ba from rfl)
  have HXC := Lib.hid (fun W (hb : Below w.heap.size w W) => hX.at hb)
  obtain ⟨a, cap, hsv⟩ := hX.form
  subst hsv
  clear hX
  generalize DueP p r xs limit = PP at *
  generalize sdB r (ofA r xs) = sd at *
  generalize ofA r xs = os at *
  generalize lrnE p r xs = E0 at *
  generalize hlen : xs.length = len at *
  have HLEN := Lib.hid hlen
  clear hlen
  obtain ⟨A, hA⟩ : ∃ A, A = w.alloc (.cells #[.int .i64 p, .int .i64 r, .slice a len cap] 28) := ⟨_, rfl⟩
  have hzA : A.heap.size = w.heap.size + 1 := by rw [hA]; simp
  have HBA := Lib.hid (show Below w.heap.size w A by rw [hA]; exact (Below.refl _ _).alloc (Nat.le_refl _) _)
  have k0 : A.cell? ⟨w.heap.size, 0, none⟩ = some (.int .i64 p) := by rw [hA]; simp [go_sem]
  have k1 : A.cell? ⟨w.heap.size, 1, none⟩ = some (.int .i64 r) := by rw [hA]; simp [go_sem]
  have k2 : A.cell? ⟨w.heap.size, 2, none⟩ = some (.slice a len cap) := by rw [hA]; simp [go_sem]
  have KK := Lib.hid (show ∀ W, Below A.heap.size A W → W.cell? ⟨w.heap.size, 0, none⟩ = some (.int .i64 p) ∧ W.cell? ⟨w.heap.size, 1, none⟩ = some (.int .i64 r) ∧ W.cell? ⟨w.heap.size, 2, none⟩ = some (.slice a len cap) from fun W h => ⟨(h.cell (p := ⟨w.heap.size, 0, none⟩) (by show w.heap.size < A.heap.size; omega)).trans k0, (h.cell (p := ⟨w.heap.size, 1, none⟩) (by show w.heap.size < A.heap.size; omega)).trans k1, (h.cell (p := ⟨w.heap.size, 2, none⟩) (by show w.heap.size < A.heap.size; omega)).trans k2⟩)
  have HUP := Lib.hid (show ∀ W, Below A.heap.size A W → Below w.heap.size w W from fun W h => HBA.out.trans (h.mono HBA.out.size))
  clear hzA
  go_enter Try.func33, Try.ntmps33
  go_wp2_with fail
  try rw [← hA]
  clear hA
  refine (c29.out _ HBA.out).mono ?_
  rintro e w1 ⟨rfl, hb⟩
  have HB1 := Lib.hid hb
  clear hb k0 k1 k2
  obtain ⟨g0, g1, g2⟩ := KK.out _ HB1.out
  by_cases h0 : E0 = 0
  rotate_left
  · have hb0 : (E0 != 0) = true := by simpa using h0
    have HD := Lib.hid (D1.out h0)
    go_wp2_with fail
    refine (c29.out _ (HUP.out _ HB1.out)).mono ?_
    rintro e w2 ⟨rfl, hb⟩
    have HB2 := Lib.hid (HB1.out.trans (hb.mono HB1.out.size))
    clear hb
    go_wp2_with fail
    go_ret2
    exact ⟨0, E0, rfl, HD.out, HUP.out _ HB2.out⟩
  have d2 := D2.out h0
  have D2b := Lib.hid d2
  have D3b := Lib.hid (D3.out h0)
  have D4b := Lib.hid (D4.out h0)
  have D5b := Lib.hid (D5.out h0)
  have c84b := Lib.hid (c84.out h0)
  have c85b := Lib.hid (c85.out h0)
  have HBDb := Lib.hid (HBD.out h0)
  have HL01 := Lib.hid (HLL.out h0)
  have hl64 := HL64.out h0
  clear D1 D2 D3 D4 D5 c84 c85 HBD HLL d2
  subst h0
  by_cases hq0 : limit < 0
  · have HD := Lib.hid (D2b.out (by omega))
    go_wp2_with fail
    go_ret2
    exact ⟨0, 3, rfl, HD.out, HUP.out _ HB1.out⟩
  by_cases hq1 : 1073741824 < limit
  · have HD := Lib.hid (D2b.out (by omega))
    go_wp2_with fail
    go_ret2
    exact ⟨0, 3, rfl, HD.out, HUP.out _ HB1.out⟩
  have hlim : 0 ≤ limit ∧ limit ≤ 1073741824 := by omega
  have D3c := Lib.hid (D3b.out hlim)
  have D4c := Lib.hid (D4b.out hlim)
  have D5c := Lib.hid (D5b.out hlim)
  clear D2b D3b D4b D5b hlim
  go_wp2_with fail
  refine (c84b.out _ (HUP.out _ HB1.out)).mono ?_
  rintro e w2 ⟨rfl, hb⟩
  have HB2 := Lib.hid (HB1.out.trans (hb.mono HB1.out.size))
  obtain ⟨g0, g1, g2⟩ := KK.out _ HB2.out
  clear hb
  cases sd
  · have HD := Lib.hid (D3c.out (by first | rfl | trivial))
    go_wp2_with fail
    go_ret2
    exact ⟨0, 5, rfl, HD.out, HUP.out _ HB2.out⟩
  have D4d := Lib.hid (D4c.out (by first | rfl | trivial))
  have D5d := Lib.hid (D5c.out (by first | rfl | trivial))
  clear D3c D4c D5c
  go_wp2_with fail
  go_loopw [6, 7] (fun lv iv wr => ∃ k : Nat, k ≤ len ∧ iv = .int .i64 k ∧ lv = .int .i64 (lstX xs k) ∧ wr = w2) (fun _ iv _ => len - (intOf iv).toNat)
  case atStart => exact ⟨0, Nat.zero_le _, rfl, by rw [HL0.out], rfl⟩
  case round =>
    obtain ⟨k, hk, rfl, rfl, rfl⟩ := hrel
    by_cases hlt : k < len
    · have hki : (k : Int) < (len : Int) := by omega
      obtain ⟨a9, c9, e9, -, hcc⟩ := HXC.out wr (HUP.out _ HB2.out)
      rw [HLEN.out] at e9 hcc
      simp only [Value.slice.injEq, true_and] at e9
      obtain ⟨rfl, rfl⟩ := e9
      obtain ⟨b, off, hab, hb, -, -, -, m3, -, -, -, -⟩ := hcc k hlt
      subst hab
      have HLk := Lib.hid (HLS.out k)
      clear hcc hb
      generalize (xc xs k).ba = y3 at *
      generalize lstX xs k = z at *
      go_wp2_with fail
      go_roundw
      case rel => exact ⟨k + 1, by omega, by go_num, by rw [HLk.out], by first | trivial | rfl⟩
      case measure => simp [intOf]; omega
    · obtain rfl : k = len := by omega
      generalize lstX xs k = last at *
      clear HL0 HLS HXC
      go_wp2_with fail
      clear g0 g1 g2
      go_loopw [6, 8] (fun lv hv wv => ∃ lo hi : Int, lv = .int .i64 lo ∧ hv = .int .i64 hi ∧ last ≤ lo ∧ lo ≤ hi ∧ hi ≤ 1125899906842625 ∧ (lo = last ∨ wdB r os limit (lo - 1) = false) ∧ (hi = 1125899906842625 ∨ wdB r os limit hi = true) ∧ Below A.heap.size A wv) (fun lv hv _ => (intOf hv - intOf lv).toNat)
      case atStart => exact ⟨last, 1125899906842625, rfl, rfl, Int.le_refl _, by have := HL01.out; omega, Int.le_refl _, .inl rfl, .inl rfl, HB2.out⟩
      case round =>
        obtain ⟨lo, hi, rfl, rfl, hlo, hlh, hhi, h1, h2, hB⟩ := hrel
        have H1 := Lib.hid h1
        have H2 := Lib.hid h2
        have HB := Lib.hid hB
        obtain ⟨g0, g1, g2⟩ := KK.out _ hB
        clear h1 h2 hB
        by_cases hlt2 : lo < hi
        · obtain ⟨mid, hmid⟩ : ∃ mid, mid = lo + (hi - lo) / 2 := ⟨_, rfl⟩
          have hm1 : lo ≤ mid := by omega
          have hm2 : mid < hi := by omega
          have hm3 : mid ≤ 1125899906842624 := by omega
          have hm0 : 0 ≤ mid := by have := HL01.out; omega
          have hlo0 : 0 ≤ lo := by have := HL01.out; omega
          have HM := Lib.hid hmid
          have HC := Lib.hid (c85b.out mid ⟨hm0, hm3⟩ _ (HUP.out _ HB.out))
          obtain ⟨⟨b1, b2⟩, b3, b4⟩ := HBDb.out mid ⟨hm0, hm3⟩
          have HWm := Lib.hid (HWD.out mid)
          clear hmid
          unfold spv at HC
          generalize atS r mid os = z at *
          obtain ⟨z0, z1⟩ := z
          dsimp only at *
          have WVh := Lib.hid (show wrap64 (z1 - z0) = z1 - z0 from wrap64_id (by omega) (by omega))
          clear b1 b2 b3 b4
          go_wp2_with fail
          rw [← HM.out]
          refine HC.out.mono ?_
          rintro e w4 ⟨rfl, hb4⟩
          have HB4 := Lib.hid (HB.out.trans (hb4.mono HB.out.size))
          have HB4a := Lib.hid (HB4.out.alloc HB4.out.size (.cells #[.int .i64 z0, .int .i64 z1] 23))
          clear hb4 HC
          have WV := WVh.out
          by_cases hw : limit < z1 - z0
          · go_wp2_with fail
            go_roundw
            case rel => exact ⟨lo, mid, rfl, rfl, hlo, hm1, by omega, H1.out, .inr (by rw [HWm.out]; exact decide_eq_true hw), HB4a.out⟩
            case measure => simp [intOf]; omega
          · go_wp2_with fail
            go_roundw
            case rel => exact ⟨mid + 1, hi, rfl, rfl, by omega, by omega, hhi, .inr (by rw [show mid + 1 - 1 = mid by omega, HWm.out]; exact decide_eq_false (by omega)), H2.out, HB4a.out⟩
            case measure => simp [intOf]; omega
        · obtain rfl : lo = hi := by omega
          by_cases hend : 1125899906842624 < lo
          · have hlo2 : lo = 1125899906842625 := by omega
            have hd : PP 0 15 := D4d.out (by
              rcases H1.out with h | h
              · exfalso; have := HL01.out; omega
              · rw [hlo2] at h; exact h)
            have HD := Lib.hid hd
            clear hd hlo2
            go_wp2_with fail
            go_ret2
            exact ⟨0, 15, rfl, HD.out, HUP.out _ HB.out⟩
          · have hd : PP lo 0 := D5d.out lo hlo (by omega) (by
              rcases H2.out with h | h
              · exfalso; omega
              · exact h) H1.out
            have HD := Lib.hid hd
            clear hd
            go_wp2_with fail
            go_ret2
            exact ⟨lo, 0, rfl, HD.out, HUP.out _ HB.out⟩
end
end Go.Proofs.Ytcchmjbedppfnaa

/-
  Clock: the reference's CheckClock.
-/
import Derived.Test.YtcchmjbedppfnaaRkD
import Derived.Test.YtcchmjbedppfnaaCkF
namespace Go.Proofs.Ytcchmjbedppfnaa
open Go.RowKit Go.Shelf
set_option linter.unusedSimpArgs false
theorem okX_bad1 {r : Int} {x : Xc} (h : xcB x = false) : okX r x = false := by
  cases q : okX r x
  · rfl
  · rw [(okX_get q).2.2.1] at h; exact h.symm ▸ rfl
theorem okX_bad2 {r : Int} {x : Xc} (h : vB (offL r x) (offH r x) = false) : okX r x = false := by
  cases q : okX r x
  · rfl
  · rw [(okX_get q).2.1] at h; exact h.symm ▸ rfl
theorem okX_good {r : Int} {x : Xc} (h1 : xcB x = true) (h2 : rtB r = true) (h3 : vB (offL r x) (offH r x) = true) : okX r x = true := by
  have h4 := ((vB_iff _ _).1 h3).1
  unfold okX offR
  rw [if_pos h1, if_pos h2, if_pos h4, h3]
  rfl
set_option maxRecDepth 100000 in
set_option maxHeartbeats 8000000 in
theorem rcheckClock_any (p r : Int) (sv : Value) (xs : List Xc) (w : World) (hX : Xcs w.heap.size w sv xs) :
    Calls Try.prog 29 #[.agg #[.int .i64 p, .int .i64 r, sv]] w fun e w' => e = .returned (.int .i64 (lrnE p r xs)) ∧ Below w.heap.size w w' := by
  have HE := Lib.hid (show lrnE p r xs = if xs.length < 1 then 6 else if 64 < xs.length then 6 else if p < -1 then 2 else if rtB r = false then 2 else if xs.all (okX r) = true then 0 else 2 from rfl)
  generalize lrnE p r xs = E at *
  have HX := Lib.hid hX
  obtain ⟨a, cap, rfl, -, -⟩ := hX
  obtain ⟨A, hA⟩ : ∃ A, A = w.alloc (.cells #[.int .i64 p, .int .i64 r, .slice a xs.length cap] 28) := ⟨_, rfl⟩
  have hzA : A.heap.size = w.heap.size + 1 := by rw [hA]; simp
  have HBA := Lib.hid (show Below w.heap.size w A by rw [hA]; exact (Below.refl _ _).alloc (Nat.le_refl _) _)
  have HBW := Lib.hid (show ∀ W, Below (w.heap.size + 1) A W → Below w.heap.size w W from fun W h => HBA.out.trans (h.mono (by omega)))
  have KK := Lib.hid (show ∀ W, Below (w.heap.size + 1) A W → W.cell? ⟨w.heap.size, 0, none⟩ = some (.int .i64 p) ∧ W.cell? ⟨w.heap.size, 1, none⟩ = some (.int .i64 r) ∧ W.cell? ⟨w.heap.size, 2, none⟩ = some (.slice a xs.length cap) from fun W h => by
    have e : ∀ o, W.cell? ⟨w.heap.size, o, none⟩ = A.cell? ⟨w.heap.size, o, none⟩ := fun o => h.cell (p := ⟨w.heap.size, o, none⟩) (by show w.heap.size < w.heap.size + 1; omega)
    refine ⟨?_, ?_, ?_⟩ <;> (rw [e, hA]; simp [go_sem]))
  have HA0 := Lib.hid (show Below (w.heap.size + 1) A A from Below.refl _ _)

  by_cases n1 : (xs.length : Int) < 1
  · have HEx := Lib.hid (show E = 6 by rw [HE.out, if_pos (by omega)])
    clear HX HE
    generalize xs.length = len at *
    go_enter Try.func29, Try.ntmps29
    go_wp2_with fail
    try rw [← hA]
    clear hA
    obtain ⟨k0, k1, k2⟩ := KK.out _ HA0.out
    go_wp2_with fail
    go_ret
    exact ⟨by rw [HEx.out]; rfl, HBW.out _ HA0.out⟩
  by_cases n2 : (64 : Int) < (xs.length : Int)
  · have HEx := Lib.hid (show E = 6 by rw [HE.out, if_neg (by omega), if_pos (by omega)])
    clear HX HE
    generalize xs.length = len at *
    go_enter Try.func29, Try.ntmps29
    go_wp2_with fail
    try rw [← hA]
    clear hA
    obtain ⟨k0, k1, k2⟩ := KK.out _ HA0.out
    go_wp2_with fail
    go_ret
    exact ⟨by rw [HEx.out]; rfl, HBW.out _ HA0.out⟩
  by_cases n3 : p < -1
  · have HEx := Lib.hid (show E = 2 by rw [HE.out, if_neg (by omega), if_neg (by omega), if_pos n3])
    clear HX HE
    generalize xs.length = len at *
    go_enter Try.func29, Try.ntmps29
    go_wp2_with fail
    try rw [← hA]
    clear hA
    obtain ⟨k0, k1, k2⟩ := KK.out _ HA0.out
    go_wp2_with fail
    go_ret
    exact ⟨by rw [HEx.out]; rfl, HBW.out _ HA0.out⟩
  by_cases n4 : r < 0
  · have HEx := Lib.hid (show E = 2 by rw [HE.out, if_neg (by omega), if_neg (by omega), if_neg n3, if_pos (show rtB r = false from by cases q : rtB r; rfl; exact absurd ((rtB_iff r).1 q) (by omega))])
    clear HX HE
    generalize xs.length = len at *
    go_enter Try.func29, Try.ntmps29
    go_wp2_with fail
    try rw [← hA]
    clear hA
    obtain ⟨k0, k1, k2⟩ := KK.out _ HA0.out
    go_wp2_with fail
    go_ret
    exact ⟨by rw [HEx.out]; rfl, HBW.out _ HA0.out⟩
  by_cases n5 : (1000000 : Int) < r
  · have HEx := Lib.hid (show E = 2 by rw [HE.out, if_neg (by omega), if_neg (by omega), if_neg n3, if_pos (show rtB r = false from by cases q : rtB r; rfl; exact absurd ((rtB_iff r).1 q) (by omega))])
    clear HX HE
    generalize xs.length = len at *
    go_enter Try.func29, Try.ntmps29
    go_wp2_with fail
    try rw [← hA]
    clear hA
    obtain ⟨k0, k1, k2⟩ := KK.out _ HA0.out
    go_wp2_with fail
    go_ret
    exact ⟨by rw [HEx.out]; rfl, HBW.out _ HA0.out⟩
  have hr : rtB r = true := (rtB_iff r).2 ⟨by omega, by omega⟩
  have HE2 := Lib.hid (show (∃ k, k < xs.length ∧ okX r (xc xs k) = false) → (2 : Int) = E from fun ⟨k, hk, h⟩ => by rw [HE.out, if_neg (by omega), if_neg (by omega), if_neg n3, if_neg (by rw [hr]; decide), if_neg (xs_bad hk h)])
  have HE0 := Lib.hid (show (∀ k, k < xs.length → okX r (xc xs k) = true) → (0 : Int) = E from fun h => by rw [HE.out, if_neg (by omega), if_neg (by omega), if_neg n3, if_neg (by rw [hr]; decide), if_pos (xs_ok h)])
  have HGET := Lib.hid (show ∀ W, Below w.heap.size w W → Xcs w.heap.size W (.slice a xs.length cap) xs from fun W hb => by
    obtain ⟨a', c', e, hl, hc⟩ := HX.out
    refine ⟨a', c', e, hl, fun k hk => ?_⟩
    obtain ⟨b, off, g1, g2, g⟩ := hc k hk
    have ce : ∀ o, W.cell? ⟨b, o, none⟩ = w.cell? ⟨b, o, none⟩ := fun o => hb.cell (p := ⟨b, o, none⟩) g2
    exact ⟨b, off, g1, g2, by simpa only [ce] using g⟩)
  have HR := Lib.hid hr
  clear HX HE hr
  generalize hlen : xs.length = len at *
  have HLEN := Lib.hid hlen
  clear hlen
  go_enter Try.func29, Try.ntmps29
  go_wp2_with fail
  try rw [← hA]
  clear hA
  obtain ⟨k0, k1, k2⟩ := KK.out _ HA0.out
  go_wp2_with fail
  go_loopw [3] (fun i wr => ∃ (k : Nat), k ≤ len ∧ i = .int .i64 k ∧ (∀ j, j < k → okX r (xc xs j) = true) ∧ Below (w.heap.size + 1) A wr) (fun i _ => len - (intOf i).toNat)
  case atStart => exact ⟨0, Nat.zero_le _, rfl, fun j hj => absurd hj (Nat.not_lt_zero _), HA0.out⟩
  case round =>
    obtain ⟨k, hk, rfl, hin, hB⟩ := hrel
    have hrl := Nat.lt_of_lt_of_le (show w.heap.size < A.heap.size by omega) hB.size
    have HIN := Lib.hid hin
    have HB := Lib.hid hB
    clear k0 k1 k2
    obtain ⟨g0, g1, g2⟩ := KK.out _ hB
    clear hin hB
    by_cases hlt : k < len
    · have hki : (k : Int) < (len : Int) := by omega
      obtain ⟨a9, c9, e9, -, hcc⟩ := HGET.out _ (HBW.out _ HB.out)
      rw [HLEN.out] at e9
      simp only [Value.slice.injEq, true_and] at e9
      obtain ⟨rfl, rfl⟩ := e9
      obtain ⟨b, off, rfl, hb, m0, m1, m2, m3, m4, m5, m6, m7⟩ := hcc k (by rw [HLEN.out]; exact hlt)
      have cX := fun W => rcheckX_any (xc xs k) W
      have HX1 := Lib.hid (show xcB (xc xs k) = false → (2 : Int) = E from fun h => HE2.out ⟨k, hlt, okX_bad1 (r := r) h⟩)
      have HX2 := Lib.hid (show vB (offL r (xc xs k)) (offH r (xc xs k)) = false → (2 : Int) = E from fun h => HE2.out ⟨k, hlt, okX_bad2 h⟩)
      have HX3 := Lib.hid (show xcB (xc xs k) = true → vB (offL r (xc xs k)) (offH r (xc xs k)) = true → ∀ j, j < k + 1 → okX r (xc xs j) = true from fun h1 h3 j hj => by by_cases e : j = k; (subst e; exact okX_good h1 HR.out h3); exact HIN.out j (by omega))
      have c78 := Lib.hid (fun h W => roffset_any (xc xs k) r h HR.out W)
      have c87 := fun W => rvalid_any (offL r (xc xs k)) (offH r (xc xs k)) W
      generalize xcB (xc xs k) = ok1 at *
      generalize hv2 : vB (offL r (xc xs k)) (offH r (xc xs k)) = ok2 at *
      clear hv2
      unfold spv Xc.val at c78
      unfold Xc.val at cX
      dsimp only at c78
      generalize offL r (xc xs k) = oL at *
      generalize offH r (xc xs k) = oH at *
      generalize (xc xs k).se = y0 at *
      generalize (xc xs k).he = y1 at *
      generalize (xc xs k).an = y2 at *
      generalize (xc xs k).ba = y3 at *
      generalize (xc xs k).fLo = y4 at *
      generalize (xc xs k).fHi = y5 at *
      generalize (xc xs k).hLo = y6 at *
      generalize (xc xs k).hHi = y7 at *
      clear hcc
      have HN := Lib.hid (show ∀ W, Below (wr.heap.size + 1) (wr.alloc (.cells #[.int .i64 y0, .int .i64 y1, .int .i64 y2, .int .i64 y3, .int .i64 y4, .int .i64 y5, .int .i64 y6, .int .i64 y7] 25)) W → W.cell? ⟨wr.heap.size, 0, none⟩ = some (.int .i64 y0) ∧ W.cell? ⟨wr.heap.size, 1, none⟩ = some (.int .i64 y1) ∧ W.cell? ⟨wr.heap.size, 2, none⟩ = some (.int .i64 y2) ∧ W.cell? ⟨wr.heap.size, 3, none⟩ = some (.int .i64 y3) ∧ W.cell? ⟨wr.heap.size, 4, none⟩ = some (.int .i64 y4) ∧ W.cell? ⟨wr.heap.size, 5, none⟩ = some (.int .i64 y5) ∧ W.cell? ⟨wr.heap.size, 6, none⟩ = some (.int .i64 y6) ∧ W.cell? ⟨wr.heap.size, 7, none⟩ = some (.int .i64 y7) from fun W h => by
        have e : ∀ o, W.cell? ⟨wr.heap.size, o, none⟩ = (wr.alloc (.cells #[.int .i64 y0, .int .i64 y1, .int .i64 y2, .int .i64 y3, .int .i64 y4, .int .i64 y5, .int .i64 y6, .int .i64 y7] 25)).cell? ⟨wr.heap.size, o, none⟩ := fun o => h.cell (p := ⟨wr.heap.size, o, none⟩) (by show wr.heap.size < wr.heap.size + 1; omega)
        refine ⟨?_, ?_, ?_, ?_, ?_, ?_, ?_, ?_⟩ <;> (rw [e]; simp [go_sem]))
      have HNA := Lib.hid (show ∀ W, Below (wr.heap.size + 1) (wr.alloc (.cells #[.int .i64 y0, .int .i64 y1, .int .i64 y2, .int .i64 y3, .int .i64 y4, .int .i64 y5, .int .i64 y6, .int .i64 y7] 25)) W → Below (w.heap.size + 1) A W from fun W h => (HB.out.alloc (by omega) _).trans (h.mono (by omega)))
      cases ok1
      · have cX' : ∀ W, Calls Try.prog 27 #[.agg #[.int .i64 y0, .int .i64 y1, .int .i64 y2, .int .i64 y3, .int .i64 y4, .int .i64 y5, .int .i64 y6, .int .i64 y7]] W fun e w' => e = .returned (.int .i64 2) ∧ Below W.heap.size W w' := fun W => by have q := cX W; rwa [if_neg (by decide)] at q
        clear cX c78 c87
        go_wp2_with fail
        refine (cX' _).mono ?_
        rintro e w2 ⟨rfl, hb2⟩
        have hB2 := HNA.out _ (hb2.mono (by simp))
        have HB2 := Lib.hid hB2
        clear hb2 hB2 m0 m1 m2 m3 m4 m5 m6 m7
        go_wp2_with fail
        go_ret
        exact ⟨by rw [← HX1.out (by first | rfl | trivial)]; rfl, HBW.out _ HB2.out⟩
      have cX' : ∀ W, Calls Try.prog 27 #[.agg #[.int .i64 y0, .int .i64 y1, .int .i64 y2, .int .i64 y3, .int .i64 y4, .int .i64 y5, .int .i64 y6, .int .i64 y7]] W fun e w' => e = .returned (.int .i64 0) ∧ Below W.heap.size W w' := fun W => by have q := cX W; rwa [if_pos rfl] at q
      have c78' := c78.out rfl
      clear cX c78
      go_wp2_with fail
      refine (cX' _).mono ?_
      rintro e w2 ⟨rfl, hb2⟩
      have hB2 := hb2.mono (show wr.heap.size + 1 ≤ _ by simp)
      have HB2 := Lib.hid hB2
      obtain ⟨g0, g1, g2⟩ := KK.out _ (HNA.out _ hB2)
      obtain ⟨n0, n1, n2, n3, n4, n5, n6, n7⟩ := HN.out _ hB2
      clear hb2 hB2 m0 m1 m2 m3 m4 m5 m6 m7 cX'
      go_wp2_with fail
      refine (c78' _).mono ?_
      rintro e w3 ⟨rfl, hb3⟩
      have HB3 := Lib.hid (HB2.out.trans (hb3.mono (by have := HB2.out.size; simp at this; omega)))
      clear hb3 n0 n1 n2 n3 n4 n5 n6 n7 c78'
      go_wp2_with fail
      refine (c87 _).mono ?_
      rintro e w4 ⟨rfl, hb4⟩
      have hB4 := HNA.out _ (HB3.out.trans (hb4.mono (by have := HB3.out.size; simp at this; omega)))
      have HB4 := Lib.hid hB4
      clear hb4 hB4 c87
      cases ok2
      · go_wp2_with fail
        go_ret
        exact ⟨by rw [← HX2.out (by first | rfl | trivial)]; rfl, HBW.out _ HB4.out⟩
      · go_wp2_with fail
        go_roundw
        case rel => exact ⟨k + 1, by omega, by go_num, HX3.out (by first | rfl | trivial) (by first | rfl | trivial), HB4.out⟩
        case measure => simp [intOf]; omega
    · have hke : k = len := by omega
      subst hke
      have hki : ¬ (k : Int) < (k : Int) := by omega
      go_wp2_with fail
      go_ret
      exact ⟨by rw [← HE0.out HIN.out]; rfl, HBW.out _ HB.out⟩
end Go.Proofs.Ytcchmjbedppfnaa

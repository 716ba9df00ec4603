/-
  Clock: CheckHouse of both sides.
-/
import Derived.Test.YtcchmjbedppfnaaCkY
import Derived.Test.YtcchmjbedppfnaaRkI
namespace Go.Proofs.Ytcchmjbedppfnaa
open Go.RowKit Go.Shelf
set_option linter.unusedSimpArgs false
section
set_option maxRecDepth 100000
set_option maxHeartbeats 4000000
theorem checkHouse_any (lv : Value) (cs : List Cl) (w : World) (hC : Cls w.heap.size w lv cs) :
    Calls Try.prog 41 #[lv] w fun e w' => e = .returned (.int .i64 (entE cs)) ∧ Below w.heap.size w w' := by
  have c98 := enter_any lv cs w hC
  unfold EntR at c98
  obtain ⟨a, cap, hsv⟩ := hC.form
  subst hsv
  clear hC
  generalize entE cs = E0 at *
  generalize cs.map knC = ks at *
  generalize cs.length = len at *
  go_enter Try.func41, Try.ntmps41
  go_wp2_with fail
  refine c98.mono ?_
  rintro e w1 ⟨v, E, rfl, hE, -, ⟨a1, n1, c1, rfl⟩, hb⟩
  have hE2 := hE.symm
  subst hE2
  have HB := Lib.hid hb
  clear hb
  go_wp2_with fail
  go_ret
  exact ⟨rfl, HB.out⟩
theorem rcheckHouse_any (lv : Value) (cs : List Cl) (w : World) (hC : Cls w.heap.size w lv cs) :
    Calls Try.prog 42 #[lv] w fun e w' => e = .returned (.int .i64 (entE cs)) ∧ Below w.heap.size w w' := by
  have HE := Lib.hid (show entE cs = if cs.length < 1 then 6 else if 32 < cs.length then 6 else if fstE cs ≠ 0 then fstE cs else if jnB (cs.map knC) = false then 2 else if shB (cs.map knC) = false then 5 else 0 from rfl)
  generalize entE cs = E at *
  obtain ⟨a, cap, rfl, -, hcc⟩ := hC
  have HBAD := Lib.hid (show ¬ cs.length < 1 → ¬ 32 < cs.length → ∀ k, k < cs.length → (∀ j, j < k → lrnE (cl cs j).p (cl cs j).r (cl cs j).xs = 0) → lrnE (cl cs k).p (cl cs k).r (cl cs k).xs ≠ 0 → lrnE (cl cs k).p (cl cs k).r (cl cs k).xs = E from fun q1 q2 k hk hj h => by have q := fstE_bad hk hj h; rw [HE.out, if_neg q1, if_neg q2, q, if_pos h])
  have HJN := Lib.hid (show ¬ cs.length < 1 → ¬ 32 < cs.length → (∀ j, j < cs.length → lrnE (cl cs j).p (cl cs j).r (cl cs j).xs = 0) → ∀ k, k < cs.length → ¬ (cl cs k).p < (k : Int) → E = 2 from fun q1 q2 h k hk hp => by
    rw [HE.out, if_neg q1, if_neg q2, fstE_ok h, if_neg (by simp), if_pos (jnB_bad (ks := cs.map knC) (k := k) (by rw [List.length_map]; exact hk) (by rw [kc_map cs k hk]; exact hp))])
  have HJT := Lib.hid (show (∀ j, j < cs.length → (cl cs j).p < (j : Int)) → jnB (cs.map knC) = true from fun h => jnB_ok fun k hk => by rw [List.length_map] at hk; rw [kc_map cs k hk]; exact h k hk)
  have HSN := Lib.hid (show ¬ cs.length < 1 → ¬ 32 < cs.length → (∀ j, j < cs.length → lrnE (cl cs j).p (cl cs j).r (cl cs j).xs = 0) → jnB (cs.map knC) = true → ∀ k, k < cs.length → sdB (cl cs k).r (ofA (cl cs k).r (cl cs k).xs) = false → E = 5 from fun q1 q2 h hj k hk hp => by
    rw [HE.out, if_neg q1, if_neg q2, fstE_ok h, if_neg (by simp), if_neg (by rw [hj]; decide), if_pos (shB_bad (ks := cs.map knC) (k := k) (by rw [List.length_map]; exact hk) (by rw [kc_map cs k hk]; exact hp))])
  have HST := Lib.hid (show ¬ cs.length < 1 → ¬ 32 < cs.length → (∀ j, j < cs.length → lrnE (cl cs j).p (cl cs j).r (cl cs j).xs = 0) → jnB (cs.map knC) = true → (∀ k, k < cs.length → sdB (cl cs k).r (ofA (cl cs k).r (cl cs k).xs) = true) → E = 0 from fun q1 q2 h hj hs => by
    rw [HE.out, if_neg q1, if_neg q2, fstE_ok h, if_neg (by simp), if_neg (by rw [hj]; decide), if_neg (by rw [shB_ok (fun k hk => by rw [List.length_map] at hk; rw [kc_map cs k hk]; exact hs k hk)]; decide)])
  have H6 := Lib.hid (show (cs.length < 1 ∨ 32 < cs.length) → E = 6 from fun h => by
    rw [HE.out]
    by_cases q : cs.length < 1
    · rw [if_pos q]
    · rw [if_neg q, if_pos (by omega)])
  have HC := Lib.hid hcc
  clear hcc HE
  generalize cs.length = len at *
  by_cases h1 : (len : Int) < 1
  · have hE := H6.out (.inl (by omega))
    subst hE
    go_enter Try.func42, Try.ntmps42
    go_wp2_with fail
    go_ret
    exact ⟨rfl, Below.refl _ _⟩
  by_cases h2 : (32 : Int) < (len : Int)
  · have hE := H6.out (.inr (by omega))
    subst hE
    go_enter Try.func42, Try.ntmps42
    go_wp2_with fail
    go_ret
    exact ⟨rfl, Below.refl _ _⟩
  have HBAD2 := Lib.hid (HBAD.out (by omega) (by omega))
  have HJN2 := Lib.hid (HJN.out (by omega) (by omega))
  have HSN2 := Lib.hid (HSN.out (by omega) (by omega))
  have HST2 := Lib.hid (HST.out (by omega) (by omega))
  clear HBAD HJN HSN HST H6
  go_enter Try.func42, Try.ntmps42
  go_wp2_with fail
  go_loopw [3] (fun iv wr => ∃ k : Nat, k ≤ len ∧ iv = .int .i64 k ∧ (∀ j, j < k → lrnE (cl cs j).p (cl cs j).r (cl cs j).xs = 0) ∧ Below w.heap.size w wr) (fun iv _ => len - (intOf iv).toNat)
  case atStart => exact ⟨0, Nat.zero_le _, rfl, fun j hj => absurd hj (Nat.not_lt_zero _), Below.refl _ _⟩
  case round =>
    obtain ⟨k, hk, rfl, hin, hB⟩ := hrel
    have HIN := Lib.hid hin
    have HB := Lib.hid hB
    clear hin
    by_cases hlt : k < len
    · have hki : (k : Int) < (len : Int) := by omega
      obtain ⟨b, off, s, hab, hb, e0, e1, e2, hx⟩ := HC.out k hlt
      subst hab
      have KS := Lib.hid (show ∀ W, Below w.heap.size w W → W.cell? ⟨b, off + k * 3, none⟩ = some (.int .i64 (cl cs k).p) ∧ W.cell? ⟨b, off + k * 3 + 1, none⟩ = some (.int .i64 (cl cs k).r) ∧ W.cell? ⟨b, off + k * 3 + 2, none⟩ = some s from fun W h => ⟨(h.cell (p := ⟨b, off + k * 3, none⟩) hb).trans e0, (h.cell (p := ⟨b, off + k * 3 + 1, none⟩) hb).trans e1, (h.cell (p := ⟨b, off + k * 3 + 2, none⟩) hb).trans e2⟩)
      have HX := Lib.hid (fun W (h : Below w.heap.size w W) => hx.mono h h.size)
      obtain ⟨a5, c5, hs⟩ := hx.form
      subst hs
      have HBk := Lib.hid (HBAD2.out k hlt HIN.out)
      have HIN2 := Lib.hid (show lrnE (cl cs k).p (cl cs k).r (cl cs k).xs = 0 → ∀ j, j < k + 1 → lrnE (cl cs j).p (cl cs j).r (cl cs j).xs = 0 from fun h j hj => by by_cases e : j = k; (subst e; exact h); exact HIN.out j (by omega))
      have c29 := Lib.hid (fun W (h : Below w.heap.size w W) => rcheckClock_any (cl cs k).p (cl cs k).r _ (cl cs k).xs W (HX.out W h))
      clear e0 e1 e2 hx HX hB
      generalize lrnE (cl cs k).p (cl cs k).r (cl cs k).xs = E1 at *
      generalize (cl cs k).p = p at *
      generalize (cl cs k).r = r at *
      generalize (cl cs k).xs.length = n5 at *
      obtain ⟨m0, m1, m2⟩ := KS.out _ HB.out
      by_cases h0 : E1 = 0
      · subst h0
        go_wp2_with fail
        refine (c29.out _ HB.out).mono ?_
        rintro e w2 ⟨rfl, hb2⟩
        have HB2 := Lib.hid (HB.out.trans (hb2.mono HB.out.size))
        clear hb2 m0 m1 m2
        go_wp2_with fail
        go_roundw
        case rel => exact ⟨k + 1, by omega, by go_num, HIN2.out (by first | rfl | trivial), HB2.out⟩
        case measure => simp [intOf]; omega
      · have hb0 : (E1 != 0) = true := by simpa using h0
        go_wp2_with fail
        refine (c29.out _ HB.out).mono ?_
        rintro e w2 ⟨rfl, hb2⟩
        have HB2 := Lib.hid (HB.out.trans (hb2.mono HB.out.size))
        clear hb2
        obtain ⟨m0, m1, m2⟩ := KS.out _ HB2.out
        go_wp2_with fail
        refine (c29.out _ HB2.out).mono ?_
        rintro e w3 ⟨rfl, hb3⟩
        have HB3 := Lib.hid (HB2.out.trans (hb3.mono HB2.out.size))
        clear hb3
        go_wp2_with fail
        go_ret
        exact ⟨by have q := HBk.out h0; subst q; rfl, HB3.out⟩
    · obtain rfl : k = len := by omega
      have HJN3 := Lib.hid (HJN2.out HIN.out)
      have HSN3 := Lib.hid (HSN2.out HIN.out)
      have HST3 := Lib.hid (HST2.out HIN.out)
      clear hB
      go_wp2_with fail
      go_loopw [4] (fun iv wv => ∃ i : Nat, i ≤ k ∧ iv = .int .i64 i ∧ (∀ j, j < i → (cl cs j).p < (j : Int)) ∧ Below w.heap.size w wv) (fun iv _ => k - (intOf iv).toNat)
      case atStart => exact ⟨0, Nat.zero_le _, rfl, fun j hj => absurd hj (Nat.not_lt_zero _), HB.out⟩
      case round =>
        obtain ⟨i, hi, rfl, hjn, hB⟩ := hrel
        have HJI := Lib.hid hjn
        have HBI := Lib.hid hB
        clear hjn
        by_cases hlt2 : i < k
        · have hii : (i : Int) < (k : Int) := by omega
          obtain ⟨b, off, s, hab, hb, e0, e1, e2, hx⟩ := HC.out i hlt2
          subst hab
          have m0 := (hB.cell (p := ⟨b, off + i * 3, none⟩) hb).trans e0
          have HJk := Lib.hid (HJN3.out i hlt2)
          have HJI2 := Lib.hid (show (cl cs i).p < (i : Int) → ∀ j, j < i + 1 → (cl cs j).p < (j : Int) from fun h j hj => by by_cases e : j = i; (subst e; exact h); exact HJI.out j (by omega))
          clear e0 e1 e2 hx hB
          generalize (cl cs i).p = p at *
          by_cases hp : p < (i : Int)
          · have hp2 : ¬ (i : Int) ≤ p := by omega
            go_wp2_with fail
            go_roundw
            case rel => exact ⟨i + 1, by omega, by go_num, HJI2.out hp, HBI.out⟩
            case measure => simp [intOf]; omega
          · have hp2 : (i : Int) ≤ p := by omega
            have hE := HJk.out (by omega)
            subst hE
            go_wp2_with fail
            go_ret
            exact ⟨rfl, HBI.out⟩
        · obtain rfl : i = k := by omega
          have hj := HJT.out HJI.out
          have HSN4 := Lib.hid (HSN3.out hj)
          have HST4 := Lib.hid (HST3.out hj)
          clear hB hj
          go_wp2_with fail
          go_loopw [5] (fun iv wx => ∃ m : Nat, m ≤ i ∧ iv = .int .i64 m ∧ (∀ j, j < m → sdB (cl cs j).r (ofA (cl cs j).r (cl cs j).xs) = true) ∧ Below w.heap.size w wx) (fun iv _ => i - (intOf iv).toNat)
          case atStart => exact ⟨0, Nat.zero_le _, rfl, fun j hj => absurd hj (Nat.not_lt_zero _), HBI.out⟩
          case round =>
            obtain ⟨m, hm, rfl, hsn, hB⟩ := hrel
            have HSI := Lib.hid hsn
            have HBM := Lib.hid hB
            clear hsn
            by_cases hlt3 : m < i
            · have hmi : (m : Int) < (i : Int) := by omega
              obtain ⟨b, off, s, hab, hb, e0, e1, e2, hx⟩ := HC.out m hlt3
              subst hab
              have m0 := (hB.cell (p := ⟨b, off + m * 3, none⟩) hb).trans e0
              have m1 := (hB.cell (p := ⟨b, off + m * 3 + 1, none⟩) hb).trans e1
              have m2 := (hB.cell (p := ⟨b, off + m * 3 + 2, none⟩) hb).trans e2
              have c84 := Lib.hid (rsound_any (cl cs m).p (cl cs m).r s (cl cs m).xs (HIN.out m hlt3) _ (hx.mono hB hB.size))
              obtain ⟨a5, c5, hs⟩ := hx.form
              subst hs
              have HSk := Lib.hid (HSN4.out m hlt3)
              have HSI2 := Lib.hid (show sdB (cl cs m).r (ofA (cl cs m).r (cl cs m).xs) = true → ∀ j, j < m + 1 → sdB (cl cs j).r (ofA (cl cs j).r (cl cs j).xs) = true from fun h j hj => by by_cases e : j = m; (subst e; exact h); exact HSI.out j (by omega))
              clear e0 e1 e2 hx hB
              generalize sdB (cl cs m).r (ofA (cl cs m).r (cl cs m).xs) = sd at *
              generalize (cl cs m).p = p at *
              generalize (cl cs m).r = r at *
              generalize (cl cs m).xs.length = n5 at *
              go_wp2_with fail
              refine c84.out.mono ?_
              rintro e w4 ⟨rfl, hb4⟩
              have HB4 := Lib.hid (HBM.out.trans (hb4.mono HBM.out.size))
              clear hb4
              cases sd
              · have hE := HSk.out (by first | rfl | trivial)
                subst hE
                go_wp2_with fail
                go_ret
                exact ⟨rfl, HB4.out⟩
              · go_wp2_with fail
                go_roundw
                case rel => exact ⟨m + 1, by omega, by go_num, HSI2.out (by first | rfl | trivial), HB4.out⟩
                case measure => simp [intOf]; omega
            · obtain rfl : m = i := by omega
              have hE := HST4.out HSI.out
              subst hE
              clear hB
              go_wp2_with fail
              go_ret
              exact ⟨rfl, HBM.out⟩
end
end Go.Proofs.Ytcchmjbedppfnaa

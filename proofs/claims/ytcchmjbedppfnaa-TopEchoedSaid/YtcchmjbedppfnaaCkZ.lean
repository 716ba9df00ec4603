/-
  Clock: the chapter's example works; long.
-/
import Derived.Test.YtcchmjbedppfnaaCkY
namespace Go.Proofs.Ytcchmjbedppfnaa
open Go.RowKit Go.Shelf
set_option linter.unusedSimpArgs false
def exO : List Of := [⟨995, 1005, 1030⟩, ⟨979, 1010, 2000060⟩]
theorem ex_lrn : lrnE (-1) 1000 exX = 0 := by rfl
theorem ex_ofs : ofA 1000 exX = exO := by rfl
open Classical in
theorem ex_sd : sdB 1000 exO = true := by
  unfold sdB
  refine decide_eq_true fun i k h1 h2 => ?_
  have h3 : k < 2 := h2
  obtain ⟨rfl, rfl⟩ : i = 0 ∧ k = 1 := by omega
  rfl
theorem ex_at : atR (-1) 1000 exX 2000060 = ⟨993, 1007, 0⟩ := by
  unfold atR
  rw [if_pos ex_lrn, if_pos (by rfl), ex_ofs, if_pos ex_sd]
  rfl
def exC : List Cl := [⟨-1, 1000, exX⟩]
theorem ex_ent : entE exC = 0 := by
  have h1 : fstE exC = 0 := by rfl
  have h2 : jnB (exC.map knC) = true := by rfl
  have h3 : shB (exC.map knC) = true := by
    refine shB_ok fun k hk => ?_
    have hk2 : k < 1 := hk
    obtain rfl : k = 0 := by omega
    exact ex_sd
  unfold entE
  rw [if_neg (by decide), if_neg (by decide), if_neg (by rw [h1]; decide), if_neg (by rw [h2]; decide), if_neg (by rw [h3]; decide)]
theorem ex_time : timeR exC 0 1030 = ⟨2025, 2035, 0⟩ := by
  unfold timeR
  rw [if_pos ex_ent]
  unfold timR
  rw [if_pos ⟨by decide, by rfl⟩]
  rfl
theorem ex_wd {t : Int} (h : 2000060 ≤ t ∧ t ≤ 1125899906842624) : wdB 1000 exO 14 t = true ↔ 2001031 ≤ t := by
  unfold wdB
  rw [decide_eq_true_iff]
  have e : atS 1000 t exO = (max (max (-9223372036854775808) (995 - grw 1000 (gap t 1030))) (979 - grw 1000 (gap t 2000060)), min (min 9223372036854775807 (1005 + grw 1000 (gap t 1030))) (1010 + grw 1000 (gap t 2000060))) := rfl
  rw [e, gap_le (by omega), gap_le (by omega)]
  dsimp only
  unfold grw
  omega
theorem ex_due {m f : Int} (h : DueP (-1) 1000 exX 14 m f) : m = 2001031 ∧ f = 0 := by
  unfold DueP at h
  rw [ex_ofs] at h
  have hl : lstA exO = 2000060 := by rfl
  rcases h with ⟨h, -⟩ | ⟨-, ⟨h, -⟩ | ⟨-, ⟨h, -⟩ | ⟨-, ⟨h, -⟩ | ⟨h1, h2, h3, h4, h5⟩⟩⟩⟩
  · exact absurd ex_lrn h
  · exact absurd (by decide) h
  · rw [ex_sd] at h; exact absurd h (by decide)
  · rw [(ex_wd (by decide)).2 (by decide)] at h; exact absurd h (by decide)
  · rw [hl] at h1 h4
    have h6 := (ex_wd ⟨h1, h2⟩).1 h3
    refine ⟨?_, h5⟩
    rcases h4 with h4 | h4
    · omega
    · by_cases h7 : 2001031 ≤ m - 1
      · rw [(ex_wd ⟨by omega, by omega⟩).2 h7] at h4; exact absurd h4 (by decide)
      · omega
theorem cls_one (W : World) (p r : Int) (s : Value) (xs : List Xc) (hX : Xcs W.heap.size W s xs) : Cls (W.alloc (.cells #[.int .i64 p, .int .i64 r, s] 28)).heap.size (W.alloc (.cells #[.int .i64 p, .int .i64 r, s] 28)) (.slice (some ⟨W.heap.size, 0, none⟩) 1 1) [⟨p, r, xs⟩] := by
  refine ⟨_, 1, rfl, Nat.le_refl _, fun k hk => ?_⟩
  have hk2 : k < 1 := hk
  obtain rfl : k = 0 := by omega
  refine ⟨W.heap.size, 0, s, rfl, by simp, ?_, ?_, ?_, hX.at ((Below.refl _ _).alloc (Nat.le_refl _) _)⟩ <;> simp [go_sem, cl]
set_option maxRecDepth 100000 in
set_option maxHeartbeats 4000000 in
theorem works_any (w : World) : Calls Try.prog 21 #[] w fun e w' => e = .returned (.bool true) ∧ Below w.heap.size w w' := by
  have c57 := fun W => example_any W
  have c24 := Lib.hid (fun v W (hX : Xcs W.heap.size W v exX) => at24_any (-1) 1000 2000060 v exX W hX)
  have c37 := Lib.hid (fun v W (hC : Cls W.heap.size W v exC) => time37_any v exC 0 1030 W hC)
  have c32 := Lib.hid (fun v W (hX : Xcs W.heap.size W v exX) => due_any (-1) 1000 14 v exX W hX)
  rw [ex_at] at c24
  rw [ex_time] at c37
  unfold R3.out at c24 c37
  go_enter Try.func21, Try.ntmps21
  go_wp2_with fail
  refine (c57 _).mono ?_
  rintro e w1 ⟨v, rfl, hX, hb1⟩
  have HB1 := Lib.hid hb1
  have HC := Lib.hid (c24.out _ _ hX)
  clear hX hb1
  go_wp2_with fail
  refine HC.out.mono ?_
  rintro e w2 ⟨rfl, hb2⟩
  have HB2 := Lib.hid (HB1.out.trans (hb2.mono HB1.out.size))
  clear hb2 HC
  have HB2a := Lib.hid (HB2.out.alloc HB2.out.size (.cells #[.int .i64 993, .int .i64 1007] 23))
  have k1 : Bx2 (w2.alloc (.cells #[.int .i64 993, .int .i64 1007] 23)) w2.heap.size (.int .i64 993) (.int .i64 1007) := Bx2.new _ _ _
  have K1 := Lib.hid k1
  have hz2 := HB2.out.size
  clear k1
  go_wp2_with fail
  refine (c57 _).mono ?_
  rintro e w3 ⟨v3, rfl, hX, hb3⟩
  have K3 := Lib.hid (K1.out.keep hb3)
  have HB3 := Lib.hid (HB2a.out.trans (hb3.mono HB2a.out.size))
  have HC := Lib.hid (c37.out _ _ (cls_one w3 (-1) 1000 v3 exX hX))
  have HBa : Below w3.heap.size w3 (w3.alloc (.cells #[.int .i64 (-1), .int .i64 1000, v3] 28)) := (Below.refl _ _).alloc (Nat.le_refl _) _
  have K3a := Lib.hid (K3.out.keep HBa)
  have HB3a := Lib.hid (HB3.out.trans (HBa.mono HB3.out.size))
  clear hX hb3 HBa
  go_wp2_with fail
  refine HC.out.mono ?_
  rintro e w4 ⟨rfl, hb4⟩
  have K4 := Lib.hid (K3a.out.keep hb4)
  have HB4 := Lib.hid (HB3a.out.trans (hb4.mono HB3a.out.size))
  clear hb4 HC
  have k2 : Bx2 (w4.alloc (.cells #[.int .i64 2025, .int .i64 2035] 23)) w4.heap.size (.int .i64 2025) (.int .i64 2035) := Bx2.new _ _ _
  have K2 := Lib.hid k2
  have HBa : Below w4.heap.size w4 (w4.alloc (.cells #[.int .i64 2025, .int .i64 2035] 23)) := (Below.refl _ _).alloc (Nat.le_refl _) _
  have K4a := Lib.hid (K4.out.keep HBa)
  have HB4a := Lib.hid (HB4.out.trans (HBa.mono HB4.out.size))
  clear k2 HBa
  go_wp2_with fail
  refine (c57 _).mono ?_
  rintro e w5 ⟨v5, rfl, hX, hb5⟩
  have K5 := Lib.hid (K4a.out.keep hb5)
  have K6 := Lib.hid (K2.out.keep hb5)
  have HB5 := Lib.hid (HB4a.out.trans (hb5.mono HB4a.out.size))
  have HC := Lib.hid (c32.out _ _ hX)
  clear hX hb5
  go_wp2_with fail
  refine HC.out.mono ?_
  rintro e w6 ⟨m, f, rfl, hD, hb6⟩
  obtain ⟨rfl, rfl⟩ := ex_due hD
  have q0 := (K5.out.keep hb6).c0
  have q1 := (K5.out.keep hb6).c1
  have q2 := (K6.out.keep hb6).c0
  have q3 := (K6.out.keep hb6).c1
  have HB6 := Lib.hid (HB5.out.trans (hb6.mono HB5.out.size))
  clear hb6 HC hD
  go_wp2_with fail
  go_ret
  exact ⟨rfl, HB6.out⟩
end Go.Proofs.Ytcchmjbedppfnaa

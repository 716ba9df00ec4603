/-
  Clock: sound clocks; CheckClock, At.
-/
import Derived.Test.YtcchmjbedppfnaaCkL
namespace Go.Proofs.Ytcchmjbedppfnaa
open Go.RowKit Go.Shelf
set_option linter.unusedSimpArgs false
/-- two pairs are compared -/
@[go_sem] theorem eq134 (a b c d : Int) (w : World) : (Op.equalIn 10000 134 (.agg #[.int .i64 a, .int .i64 b]) (.agg #[.int .i64 c, .int .i64 d])).run Try.prog w = .ok (a == c && b == d) w := by
  have u3 := Try.underlying3
  have a3 := Try.isAgg3
  have z3 := Try.sizeOf3
  rw [show (10000 : Nat) = 9999 + 1 from rfl, Op.equalIn]
  simp only [Sem.run_bind, run_underlying Try.underlying134, Result.andThen_ok]
  simp only [Std.Legacy.Range.forIn_eq_forIn_range', Std.Legacy.Range.size, Nat.sub_zero, Nat.add_sub_cancel, Nat.div_one, List.range'_succ, List.range'_zero, List.forIn_cons, List.forIn_nil]
  go_simp
  by_cases h1 : a = c <;> by_cases h2 : b = d <;> simp [h1, h2]
open Classical in
/-- no two exchanges contradict each other -/
noncomputable def sdB (r : Int) (os : List Of) : Bool := decide (∀ i k, i < k → k < os.length → cdB r os i k = false)
open Classical in
theorem CdP.sd {r : Int} {os : List Of} {z : Nat × Nat} (h : CdP r os z) : (z = (0, 0) ∧ sdB r os = true) ∨ (z.1 < z.2 ∧ z.2 < os.length ∧ sdB r os = false) := by
  rcases h with ⟨rfl, h⟩ | ⟨h1, h2, h3, _⟩
  · exact .inl ⟨rfl, decide_eq_true h⟩
  · refine .inr ⟨h1, h2, decide_eq_false fun g => ?_⟩
    rw [g _ _ h1 h2] at h3
    exact absurd h3 (by decide)
theorem CdP.one {r : Int} {os : List Of} {z y : Nat × Nat} (h : CdP r os z) (g : CdP r os y) : z = y := by
  rcases h with ⟨rfl, h⟩ | ⟨h1, h2, h3, h4⟩
  · rcases g with ⟨rfl, _⟩ | ⟨g1, g2, g3, _⟩
    · rfl
    · rw [h _ _ g1 g2] at g3; exact absurd g3 (by decide)
  · rcases g with ⟨rfl, g⟩ | ⟨g1, g2, g3, g4⟩
    · rw [g _ _ h1 h2] at h3; exact absurd h3 (by decide)
    · obtain ⟨a, b⟩ := z
      obtain ⟨c, d⟩ := y
      simp only at *
      rcases Nat.lt_trichotomy b d with q | q | q
      · rw [g4 _ _ h1 h2 (.inl q)] at h3; exact absurd h3 (by decide)
      · subst q
        rcases Nat.lt_trichotomy a c with q | q | q
        · rw [g4 _ _ h1 h2 (.inr ⟨rfl, q⟩)] at h3; exact absurd h3 (by decide)
        · rw [q]
        · rw [h4 _ _ g1 g2 (.inr ⟨rfl, q⟩)] at g3; exact absurd g3 (by decide)
      · rw [h4 _ _ g1 g2 (.inl q)] at g3; exact absurd g3 (by decide)
set_option maxRecDepth 100000 in
set_option maxHeartbeats 2000000 in
theorem sound_any (p r : Int) (sv : Value) (os : List Of) (hv : Valid r os) (w : World) (hO : Ofs w.heap.size w sv os) :
    Calls Try.prog 81 #[.agg #[.int .i64 p, .int .i64 r, sv]] w fun e w' => e = .returned (.bool (sdB r os)) ∧ Below w.heap.size w w' := by
  have c88 := Lib.hid (fun W (hb : Below w.heap.size w W) => contradiction_any p r sv os hv W (hO.at hb))
  obtain ⟨a, cap, hsv⟩ := hO.form
  subst hsv
  have hA : Below w.heap.size w (w.alloc (.cells #[.int .i64 p, .int .i64 r, .slice a os.length cap] 129)) := (Below.refl _ _).alloc (Nat.le_refl _) _
  have HA := Lib.hid hA
  have HC := Lib.hid (fun z (h : CdP r os z) => h.sd)
  clear hA hO
  generalize sdB r os = b at *
  go_enter Try.func81, Try.ntmps81
  go_wp2_with fail
  refine (c88.out _ HA.out).mono ?_
  rintro e w1 ⟨z, hz, rfl, hb⟩
  have HB1 := Lib.hid (HA.out.trans (hb.mono (by simp)))
  have hzz := HC.out z hz
  clear hb hz
  go_wp2_with fail
  refine (none_any _).mono ?_
  rintro e w2 ⟨rfl, hb⟩
  have HB2 := Lib.hid (HB1.out.trans (hb.mono HB1.out.size))
  clear hb
  obtain ⟨z1, z2⟩ := z
  rcases hzz with ⟨hz, rfl⟩ | ⟨h1, h2, rfl⟩
  · simp only [Prod.mk.injEq] at hz
    obtain ⟨rfl, rfl⟩ := hz
    go_wp2_with fail
    go_ret
    exact ⟨by first | rfl | simp, HB2.out⟩
  · simp only at h1 h2
    have hne : ((z2 : Int) == 0) = false := by simp; omega
    go_wp2_with fail
    go_ret
    exact ⟨by first | rfl | simp [hne], HB2.out⟩
set_option maxRecDepth 100000 in
set_option maxHeartbeats 2000000 in
theorem checkClock_any (p r : Int) (sv : Value) (xs : List Xc) (w : World) (hX : Xcs w.heap.size w sv xs) :
    Calls Try.prog 28 #[.agg #[.int .i64 p, .int .i64 r, sv]] w fun e w' => e = .returned (.int .i64 (lrnE p r xs)) ∧ Below w.heap.size w w' := by
  have c79 := Lib.hid (fun W (hb : Below w.heap.size w W) => learn_any p r sv xs W (hX.at hb))
  obtain ⟨a, cap, hsv⟩ := hX.form
  subst hsv
  have HA := Lib.hid (show Below w.heap.size w (w.alloc (.cells #[.int .i64 p, .int .i64 r, .slice a xs.length cap] 28)) from (Below.refl _ _).alloc (Nat.le_refl _) _)
  clear hX
  unfold LrnR at c79
  generalize lrnE p r xs = E0 at *
  go_enter Try.func28, Try.ntmps28
  go_wp2_with fail
  refine (c79.out _ HA.out).mono ?_
  rintro e w1 ⟨p', r', v, E, rfl, hE, -, ⟨a1, n1, c1, rfl⟩, hb⟩
  subst hE
  have HB1 := Lib.hid (HA.out.trans (hb.mono (by simp)))
  clear hb
  go_wp2_with fail
  go_ret
  exact ⟨rfl, HB1.out.alloc (by have := HB1.out.size; omega) _⟩
/-- what a valid clock's offsets are like -/
theorem valid_of {p r : Int} {xs : List Xc} (h : lrnE p r xs = 0) : Valid r (ofTo r xs xs.length) := by
  obtain ⟨hl, _, hr, hok⟩ := lrnE_ok h
  refine ⟨(rtB_iff r).1 hr, by rw [ofTo_len]; exact hl.2, fun k hk => ?_⟩
  rw [ofTo_len] at hk
  rw [ofTo_get r xs _ k hk]
  obtain ⟨_, h2, h3, _, h5⟩ := okX_get (hok k hk)
  have h6 := (vB_iff _ _).1 h2
  have h7 := (xcB_iff _).1 h3
  exact ⟨⟨h6.2.1, h5, h6.2.2⟩, by show 0 ≤ (xc xs k).ba; omega, by show (xc xs k).ba ≤ _; omega⟩
theorem small_of {r t : Int} {os : List Of} (hv : Valid r os) (ht : -4503599627370496 ≤ t ∧ t ≤ 4503599627370496) : Small t os := fun k hk => by
  obtain ⟨h1, h2⟩ := hv.2.2 k hk
  refine ⟨by omega, by omega, ?_⟩
  unfold gap
  omega
end Go.Proofs.Ytcchmjbedppfnaa

/-
  Glider in this seat: small functions, what is checked of vehicles, times, boxes, pickups, runs.
-/
import Derived.Test.YthegcbpmammokaaGlA
import Derived.Deep.CutRange
namespace Go.Proofs.Ythegcbpmammokaa
open Go.RowKit
set_option linter.unusedSimpArgs false
set_option maxHeartbeats 1000000
theorem cellHB {W : World} {B : Nat} {cs : Array Value} {t : TypeId} {q : Nat × Nat} (h : W.heap[B]? = some (.cells cs t q)) (j : Nat) : W.cell? ⟨B, j, none⟩ = cs[j]? := by simp [World.cell?, h]
/-- a box, or a current: four numbers -/
structure Q4 where
  a : Int
  b : Int
  c : Int
  d : Int
def q4 (zs : List Q4) (k : Nat) : Q4 := zs[k]?.getD ⟨0, 0, 0, 0⟩
def Q4.val (z : Q4) : Value := .agg #[.int .i64 z.a, .int .i64 z.b, .int .i64 z.c, .int .i64 z.d]
/-- a slice of these -/
def Q4s (n₀ : Nat) (W : World) (sv : Value) (zs : List Q4) : Prop :=
  ∃ a cap, sv = .slice a zs.length cap ∧ zs.length ≤ cap ∧ ∀ k, k < zs.length → ∃ b off, a = some ⟨b, off, none⟩ ∧ b < n₀ ∧
    W.cell? ⟨b, off + k * 4, none⟩ = some (.int .i64 (q4 zs k).a) ∧ W.cell? ⟨b, off + k * 4 + 1, none⟩ = some (.int .i64 (q4 zs k).b) ∧
    W.cell? ⟨b, off + k * 4 + 2, none⟩ = some (.int .i64 (q4 zs k).c) ∧ W.cell? ⟨b, off + k * 4 + 3, none⟩ = some (.int .i64 (q4 zs k).d)
theorem Q4s.mono {n₀ m : Nat} {W W' : World} {sv : Value} {zs : List Q4} (h : Q4s n₀ W sv zs) (hb : Below n₀ W W') (hm : n₀ ≤ m) : Q4s m W' sv zs := by
  obtain ⟨a, cap, e, hl, hc⟩ := h
  refine ⟨a, cap, e, hl, fun k hk => ?_⟩
  obtain ⟨b, off, h1, h2, c0, c1, c2, c3⟩ := hc k hk
  exact ⟨b, off, h1, Nat.lt_of_lt_of_le h2 hm, (hb.cell (p := ⟨b, _, none⟩) h2).trans c0, (hb.cell (p := ⟨b, _, none⟩) h2).trans c1, (hb.cell (p := ⟨b, _, none⟩) h2).trans c2, (hb.cell (p := ⟨b, _, none⟩) h2).trans c3⟩
theorem Q4s.at {W W' : World} {sv : Value} {zs : List Q4} (h : Q4s W.heap.size W sv zs) (hb : Below W.heap.size W W') : Q4s W'.heap.size W' sv zs := h.mono hb hb.size
theorem Q4s.form {n₀ : Nat} {W : World} {sv : Value} {zs : List Q4} (h : Q4s n₀ W sv zs) : ∃ a c, sv = .slice a zs.length c := by
  obtain ⟨a, cap, e, -⟩ := h
  exact ⟨a, cap, e⟩
theorem Q4s.get {n₀ : Nat} {W : World} {a : Option Addr} {n c : Nat} {zs : List Q4} (h : Q4s n₀ W (.slice a n c) zs) : ∀ k, k < zs.length → ∃ b off, a = some ⟨b, off, none⟩ ∧ b < n₀ ∧
    W.cell? ⟨b, off + k * 4, none⟩ = some (.int .i64 (q4 zs k).a) ∧ W.cell? ⟨b, off + k * 4 + 1, none⟩ = some (.int .i64 (q4 zs k).b) ∧
    W.cell? ⟨b, off + k * 4 + 2, none⟩ = some (.int .i64 (q4 zs k).c) ∧ W.cell? ⟨b, off + k * 4 + 3, none⟩ = some (.int .i64 (q4 zs k).d) := by
  obtain ⟨a', cap, e, -, hc⟩ := h
  simp only [Value.slice.injEq] at e
  obtain ⟨rfl, -, -⟩ := e
  exact hc
/-- a slice of slices of these -/
def Rns (n₀ : Nat) (W : World) (sv : Value) (rs : List (List Q4)) : Prop :=
  ∃ a cap, sv = .slice a rs.length cap ∧ ∀ k, k < rs.length → ∃ b off s, a = some ⟨b, off, none⟩ ∧ b < n₀ ∧ W.cell? ⟨b, off + k, none⟩ = some s ∧ Q4s n₀ W s (rs[k]?.getD [])
theorem Rns.at {W W' : World} {sv : Value} {rs : List (List Q4)} (h : Rns W.heap.size W sv rs) (hb : Below W.heap.size W W') : Rns W'.heap.size W' sv rs := by
  obtain ⟨a, cap, e, hc⟩ := h
  refine ⟨a, cap, e, fun k hk => ?_⟩
  obtain ⟨b, off, s, h1, h2, h3, h4⟩ := hc k hk
  exact ⟨b, off, s, h1, Nat.lt_of_lt_of_le h2 hb.size, (hb.cell (p := ⟨b, _, none⟩) h2).trans h3, h4.mono hb hb.size⟩
theorem Rns.form {n₀ : Nat} {W : World} {sv : Value} {rs : List (List Q4)} (h : Rns n₀ W sv rs) : ∃ a c, sv = .slice a rs.length c := by
  obtain ⟨a, cap, e, -⟩ := h
  exact ⟨a, cap, e⟩
theorem Rns.get {n₀ : Nat} {W : World} {a : Option Addr} {n c : Nat} {rs : List (List Q4)} (h : Rns n₀ W (.slice a n c) rs) : ∀ k, k < rs.length → ∃ b off s, a = some ⟨b, off, none⟩ ∧ b < n₀ ∧ W.cell? ⟨b, off + k, none⟩ = some s ∧ Q4s n₀ W s (rs[k]?.getD []) := by
  obtain ⟨a', cap, e, hc⟩ := h
  simp only [Value.slice.injEq] at e
  obtain ⟨rfl, -, -⟩ := e
  exact hc
theorem within22 (x lo hi : Int) (w : World) :
    Calls Try.prog 22 #[.int .i64 x, .int .i64 lo, .int .i64 hi] w fun e w' => e = .returned (.bool (decide (lo ≤ x ∧ x ≤ hi))) ∧ w' = w := by
  by_cases h1 : lo ≤ x
  · by_cases h2 : x ≤ hi
    · rw [decide_eq_true ⟨h1, h2⟩]
      go_enter Try.func22, Try.ntmps22
      go_wp2_with fail
      go_ret
      first | exact ⟨rfl, rfl⟩ | simp [*]
    · rw [decide_eq_false (fun h => h2 h.2)]
      go_enter Try.func22, Try.ntmps22
      go_wp2_with fail
      go_ret
      first | exact ⟨rfl, rfl⟩ | simp [*]
  · rw [decide_eq_false (fun h => h1 h.1)]
    go_enter Try.func22, Try.ntmps22
    go_wp2_with fail
    go_ret
    first | exact ⟨rfl, rfl⟩ | simp [*]
theorem within46 (x lo hi : Int) (w : World) :
    Calls Try.prog 46 #[.int .i64 x, .int .i64 lo, .int .i64 hi] w fun e w' => e = .returned (.bool (decide (lo ≤ x ∧ x ≤ hi))) ∧ w' = w := by
  by_cases h1 : lo ≤ x
  · by_cases h2 : x ≤ hi
    · rw [decide_eq_true ⟨h1, h2⟩]
      go_enter Try.func46, Try.ntmps46
      go_wp2_with fail
      go_ret
      first | exact ⟨rfl, rfl⟩ | simp [*]
    · rw [decide_eq_false (fun h => h2 h.2)]
      go_enter Try.func46, Try.ntmps46
      go_wp2_with fail
      go_ret
      first | exact ⟨rfl, rfl⟩ | simp [*]
  · rw [decide_eq_false (fun h => h1 h.1)]
    go_enter Try.func46, Try.ntmps46
    go_wp2_with fail
    go_ret
    first | exact ⟨rfl, rfl⟩ | simp [*]
/-- a valid span within two numbers -/
def prtB (a b lo hi : Int) : Bool := vB a b && (decide (lo ≤ a) && decide (b ≤ hi))
theorem prtB_iff (a b lo hi : Int) : prtB a b lo hi = true ↔ vB a b = true ∧ lo ≤ a ∧ b ≤ hi := by simp [prtB]
theorem isPart_any (a b lo hi : Int) (w : World) :
    Calls Try.prog 47 #[.agg #[.int .i64 a, .int .i64 b], .int .i64 lo, .int .i64 hi] w fun e w' => e = .returned (.bool (prtB a b lo hi)) ∧ Below w.heap.size w w' := by
  have HA := Lib.hid (show Below w.heap.size w (w.alloc (.cells #[.int .i64 a, .int .i64 b] 27)) from (Below.refl _ _).alloc (Nat.le_refl _) _)
  by_cases hv : vB a b = true
  · have c := fun W => check_ok a b hv W
    by_cases h1 : lo ≤ a
    · by_cases h2 : b ≤ hi
      · rw [show prtB a b lo hi = true by simp [prtB, hv, h1, h2]]
        clear hv
        go_enter Try.func47, Try.ntmps47
        go_wp2_with fail
        refine (c _).mono ?_
        rintro e w1 ⟨rfl, hb⟩
        have HB := Lib.hid (HA.out.trans (hb.mono (by simp)))
        have k0 := hb.cell (p := ⟨w.heap.size, 0, none⟩) (by simp)
        have k1 := hb.cell (p := ⟨w.heap.size, 1, none⟩) (by simp)
        simp [go_sem] at k0 k1
        clear hb
        go_wp2_with fail
        go_ret
        exact ⟨by first | rfl | (simp; done) | (simp; omega), HB.out⟩
      · rw [show prtB a b lo hi = false by simp [prtB, h2]]
        clear hv
        go_enter Try.func47, Try.ntmps47
        go_wp2_with fail
        refine (c _).mono ?_
        rintro e w1 ⟨rfl, hb⟩
        have HB := Lib.hid (HA.out.trans (hb.mono (by simp)))
        have k0 := hb.cell (p := ⟨w.heap.size, 0, none⟩) (by simp)
        have k1 := hb.cell (p := ⟨w.heap.size, 1, none⟩) (by simp)
        simp [go_sem] at k0 k1
        clear hb
        go_wp2_with fail
        go_ret
        exact ⟨by first | rfl | (simp; done) | (simp; omega), HB.out⟩
    · rw [show prtB a b lo hi = false by simp [prtB, h1]]
      clear hv
      go_enter Try.func47, Try.ntmps47
      go_wp2_with fail
      refine (c _).mono ?_
      rintro e w1 ⟨rfl, hb⟩
      have HB := Lib.hid (HA.out.trans (hb.mono (by simp)))
      have k0 := hb.cell (p := ⟨w.heap.size, 0, none⟩) (by simp)
      have k1 := hb.cell (p := ⟨w.heap.size, 1, none⟩) (by simp)
      simp [go_sem] at k0 k1
      clear hb
      go_wp2_with fail
      go_ret
      exact ⟨by first | rfl | (simp; done) | (simp; omega), HB.out⟩
  · have c := fun W => check_bad a b hv W
    rw [show prtB a b lo hi = false by simp [prtB, hv]]
    clear hv
    go_enter Try.func47, Try.ntmps47
    go_wp2_with fail
    refine (c _).mono ?_
    rintro e w1 ⟨rfl, hb⟩
    have HB := Lib.hid (HA.out.trans (hb.mono (by simp)))
    have k0 := hb.cell (p := ⟨w.heap.size, 0, none⟩) (by simp)
    have k1 := hb.cell (p := ⟨w.heap.size, 1, none⟩) (by simp)
    simp [go_sem] at k0 k1
    clear hb
    go_wp2_with fail
    go_ret
    exact ⟨by first | rfl | (simp; done) | (simp; omega), HB.out⟩
theorem bounded_any (a b lo hi : Int) (w : World) :
    Calls Try.prog 43 #[.agg #[.int .i64 a, .int .i64 b], .int .i64 lo, .int .i64 hi] w fun e w' => e = .returned (.bool (prtB a b lo hi)) ∧ Below w.heap.size w w' := by
  have HA := Lib.hid (show Below w.heap.size w (w.alloc (.cells #[.int .i64 a, .int .i64 b] 27)) from (Below.refl _ _).alloc (Nat.le_refl _) _)
  by_cases hv : vB a b = true
  · have c := fun W => valid_yes a b hv W
    by_cases h1 : lo ≤ a
    · by_cases h2 : b ≤ hi
      · rw [show prtB a b lo hi = true by simp [prtB, hv, h1, h2]]
        clear hv
        go_enter Try.func43, Try.ntmps43
        go_wp2_with fail
        refine (c _).mono ?_
        rintro e w1 ⟨rfl, hb⟩
        have HB := Lib.hid (HA.out.trans (hb.mono (by simp)))
        have k0 := hb.cell (p := ⟨w.heap.size, 0, none⟩) (by simp)
        have k1 := hb.cell (p := ⟨w.heap.size, 1, none⟩) (by simp)
        simp [go_sem] at k0 k1
        clear hb
        go_wp2_with fail
        go_ret
        exact ⟨by first | rfl | (simp; done) | (simp; omega), HB.out⟩
      · rw [show prtB a b lo hi = false by simp [prtB, h2]]
        clear hv
        go_enter Try.func43, Try.ntmps43
        go_wp2_with fail
        refine (c _).mono ?_
        rintro e w1 ⟨rfl, hb⟩
        have HB := Lib.hid (HA.out.trans (hb.mono (by simp)))
        have k0 := hb.cell (p := ⟨w.heap.size, 0, none⟩) (by simp)
        have k1 := hb.cell (p := ⟨w.heap.size, 1, none⟩) (by simp)
        simp [go_sem] at k0 k1
        clear hb
        go_wp2_with fail
        go_ret
        exact ⟨by first | rfl | (simp; done) | (simp; omega), HB.out⟩
    · rw [show prtB a b lo hi = false by simp [prtB, h1]]
      clear hv
      go_enter Try.func43, Try.ntmps43
      go_wp2_with fail
      refine (c _).mono ?_
      rintro e w1 ⟨rfl, hb⟩
      have HB := Lib.hid (HA.out.trans (hb.mono (by simp)))
      have k0 := hb.cell (p := ⟨w.heap.size, 0, none⟩) (by simp)
      have k1 := hb.cell (p := ⟨w.heap.size, 1, none⟩) (by simp)
      simp [go_sem] at k0 k1
      clear hb
      go_wp2_with fail
      go_ret
      exact ⟨by first | rfl | (simp; done) | (simp; omega), HB.out⟩
  · have c := fun W => valid_no a b hv W
    rw [show prtB a b lo hi = false by simp [prtB, hv]]
    clear hv
    go_enter Try.func43, Try.ntmps43
    go_wp2_with fail
    refine (c _).mono ?_
    rintro e w1 ⟨rfl, hb⟩
    have HB := Lib.hid (HA.out.trans (hb.mono (by simp)))
    have k0 := hb.cell (p := ⟨w.heap.size, 0, none⟩) (by simp)
    have k1 := hb.cell (p := ⟨w.heap.size, 1, none⟩) (by simp)
    simp [go_sem] at k0 k1
    clear hb
    go_wp2_with fail
    go_ret
    exact ⟨by first | rfl | (simp; done) | (simp; omega), HB.out⟩
theorem unless_any (b : Bool) (n : Int) (w : World) : Calls Try.prog 21 #[.bool b, .int .i64 n] w fun e w' => e = .returned (.int .i64 (if b = true then 0 else n)) ∧ w' = w := by
  cases b
  · go_enter Try.func21, Try.ntmps21
    go_wp2_with fail
    go_ret
    exact ⟨rfl, rfl⟩
  · go_enter Try.func21, Try.ntmps21
    go_wp2_with fail
    go_ret
    exact ⟨rfl, rfl⟩
/-- the first error of some -/
def fstE (es : Nat → Int) : Nat → Int
  | 0 => 0
  | n + 1 => if fstE es n = 0 then es n else fstE es n
theorem fstE_stays {es : Nat → Int} {k : Nat} (h : fstE es k ≠ 0) : ∀ m, k ≤ m → fstE es m = fstE es k
  | 0, hm => by obtain rfl : k = 0 := by omega
                rfl
  | m + 1, hm => by
    by_cases e : k = m + 1
    · rw [e]
    · have ih := fstE_stays h m (by omega)
      show (if fstE es m = 0 then es m else fstE es m) = _
      rw [if_neg (by rw [ih]; exact h)]
      exact ih
theorem fstE_zero {es : Nat → Int} : ∀ {n : Nat}, fstE es n = 0 → ∀ k, k < n → es k = 0
  | 0, _, k, hk => absurd hk (Nat.not_lt_zero _)
  | n + 1, h, k, hk => by
    unfold fstE at h
    by_cases e : fstE es n = 0
    · rw [if_pos e] at h
      by_cases q : k = n
      · subst q; exact h
      · exact fstE_zero e k (by omega)
    · rw [if_neg e] at h; exact absurd h e
theorem first_any (b n cap : Nat) (es : Nat → Int) (hn : n ≤ 1000) (w : World) (hc : ∀ k, k < n → w.cell? ⟨b, k, none⟩ = some (.int .i64 (es k))) : Calls Try.prog 18 #[.slice (some ⟨b, 0, none⟩) n cap] w fun e w' => e = .returned (.int .i64 (fstE es n)) ∧ w' = w := by
  have HC := Lib.hid hc
  have HS := Lib.hid (fun k (h : fstE es k ≠ 0) => fstE_stays h n)
  have HU := Lib.hid (fun k => show fstE es (k + 1) = if fstE es k = 0 then es k else fstE es k from rfl)
  have HZ := Lib.hid (show fstE es 0 = 0 from rfl)
  clear hc
  generalize fstE es = F at *
  go_enter Try.func18, Try.ntmps18
  go_wp2_with fail
  go_loopw [7] (fun iv wr => ∃ k : Nat, k ≤ n ∧ iv = .int .i64 k ∧ F k = 0 ∧ wr = w) (fun iv _ => n - (intOf iv).toNat)
  case atStart => exact ⟨0, Nat.zero_le _, rfl, HZ.out, rfl⟩
  case round =>
    obtain ⟨k, hk, rfl, hF, rfl⟩ := hrel
    have HF := Lib.hid hF
    clear hF
    by_cases hlt : k < n
    · have hki : (k : Int) < (n : Int) := by omega
      have m0 := HC.out k hlt
      have hu := HU.out k
      rw [if_pos HF.out] at hu
      have HUU := Lib.hid hu
      clear hu
      by_cases hz : es k = 0
      · rw [hz] at m0
        have HZZ := Lib.hid hz
        clear hz
        go_wp2_with fail
        go_roundw
        case rel => exact ⟨k + 1, by omega, by go_num, by rw [HUU.out, HZZ.out], by first | rfl | trivial⟩
        case measure => simp [intOf]; omega
      · have hne : (es k != 0) = true := by simpa using hz
        have HE := Lib.hid (show F n = es k from (HS.out (k + 1) (by rw [HUU.out]; exact hz) (by omega)).trans HUU.out)
        clear hz
        generalize es k = x at *
        go_wp2_with fail
        go_ret
        exact ⟨by rw [HE.out]; rfl, by first | rfl | trivial⟩
    · obtain rfl : k = n := by omega
      go_wp2_with fail
      go_ret
      exact ⟨by rw [HF.out]; rfl, by first | rfl | trivial⟩
theorem checkTime_any (t : Int) (w : World) : Calls Try.prog 33 #[.int .i64 t] w fun e w' => e = .returned (.int .i64 (if decide (0 ≤ t ∧ t ≤ 1073741824) = true then 0 else 3)) ∧ w' = w := by
  have c1 := fun W => within46 t 0 1073741824 W
  generalize decide (0 ≤ t ∧ t ≤ 1073741824) = b at *
  have c2 := fun W => unless_any b 3 W
  generalize (if b = true then (0 : Int) else 3) = q at *
  go_enter Try.func33, Try.ntmps33
  go_wp2_with fail
  refine (c1 _).mono ?_
  rintro e w1 ⟨rfl, rfl⟩
  go_wp2_with fail
  refine (c2 _).mono ?_
  rintro e w2 ⟨rfl, rfl⟩
  go_wp2_with fail
  go_ret
  exact ⟨rfl, rfl⟩
theorem checkEnergy_any (a b : Int) (w : World) : Calls Try.prog 45 #[.agg #[.int .i64 a, .int .i64 b]] w fun e w' => e = .returned (.int .i64 (if prtB a b 0 1073741824 = true then 0 else 2)) ∧ Below w.heap.size w w' := by
  have c1 := fun W => isPart_any a b 0 1073741824 W
  generalize prtB a b 0 1073741824 = p at *
  have c2 := fun W => unless_any p 2 W
  generalize (if p = true then (0 : Int) else 2) = q at *
  have HA := Lib.hid (show Below w.heap.size w (w.alloc (.cells #[.int .i64 a, .int .i64 b] 27)) from (Below.refl _ _).alloc (Nat.le_refl _) _)
  go_enter Try.func45, Try.ntmps45
  go_wp2_with fail
  refine (c1 _).mono ?_
  rintro e w1 ⟨rfl, hb⟩
  have HB := Lib.hid (HA.out.trans (hb.mono (by simp)))
  clear hb
  go_wp2_with fail
  refine (c2 _).mono ?_
  rintro e w6 ⟨rfl, rfl⟩
  go_wp2_with fail
  go_ret
  exact ⟨rfl, HB.out⟩
/-- a valid vehicle -/
def vehB (s d u0 u1 t0 t1 r : Int) : Bool := decide (0 ≤ s ∧ s ≤ 5000) && (decide (1 ≤ d ∧ d ≤ 131072) && (prtB u0 u1 0 1073741824 && (prtB t0 t1 0 1073741824 && decide (0 ≤ r ∧ r ≤ 1073741824))))
def vehE (s d u0 u1 t0 t1 r : Int) : Int := if vehB s d u0 u1 t0 t1 r = true then 0 else 2
theorem vehicle_any (s d u0 u1 t0 t1 r : Int) (w : World) :
    Calls Try.prog 32 #[.agg #[.int .i64 s, .int .i64 d, .int .i64 u0, .int .i64 u1, .int .i64 t0, .int .i64 t1, .int .i64 r]] w fun e w' => e = .returned (.int .i64 (vehE s d u0 u1 t0 t1 r)) ∧ Below w.heap.size w w' := by
  have c1 := fun W => within46 s 0 5000 W
  have c2 := fun W => within46 d 1 131072 W
  have c3 := fun W => isPart_any u0 u1 0 1073741824 W
  have c4 := fun W => isPart_any t0 t1 0 1073741824 W
  have c5 := fun W => within46 r 0 1073741824 W
  unfold vehE vehB
  generalize decide (0 ≤ s ∧ s ≤ 5000) = p1 at *
  generalize decide (1 ≤ d ∧ d ≤ 131072) = p2 at *
  generalize prtB u0 u1 0 1073741824 = p3 at *
  generalize prtB t0 t1 0 1073741824 = p4 at *
  generalize decide (0 ≤ r ∧ r ≤ 1073741824) = p5 at *
  have c6 := fun b W => unless_any b 2 W
  obtain ⟨A, hA⟩ : ∃ A, A = w.alloc (.cells #[.int .i64 s, .int .i64 d, .int .i64 u0, .int .i64 u1, .int .i64 t0, .int .i64 t1, .int .i64 r] 41) := ⟨_, rfl⟩
  have HBA := Lib.hid (show Below w.heap.size w A by rw [hA]; exact (Below.refl _ _).alloc (Nat.le_refl _) _)
  have hlt : w.heap.size < A.heap.size := by rw [hA]; simp
  have k : ∀ o, A.cell? ⟨w.heap.size, o, none⟩ = (#[.int .i64 s, .int .i64 d, .int .i64 u0, .int .i64 u1, .int .i64 t0, .int .i64 t1, .int .i64 r] : Array Value)[o]? := fun o => cellHB (by rw [hA]; exact World.alloc_heap_new w _) o
  have KK := Lib.hid (show ∀ W, Below A.heap.size A W → W.cell? ⟨w.heap.size, 0, none⟩ = some (.int .i64 s) ∧ W.cell? ⟨w.heap.size, 1, none⟩ = some (.int .i64 d) ∧ W.cell? ⟨w.heap.size, 2, none⟩ = some (.int .i64 u0) ∧ W.cell? ⟨w.heap.size, 3, none⟩ = some (.int .i64 u1) ∧ W.cell? ⟨w.heap.size, 4, none⟩ = some (.int .i64 t0) ∧ W.cell? ⟨w.heap.size, 5, none⟩ = some (.int .i64 t1) ∧ W.cell? ⟨w.heap.size, 6, none⟩ = some (.int .i64 r) from fun W h => ⟨(h.cell (p := ⟨w.heap.size, 0, none⟩) hlt).trans (k 0), (h.cell (p := ⟨w.heap.size, 1, none⟩) hlt).trans (k 1), (h.cell (p := ⟨w.heap.size, 2, none⟩) hlt).trans (k 2), (h.cell (p := ⟨w.heap.size, 3, none⟩) hlt).trans (k 3), (h.cell (p := ⟨w.heap.size, 4, none⟩) hlt).trans (k 4), (h.cell (p := ⟨w.heap.size, 5, none⟩) hlt).trans (k 5), (h.cell (p := ⟨w.heap.size, 6, none⟩) hlt).trans (k 6)⟩)
  clear hlt k
  obtain ⟨k0, k1, k2, k3, k4, k5, k6⟩ := KK.out _ (Below.refl _ _)
  go_enter Try.func32, Try.ntmps32
  go_upto_region 1 with fail
  rw [← hA]
  clear hA
  go_wp2_with fail
  refine (c1 _).mono ?_
  rintro e w1 ⟨rfl, hw⟩
  subst hw
  have HB0 := Lib.hid (Below.refl w1.heap.size w1)
  cases p1
  · go_wp2_with fail
    refine (c6 _ _).mono ?_
    rintro e w6 ⟨rfl, rfl⟩
    go_wp2_with fail
    go_ret
    exact ⟨by first | rfl | simp, HBA.out.trans (HB0.out.mono HBA.out.size)⟩
  go_wp2_with fail
  refine (c2 _).mono ?_
  rintro e w2 ⟨rfl, hw⟩
  subst hw
  cases p2
  · go_wp2_with fail
    refine (c6 _ _).mono ?_
    rintro e w6 ⟨rfl, rfl⟩
    go_wp2_with fail
    go_ret
    exact ⟨by first | rfl | simp, HBA.out.trans (HB0.out.mono HBA.out.size)⟩
  go_wp2_with fail
  refine (c3 _).mono ?_
  rintro e w3 ⟨rfl, hb⟩
  have HB3 := Lib.hid (HB0.out.trans (hb.mono HB0.out.size))
  clear hb k0 k1 k2 k3 k4 k5 k6
  obtain ⟨k0, k1, k2, k3, k4, k5, k6⟩ := KK.out _ HB3.out
  cases p3
  · go_wp2_with fail
    refine (c6 _ _).mono ?_
    rintro e w6 ⟨rfl, rfl⟩
    go_wp2_with fail
    go_ret
    exact ⟨by first | rfl | simp, HBA.out.trans (HB3.out.mono HBA.out.size)⟩
  go_wp2_with fail
  refine (c4 _).mono ?_
  rintro e w4 ⟨rfl, hb⟩
  have HB4 := Lib.hid (HB3.out.trans (hb.mono HB3.out.size))
  clear hb k0 k1 k2 k3 k4 k5 k6
  obtain ⟨k0, k1, k2, k3, k4, k5, k6⟩ := KK.out _ HB4.out
  cases p4
  · go_wp2_with fail
    refine (c6 _ _).mono ?_
    rintro e w6 ⟨rfl, rfl⟩
    go_wp2_with fail
    go_ret
    exact ⟨by first | rfl | simp, HBA.out.trans (HB4.out.mono HBA.out.size)⟩
  go_wp2_with fail
  refine (c5 _).mono ?_
  rintro e w5 ⟨rfl, hw⟩
  subst hw
  cases p5
  all_goals
    go_wp2_with fail
    refine (c6 _ _).mono ?_
    rintro e w6 ⟨rfl, rfl⟩
    go_wp2_with fail
    go_ret
    exact ⟨by first | rfl | simp, HBA.out.trans (HB4.out.mono HBA.out.size)⟩

end Go.Proofs.Ythegcbpmammokaa

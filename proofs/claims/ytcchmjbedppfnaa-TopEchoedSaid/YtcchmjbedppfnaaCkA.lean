/-
  Clock: growth, spans, delays.
-/
import Derived.Test.YtcchmjbedppfnaaProg
import Derived.Lib.Hide
import Derived.Lib.MinMax
import Derived.Shelf.Abstract
import Derived.Shelf.RegionOpen
import Derived.WalkSpells
import Derived.WalkLawsBesides
import Derived.WalkSmall
import Derived.Below
import Derived.RangeFuncBox
import Derived.OwnWalkIn
import Derived.WalkKit
import Derived.BigQuiet
import Derived.Deep.QuietTactic
import Derived.Deep.RegionHeld3
import Derived.Laws.EntriesVeiled
namespace Go.Proofs.Ytcchmjbedppfnaa
open Go.RowKit Go.Shelf
set_option linter.unusedSimpArgs false
theorem min2_run {P : Program} (w : World) (k k' : IntKind) (x y : Int) : (Builtin.min2 (.int k x) (.int k' y)).run P w = .ok (.int k (min x y)) w := by
  have e : (if y < x then y else x) = min x y := by rw [Int.min_def]; split <;> split <;> omega
  simp [Builtin.min2, e]
theorem max2_run {P : Program} (w : World) (k k' : IntKind) (x y : Int) : (Builtin.max2 (.int k x) (.int k' y)).run P w = .ok (.int k (max x y)) w := by
  have e : (if y > x then y else x) = max x y := by rw [Int.max_def]; split <;> split <;> omega
  simp [Builtin.max2, e]
theorem ret_bool {a b : Bool} (h : a = b) : Ending.returned (.bool a) = .returned (.bool b) := by rw [h]
theorem ret_int {k : IntKind} {a b : Int} (h : a = b) : Ending.returned (.int k a) = .returned (.int k b) := by rw [h]
/-- by how much an offset changes at most, rounded up -/
def grw (r d : Int) : Int := r * (d / 1000000000) + (r * (d % 1000000000) + 999999999) / 1000000000
theorem grw_bd {r d : Int} (hr : 0 ≤ r ∧ r ≤ 1000000) (hd : 0 ≤ d ∧ d ≤ 9007199254740992) : (0 ≤ r * (d / 1000000000) ∧ r * (d / 1000000000) ≤ 9007200000000) ∧ (0 ≤ r * (d % 1000000000) ∧ r * (d % 1000000000) ≤ 1000000000000000) ∧ 0 ≤ grw r d ∧ grw r d ≤ 9007201000001 := by
  have a1 : 0 ≤ d / 1000000000 := by omega
  have a2 : d / 1000000000 ≤ 9007200 := by omega
  have b1 : 0 ≤ d % 1000000000 := by omega
  have b2 : d % 1000000000 ≤ 1000000000 := by omega
  have c1 := Int.mul_nonneg hr.1 a1
  have c2 := Int.mul_le_mul hr.2 a2 a1 (by decide)
  have d1 := Int.mul_nonneg hr.1 b1
  have d2 := Int.mul_le_mul hr.2 b2 b1 (by decide)
  unfold grw
  generalize r * (d / 1000000000) = p at *
  generalize r * (d % 1000000000) = q at *
  omega
set_option maxHeartbeats 1000000 in
theorem growth_any (r d : Int) (hr : 0 ≤ r ∧ r ≤ 1000000) (hd : 0 ≤ d ∧ d ≤ 9007199254740992) (w : World) :
    Calls Try.prog 132 #[.int .i64 r, .int .i64 d] w fun e w' => e = .returned (.int .i64 (grw r d)) ∧ w' = w := by
  obtain ⟨⟨p1, p2⟩, ⟨q1, q2⟩, g1, g2⟩ := grw_bd hr hd
  have HG := Lib.hid (show grw r d = r * (d / 1000000000) + (r * (d % 1000000000) + 999999999) / 1000000000 from rfl)
  generalize grw r d = g at *
  generalize hP : r * (d / 1000000000) = P at *
  generalize hQ : r * (d % 1000000000) = Q at *
  have v1 : wrap64 P = P := by unfold wrap64; omega
  have v2 : wrap64 Q = Q := by unfold wrap64; omega
  have v3 : wrap64 (Q + 1000000000) = Q + 1000000000 := by unfold wrap64; omega
  have v4 : wrap64 (Q + 1000000000 - 1) = Q + 1000000000 - 1 := by unfold wrap64; omega
  have hg := HG.out
  go_enter Try.func132, Try.ntmps132
  go_wp2_with fail
  go_ret
  exact ⟨ret_int (by rw [hg]; omega), rfl⟩
set_option maxHeartbeats 1000000 in
theorem grown_any (lo hi g : Int) (h1 : -1000000000000000000 ≤ lo ∧ lo ≤ 1000000000000000000) (h2 : -1000000000000000000 ≤ hi ∧ hi ≤ 1000000000000000000) (h3 : 0 ≤ g ∧ g ≤ 1000000000000000000) (w : World) :
    Calls Try.prog 131 #[.agg #[.int .i64 lo, .int .i64 hi], .int .i64 g] w fun e w' => e = .returned (.agg #[.int .i64 (lo - g), .int .i64 (hi + g)]) ∧ Below w.heap.size w w' := by
  have v1 : wrap64 (lo - g) = lo - g := by unfold wrap64; omega
  have v2 : wrap64 (hi + g) = hi + g := by unfold wrap64; omega
  go_enter Try.func131, Try.ntmps131
  go_wp2_with fail
  refine bodyPost_ret (v := .agg #[.int .i64 (lo - g), .int .i64 (hi + g)]) (by simp [results, Try.results131, go_sem]) rfl ⟨rfl, by repeat (first | exact Below.refl _ _ | refine Below.alloc ?_ (by simp; try omega) _)⟩
theorem meet_any (a b c d : Int) (w : World) :
    Calls Try.prog 73 #[.agg #[.int .i64 a, .int .i64 b], .agg #[.int .i64 c, .int .i64 d]] w fun e w' => e = .returned (.agg #[.int .i64 (max a c), .int .i64 (min b d)]) ∧ Below w.heap.size w w' := by
  go_enter Try.func73, Try.ntmps73
  go_wp2_with fail
  refine bodyPost_ret (v := .agg #[.int .i64 (max a c), .int .i64 (min b d)]) (by simp [results, Try.results73, go_sem]) rfl ⟨rfl, by repeat (first | exact Below.refl _ _ | refine Below.alloc ?_ (by simp; try omega) _)⟩
theorem exists_any (a b : Int) (w : World) :
    Calls Try.prog 77 #[.agg #[.int .i64 a, .int .i64 b]] w fun e w' => e = .returned (.bool (decide (a ≤ b))) ∧ Below w.heap.size w w' := by
  go_enter Try.func77, Try.ntmps77
  go_wp2_with fail
  go_ret
  exact ⟨rfl, (Below.refl _ _).alloc (Nat.le_refl _) _⟩
theorem within64_any (x lo hi : Int) (w : World) :
    Calls Try.prog 91 #[.int .i64 x, .int .i64 lo, .int .i64 hi] w fun e w' => e = .returned (.bool (decide (lo ≤ x ∧ x ≤ hi))) ∧ w' = w := by
  by_cases h1 : lo ≤ x
  · by_cases h2 : x ≤ hi
    · rw [decide_eq_true ⟨h1, h2⟩]
      go_enter Try.func91, Try.ntmps91
      go_wp2_with fail
      go_ret
      first | exact ⟨rfl, rfl⟩ | simp [*]
    · rw [decide_eq_false (fun h => h2 h.2)]
      go_enter Try.func91, Try.ntmps91
      go_wp2_with fail
      go_ret
      first | exact ⟨rfl, rfl⟩ | simp [*]
  · rw [decide_eq_false (fun h => h1 h.1)]
    go_enter Try.func91, Try.ntmps91
    go_wp2_with fail
    go_ret
    first | exact ⟨rfl, rfl⟩ | simp [*]
theorem withinI_any (x lo hi : Int) (w : World) :
    Calls Try.prog 95 #[.int .i64 x, .int .i64 lo, .int .i64 hi] w fun e w' => e = .returned (.bool (decide (lo ≤ x ∧ x ≤ hi))) ∧ w' = w := by
  by_cases h1 : lo ≤ x
  · by_cases h2 : x ≤ hi
    · rw [decide_eq_true ⟨h1, h2⟩]
      go_enter Try.func95, Try.ntmps95
      go_wp2_with fail
      go_ret
      first | exact ⟨rfl, rfl⟩ | simp [*]
    · rw [decide_eq_false (fun h => h2 h.2)]
      go_enter Try.func95, Try.ntmps95
      go_wp2_with fail
      go_ret
      first | exact ⟨rfl, rfl⟩ | simp [*]
  · rw [decide_eq_false (fun h => h1 h.1)]
    go_enter Try.func95, Try.ntmps95
    go_wp2_with fail
    go_ret
    first | exact ⟨rfl, rfl⟩ | simp [*]
/-- a time -/
def tmB (t : Int) : Bool := decide (0 ≤ t ∧ t ≤ 1125899906842624)
theorem tmB_iff (t : Int) : tmB t = true ↔ 0 ≤ t ∧ t ≤ 1125899906842624 := decide_eq_true_iff
theorem isTime_any (t : Int) (w : World) : Calls Try.prog 80 #[.int .i64 t] w fun e w' => e = .returned (.bool (tmB t)) ∧ w' = w := by
  have c := within64_any t 0 1125899906842624 w
  unfold tmB
  generalize decide (0 ≤ t ∧ t ≤ 1125899906842624) = b at *
  go_enter Try.func80, Try.ntmps80
  go_wp2_with fail
  refine c.mono ?_
  rintro e w1 ⟨rfl, rfl⟩
  go_wp2_with fail
  go_ret
  exact ⟨rfl, rfl⟩
def rtB (t : Int) : Bool := decide (0 ≤ t ∧ t ≤ 1000000)
theorem rtB_iff (t : Int) : rtB t = true ↔ 0 ≤ t ∧ t ≤ 1000000 := decide_eq_true_iff
theorem isRate_any (t : Int) (w : World) : Calls Try.prog 72 #[.int .i64 t] w fun e w' => e = .returned (.bool (rtB t)) ∧ w' = w := by
  have c := within64_any t 0 1000000 w
  unfold rtB
  generalize decide (0 ≤ t ∧ t ≤ 1000000) = b at *
  go_enter Try.func72, Try.ntmps72
  go_wp2_with fail
  refine c.mono ?_
  rintro e w1 ⟨rfl, rfl⟩
  go_wp2_with fail
  go_ret
  exact ⟨rfl, rfl⟩
/-- a valid span -/
def vB (a b : Int) : Bool := decide (a ≤ b ∧ -1073741824 ≤ a ∧ b ≤ 1073741824)
theorem vB_iff (a b : Int) : vB a b = true ↔ a ≤ b ∧ -1073741824 ≤ a ∧ b ≤ 1073741824 := decide_eq_true_iff
set_option maxHeartbeats 1000000 in
theorem check_any (a b : Int) (w : World) :
    Calls Try.prog 70 #[.agg #[.int .i64 a, .int .i64 b]] w fun e w' => e = .returned (.int .i64 (if vB a b = true then 0 else 2)) ∧ Below w.heap.size w w' := by
  have e : (if vB a b = true then (0 : Int) else 2) = if b < a then 2 else if a < -1073741824 then 2 else if 1073741824 < b then 2 else 0 := by
    have h := vB_iff a b
    cases q : vB a b
    · rw [q] at h
      have : ¬ (a ≤ b ∧ -1073741824 ≤ a ∧ b ≤ 1073741824) := fun g => (by cases h.2 g)
      rw [if_neg (by decide)]
      repeat' split
      all_goals first | rfl | omega
    · have := h.1 q
      rw [if_pos rfl, if_neg (by omega), if_neg (by omega), if_neg (by omega)]
  rw [e]
  clear e
  have hb : Below w.heap.size w (w.alloc (.cells #[.int .i64 a, .int .i64 b] 23)) := (Below.refl _ _).alloc (Nat.le_refl _) _
  have HB := Lib.hid hb
  clear hb
  by_cases h1 : b < a
  · rw [if_pos h1]
    go_enter Try.func70, Try.ntmps70
    go_wp2_with fail
    go_ret
    exact ⟨rfl, HB.out⟩
  rw [if_neg h1]
  by_cases h2 : a < -1073741824
  · rw [if_pos h2]
    go_enter Try.func70, Try.ntmps70
    go_wp2_with fail
    go_ret
    exact ⟨rfl, HB.out⟩
  rw [if_neg h2]
  by_cases h3 : 1073741824 < b
  · rw [if_pos h3]
    go_enter Try.func70, Try.ntmps70
    go_wp2_with fail
    go_ret
    exact ⟨rfl, HB.out⟩
  rw [if_neg h3]
  go_enter Try.func70, Try.ntmps70
  go_wp2_with fail
  go_ret
  exact ⟨rfl, HB.out⟩
/-- a delay -/
def dlB (a b : Int) : Bool := vB a b && decide (0 ≤ a)
theorem dlB_iff (a b : Int) : dlB a b = true ↔ 0 ≤ a ∧ a ≤ b ∧ b ≤ 1073741824 := by
  unfold dlB
  rw [Bool.and_eq_true, vB_iff, decide_eq_true_iff]
  omega
set_option maxHeartbeats 1000000 in
theorem isDelay_any (a b : Int) (w : World) :
    Calls Try.prog 86 #[.agg #[.int .i64 a, .int .i64 b]] w fun e w' => e = .returned (.bool (dlB a b)) ∧ Below w.heap.size w w' := by
  have c := fun W => check_any a b W
  have hA : Below w.heap.size w (w.alloc (.cells #[.int .i64 a, .int .i64 b] 23)) := (Below.refl _ _).alloc (Nat.le_refl _) _
  have HA := Lib.hid hA
  clear hA
  have HD := Lib.hid (show dlB a b = (vB a b && decide (0 ≤ a)) from rfl)
  generalize dlB a b = D at *
  cases hv : vB a b
  · rw [hv] at c
    have hd : D = false := by rw [HD.out, hv]; rfl
    subst hd
    simp only [Bool.false_eq_true, if_false] at c
    go_enter Try.func86, Try.ntmps86
    go_wp2_with fail
    refine (c _).mono ?_
    rintro e w1 ⟨rfl, hb⟩
    have HB := Lib.hid (HA.out.trans (hb.mono (by simp)))
    clear hb
    go_wp2_with fail
    go_ret
    exact ⟨rfl, HB.out⟩
  · rw [hv] at c
    have hd : D = decide (0 ≤ a) := by rw [HD.out, hv]; rfl
    subst hd
    simp only [if_true] at c
    clear HD
    go_enter Try.func86, Try.ntmps86
    go_wp2_with fail
    refine (c _).mono ?_
    rintro e w1 ⟨rfl, hb⟩
    have HB := Lib.hid (HA.out.trans (hb.mono (by simp)))
    have k0 := hb.cell (p := ⟨w.heap.size, 0, none⟩) (by simp)
    simp [go_sem] at k0
    clear hb
    go_wp2_with fail
    go_ret
    exact ⟨by first | rfl | simp, HB.out⟩
/-- an exchange -/
structure Xc where
  se : Int
  he : Int
  an : Int
  ba : Int
  fLo : Int
  fHi : Int
  hLo : Int
  hHi : Int
  deriving Inhabited
def Xc.val (x : Xc) : Value := .agg #[.int .i64 x.se, .int .i64 x.he, .int .i64 x.an, .int .i64 x.ba, .int .i64 x.fLo, .int .i64 x.fHi, .int .i64 x.hLo, .int .i64 x.hHi]
/-- a valid exchange -/
def xcB (x : Xc) : Bool := tmB x.se && (tmB x.he && (tmB x.an && (tmB x.ba && (decide (x.se ≤ x.ba) && (decide (x.he ≤ x.an) && (dlB x.fLo x.fHi && dlB x.hLo x.hHi))))))
theorem xcB_iff (x : Xc) : xcB x = true ↔ (0 ≤ x.se ∧ x.se ≤ x.ba ∧ x.ba ≤ 1125899906842624) ∧ (0 ≤ x.he ∧ x.he ≤ x.an ∧ x.an ≤ 1125899906842624) ∧ (0 ≤ x.fLo ∧ x.fLo ≤ x.fHi ∧ x.fHi ≤ 1073741824) ∧ (0 ≤ x.hLo ∧ x.hLo ≤ x.hHi ∧ x.hHi ≤ 1073741824) := by
  unfold xcB
  simp only [Bool.and_eq_true, tmB_iff, dlB_iff, decide_eq_true_iff]
  omega
end Go.Proofs.Ytcchmjbedppfnaa

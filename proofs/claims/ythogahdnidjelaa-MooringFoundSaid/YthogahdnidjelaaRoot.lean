/-
  Roots.
-/
import Derived.Test.YthogahdnidjelaaSmallM
import Derived.Deep.RegionHeld3
import Derived.BigQuiet
import Derived.Deep.QuietTactic
namespace Go.Proofs.Ythogahdnidjelaa
open Go.RowKit Go.Shelf
set_option linter.unusedSimpArgs false
def Boxed2 (W : World) (B : Nat) (t : TypeId) (u v : Value) : Prop := W.heap[B]? = some (.cells #[u, v] t (0, 0))
theorem Boxed2.lt {W : World} {B : Nat} {t : TypeId} {u v : Value} (h : Boxed2 W B t u v) : B < W.heap.size := (Array.getElem?_eq_some_iff.1 h).1
theorem Boxed2.c0 {W : World} {B : Nat} {t : TypeId} {u v : Value} (h : Boxed2 W B t u v) : W.cell? ⟨B, 0, none⟩ = some u := by simp [World.cell?, show W.heap[B]? = _ from h]
theorem Boxed2.c1 {W : World} {B : Nat} {t : TypeId} {u v : Value} (h : Boxed2 W B t u v) : W.cell? ⟨B, 1, none⟩ = some v := by simp [World.cell?, show W.heap[B]? = _ from h]
theorem Boxed2.f0 {W : World} {B : Nat} {t : TypeId} {u v : Value} (h : Boxed2 W B t u v) : W.frozen? ⟨B, 0, none⟩ = false := by simp [World.frozen?, show W.heap[B]? = _ from h]
theorem Boxed2.f1 {W : World} {B : Nat} {t : TypeId} {u v : Value} (h : Boxed2 W B t u v) : W.frozen? ⟨B, 1, none⟩ = false := by simp [World.frozen?, show W.heap[B]? = _ from h]
theorem Boxed2.new (W : World) (t : TypeId) (u v : Value) : Boxed2 (W.alloc (.cells #[u, v] t)) W.heap.size t u v := World.alloc_heap_new W _
theorem bcell {W w1 : World} (hb : Below W.heap.size W w1) : (∀ b o, b < W.heap.size → w1.cell? ⟨b, o, none⟩ = W.cell? ⟨b, o, none⟩) ∧ (∀ b o, b < W.heap.size → w1.frozen? ⟨b, o, none⟩ = W.frozen? ⟨b, o, none⟩) :=
  ⟨fun b o h => hb.cell (p := ⟨b, o, none⟩) h, fun b o h => hb.frozen (p := ⟨b, o, none⟩) h⟩
theorem chainB {A W W' : World} (hb : Below W.heap.size W W') (h : Below A.heap.size A W) : Below A.heap.size A W' := h.trans (hb.mono h.size)
/-- r is the root of x, rounded down -/
def IsSq (x r : Int) : Prop := 0 ≤ r ∧ r * r ≤ x ∧ x < (r + 1) * (r + 1)
theorem sq_mono {a b : Int} (ha : 0 ≤ a) (h : a ≤ b) : a * a ≤ b * b := Int.mul_le_mul h h ha (by omega)
theorem IsSq.unique {x r s : Int} (h : IsSq x r) (k : IsSq x s) : r = s := by
  obtain ⟨h0, h1, h2⟩ := h
  obtain ⟨k0, k1, k2⟩ := k
  rcases Int.lt_trichotomy r s with hl | he | hl
  · have := sq_mono (a := r + 1) (b := s) (by omega) (by omega); omega
  · exact he
  · have := sq_mono (a := s + 1) (b := r) (by omega) (by omega); omega
noncomputable def isq (x : Int) : Int := Classical.epsilon (IsSq x)
theorem isq_eq {x r : Int} (h : IsSq x r) : isq x = r := (Classical.epsilon_spec ⟨r, h⟩ : IsSq x (isq x)).unique h
/-- what holds at each round of the search bit by bit -/
def SqInv (x q b : Int) : Prop := 0 ≤ q ∧ q * q ≤ x ∧ ∃ k : Nat, k ≤ 31 ∧ b = 2 ^ k / 2 ∧ x < (q + 2 ^ k) * (q + 2 ^ k)
theorem sq_le_of {q B : Int} (hB : 0 ≤ B) (h : q * q ≤ B * B) : q ≤ B := by
  rcases Int.lt_or_le B q with hl | hl
  · have := sq_mono (a := B + 1) (b := q) (by omega) (by omega)
    have e : (B + 1) * (B + 1) = B * B + 2 * B + 1 := by rw [Int.add_mul, Int.mul_add, Int.mul_add]; omega
    omega
  · exact hl
theorem pow_half (k : Nat) : ((2 : Int) ^ (k + 1)) / 2 = 2 ^ k := by
  rw [Int.pow_succ, Int.mul_ediv_cancel _ (by decide)]
theorem SqInv.bd {x q b : Int} (h : SqInv x q b) (hx : x ≤ 1152921504606846976) : 0 ≤ q ∧ q ≤ 1073741824 ∧ 0 ≤ b ∧ b ≤ 1073741824 ∧ 0 ≤ (q + b) * (q + b) ∧ (q + b) * (q + b) ≤ 4611686018427387904 := by
  obtain ⟨h0, h1, k, hk, hb, h2⟩ := h
  have hq : q ≤ 1073741824 := sq_le_of (by decide) (by omega)
  have hb2 : 0 ≤ b ∧ b ≤ 1073741824 := by
    subst hb
    have hp : (0 : Int) ≤ 2 ^ k := Int.le_of_lt (Int.pow_pos (by decide))
    have hp2 : (2 : Int) ^ k ≤ 2 ^ 31 := by have := Nat.pow_le_pow_right (n := 2) (by decide) hk; exact_mod_cast this
    have : (2 : Int) ^ 31 = 2147483648 := by decide
    omega
  refine ⟨h0, hq, hb2.1, hb2.2, Int.mul_nonneg (by omega) (by omega), ?_⟩
  have := sq_mono (a := q + b) (b := 2147483648) (by omega) (by omega)
  omega
theorem SqInv.step {x q b : Int} (h : SqInv x q b) (hb : 0 < b) : ((q + b) * (q + b) ≤ x → SqInv x (q + b) (b / 2)) ∧ (x < (q + b) * (q + b) → SqInv x q (b / 2)) := by
  obtain ⟨h0, h1, k, hk, rfl, h2⟩ := h
  cases k with
  | zero => simp at hb
  | succ k =>
    rw [pow_half] at *
    have e : q + 2 ^ (k + 1) = q + 2 ^ k + 2 ^ k := by rw [Int.pow_succ]; omega
    rw [e] at h2
    exact ⟨fun h => ⟨by omega, h, k, by omega, rfl, h2⟩, fun h => ⟨h0, h1, k, by omega, rfl, h⟩⟩
theorem SqInv.done {x q b : Int} (h : SqInv x q b) (hb : b ≤ 0) : IsSq x q := by
  obtain ⟨h0, h1, k, hk, rfl, h2⟩ := h
  cases k with
  | zero => exact ⟨h0, h1, by simpa using h2⟩
  | succ k =>
    rw [pow_half] at hb
    have : (0 : Int) < 2 ^ k := Int.pow_pos (by decide)
    omega
theorem SqInv.start {x : Int} (h0 : 0 ≤ x) (hx : x ≤ 1152921504606846976) : SqInv x 0 1073741824 := by
  refine ⟨Int.le_refl _, by omega, 31, Nat.le_refl _, by decide, ?_⟩
  have : ((0 : Int) + 2 ^ 31) * (0 + 2 ^ 31) = 4611686018427387904 := by decide
  omega
set_option maxHeartbeats 1000000 in
theorem sqDown_any (x : Int) (h0 : 0 ≤ x) (h1 : x ≤ 1152921504606846976) (w : World) :
    Calls Try.prog 121 #[.agg #[], .int .i64 x] w fun e w' => e = .returned (.int .i64 (isq x)) ∧ Below w.heap.size w w' := by
  have hs := SqInv.start h0 h1
  go_enter Try.func121, Try.ntmps121
  go_wp2
  go_loop [5, 6] (fun r b => ∃ q b' : Int, r = .int .i64 q ∧ b = .int .i64 b' ∧ SqInv x q b') (fun _ b => (intOf b).toNat)
  case atStart => exact ⟨0, 1073741824, rfl, rfl, hs⟩
  case round =>
    clear hs
    obtain ⟨q, b, rfl, rfl, hI⟩ := hrel
    obtain ⟨b0, b1, b2, b3, b4, b5⟩ := hI.bd h1
    by_cases hb : 0 < b
    · obtain ⟨s1, s2⟩ := hI.step hb
      have S1 := Lib.hid s1
      have S2 := Lib.hid s2
      clear s1 s2 hI
      go_wp2
      all_goals
        first
          | exact ⟨⟨_, _, rfl, rfl, S1.out (by assumption)⟩, by simp [intOf]; omega⟩
          | exact ⟨⟨_, _, rfl, rfl, S2.out (by assumption)⟩, by simp [intOf]; omega⟩
    · have hq := isq_eq (hI.done (by omega))
      have Hq := Lib.hid hq
      clear hI hq
      go_wp2
      go_ret
      exact ⟨ret_int Hq.out.symm, (Below.refl _ _).alloc (Nat.le_refl _) _⟩
theorem isq_spec {x : Int} (h0 : 0 ≤ x) : IsSq x (isq x) := by
  have : ∃ r : Int, IsSq x r := by
    have hn : ∀ n : Nat, ∃ r : Int, IsSq (n : Int) r := by
      intro n
      induction n with
      | zero => exact ⟨0, by unfold IsSq; decide⟩
      | succ n ih =>
        obtain ⟨r, h0, h1, h2⟩ := ih
        by_cases h : (r + 1) * (r + 1) ≤ ((n + 1 : Nat) : Int)
        · refine ⟨r + 1, by omega, h, ?_⟩
          have e : (r + 1 + 1) * (r + 1 + 1) = (r + 1) * (r + 1) + 2 * (r + 1) + 1 := by rw [Int.add_mul (r + 1) 1, Int.mul_add (r + 1), Int.mul_add 1]; omega
          omega
        · exact ⟨r, h0, by omega, by omega⟩
    obtain ⟨n, rfl⟩ := Int.eq_ofNat_of_zero_le h0
    exact hn n
  exact Classical.epsilon_spec this
theorem isq_bd {x : Int} (h0 : 0 ≤ x) (h1 : x ≤ 1152921504606846976) : 0 ≤ isq x ∧ isq x ≤ 1073741824 ∧ 0 ≤ isq x * isq x ∧ isq x * isq x ≤ x := by
  obtain ⟨a, b, c⟩ := isq_spec h0
  exact ⟨a, sq_le_of (by decide) (by omega), Int.mul_nonneg a a, b⟩
/-- the root, rounded up -/
noncomputable def isqUp (x : Int) : Int := if isq x * isq x < x then isq x + 1 else isq x
theorem isqUp_bd {x : Int} (h0 : 0 ≤ x) (h1 : x ≤ 1152921504606846976) : 0 ≤ isqUp x ∧ isqUp x ≤ 1073741824 := by
  obtain ⟨a, b, c, d⟩ := isq_bd h0 h1
  unfold isqUp
  split
  · rename_i h
    refine ⟨by omega, ?_⟩
    rcases Int.lt_or_le (isq x) 1073741824 with hl | hl
    · omega
    · have : isq x = 1073741824 := by omega
      rw [this] at h; omega
  · exact ⟨a, b⟩
set_option maxHeartbeats 1000000 in
theorem sqUp_any (x : Int) (h0 : 0 ≤ x) (h1 : x ≤ 1152921504606846976) (w : World) :
    Calls Try.prog 122 #[.agg #[], .int .i64 x] w fun e w' => e = .returned (.int .i64 (isqUp x)) ∧ Below w.heap.size w w' := by
  have c1 := fun w => sqDown_any x h0 h1 w
  obtain ⟨a, b, c, d⟩ := isq_bd h0 h1
  have hu : (isq x * isq x < x ∧ isqUp x = isq x + 1) ∨ (x ≤ isq x * isq x ∧ isqUp x = isq x) := by
    unfold isqUp; split <;> omega
  have Hu := Lib.hid hu
  clear hu
  generalize hr : isq x = r at *
  clear hr
  go_enter Try.func122, Try.ntmps122
  go_wp2_with fail
  refine (c1 _).mono ?_
  rintro e w1 ⟨rfl, hb⟩
  go_wp2_with fail
  all_goals
    go_ret
    exact ⟨ret_int (by rcases Hu.out with ⟨h, e⟩ | ⟨h, e⟩ <;> omega), ((Below.refl _ _).alloc (Nat.le_refl _) _).trans (hb.mono (by simp))⟩
set_option maxHeartbeats 1000000 in
theorem sqrt_any (x : Int) (h0 : 0 ≤ x) (h1 : x ≤ 1152921504606846976) (w : World) :
    Calls Try.prog 67 #[.int .i64 x] w fun e w' => e = .returned (.int .i64 (isq x)) ∧ w' = w := by
  go_enter Try.func67, Try.ntmps67
  go_wp2
  go_loop [3, 4] (fun l h => ∃ lo hi : Int, l = .int .i64 lo ∧ h = .int .i64 hi ∧ 0 ≤ lo ∧ lo ≤ hi ∧ hi ≤ 2147483648 ∧ lo * lo ≤ x ∧ x < (hi + 1) * (hi + 1)) (fun l h => (intOf h - intOf l).toNat)
  case atStart => exact ⟨0, 2147483648, rfl, rfl, by omega, by omega, by omega, by omega, by omega⟩
  case round =>
    obtain ⟨lo, hi, rfl, rfl, b0, b1, b2, b3, b4⟩ := hrel
    by_cases hb : lo < hi
    · have hm1 : lo < (lo + hi + 1) / 2 := by omega
      have hm2 : (lo + hi + 1) / 2 ≤ hi := by omega
      have hm3 : 0 ≤ (lo + hi + 1) / 2 * ((lo + hi + 1) / 2) := Int.mul_nonneg (by omega) (by omega)
      have hm4 : (lo + hi + 1) / 2 * ((lo + hi + 1) / 2) ≤ 4611686018427387904 := by
        have := sq_mono (a := (lo + hi + 1) / 2) (b := 2147483648) (by omega) (by omega); omega
      have B3 := Lib.hid b3
      have B4 := Lib.hid b4
      clear b3 b4
      go_wp2
      all_goals
        first
          | (have hh : (lo + hi + 1) / 2 * ((lo + hi + 1) / 2) ≤ x := by assumption
             exact ⟨⟨_, _, rfl, rfl, by omega, by omega, by omega, hh, B4.out⟩, by simp [intOf]; omega⟩)
          | (have hh : x < (lo + hi + 1) / 2 * ((lo + hi + 1) / 2) := by assumption
             exact ⟨⟨_, _, rfl, rfl, by omega, by omega, by omega, B3.out, by rw [show (lo + hi + 1) / 2 - 1 + 1 = (lo + hi + 1) / 2 by omega]; exact hh⟩, by simp [intOf]; omega⟩)
    · obtain rfl : lo = hi := by omega
      have hq := isq_eq (x := x) ⟨b0, b3, b4⟩
      have Hq := Lib.hid hq
      clear hq b3 b4
      go_wp2
      go_ret
      exact ⟨ret_int Hq.out.symm, rfl⟩
set_option maxHeartbeats 1000000 in
theorem sqrtUp_any (x : Int) (h0 : 0 ≤ x) (h1 : x ≤ 1152921504606846976) (w : World) :
    Calls Try.prog 68 #[.int .i64 x] w fun e w' => e = .returned (.int .i64 (isqUp x)) ∧ w' = w := by
  have c1 := fun w => sqrt_any x h0 h1 w
  obtain ⟨a, b, c, d⟩ := isq_bd h0 h1
  have hu : (isq x * isq x < x ∧ isqUp x = isq x + 1) ∨ (x ≤ isq x * isq x ∧ isqUp x = isq x) := by
    unfold isqUp; split <;> omega
  have Hu := Lib.hid hu
  clear hu
  generalize hr : isq x = r at *
  clear hr
  go_enter Try.func68, Try.ntmps68
  go_wp2_with fail
  refine (c1 _).mono ?_
  rintro e w1 ⟨rfl, rfl⟩
  go_wp2_with fail
  all_goals
    go_ret
    exact ⟨ret_int (by rcases Hu.out with ⟨h, e⟩ | ⟨h, e⟩ <;> omega), rfl⟩
/-- outward, for roots -/
theorem outward_root (a b : Int) (h1 : 0 ≤ a) (h1' : a ≤ 1152921504606846976) (h2 : 0 ≤ b) (h2' : b ≤ 1152921504606846976) (w : World) :
    Calls Try.prog 120 #[.func (.func 121) #[.agg #[]] #[], .func (.func 122) #[.agg #[]] #[], .agg #[.int .i64 a, .int .i64 b]] w fun e w' => e = .returned (.agg #[.int .i64 (isq a), .int .i64 (isqUp b)]) ∧ Below w.heap.size w w' := by
  have c1 := fun w => sqDown_any a h1 h1' w
  have c2 := fun w => sqUp_any b h2 h2' w
  generalize isq a = x at c1 ⊢
  generalize isqUp b = y at c2 ⊢
  go_enter Try.func120, Try.ntmps120
  go_wp2_with fail
  have b5 : Boxed2 ((w.alloc (Obj.cells #[Value.int IntKind.i64 a, Value.int IntKind.i64 b] 41)).alloc (Obj.cells #[Value.int IntKind.i64 0, Value.int IntKind.i64 0] 41)) (w.heap.size + 1) 41 (.int .i64 0) (.int .i64 0) := by have := Boxed2.new (w.alloc (Obj.cells #[Value.int IntKind.i64 a, Value.int IntKind.i64 b] 41)) 41 (.int .i64 0) (.int .i64 0); rw [World.size_alloc] at this; exact this
  have b4 : Boxed2 ((w.alloc (Obj.cells #[Value.int IntKind.i64 a, Value.int IntKind.i64 b] 41)).alloc (Obj.cells #[Value.int IntKind.i64 0, Value.int IntKind.i64 0] 41)) w.heap.size 41 (.int .i64 a) (.int .i64 b) := (Below.heap_alloc _ _ _ (by simp)).trans (Boxed2.new w 41 (.int .i64 a) (.int .i64 b))
  obtain ⟨W0, hW0⟩ : ∃ W0, W0 = ((w.alloc (Obj.cells #[Value.int IntKind.i64 a, Value.int IntKind.i64 b] 41)).alloc (Obj.cells #[Value.int IntKind.i64 0, Value.int IntKind.i64 0] 41)) := ⟨_, rfl⟩
  rw [← hW0] at b5 b4 ⊢
  have hB1 : Below w.heap.size w W0 := by rw [hW0]; exact ((Below.refl _ _).alloc (Nat.le_refl _) _).alloc (by simp) _
  have hz0 : w.heap.size + 2 ≤ W0.heap.size := by rw [hW0]; simp
  clear hW0
  have k0 := b4.c0
  have k1 := b4.c1
  have k2 := b5.c0
  have k3 := b5.c1
  have f2 := b5.f0
  have f3 := b5.f1
  go_region_held3 (fun w' => w'.cell? ⟨w.heap.size, 0, none⟩ = some (.int .i64 a) ∧ w'.cell? ⟨w.heap.size, 1, none⟩ = some (.int .i64 b)) (simp [go_sem, *])
    (first
      | (go_at_call 121; refine (c1 _).mono ?_; clear c1; rintro e w' ⟨rfl, hb⟩; have hcc := (fun b o (h : b < w.heap.size + 2) => hb.cell (p := ⟨b, o, none⟩) (Nat.lt_of_lt_of_le h (by assumption))); have hff := (fun b o (h : b < w.heap.size + 2) => hb.frozen (p := ⟨b, o, none⟩) (Nat.lt_of_lt_of_le h (by assumption))); have hz1 : w.heap.size + 2 ≤ w'.heap.size := (Nat.le_trans (by assumption) hb.size))
      | (go_at_call 122; refine (c2 _).mono ?_; clear c2; rintro e w' ⟨rfl, hb⟩; have hcc := (fun b o (h : b < w.heap.size + 2) => hb.cell (p := ⟨b, o, none⟩) (Nat.lt_of_lt_of_le h (by assumption))); have hff := (fun b o (h : b < w.heap.size + 2) => hb.frozen (p := ⟨b, o, none⟩) (Nat.lt_of_lt_of_le h (by assumption))); have hz1 : w.heap.size + 2 ≤ w'.heap.size := (Nat.le_trans (by assumption) hb.size)))
  all_goals
    go_wp2
    refine bodyPost_ret (v := .agg #[.int .i64 x, .int .i64 y]) (by simp [results, Try.results120, go_sem, *]) rfl ⟨rfl, ?_⟩
    repeat (first | exact hB1 | refine Below.drew ?_ | refine Below.setCell ?_ (by simp) _ | refine chainB (by assumption) ?_)
set_option maxHeartbeats 1000000 in
theorem rootS_any (a b : Int) (h1 : 0 ≤ a) (h1' : a ≤ 1152921504606846976) (h2 : 0 ≤ b) (h2' : b ≤ 1152921504606846976) (w : World) :
    Calls Try.prog 117 #[.agg #[.int .i64 a, .int .i64 b]] w fun e w' => e = .returned (.agg #[.int .i64 (isq a), .int .i64 (isqUp b)]) ∧ Below w.heap.size w w' := by
  have c1 := fun w => outward_root a b h1 h1' h2 h2' w
  generalize isq a = x at c1 ⊢
  generalize isqUp b = y at c1 ⊢
  go_enter Try.func117, Try.ntmps117
  go_wp2_with fail
  refine (c1 _).mono ?_
  rintro e w1 ⟨rfl, hb⟩
  obtain ⟨hc, hf⟩ := bcell hb
  go_wp2_with fail
  refine bodyPost_ret (v := .agg #[.int .i64 x, .int .i64 y]) (by simp [results, Try.results117, go_sem, hc]) rfl ⟨rfl, ?_⟩
  exact ((((((Below.refl _ _).alloc (Nat.le_refl _) _).alloc (by simp) _).alloc (by simp; omega) _).trans (hb.mono (by simp; omega))).setCell (by simp) _).setCell (by simp) _
end Go.Proofs.Ythogahdnidjelaa

/-
  MoC: the watch circle's top (layer 2), ported from its own seat, in the cable seat (Root, Force, Out, ForceF, Stands, Cur).
-/
import Derived.Test.YtdohfpnnmppdkaaMoB
import Derived.Deep.RegionHeld3
import Derived.BigQuiet
import Derived.Deep.QuietTactic
import Derived.Laws.EntriesVeiled
namespace Go.Proofs.Ytdohfpnnmppdkaa.Moo
open Go.RowKit Go.Shelf
set_option linter.unusedSimpArgs false
def Boxed2 (W : World) (B : Nat) (t : TypeId) (u v : Value) : Prop := W.heap[B]? = some (.cells #[u, v] t (0, 0))
theorem Boxed2.lt {W : World} {B : Nat} {t : TypeId} {u v : Value} (h : Boxed2 W B t u v) : B < W.heap.size := (Array.getElem?_eq_some_iff.1 h).1
theorem Boxed2.c0 {W : World} {B : Nat} {t : TypeId} {u v : Value} (h : Boxed2 W B t u v) : W.cell? ⟨B, 0, none⟩ = some u := by simp [World.cell?, show W.heap[B]? = _ from h]
theorem Boxed2.c1 {W : World} {B : Nat} {t : TypeId} {u v : Value} (h : Boxed2 W B t u v) : W.cell? ⟨B, 1, none⟩ = some v := by simp [World.cell?, show W.heap[B]? = _ from h]
theorem Boxed2.f0 {W : World} {B : Nat} {t : TypeId} {u v : Value} (h : Boxed2 W B t u v) : W.frozen? ⟨B, 0, none⟩ = false := by simp [World.frozen?, show W.heap[B]? = _ from h]
theorem Boxed2.f1 {W : World} {B : Nat} {t : TypeId} {u v : Value} (h : Boxed2 W B t u v) : W.frozen? ⟨B, 1, none⟩ = false := by simp [World.frozen?, show W.heap[B]? = _ from h]
theorem Boxed2.new (W : World) (t : TypeId) (u v : Value) : Boxed2 (W.alloc (.cells #[u, v] t)) W.heap.size t u v := World.alloc_heap_new W _
theorem bcell {W w1 : World} (hb : Below W.heap.size W w1) : (∀ b o, b < W.heap.size → w1.cell? ⟨b, o, none⟩ = W.cell? ⟨b, o, none⟩) ∧ (∀ b o, b < W.heap.size → w1.frozen? ⟨b, o, none⟩ = W.frozen? ⟨b, o, none⟩) :=
  ⟨fun b o h => hb.cell (p := ⟨b, o, none⟩) h, fun b o h => hb.frozen (p := ⟨b, o, none⟩) h⟩
theorem chainB {A W W' : World} (hb : Below W.heap.size W W') (h : Below A.heap.size A W) : Below A.heap.size A W' := h.trans (hb.mono h.size)
/-- r is the root of x, rounded down -/
def IsSq (x r : Int) : Prop := 0 ≤ r ∧ r * r ≤ x ∧ x < (r + 1) * (r + 1)
theorem sq_mono {a b : Int} (ha : 0 ≤ a) (h : a ≤ b) : a * a ≤ b * b := Int.mul_le_mul h h ha (by omega)
theorem IsSq.unique {x r s : Int} (h : IsSq x r) (k : IsSq x s) : r = s := by
  obtain ⟨h0, h1, h2⟩ := h
  obtain ⟨k0, k1, k2⟩ := k
  rcases Int.lt_trichotomy r s with hl | he | hl
  · have := sq_mono (a := r + 1) (b := s) (by omega) (by omega); omega
  · exact he
  · have := sq_mono (a := s + 1) (b := r) (by omega) (by omega); omega
noncomputable def isq (x : Int) : Int := Classical.epsilon (IsSq x)
theorem isq_eq {x r : Int} (h : IsSq x r) : isq x = r := (Classical.epsilon_spec ⟨r, h⟩ : IsSq x (isq x)).unique h
/-- what holds at each round of the search bit by bit -/
def SqInv (x q b : Int) : Prop := 0 ≤ q ∧ q * q ≤ x ∧ ∃ k : Nat, k ≤ 31 ∧ b = 2 ^ k / 2 ∧ x < (q + 2 ^ k) * (q + 2 ^ k)
theorem sq_le_of {q B : Int} (hB : 0 ≤ B) (h : q * q ≤ B * B) : q ≤ B := by
  rcases Int.lt_or_le B q with hl | hl
  · have := sq_mono (a := B + 1) (b := q) (by omega) (by omega)
    have e : (B + 1) * (B + 1) = B * B + 2 * B + 1 := by rw [Int.add_mul, Int.mul_add, Int.mul_add]; omega
    omega
  · exact hl
theorem pow_half (k : Nat) : ((2 : Int) ^ (k + 1)) / 2 = 2 ^ k := by
  rw [Int.pow_succ, Int.mul_ediv_cancel _ (by decide)]
theorem SqInv.bd {x q b : Int} (h : SqInv x q b) (hx : x ≤ 1152921504606846976) : 0 ≤ q ∧ q ≤ 1073741824 ∧ 0 ≤ b ∧ b ≤ 1073741824 ∧ 0 ≤ (q + b) * (q + b) ∧ (q + b) * (q + b) ≤ 4611686018427387904 := by
  obtain ⟨h0, h1, k, hk, hb, h2⟩ := h
  have hq : q ≤ 1073741824 := sq_le_of (by decide) (by omega)
  have hb2 : 0 ≤ b ∧ b ≤ 1073741824 := by
    subst hb
    have hp : (0 : Int) ≤ 2 ^ k := Int.le_of_lt (Int.pow_pos (by decide))
    have hp2 : (2 : Int) ^ k ≤ 2 ^ 31 := by have := Nat.pow_le_pow_right (n := 2) (by decide) hk; exact_mod_cast this
    have : (2 : Int) ^ 31 = 2147483648 := by decide
    omega
  refine ⟨h0, hq, hb2.1, hb2.2, Int.mul_nonneg (by omega) (by omega), ?_⟩
  have := sq_mono (a := q + b) (b := 2147483648) (by omega) (by omega)
  omega
theorem SqInv.step {x q b : Int} (h : SqInv x q b) (hb : 0 < b) : ((q + b) * (q + b) ≤ x → SqInv x (q + b) (b / 2)) ∧ (x < (q + b) * (q + b) → SqInv x q (b / 2)) := by
  obtain ⟨h0, h1, k, hk, rfl, h2⟩ := h
  cases k with
  | zero => simp at hb
  | succ k =>
    rw [pow_half] at *
    have e : q + 2 ^ (k + 1) = q + 2 ^ k + 2 ^ k := by rw [Int.pow_succ]; omega
    rw [e] at h2
    exact ⟨fun h => ⟨by omega, h, k, by omega, rfl, h2⟩, fun h => ⟨h0, h1, k, by omega, rfl, h⟩⟩
theorem SqInv.done {x q b : Int} (h : SqInv x q b) (hb : b ≤ 0) : IsSq x q := by
  obtain ⟨h0, h1, k, hk, rfl, h2⟩ := h
  cases k with
  | zero => exact ⟨h0, h1, by simpa using h2⟩
  | succ k =>
    rw [pow_half] at hb
    have : (0 : Int) < 2 ^ k := Int.pow_pos (by decide)
    omega
theorem SqInv.start {x : Int} (h0 : 0 ≤ x) (hx : x ≤ 1152921504606846976) : SqInv x 0 1073741824 := by
  refine ⟨Int.le_refl _, by omega, 31, Nat.le_refl _, by decide, ?_⟩
  have : ((0 : Int) + 2 ^ 31) * (0 + 2 ^ 31) = 4611686018427387904 := by decide
  omega
set_option maxHeartbeats 1000000 in
theorem sqDown_any (x : Int) (h0 : 0 ≤ x) (h1 : x ≤ 1152921504606846976) (w : World) :
    Calls Try.prog 172 #[.agg #[], .int .i64 x] w fun e w' => e = .returned (.int .i64 (isq x)) ∧ Below w.heap.size w w' := by
  have hs := SqInv.start h0 h1
  go_enter Try.func172, Try.ntmps172
  go_wp2
  go_loop [5, 6] (fun r b => ∃ q b' : Int, r = .int .i64 q ∧ b = .int .i64 b' ∧ SqInv x q b') (fun _ b => (intOf b).toNat)
  case atStart => exact ⟨0, 1073741824, rfl, rfl, hs⟩
  case round =>
    clear hs
    obtain ⟨q, b, rfl, rfl, hI⟩ := hrel
    obtain ⟨b0, b1, b2, b3, b4, b5⟩ := hI.bd h1
    by_cases hb : 0 < b
    · obtain ⟨s1, s2⟩ := hI.step hb
      have S1 := Lib.hid s1
      have S2 := Lib.hid s2
      clear s1 s2 hI
      go_wp2
      all_goals
        first
          | exact ⟨⟨_, _, rfl, rfl, S1.out (by assumption)⟩, by simp [intOf]; omega⟩
          | exact ⟨⟨_, _, rfl, rfl, S2.out (by assumption)⟩, by simp [intOf]; omega⟩
    · have hq := isq_eq (hI.done (by omega))
      have Hq := Lib.hid hq
      clear hI hq
      go_wp2
      go_ret
      exact ⟨ret_int Hq.out.symm, (Below.refl _ _).alloc (Nat.le_refl _) _⟩
theorem isq_spec {x : Int} (h0 : 0 ≤ x) : IsSq x (isq x) := by
  have : ∃ r : Int, IsSq x r := by
    have hn : ∀ n : Nat, ∃ r : Int, IsSq (n : Int) r := by
      intro n
      induction n with
      | zero => exact ⟨0, by unfold IsSq; decide⟩
      | succ n ih =>
        obtain ⟨r, h0, h1, h2⟩ := ih
        by_cases h : (r + 1) * (r + 1) ≤ ((n + 1 : Nat) : Int)
        · refine ⟨r + 1, by omega, h, ?_⟩
          have e : (r + 1 + 1) * (r + 1 + 1) = (r + 1) * (r + 1) + 2 * (r + 1) + 1 := by rw [Int.add_mul (r + 1) 1, Int.mul_add (r + 1), Int.mul_add 1]; omega
          omega
        · exact ⟨r, h0, by omega, by omega⟩
    obtain ⟨n, rfl⟩ := Int.eq_ofNat_of_zero_le h0
    exact hn n
  exact Classical.epsilon_spec this
theorem isq_bd {x : Int} (h0 : 0 ≤ x) (h1 : x ≤ 1152921504606846976) : 0 ≤ isq x ∧ isq x ≤ 1073741824 ∧ 0 ≤ isq x * isq x ∧ isq x * isq x ≤ x := by
  obtain ⟨a, b, c⟩ := isq_spec h0
  exact ⟨a, sq_le_of (by decide) (by omega), Int.mul_nonneg a a, b⟩
/-- the root, rounded up -/
noncomputable def isqUp (x : Int) : Int := if isq x * isq x < x then isq x + 1 else isq x
theorem isqUp_bd {x : Int} (h0 : 0 ≤ x) (h1 : x ≤ 1152921504606846976) : 0 ≤ isqUp x ∧ isqUp x ≤ 1073741824 := by
  obtain ⟨a, b, c, d⟩ := isq_bd h0 h1
  unfold isqUp
  split
  · rename_i h
    refine ⟨by omega, ?_⟩
    rcases Int.lt_or_le (isq x) 1073741824 with hl | hl
    · omega
    · have : isq x = 1073741824 := by omega
      rw [this] at h; omega
  · exact ⟨a, b⟩
set_option maxHeartbeats 1000000 in
theorem sqUp_any (x : Int) (h0 : 0 ≤ x) (h1 : x ≤ 1152921504606846976) (w : World) :
    Calls Try.prog 173 #[.agg #[], .int .i64 x] w fun e w' => e = .returned (.int .i64 (isqUp x)) ∧ Below w.heap.size w w' := by
  have c1 := fun w => sqDown_any x h0 h1 w
  obtain ⟨a, b, c, d⟩ := isq_bd h0 h1
  have hu : (isq x * isq x < x ∧ isqUp x = isq x + 1) ∨ (x ≤ isq x * isq x ∧ isqUp x = isq x) := by
    unfold isqUp; split <;> omega
  have Hu := Lib.hid hu
  clear hu
  generalize hr : isq x = r at *
  clear hr
  go_enter Try.func173, Try.ntmps173
  go_wp2_with fail
  refine (c1 _).mono ?_
  rintro e w1 ⟨rfl, hb⟩
  go_wp2_with fail
  all_goals
    go_ret
    exact ⟨ret_int (by rcases Hu.out with ⟨h, e⟩ | ⟨h, e⟩ <;> omega), ((Below.refl _ _).alloc (Nat.le_refl _) _).trans (hb.mono (by simp))⟩
/-- outward, for roots -/
theorem outward_root (a b : Int) (h1 : 0 ≤ a) (h1' : a ≤ 1152921504606846976) (h2 : 0 ≤ b) (h2' : b ≤ 1152921504606846976) (w : World) :
    Calls Try.prog 124 #[.func (.func 172) #[.agg #[]] #[], .func (.func 173) #[.agg #[]] #[], .agg #[.int .i64 a, .int .i64 b]] w fun e w' => e = .returned (.agg #[.int .i64 (isq a), .int .i64 (isqUp b)]) ∧ Below w.heap.size w w' := by
  have c1 := fun w => sqDown_any a h1 h1' w
  have c2 := fun w => sqUp_any b h2 h2' w
  generalize isq a = x at c1 ⊢
  generalize isqUp b = y at c2 ⊢
  go_enter Try.func124, Try.ntmps124
  go_wp2_with fail
  have b5 : Boxed2 ((w.alloc (Obj.cells #[Value.int IntKind.i64 a, Value.int IntKind.i64 b] 23)).alloc (Obj.cells #[Value.int IntKind.i64 0, Value.int IntKind.i64 0] 23)) (w.heap.size + 1) 23 (.int .i64 0) (.int .i64 0) := by have := Boxed2.new (w.alloc (Obj.cells #[Value.int IntKind.i64 a, Value.int IntKind.i64 b] 23)) 23 (.int .i64 0) (.int .i64 0); rw [World.size_alloc] at this; exact this
  have b4 : Boxed2 ((w.alloc (Obj.cells #[Value.int IntKind.i64 a, Value.int IntKind.i64 b] 23)).alloc (Obj.cells #[Value.int IntKind.i64 0, Value.int IntKind.i64 0] 23)) w.heap.size 23 (.int .i64 a) (.int .i64 b) := (Below.heap_alloc _ _ _ (by simp)).trans (Boxed2.new w 23 (.int .i64 a) (.int .i64 b))
  obtain ⟨W0, hW0⟩ : ∃ W0, W0 = ((w.alloc (Obj.cells #[Value.int IntKind.i64 a, Value.int IntKind.i64 b] 23)).alloc (Obj.cells #[Value.int IntKind.i64 0, Value.int IntKind.i64 0] 23)) := ⟨_, rfl⟩
  rw [← hW0] at b5 b4 ⊢
  have hB1 : Below w.heap.size w W0 := by rw [hW0]; exact ((Below.refl _ _).alloc (Nat.le_refl _) _).alloc (by simp) _
  have hz0 : w.heap.size + 2 ≤ W0.heap.size := by rw [hW0]; simp
  clear hW0
  have k0 := b4.c0
  have k1 := b4.c1
  have k2 := b5.c0
  have k3 := b5.c1
  have f2 := b5.f0
  have f3 := b5.f1
  go_region_held3 (fun w' => w'.cell? ⟨w.heap.size, 0, none⟩ = some (.int .i64 a) ∧ w'.cell? ⟨w.heap.size, 1, none⟩ = some (.int .i64 b)) (simp [go_sem, *])
    (first
      | (go_at_call 172; refine (c1 _).mono ?_; clear c1; rintro e w' ⟨rfl, hb⟩; have hcc := (fun b o (h : b < w.heap.size + 2) => hb.cell (p := ⟨b, o, none⟩) (Nat.lt_of_lt_of_le h (by assumption))); have hff := (fun b o (h : b < w.heap.size + 2) => hb.frozen (p := ⟨b, o, none⟩) (Nat.lt_of_lt_of_le h (by assumption))); have hz1 : w.heap.size + 2 ≤ w'.heap.size := (Nat.le_trans (by assumption) hb.size))
      | (go_at_call 173; refine (c2 _).mono ?_; clear c2; rintro e w' ⟨rfl, hb⟩; have hcc := (fun b o (h : b < w.heap.size + 2) => hb.cell (p := ⟨b, o, none⟩) (Nat.lt_of_lt_of_le h (by assumption))); have hff := (fun b o (h : b < w.heap.size + 2) => hb.frozen (p := ⟨b, o, none⟩) (Nat.lt_of_lt_of_le h (by assumption))); have hz1 : w.heap.size + 2 ≤ w'.heap.size := (Nat.le_trans (by assumption) hb.size)))
  all_goals
    go_wp2
    refine bodyPost_ret (v := .agg #[.int .i64 x, .int .i64 y]) (by simp [results, Try.results124, go_sem, *]) rfl ⟨rfl, ?_⟩
    repeat (first | exact hB1 | refine Below.drew ?_ | refine Below.setCell ?_ (by simp) _ | refine chainB (by assumption) ?_)
set_option maxHeartbeats 1000000 in
theorem rootS_any (a b : Int) (h1 : 0 ≤ a) (h1' : a ≤ 1152921504606846976) (h2 : 0 ≤ b) (h2' : b ≤ 1152921504606846976) (w : World) :
    Calls Try.prog 135 #[.agg #[.int .i64 a, .int .i64 b]] w fun e w' => e = .returned (.agg #[.int .i64 (isq a), .int .i64 (isqUp b)]) ∧ Below w.heap.size w w' := by
  have c1 := fun w => outward_root a b h1 h1' h2 h2' w
  generalize isq a = x at c1 ⊢
  generalize isqUp b = y at c1 ⊢
  go_enter Try.func135, Try.ntmps135
  go_wp2_with fail
  refine (c1 _).mono ?_
  rintro e w1 ⟨rfl, hb⟩
  obtain ⟨hc, hf⟩ := bcell hb
  go_wp2_with fail
  refine bodyPost_ret (v := .agg #[.int .i64 x, .int .i64 y]) (by simp [results, Try.results135, go_sem, hc]) rfl ⟨rfl, ?_⟩
  exact ((((((Below.refl _ _).alloc (Nat.le_refl _) _).alloc (by simp) _).alloc (by simp; omega) _).trans (hb.mono (by simp; omega))).setCell (by simp) _).setCell (by simp) _
end Go.Proofs.Ytdohfpnnmppdkaa.Moo
namespace Go.Proofs.Ytdohfpnnmppdkaa.Moo
open Go.RowKit Go.Shelf
set_option linter.unusedSimpArgs false
/-- what over returns: two closures over the cells of two new blocks -/
def ovv (b1 b2 : Nat) : Value := .agg #[.func (.func 220) #[] #[.pointer (some ⟨b1, 0, none⟩)], .func (.func 221) #[] #[.pointer (some ⟨b2, 0, none⟩)]]
set_option maxHeartbeats 400000 in
theorem over_any (s t : Int) (w : World) :
    Calls Try.prog 202 #[.int .i64 s, .int .i64 t] w fun e w' => e = .returned (ovv w.heap.size (w.heap.size + 1)) ∧
      w'.cell? ⟨w.heap.size, 0, none⟩ = some (.int .i64 s) ∧ w'.cell? ⟨w.heap.size + 1, 0, none⟩ = some (.int .i64 t) ∧ w.heap.size + 2 ≤ w'.heap.size ∧ Below w.heap.size w w' := by
  unfold ovv
  go_enter Try.func202, Try.ntmps202
  go_wp2_with fail
  refine bodyPost_ret (v := ovv w.heap.size (w.heap.size + 1)) (by unfold ovv; simp [results, Try.results202, go_sem]) rfl ⟨rfl, ?_, ?_, ?_, ?_⟩
  · simp [go_sem]
  · simp [go_sem]
  · simp
  · repeat (first | exact Below.refl _ _ | refine Below.setCell ?_ (by first | omega | (simp; omega) | simp) _ | refine Below.alloc ?_ (by first | omega | (simp; omega) | simp) _)
theorem tdiv_nn {x s : Int} (hx : 0 ≤ x) : x.tdiv s = x / s := Int.tdiv_eq_ediv_of_nonneg hx
set_option maxHeartbeats 400000 in
theorem down_any (x s : Int) (b : Nat) (w : World) (hx : 0 ≤ x) (hx2 : x ≤ 4611686018427387904) (hs : 1 ≤ s) (hs2 : s ≤ 4611686018427387904) (hc : w.cell? ⟨b, 0, none⟩ = some (.int .i64 s)) :
    Calls Try.prog 220 #[.int .i64 x, .pointer (some ⟨b, 0, none⟩)] w fun e w' => e = .returned (.int .i64 (x / s)) ∧ w' = w := by
  have h0 : 0 ≤ x / s := Int.ediv_nonneg hx (by omega)
  have h1 : x / s ≤ x := Int.ediv_le_self _ hx
  have e : x.tdiv s = x / s := tdiv_nn hx
  have hz : (s == 0) = false := by simp; omega
  generalize hq : x / s = q at *
  have HQ := Lib.hid hq
  clear hq
  go_enter Try.func220, Try.ntmps220
  go_wp2_with fail
  go_ret
  exact ⟨by first | rfl | (simp [e, HQ.out]), by first | rfl | trivial⟩
set_option maxHeartbeats 400000 in
theorem up_any (x s : Int) (b : Nat) (w : World) (hx : 0 ≤ x) (hx2 : x ≤ 2305843009213693952) (hs : 1 ≤ s) (hs2 : s ≤ 2305843009213693952) (hc : w.cell? ⟨b, 0, none⟩ = some (.int .i64 s)) :
    Calls Try.prog 221 #[.int .i64 x, .pointer (some ⟨b, 0, none⟩)] w fun e w' => e = .returned (.int .i64 ((x + s - 1) / s)) ∧ w' = w := by
  have h0 : 0 ≤ (x + s - 1) / s := Int.ediv_nonneg (by omega) (by omega)
  have h1 : (x + s - 1) / s ≤ x + s - 1 := Int.ediv_le_self _ (by omega)
  have e : (x + s - 1).tdiv s = (x + s - 1) / s := tdiv_nn (by omega)
  have hz : (s == 0) = false := by simp; omega
  generalize hq : (x + s - 1) / s = q at *
  have HQ := Lib.hid hq
  clear hq
  go_enter Try.func221, Try.ntmps221
  go_wp2_with fail
  go_ret
  exact ⟨by first | rfl | (simp [e, HQ.out]), by first | rfl | trivial⟩
end Go.Proofs.Ytdohfpnnmppdkaa.Moo
namespace Go.Proofs.Ytdohfpnnmppdkaa.Moo
open Go.RowKit Go.Shelf
set_option linter.unusedSimpArgs false
set_option maxHeartbeats 1000000 in
theorem outwardM_any (lo hi s t : Int) (b1 b2 : Nat) (w : World) (hl : 0 ≤ lo) (hl2 : lo ≤ 2305843009213693952) (hh : 0 ≤ hi) (hh2 : hi ≤ 2305843009213693952) (hs : 1 ≤ s) (hs2 : s ≤ 2305843009213693952) (ht : 1 ≤ t) (ht2 : t ≤ 2305843009213693952)
    (z1 : b1 < w.heap.size) (z2 : b2 < w.heap.size) (hc1 : w.cell? ⟨b1, 0, none⟩ = some (.int .i64 s)) (hc2 : w.cell? ⟨b2, 0, none⟩ = some (.int .i64 t)) :
    Calls Try.prog 203 #[ovv b1 b2, .int .i64 lo, .int .i64 hi] w fun e w' => e = .returned (.agg #[.int .i64 (lo / s), .int .i64 ((hi + t - 1) / t)]) ∧ Below w.heap.size w w' := by
  have c1 := fun w h => down_any lo s b1 w hl (by omega) hs (by omega) h
  have c2 := fun w h => up_any hi t b2 w hh hh2 ht ht2 h
  generalize lo / s = x at c1 ⊢
  generalize (hi + t - 1) / t = y at c2 ⊢
  unfold ovv
  go_enter Try.func203, Try.ntmps203
  go_wp2_with fail
  have g1 : ¬ w.heap.size = b1 := by omega
  have g2 : ¬ w.heap.size = b2 := by omega
  have g3 : ¬ w.heap.size + 1 = b1 := by omega
  have g4 : ¬ w.heap.size + 1 = b2 := by omega
  have g5 : ¬ b1 = w.heap.size := by omega
  have g6 : ¬ b2 = w.heap.size := by omega
  have g7 : ¬ b1 = w.heap.size + 1 := by omega
  have g8 : ¬ b2 = w.heap.size + 1 := by omega
  trace_state
  go_region_held3 (fun w' => w'.cell? ⟨w.heap.size, 0, none⟩ = some (.func (.func 220) #[] #[.pointer (some ⟨b1, 0, none⟩)]) ∧ w'.cell? ⟨w.heap.size, 1, none⟩ = some (.func (.func 221) #[] #[.pointer (some ⟨b2, 0, none⟩)])) (simp [go_sem, *])
    (first
      | (go_at_call 220; refine (c1 _ (by simp [go_sem, *])).mono ?_; rintro e w' ⟨rfl, rfl⟩)
      | (go_at_call 221; refine (c2 _ (by simp [go_sem, *])).mono ?_; rintro e w' ⟨rfl, rfl⟩))
  all_goals
    go_wp2
    refine bodyPost_ret (v := .agg #[.int .i64 x, .int .i64 y]) (by simp [results, Try.results203, go_sem, *]) rfl ⟨rfl, ?_⟩
    repeat (first | exact Below.refl _ _ | refine Below.drew ?_ | refine Below.setCell ?_ (by first | omega | (simp; omega) | simp) _ | refine Below.alloc ?_ (by first | omega | (simp; omega) | simp) _)
end Go.Proofs.Ytdohfpnnmppdkaa.Moo
namespace Go.Proofs.Ytdohfpnnmppdkaa.Moo
open Go.RowKit Go.Shelf
set_option linter.unusedSimpArgs false
set_option maxRecDepth 100000 in
set_option maxHeartbeats 2000000 in
theorem force_any (x : El) (a : Pr) (hx : vE x = true) (ha : okC a = true) (w : World) :
    Calls Try.prog 219 #[elv x, prv a] w fun e w' => e = .returned (prv ⟨fLo x a, fHi x a⟩) ∧ Below w.heap.size w w' := by
  obtain ⟨-, -, ⟨g0, g1⟩, -⟩ := (vE_iff x).1 hx
  obtain ⟨a0, a1, a2⟩ := (okC_iff a).1 ha
  have b1 := drag_bd g0 g1 a0 (by omega)
  have b2 := drag_bd g0 g1 (s := a.hi) (by omega) a2
  obtain ⟨x0, x1, x2, x3⟩ := x
  obtain ⟨p, q⟩ := a
  dsimp only at *
  obtain ⟨l1, l2, l3, l4⟩ := b1
  obtain ⟨m1, m2, m3, m4⟩ := b2
  have c1 := fun w => over_any 1000000 1000000 w
  have c2 := fun b1 b2 w z1 z2 h1 h2 => outwardM_any (x2 * p * p) (x2 * q * q) 1000000 1000000 b1 b2 w l3 (by omega) m3 (by omega) (by decide) (by decide) (by decide) (by decide) z1 z2 h1 h2
  have e1 : fLo ⟨x0, x1, x2, x3⟩ ⟨p, q⟩ = x2 * p * p / 1000000 := rfl
  have e2 : fHi ⟨x0, x1, x2, x3⟩ ⟨p, q⟩ = (x2 * q * q + 1000000 - 1) / 1000000 := rfl
  unfold prv elv
  dsimp only
  rw [e1, e2]
  clear e1 e2 hx ha
  generalize x2 * p * p / 1000000 = r1 at c2 ⊢
  generalize (x2 * q * q + 1000000 - 1) / 1000000 = r2 at c2 ⊢
  generalize E1 : x2 * p = X1 at *
  generalize E2 : x2 * q = X2 at *
  generalize E3 : X1 * p = X3 at *
  generalize E4 : X2 * q = X4 at *
  have W1 : IntKind.i64.wrap X1 = X1 := by rw [IntKind.wrap_i64]; omega
  have W2 : IntKind.i64.wrap X2 = X2 := by rw [IntKind.wrap_i64]; omega
  have W3 : IntKind.i64.wrap X3 = X3 := by rw [IntKind.wrap_i64]; omega
  have W4 : IntKind.i64.wrap X4 = X4 := by rw [IntKind.wrap_i64]; omega
  go_enter Try.func219, Try.ntmps219
  go_wp2_with fail
  refine (c1 _).mono ?_
  rintro e w1 ⟨rfl, q1, q2, q3, hb⟩
  obtain ⟨hc, hf⟩ := bcell hb
  have k1_00 : w1.cell? ⟨w.heap.size, 0, none⟩ = some (.int .i64 x0) := by rw [hc _ _ (by first | omega | (simp; omega) | simp)]; simp [go_sem, *]
  have k1_01 : w1.cell? ⟨w.heap.size, 1, none⟩ = some (.int .i64 x1) := by rw [hc _ _ (by first | omega | (simp; omega) | simp)]; simp [go_sem, *]
  have k1_02 : w1.cell? ⟨w.heap.size, 2, none⟩ = some (.int .i64 x2) := by rw [hc _ _ (by first | omega | (simp; omega) | simp)]; simp [go_sem, *]
  have k1_03 : w1.cell? ⟨w.heap.size, 3, none⟩ = some (.int .i64 x3) := by rw [hc _ _ (by first | omega | (simp; omega) | simp)]; simp [go_sem, *]
  have z1_0 : w.heap.size < w1.heap.size := by have := hb.size; (try simp at this); omega
  have k1_10 : w1.cell? ⟨(w.heap.size + 1), 0, none⟩ = some (.int .i64 p) := by rw [hc _ _ (by first | omega | (simp; omega) | simp)]; simp [go_sem, *]
  have k1_11 : w1.cell? ⟨(w.heap.size + 1), 1, none⟩ = some (.int .i64 q) := by rw [hc _ _ (by first | omega | (simp; omega) | simp)]; simp [go_sem, *]
  have z1_1 : (w.heap.size + 1) < w1.heap.size := by have := hb.size; (try simp at this); omega
  have k1_20 : w1.cell? ⟨(w.heap.size + 2), 0, none⟩ = some (.int .i64 0) := by rw [hc _ _ (by first | omega | (simp; omega) | simp)]; simp [go_sem, *]
  have f1_20 : w1.frozen? ⟨(w.heap.size + 2), 0, none⟩ = false := by rw [hf _ _ (by first | omega | (simp; omega) | simp)]; simp [go_sem, *]
  have k1_21 : w1.cell? ⟨(w.heap.size + 2), 1, none⟩ = some (.int .i64 0) := by rw [hc _ _ (by first | omega | (simp; omega) | simp)]; simp [go_sem, *]
  have f1_21 : w1.frozen? ⟨(w.heap.size + 2), 1, none⟩ = false := by rw [hf _ _ (by first | omega | (simp; omega) | simp)]; simp [go_sem, *]
  have z1_2 : (w.heap.size + 2) < w1.heap.size := by have := hb.size; (try simp at this); omega
  have hB1 : Below w.heap.size w w1 := by repeat (first | exact (Below.refl _ _) | refine Below.drew ?_ | refine below_drewN ?_ _ | refine Below.setCell ?_ (by first | omega | (simp; omega) | simp) _ | refine Below.alloc ?_ (by first | omega | (simp; omega) | simp) _ | refine chainB (by assumption) ?_)
  have hs1 : w.heap.size ≤ w1.heap.size := hB1.size
  clear hc hf hb 
  simp only [World.size_alloc] at q1 q2 q3
  have z3 : w.heap.size + 1 + 1 + 1 < w1.heap.size := by omega
  have z4 : w.heap.size + 1 + 1 + 1 + 1 < w1.heap.size := by omega
  unfold ovv
  go_wp2_with fail
  refine Calls.mono (c2 (w.heap.size + 1 + 1 + 1) (w.heap.size + 1 + 1 + 1 + 1) _ ?_ ?_ ?_ ?_) ?_
  · simp; omega
  · simp; omega
  · simp [go_sem, *]
  · simp [go_sem, *]
  rintro e w2 ⟨rfl, hb⟩
  obtain ⟨hc, hf⟩ := bcell hb
  have k2_00 : w2.cell? ⟨w.heap.size, 0, none⟩ = some (.int .i64 x0) := by rw [hc _ _ (by first | omega | (simp; omega) | simp)]; simp [go_sem, *]
  have k2_01 : w2.cell? ⟨w.heap.size, 1, none⟩ = some (.int .i64 x1) := by rw [hc _ _ (by first | omega | (simp; omega) | simp)]; simp [go_sem, *]
  have k2_02 : w2.cell? ⟨w.heap.size, 2, none⟩ = some (.int .i64 x2) := by rw [hc _ _ (by first | omega | (simp; omega) | simp)]; simp [go_sem, *]
  have k2_03 : w2.cell? ⟨w.heap.size, 3, none⟩ = some (.int .i64 x3) := by rw [hc _ _ (by first | omega | (simp; omega) | simp)]; simp [go_sem, *]
  have z2_0 : w.heap.size < w2.heap.size := by have := hb.size; (try simp at this); omega
  have k2_10 : w2.cell? ⟨(w.heap.size + 1), 0, none⟩ = some (.int .i64 p) := by rw [hc _ _ (by first | omega | (simp; omega) | simp)]; simp [go_sem, *]
  have k2_11 : w2.cell? ⟨(w.heap.size + 1), 1, none⟩ = some (.int .i64 q) := by rw [hc _ _ (by first | omega | (simp; omega) | simp)]; simp [go_sem, *]
  have z2_1 : (w.heap.size + 1) < w2.heap.size := by have := hb.size; (try simp at this); omega
  have k2_20 : w2.cell? ⟨(w.heap.size + 2), 0, none⟩ = some (.int .i64 0) := by rw [hc _ _ (by first | omega | (simp; omega) | simp)]; simp [go_sem, *]
  have f2_20 : w2.frozen? ⟨(w.heap.size + 2), 0, none⟩ = false := by rw [hf _ _ (by first | omega | (simp; omega) | simp)]; simp [go_sem, *]
  have k2_21 : w2.cell? ⟨(w.heap.size + 2), 1, none⟩ = some (.int .i64 0) := by rw [hc _ _ (by first | omega | (simp; omega) | simp)]; simp [go_sem, *]
  have f2_21 : w2.frozen? ⟨(w.heap.size + 2), 1, none⟩ = false := by rw [hf _ _ (by first | omega | (simp; omega) | simp)]; simp [go_sem, *]
  have z2_2 : (w.heap.size + 2) < w2.heap.size := by have := hb.size; (try simp at this); omega
  have hB2 : Below w.heap.size w w2 := by repeat (first | exact hB1 | refine Below.drew ?_ | refine below_drewN ?_ _ | refine Below.setCell ?_ (by first | omega | (simp; omega) | simp) _ | refine Below.alloc ?_ (by first | omega | (simp; omega) | simp) _ | refine chainB (by assumption) ?_)
  have hs2 : w.heap.size ≤ w2.heap.size := hB2.size
  clear hc hf hb k1_00 k1_01 k1_02 k1_03 z1_0 k1_10 k1_11 z1_1 k1_20 f1_20 k1_21 f1_21 z1_2 hB1 hs1
  go_wp2_with fail
  refine bodyPost_ret (v := .agg #[.int .i64 r1, .int .i64 r2]) (by simp [results, Try.results219, go_sem, *]) rfl ⟨rfl, ?_⟩
  repeat (first | exact hB2 | refine Below.drew ?_ | refine below_drewN ?_ _ | refine Below.setCell ?_ (by first | omega | (simp; omega) | simp) _ | refine Below.alloc ?_ (by first | omega | (simp; omega) | simp) _ | refine chainB (by assumption) ?_)
end Go.Proofs.Ytdohfpnnmppdkaa.Moo
namespace Go.Proofs.Ytdohfpnnmppdkaa.Moo
open Go.RowKit Go.Shelf
set_option linter.unusedSimpArgs false
set_option maxRecDepth 10000 in
set_option maxHeartbeats 2000000 in
theorem stands_any (d an fr : Int) (sv : Value) (zs : List El) (h0 : 0 < zs.length) (hl : zs.length ≤ 40) (hv : ∀ k, k < zs.length → -1048576 ≤ (el zs k).lift ∧ (el zs k).lift ≤ 1048576) (w : World) (hI : Els w.heap.size w sv zs) :
    Calls Try.prog 198 #[.agg #[.int .i64 d, sv, .int .i64 an, .int .i64 fr]] w fun e w' => e = .returned (.bool (standB zs)) ∧ Below w.heap.size w w' := by
  have hA : Below w.heap.size w (w.alloc (.cells #[.int .i64 d, sv, .int .i64 an, .int .i64 fr] 97)) := (Below.refl _ _).alloc (Nat.le_refl _) _
  have hI1 := hI.at hA
  have c1 := lifts_any d an fr sv zs hl hv _ hI1
  have hlen := lifL_len zs zs.length
  have c2 := fun v w (h : Nums w.heap.size w v (lifL zs zs.length)) => sliceMin_any v (lifL zs zs.length) (by omega) (by omega) w h
  obtain ⟨a, cap, rfl, -, -⟩ := hI
  unfold standB
  generalize leastTo (lifL zs zs.length) ((lifL zs zs.length).length - 1) = m at c2 ⊢
  have c3 := fun w => floats_any m w
  generalize lifL zs zs.length = L at *
  generalize decide (1 ≤ m) = r at *
  generalize zs.length = len at *
  have HA := Lib.hid hA
  clear hA hI1 hv h0 hl hlen
  go_enter Try.func198, Try.ntmps198
  go_wp2_with fail
  refine Calls.mono (c1) ?_
  rintro e w1 ⟨v, rfl, hn, hb⟩
  have HN := Lib.hid hn
  have HB := Lib.hid hb
  clear c1 hn hb
  go_wp2_with fail
  refine (c2 _ _ HN.out).mono ?_
  rintro e w2 ⟨rfl, rfl⟩
  clear c2
  go_wp2_with fail
  refine (c3 _).mono ?_
  rintro e w3 ⟨rfl, rfl⟩
  go_wp2_with fail
  go_ret
  exact ⟨rfl, HA.out.trans (HB.out.mono HA.out.size)⟩
end Go.Proofs.Ytdohfpnnmppdkaa.Moo
namespace Go.Proofs.Ytdohfpnnmppdkaa.Moo
open Go.RowKit Go.Shelf
set_option linter.unusedSimpArgs false
theorem okC_cases (a : Pr) : (vB a.lo a.hi = false ∧ okC a = false) ∨ (vB a.lo a.hi = true ∧ a.lo < 0 ∧ okC a = false) ∨ (vB a.lo a.hi = true ∧ 0 ≤ a.lo ∧ 3000 < a.hi ∧ okC a = false) ∨ (vB a.lo a.hi = true ∧ 0 ≤ a.lo ∧ a.hi ≤ 3000 ∧ okC a = true) := by
  cases hv : vB a.lo a.hi
  · left; simp [okC, hv]
  · by_cases h1 : a.lo < 0
    · right; left; refine ⟨rfl, h1, ?_⟩
      cases h : okC a
      · rfl
      · have := (okC_iff a).1 h; omega
    · by_cases h2 : 3000 < a.hi
      · right; right; left; refine ⟨rfl, by omega, h2, ?_⟩
        cases h : okC a
        · rfl
        · have := (okC_iff a).1 h; omega
      · right; right; right; refine ⟨rfl, by omega, by omega, ?_⟩
        rw [vB_iff] at hv
        exact (okC_iff a).2 ⟨by omega, hv.1, by omega⟩
set_option maxRecDepth 10000 in
set_option maxHeartbeats 4000000 in
theorem checkCurrents_any (d an fr : Int) (sv cv : Value) (zs : List El) (cs : List Pr) (w : World) (hI : Els w.heap.size w sv zs) (hC : Prs w.heap.size w cv cs) :
    Calls Try.prog 197 #[.agg #[.int .i64 d, sv, .int .i64 an, .int .i64 fr], cv] w fun e w' => e = .returned (.int .i64 (curE d zs an fr cs)) ∧ Below w.heap.size w w' := by
  have c1 := fun w' (hb : Below w.heap.size w w') => checkM_any d an fr sv zs w' (hI.at hb)
  have HE := Lib.hid (show curE d zs an fr cs = if mooE d zs an fr = 0 then (if cs.length = zs.length then (if cs.all okC = true then 0 else 2) else 17) else mooE d zs an fr from rfl)
  have HM := Lib.hid (show mooE d zs an fr = 0 → zs.length ≤ 40 from fun h => (mooE_ok h).2.1)
  have HX := Lib.hid (fun k hk h => call_bad (cs := cs) (k := k) hk h)
  have HO := Lib.hid (fun h => call_ok (cs := cs) h)
  obtain ⟨a, cap, rfl, -, -⟩ := hI
  obtain ⟨c, cap2, rfl, -, hcur⟩ := hC
  have HU := Lib.hid hcur
  clear hcur
  generalize curE d zs an fr cs = r at *
  generalize mooE d zs an fr = e0 at *
  generalize cs.all okC = al at *
  generalize zs.length = len at *
  generalize cs.length = len2 at *
  have hB0 : Below w.heap.size w (w.alloc (.cells #[.int .i64 d, .slice a len cap, .int .i64 an, .int .i64 fr] 97)) := (Below.refl _ _).alloc (Nat.le_refl _) _
  by_cases he : e0 = 0
  rotate_left
  · have hr : r = e0 := by rw [HE.out, if_neg he]
    subst hr
    have hb : (r != 0) = true := by simpa using he
    clear HX HO HE HU he
    go_enter Try.func197, Try.ntmps197
    go_wp2_with fail
    refine (c1 _ hB0).mono ?_
    rintro e w1 ⟨rfl, hb1⟩
    have hB1 := hB0.trans (hb1.mono (by simp))
    clear hb1
    go_wp2_with fail
    go_ret
    exact ⟨rfl, hB1⟩
  subst he
  have h40 := HM.out rfl
  by_cases hl : len2 = len
  rotate_left
  · have hr : r = 17 := by rw [HE.out, if_pos rfl, if_neg hl]
    subst hr
    clear HX HO HE HU HM
    have hln : ((len2 : Int) != (len : Int)) = true := by simp; omega
    go_enter Try.func197, Try.ntmps197
    go_wp2_with fail
    refine (c1 _ hB0).mono ?_
    rintro e w1 ⟨rfl, hb1⟩
    have hB1 := hB0.trans (hb1.mono (by simp))
    have hsl : w1.cell? ⟨w.heap.size, 1, none⟩ = some (.slice a len cap) := (hb1.cell (p := ⟨w.heap.size, 1, none⟩) (by simp)).trans (by simp [go_sem])
    clear hb1
    go_wp2_with fail
    go_ret
    exact ⟨rfl, hB1⟩
  subst hl
  rw [if_pos rfl, if_pos rfl] at HE
  go_enter Try.func197, Try.ntmps197
  go_wp2_with fail
  refine (c1 _ hB0).mono ?_
  rintro e w1 ⟨rfl, hb1⟩
  have hB1 := hB0.trans (hb1.mono (by simp))
  have hsl : w1.cell? ⟨w.heap.size, 1, none⟩ = some (.slice a len2 cap) := (hb1.cell (p := ⟨w.heap.size, 1, none⟩) (by simp)).trans (by simp [go_sem])
  clear hb1 c1 hB0
  go_wp2_with fail
  go_loopw [22] (fun i wr => ∃ k : Nat, k ≤ len2 ∧ i = .int .i64 k ∧ (∀ j, j < k → okC (pr cs j) = true) ∧ Below w.heap.size w wr) (fun i _ => len2 - (intOf i).toNat)
  case atStart => exact ⟨0, Nat.zero_le _, rfl, fun j hj => absurd hj (Nat.not_lt_zero j), hB1⟩
  case round =>
    obtain ⟨k, hk, rfl, hall, hB⟩ := hrel
    have HALL := Lib.hid hall
    clear hall hB1 hsl
    have hsz := hB.size
    by_cases hlt : k < len2
    · obtain ⟨b2, off2, rfl, hb2, u0, u1⟩ := HU.out k hlt
      have HXk := Lib.hid (HX.out k hlt)
      have hcs := okC_cases (pr cs k)
      have HSt := Lib.hid (show okC (pr cs k) = true → ∀ j, j < k + 1 → okC (pr cs j) = true from fun h j hj => by
        rcases Nat.lt_or_ge j k with g | g
        · exact HALL.out j g
        · obtain rfl : j = k := by omega
          exact h)
      generalize pr cs k = y at *
      obtain ⟨y0, y1⟩ := y
      dsimp only at *
      have n0 := (hB.cell (p := ⟨b2, off2 + k * 2, none⟩) hb2).trans u0
      have n1 := (hB.cell (p := ⟨b2, off2 + k * 2 + 1, none⟩) hb2).trans u1
      clear u0 u1
      rcases hcs with ⟨h1, h4⟩ | ⟨h1, h2, h4⟩ | ⟨h1, h2, h3, h4⟩ | ⟨h1, h2, h3, h4⟩
      · have hr : r = 2 := by rw [HE.out, if_neg (HXk.out h4)]
        have cc := fun w => bcheck_bad y0 y1 (by rw [h1]; decide) w
        subst hr
        clear HX HO HE HXk HSt HALL h1 h4
        go_wp2_with fail
        refine (cc _).mono ?_
        rintro e w2 ⟨rfl, hb⟩
        have hB2 := (hB.alloc hsz _).trans (hb.mono (by simp; omega))
        clear hb
        go_wp2_with fail
        go_ret
        exact ⟨rfl, hB2⟩
      · have hr : r = 2 := by rw [HE.out, if_neg (HXk.out h4)]
        have cc := fun w => bcheck_ok y0 y1 h1 w
        subst hr
        clear HX HO HE HXk HSt HALL h1 h4
        go_wp2_with fail
        refine (cc _).mono ?_
        rintro e w2 ⟨rfl, hb⟩
        have hB2 := (hB.alloc hsz _).trans (hb.mono (by simp; omega))
        have t0 : w2.cell? ⟨wr.heap.size, 0, none⟩ = some (.int .i64 y0) := (hb.cell (p := ⟨wr.heap.size, 0, none⟩) (by simp)).trans (by simp [go_sem])
        have t1 : w2.cell? ⟨wr.heap.size, 1, none⟩ = some (.int .i64 y1) := (hb.cell (p := ⟨wr.heap.size, 1, none⟩) (by simp)).trans (by simp [go_sem])
        clear hb
        go_wp2_with fail
        go_ret
        exact ⟨rfl, hB2⟩
      · have hr : r = 2 := by rw [HE.out, if_neg (HXk.out h4)]
        have cc := fun w => bcheck_ok y0 y1 h1 w
        subst hr
        clear HX HO HE HXk HSt HALL h1 h4
        go_wp2_with fail
        refine (cc _).mono ?_
        rintro e w2 ⟨rfl, hb⟩
        have hB2 := (hB.alloc hsz _).trans (hb.mono (by simp; omega))
        have t0 : w2.cell? ⟨wr.heap.size, 0, none⟩ = some (.int .i64 y0) := (hb.cell (p := ⟨wr.heap.size, 0, none⟩) (by simp)).trans (by simp [go_sem])
        have t1 : w2.cell? ⟨wr.heap.size, 1, none⟩ = some (.int .i64 y1) := (hb.cell (p := ⟨wr.heap.size, 1, none⟩) (by simp)).trans (by simp [go_sem])
        clear hb
        go_wp2_with fail
        go_ret
        exact ⟨rfl, hB2⟩
      · have cc := fun w => bcheck_ok y0 y1 h1 w
        have HN := Lib.hid (HSt.out h4)
        have HK := Lib.hid (show k + 1 ≤ len2 by omega)
        clear HX HO HE HXk HSt HALL h1 h4
        go_wp2_with fail
        refine (cc _).mono ?_
        rintro e w2 ⟨rfl, hb⟩
        have hB2 := (hB.alloc hsz _).trans (hb.mono (by simp; omega))
        have t0 : w2.cell? ⟨wr.heap.size, 0, none⟩ = some (.int .i64 y0) := (hb.cell (p := ⟨wr.heap.size, 0, none⟩) (by simp)).trans (by simp [go_sem])
        have t1 : w2.cell? ⟨wr.heap.size, 1, none⟩ = some (.int .i64 y1) := (hb.cell (p := ⟨wr.heap.size, 1, none⟩) (by simp)).trans (by simp [go_sem])
        clear hb
        go_wp2_with fail
        go_roundw
        case rel => exact ⟨k + 1, HK.out, by go_num, HN.out, hB2⟩
        case measure => have := HK.out; simp [intOf]; omega
    · obtain rfl : k = len2 := by omega
      have hr := HE.out
      rw [if_pos (HO.out HALL.out)] at hr
      clear HX HO HE HALL hlt HU
      subst hr
      go_wp2_with fail
      go_ret
      exact ⟨rfl, hB⟩
set_option maxRecDepth 10000 in
set_option maxHeartbeats 4000000 in
theorem checkStanding_any (d an fr : Int) (sv cv : Value) (zs : List El) (cs : List Pr) (w : World) (hI : Els w.heap.size w sv zs) (hC : Prs w.heap.size w cv cs) :
    Calls Try.prog 168 #[.agg #[.int .i64 d, sv, .int .i64 an, .int .i64 fr], cv] w fun e w' => e = .returned (.int .i64 (staE d zs an fr cs)) ∧ Below w.heap.size w w' := by
  have hA : Below w.heap.size w (w.alloc (.cells #[.int .i64 d, sv, .int .i64 an, .int .i64 fr] 97)) := (Below.refl _ _).alloc (Nat.le_refl _) _
  have c1 := checkCurrents_any d an fr sv cv zs cs _ (hI.at hA) (hC.at hA)
  have HE := Lib.hid (show staE d zs an fr cs = if curE d zs an fr cs = 0 then (if standB zs = true then 0 else 10) else curE d zs an fr cs from rfl)
  have C2 := Lib.hid (fun (h0 : curE d zs an fr cs = 0) (W : World) (hb : Below w.heap.size w W) => stands_any d an fr sv zs (curE_ok h0).1.pos (curE_ok h0).1.most (fun k hk => ((vE_iff _).1 ((curE_ok h0).1.els k hk)).2.1) W (hI.at hb))
  have HA := Lib.hid hA
  obtain ⟨a, cap, rfl, -, -⟩ := hI
  obtain ⟨c, cap2, rfl, -, -⟩ := hC
  generalize staE d zs an fr cs = r at *
  generalize curE d zs an fr cs = e0 at *
  generalize standB zs = sb at *
  generalize zs.length = len at *
  generalize cs.length = len2 at *
  clear hA
  by_cases he : e0 = 0
  rotate_left
  · have hr : r = e0 := by rw [HE.out, if_neg he]
    subst hr
    have hb : (r != 0) = true := by simpa using he
    clear HE C2 he
    go_enter Try.func168, Try.ntmps168
    go_wp2_with fail
    refine Calls.mono c1 ?_
    rintro e w1 ⟨rfl, hb1⟩
    have hB1 := HA.out.trans (hb1.mono (by simp))
    clear hb1
    go_wp2_with fail
    go_ret
    exact ⟨rfl, hB1⟩
  · subst he
    have hr : r = if sb = true then 0 else 10 := by rw [HE.out, if_pos rfl]
    have c2 := fun W (hb : Below w.heap.size w W) => C2.out rfl W hb
    clear HE C2
    cases sb
    · obtain rfl : r = 10 := hr
      go_enter Try.func168, Try.ntmps168
      go_wp2_with fail
      refine Calls.mono c1 ?_
      rintro e w1 ⟨rfl, hb1⟩
      have hB1 := HA.out.trans (hb1.mono (by simp))
      have k0 : w1.cell? ⟨w.heap.size, 0, none⟩ = some (.int .i64 d) := (hb1.cell (p := ⟨w.heap.size, 0, none⟩) (by simp)).trans (by simp [go_sem])
      have k1 : w1.cell? ⟨w.heap.size, 1, none⟩ = some (.slice a len cap) := (hb1.cell (p := ⟨w.heap.size, 1, none⟩) (by simp)).trans (by simp [go_sem])
      have k2 : w1.cell? ⟨w.heap.size, 2, none⟩ = some (.int .i64 an) := (hb1.cell (p := ⟨w.heap.size, 2, none⟩) (by simp)).trans (by simp [go_sem])
      have k3 : w1.cell? ⟨w.heap.size, 3, none⟩ = some (.int .i64 fr) := (hb1.cell (p := ⟨w.heap.size, 3, none⟩) (by simp)).trans (by simp [go_sem])
      clear hb1 c1
      go_wp2_with fail
      refine Calls.mono (c2 _ hB1) ?_
      rintro e w2 ⟨rfl, hb2⟩
      have hB2 := hB1.trans (hb2.mono hB1.size)
      clear hb2
      go_wp2_with fail
      go_ret
      exact ⟨rfl, hB2⟩
    · obtain rfl : r = 0 := hr
      go_enter Try.func168, Try.ntmps168
      go_wp2_with fail
      refine Calls.mono c1 ?_
      rintro e w1 ⟨rfl, hb1⟩
      have hB1 := HA.out.trans (hb1.mono (by simp))
      have k0 : w1.cell? ⟨w.heap.size, 0, none⟩ = some (.int .i64 d) := (hb1.cell (p := ⟨w.heap.size, 0, none⟩) (by simp)).trans (by simp [go_sem])
      have k1 : w1.cell? ⟨w.heap.size, 1, none⟩ = some (.slice a len cap) := (hb1.cell (p := ⟨w.heap.size, 1, none⟩) (by simp)).trans (by simp [go_sem])
      have k2 : w1.cell? ⟨w.heap.size, 2, none⟩ = some (.int .i64 an) := (hb1.cell (p := ⟨w.heap.size, 2, none⟩) (by simp)).trans (by simp [go_sem])
      have k3 : w1.cell? ⟨w.heap.size, 3, none⟩ = some (.int .i64 fr) := (hb1.cell (p := ⟨w.heap.size, 3, none⟩) (by simp)).trans (by simp [go_sem])
      clear hb1 c1
      go_wp2_with fail
      refine Calls.mono (c2 _ hB1) ?_
      rintro e w2 ⟨rfl, hb2⟩
      have hB2 := hB1.trans (hb2.mono hB1.size)
      clear hb2
      go_wp2_with fail
      go_ret
      exact ⟨rfl, hB2⟩
end Go.Proofs.Ytdohfpnnmppdkaa.Moo

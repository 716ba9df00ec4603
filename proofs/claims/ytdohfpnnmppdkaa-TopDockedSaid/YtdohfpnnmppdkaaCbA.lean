/-
  Layer 1 in this seat: what is checked of spans; Add, Sub, Meet; blocks and rows.
-/
import Derived.Test.YtdohfpnnmppdkaaProg
import Derived.Below
import Derived.BigQuiet
import Derived.Deep.Cut
import Derived.Deep.QuietTactic
import Derived.Deep.RegionHeld3
import Derived.Laws.AppendOwn
import Derived.Laws.EntriesVeiled
import Derived.Lib.Hide
import Derived.Lib.MinMax
import Derived.LoopIn
import Derived.LoopNIn
import Derived.OwnWalkIn
import Derived.RangeFuncBound
import Derived.RangeFuncBox
import Derived.RangeFuncCalls
import Derived.RangeFuncLeaves
import Derived.RangeFuncNested
import Derived.Shelf.Abstract
import Derived.Shelf.RegionOpen
import Derived.TacticsInMore
import Derived.WalkKit
import Derived.WalkLawsBesides
import Derived.WalkSmall
import Derived.WalkSpells
namespace Go.Proofs.Ytdohfpnnmppdkaa
open Go.RowKit Go.Shelf
set_option linter.unusedSimpArgs false
theorem min2_run {P : Program} (w : World) (k k' : IntKind) (x y : Int) : (Builtin.min2 (.int k x) (.int k' y)).run P w = .ok (.int k (min x y)) w := by
  have e : (if y < x then y else x) = min x y := by rw [Int.min_def]; split <;> split <;> omega
  simp [Builtin.min2, e]
theorem max2_run {P : Program} (w : World) (k k' : IntKind) (x y : Int) : (Builtin.max2 (.int k x) (.int k' y)).run P w = .ok (.int k (max x y)) w := by
  have e : (if y > x then y else x) = max x y := by rw [Int.max_def]; split <;> split <;> omega
  simp [Builtin.max2, e]
theorem ret_bool {a b : Bool} (h : a = b) : Ending.returned (.bool a) = .returned (.bool b) := by rw [h]
theorem ret_int {k : IntKind} {a b : Int} (h : a = b) : Ending.returned (.int k a) = .returned (.int k b) := by rw [h]
/-- a valid span -/
def vB (a b : Int) : Bool := decide (a ≤ b ∧ -1073741824 ≤ a ∧ b ≤ 1073741824)
theorem vB_iff (a b : Int) : vB a b = true ↔ a ≤ b ∧ -1073741824 ≤ a ∧ b ≤ 1073741824 := decide_eq_true_iff
set_option maxHeartbeats 1000000 in
theorem check_any (a b : Int) (w : World) :
    Calls Try.prog 110 #[.agg #[.int .i64 a, .int .i64 b]] w fun e w' => e = .returned (.int .i64 (if vB a b = true then 0 else 2)) ∧ Below w.heap.size w w' := by
  have e : (if vB a b = true then (0 : Int) else 2) = if b < a then 2 else if a < -1073741824 then 2 else if 1073741824 < b then 2 else 0 := by
    have h := vB_iff a b
    cases q : vB a b
    · rw [q] at h
      have : ¬ (a ≤ b ∧ -1073741824 ≤ a ∧ b ≤ 1073741824) := fun g => (by cases h.2 g)
      rw [if_neg (by decide)]
      repeat' split
      all_goals first | rfl | omega
    · have := h.1 q
      rw [if_pos rfl, if_neg (by omega), if_neg (by omega), if_neg (by omega)]
  rw [e]
  clear e
  have hb : Below w.heap.size w (w.alloc (.cells #[.int .i64 a, .int .i64 b] 23)) := (Below.refl _ _).alloc (Nat.le_refl _) _
  have HB := Lib.hid hb
  clear hb
  by_cases h1 : b < a
  · rw [if_pos h1]
    go_enter Try.func110, Try.ntmps110
    go_wp2_with fail
    go_ret
    exact ⟨rfl, HB.out⟩
  rw [if_neg h1]
  by_cases h2 : a < -1073741824
  · rw [if_pos h2]
    go_enter Try.func110, Try.ntmps110
    go_wp2_with fail
    go_ret
    exact ⟨rfl, HB.out⟩
  rw [if_neg h2]
  by_cases h3 : 1073741824 < b
  · rw [if_pos h3]
    go_enter Try.func110, Try.ntmps110
    go_wp2_with fail
    go_ret
    exact ⟨rfl, HB.out⟩
  rw [if_neg h3]
  go_enter Try.func110, Try.ntmps110
  go_wp2_with fail
  go_ret
  exact ⟨rfl, HB.out⟩
structure R3 where
  lo : Int
  hi : Int
  e : Int
def R3.out (z : R3) : Value := .tuple #[.agg #[.int .i64 z.lo, .int .i64 z.hi], .int .i64 z.e]
theorem own_keep {W W' : World} {base : Nat} {e : TypeId} {size n : Nat} {v : Value} {xs : List Value} (h : W.ownsRow base e size v n xs) (hs : ∀ j, v.ownBlock = some j → W'.heap[j]? = W.heap[j]?) : W'.ownsRow base e size v n xs := by
  refine ⟨h.1, ?_⟩
  rcases h.2 with ⟨rfl, h0⟩ | ⟨g, cap, cur, rfl, hb, hg, r1, r2, r3, r4⟩
  · exact .inl ⟨rfl, h0⟩
  · exact .inr ⟨g, cap, cur, rfl, hb, (hs g rfl).trans hg, r1, r2, r3, r4⟩
theorem own_below {W W' : World} {base : Nat} {e : TypeId} {size n : Nat} {v : Value} {xs : List Value} (h : W.ownsRow base e size v n xs) (hb : Below W.heap.size W W') : W'.ownsRow base e size v n xs :=
  own_keep h fun j hj => hb.block j (h.lt j hj).2
theorem own_set {W : World} {base : Nat} {e : TypeId} {size n : Nat} {v : Value} {xs : List Value} (h : W.ownsRow base e size v n xs) (b o : Nat) (u : Value) (hb : b < base) : (W.setCell ⟨b, o, none⟩ u).ownsRow base e size v n xs :=
  own_keep h fun j hj => Below.heap_setCell _ _ _ _ (by have := (h.lt j hj).1; show j ≠ b; omega)
theorem own_form {W : World} {base : Nat} {e : TypeId} {size n : Nat} {v : Value} {xs : List Value} (h : W.ownsRow base e size v n xs) : ∃ a c, v = .slice a n c := by
  rcases h.2 with ⟨rfl, h0⟩ | ⟨g, cap, cur, rfl, hb, hg, r1, r2, r3, r4⟩
  · exact ⟨none, 0, by rw [h0]⟩
  · exact ⟨_, _, rfl⟩
theorem info_parts {t : TypeId} {z : Value} {size bytes : Nat} (h : (Try.prog.info? t).map (fun i => (i.zero, i.size, i.bytes)) = some (some z, size, bytes)) : ∃ i, Try.prog.info? t = some i ∧ i.zero = some z ∧ i.size = size ∧ i.bytes = bytes := by
  cases e : Try.prog.info? t with
  | none => simp [e] at h
  | some i =>
    simp [e] at h
    exact ⟨i, rfl, h.1, h.2.1, h.2.2⟩
def Bx2 (W : World) (B : Nat) (u v : Value) : Prop := W.heap[B]? = some (.cells #[u, v] 23 (0, 0))
theorem Bx2.lt {W : World} {B : Nat} {u v : Value} (h : Bx2 W B u v) : B < W.heap.size := (Array.getElem?_eq_some_iff.1 h).1
theorem Bx2.c0 {W : World} {B : Nat} {u v : Value} (h : Bx2 W B u v) : W.cell? ⟨B, 0, none⟩ = some u := by simp [World.cell?, show W.heap[B]? = _ from h]
theorem Bx2.c1 {W : World} {B : Nat} {u v : Value} (h : Bx2 W B u v) : W.cell? ⟨B, 1, none⟩ = some v := by simp [World.cell?, show W.heap[B]? = _ from h]
theorem Bx2.f0 {W : World} {B : Nat} {u v : Value} (h : Bx2 W B u v) (o : Nat) : W.frozen? ⟨B, o, none⟩ = false := by simp [World.frozen?, show W.heap[B]? = _ from h]
theorem Bx2.new (W : World) (u v : Value) : Bx2 (W.alloc (.cells #[u, v] 23)) W.heap.size u v := World.alloc_heap_new W _
theorem Bx2.keep {W W' : World} {B : Nat} {u v : Value} (h : Bx2 W B u v) (hb : Below W.heap.size W W') : Bx2 W' B u v := (hb.block B h.lt).trans h
theorem Bx2.set {W : World} {B : Nat} {u v : Value} (h : Bx2 W B u v) (u' v' : Value) : Bx2 ((W.setCell ⟨B, 0, none⟩ u').setCell ⟨B, 1, none⟩ v') B u' v' := by
  have e : W.heap[B]? = _ := h
  unfold Bx2
  simp [World.setCell, Array.getElem?_modify, e]
theorem Bx2.far {W : World} {B C o : Nat} {u v x : Value} (h : Bx2 W B u v) (hne : B ≠ C) : Bx2 (W.setCell ⟨C, o, none⟩ x) B u v :=
  (Below.heap_setCell _ _ _ _ (by show B ≠ C; exact hne)).trans h
theorem bcell {W w1 : World} (hb : Below W.heap.size W w1) : (∀ b o, b < W.heap.size → w1.cell? ⟨b, o, none⟩ = W.cell? ⟨b, o, none⟩) ∧ (∀ b o, b < W.heap.size → w1.frozen? ⟨b, o, none⟩ = W.frozen? ⟨b, o, none⟩) :=
  ⟨fun b o h => hb.cell (p := ⟨b, o, none⟩) h, fun b o h => hb.frozen (p := ⟨b, o, none⟩) h⟩
theorem check_ok (lo hi : Int) (h : vB lo hi = true) (w : World) : Calls Try.prog 110 #[.agg #[.int .i64 lo, .int .i64 hi]] w fun e w' => e = .returned (.int .i64 0) ∧ Below w.heap.size w w' := by
  have q := check_any lo hi w
  rwa [if_pos h] at q
theorem check_bad (lo hi : Int) (h : ¬ vB lo hi = true) (w : World) : Calls Try.prog 110 #[.agg #[.int .i64 lo, .int .i64 hi]] w fun e w' => e = .returned (.int .i64 2) ∧ Below w.heap.size w w' := by
  have q := check_any lo hi w
  rwa [if_neg h] at q
set_option maxHeartbeats 400000 in
theorem checkBoth_ok (a b c d : Int) (h1 : vB a b = true) (h2 : vB c d = true) (w : World) :
    Calls Try.prog 119 #[.agg #[.int .i64 a, .int .i64 b], .agg #[.int .i64 c, .int .i64 d]] w fun e w' => e = .returned (.int .i64 0) ∧ Below w.heap.size w w' := by
  have c1 := fun w => check_ok a b h1 w
  have c2 := fun w => check_ok c d h2 w
  go_enter Try.func119, Try.ntmps119
  go_wp2_with fail
  refine (c1 _).mono ?_
  rintro e w1 ⟨rfl, hb⟩
  obtain ⟨hc, hf⟩ := bcell hb
  go_wp2_with fail
  refine (c2 _).mono ?_
  rintro e w2 ⟨rfl, hb2⟩
  go_wp2_with fail
  go_ret
  exact ⟨rfl, ((((Below.refl _ _).alloc (Nat.le_refl _) _).alloc (by simp) _).trans (hb.mono (by simp; omega))).trans (hb2.mono (by have := hb.size; simp at this; omega))⟩
set_option maxHeartbeats 400000 in
theorem checkBoth_bad (a b c d : Int) (h : ¬ (vB a b = true ∧ vB c d = true)) (w : World) :
    Calls Try.prog 119 #[.agg #[.int .i64 a, .int .i64 b], .agg #[.int .i64 c, .int .i64 d]] w fun e w' => e = .returned (.int .i64 2) ∧ Below w.heap.size w w' := by
  by_cases h1 : vB a b = true
  · have c1 := fun w => check_ok a b h1 w
    have c2 := fun w => check_bad c d (fun h2 => h ⟨h1, h2⟩) w
    clear h
    go_enter Try.func119, Try.ntmps119
    go_wp2_with fail
    refine (c1 _).mono ?_
    rintro e w1 ⟨rfl, hb⟩
    obtain ⟨hc, hf⟩ := bcell hb
    go_wp2_with fail
    refine (c2 _).mono ?_
    rintro e w2 ⟨rfl, hb2⟩
    go_wp2_with fail
    go_ret
    exact ⟨rfl, ((((Below.refl _ _).alloc (Nat.le_refl _) _).alloc (by simp) _).trans (hb.mono (by simp; omega))).trans (hb2.mono (by have := hb.size; simp at this; omega))⟩
  · have c1 := fun w => check_bad a b h1 w
    clear h
    go_enter Try.func119, Try.ntmps119
    go_wp2_with fail
    refine (c1 _).mono ?_
    rintro e w1 ⟨rfl, hb⟩
    go_wp2_with fail
    go_ret
    exact ⟨rfl, (((Below.refl _ _).alloc (Nat.le_refl _) _).alloc (by simp) _).trans (hb.mono (by simp; omega))⟩
theorem chainB {A W W' : World} (hb : Below W.heap.size W W') (h : Below A.heap.size A W) : Below A.heap.size A W' := h.trans (hb.mono h.size)
def fit (lo hi : Int) : R3 := if vB lo hi = true then ⟨lo, hi, 0⟩ else ⟨0, 0, 4⟩
def addS (a b c d : Int) : R3 := if vB a b = true ∧ vB c d = true then fit (a + c) (b + d) else ⟨0, 0, 2⟩
def subS (a b c d : Int) : R3 := if vB a b = true ∧ vB c d = true then fit (a - d) (b - c) else ⟨0, 0, 2⟩
set_option maxHeartbeats 400000 in
theorem fitting_any (lo hi : Int) (w : World) :
    Calls Try.prog 120 #[.agg #[.int .i64 lo, .int .i64 hi]] w fun e w' => e = .returned (.tuple #[.agg #[.int .i64 (fit lo hi).lo, .int .i64 (fit lo hi).hi], .int .i64 (fit lo hi).e]) ∧ Below w.heap.size w w' := by
  by_cases h1 : vB lo hi = true
  · have k : fit lo hi = ⟨lo, hi, 0⟩ := if_pos h1
    rw [k]
    have c1 := fun w => check_ok lo hi h1 w
    clear h1 k
    go_enter Try.func120, Try.ntmps120
    go_wp2_with fail
    refine (c1 _).mono ?_
    rintro e w1 ⟨rfl, hb⟩
    obtain ⟨hc, hf⟩ := bcell hb
    go_wp2_with fail
    refine bodyPost_ret (v := .tuple #[.agg #[.int .i64 lo, .int .i64 hi], .int .i64 0]) (by simp [results, Try.results120, go_sem, hc]) rfl ⟨rfl, ?_⟩
    exact ((((((Below.refl _ _).alloc (Nat.le_refl _) _).alloc (by simp) _).trans (hb.mono (by simp; omega))).setCell (by simp) _).setCell (by simp) _)
  · have k : fit lo hi = ⟨0, 0, 4⟩ := if_neg h1
    rw [k]
    have c1 := fun w => check_bad lo hi h1 w
    clear h1 k
    go_enter Try.func120, Try.ntmps120
    go_wp2_with fail
    refine (c1 _).mono ?_
    rintro e w1 ⟨rfl, hb⟩
    obtain ⟨hc, hf⟩ := bcell hb
    go_wp2_with fail
    refine bodyPost_ret (v := .tuple #[.agg #[.int .i64 0, .int .i64 0], .int .i64 4]) (by simp [results, Try.results120, go_sem, hc]) rfl ⟨rfl, ?_⟩
    exact ((((((Below.refl _ _).alloc (Nat.le_refl _) _).alloc (by simp) _).trans (hb.mono (by simp; omega))).setCell (by simp) _).setCell (by simp) _)
def Boxed2 (W : World) (B : Nat) (t : TypeId) (u v : Value) : Prop := W.heap[B]? = some (.cells #[u, v] t (0, 0))
theorem Boxed2.c0 {W : World} {B : Nat} {t : TypeId} {u v : Value} (h : Boxed2 W B t u v) : W.cell? ⟨B, 0, none⟩ = some u := by simp [World.cell?, show W.heap[B]? = _ from h]
theorem Boxed2.c1 {W : World} {B : Nat} {t : TypeId} {u v : Value} (h : Boxed2 W B t u v) : W.cell? ⟨B, 1, none⟩ = some v := by simp [World.cell?, show W.heap[B]? = _ from h]
theorem Boxed2.f0 {W : World} {B : Nat} {t : TypeId} {u v : Value} (h : Boxed2 W B t u v) : W.frozen? ⟨B, 0, none⟩ = false := by simp [World.frozen?, show W.heap[B]? = _ from h]
theorem Boxed2.f1 {W : World} {B : Nat} {t : TypeId} {u v : Value} (h : Boxed2 W B t u v) : W.frozen? ⟨B, 1, none⟩ = false := by simp [World.frozen?, show W.heap[B]? = _ from h]
theorem Boxed2.new (W : World) (t : TypeId) (u v : Value) : Boxed2 (W.alloc (.cells #[u, v] t)) W.heap.size t u v := World.alloc_heap_new W _
def bmeetS (a b c d : Int) : R3 := if vB a b = true ∧ vB c d = true then (if min b d < max a c then ⟨0, 0, 5⟩ else ⟨max a c, min b d, 0⟩) else ⟨0, 0, 2⟩
set_option maxHeartbeats 1000000 in
theorem badd_any (a b c d : Int) (w : World) :
    Calls Try.prog 55 #[.agg #[.int .i64 a, .int .i64 b], .agg #[.int .i64 c, .int .i64 d]] w fun e w' => e = .returned (.tuple #[.agg #[.int .i64 (addS a b c d).lo, .int .i64 (addS a b c d).hi], .int .i64 (addS a b c d).e]) ∧ Below w.heap.size w w' := by
  by_cases h : vB a b = true ∧ vB c d = true
  · have k : addS a b c d = fit (a + c) (b + d) := if_pos h
    rw [k]
    have c1 := fun w => checkBoth_ok a b c d h.1 h.2 w
    have c2 := fun w => fitting_any (a + c) (b + d) w
    generalize fit (a + c) (b + d) = r at c2 ⊢
    obtain ⟨h1, h2⟩ := h
    obtain ⟨h3, h4, h5⟩ := (vB_iff a b).1 h1
    obtain ⟨h6, h7, h8⟩ := (vB_iff c d).1 h2
    clear h1 h2 k
    go_enter Try.func55, Try.ntmps55
    go_wp2_with fail
    refine (c1 _).mono ?_
    rintro e w1 ⟨rfl, hb⟩
    obtain ⟨hc, hf⟩ := bcell hb
    go_wp2_with fail
    refine (c2 _).mono ?_
    rintro e w2 ⟨rfl, hb2⟩
    replace hb := hb.trans (hb2.mono hb.size)
    clear hc hf hb2
    obtain ⟨hc, hf⟩ := bcell hb
    go_wp2_with fail
    refine bodyPost_ret (v := .tuple #[.agg #[.int .i64 r.lo, .int .i64 r.hi], .int .i64 r.e]) (by simp [results, Try.results55, go_sem, hc]) rfl ⟨rfl, ?_⟩
    exact (((((((Below.refl _ _).alloc (Nat.le_refl _) _).alloc (by simp) _).alloc (by simp; omega) _).trans (hb.mono (by simp; omega)))).setCell (by simp; omega) _).setCell (by simp; omega) _
  · have k : addS a b c d = ⟨0, 0, 2⟩ := if_neg h
    rw [k]
    have c1 := fun w => checkBoth_bad a b c d h w
    clear h k
    go_enter Try.func55, Try.ntmps55
    go_wp2_with fail
    refine (c1 _).mono ?_
    rintro e w1 ⟨rfl, hb⟩
    obtain ⟨hc, hf⟩ := bcell hb
    go_wp2_with fail
    refine bodyPost_ret (v := .tuple #[.agg #[.int .i64 0, .int .i64 0], .int .i64 2]) (by simp [results, Try.results55, go_sem, hc]) rfl ⟨rfl, ?_⟩
    exact (((((((Below.refl _ _).alloc (Nat.le_refl _) _).alloc (by simp) _).alloc (by simp; omega) _).trans (hb.mono (by simp; omega)))).setCell (by simp; omega) _).setCell (by simp; omega) _
set_option maxHeartbeats 1000000 in
theorem bsub_any (a b c d : Int) (w : World) :
    Calls Try.prog 64 #[.agg #[.int .i64 a, .int .i64 b], .agg #[.int .i64 c, .int .i64 d]] w fun e w' => e = .returned (.tuple #[.agg #[.int .i64 (subS a b c d).lo, .int .i64 (subS a b c d).hi], .int .i64 (subS a b c d).e]) ∧ Below w.heap.size w w' := by
  by_cases h : vB a b = true ∧ vB c d = true
  · have k : subS a b c d = fit (a - d) (b - c) := if_pos h
    rw [k]
    have c1 := fun w => checkBoth_ok a b c d h.1 h.2 w
    have c2 := fun w => fitting_any (a - d) (b - c) w
    generalize fit (a - d) (b - c) = r at c2 ⊢
    obtain ⟨h1, h2⟩ := h
    obtain ⟨h3, h4, h5⟩ := (vB_iff a b).1 h1
    obtain ⟨h6, h7, h8⟩ := (vB_iff c d).1 h2
    clear h1 h2 k
    go_enter Try.func64, Try.ntmps64
    go_wp2_with fail
    refine (c1 _).mono ?_
    rintro e w1 ⟨rfl, hb⟩
    obtain ⟨hc, hf⟩ := bcell hb
    go_wp2_with fail
    refine (c2 _).mono ?_
    rintro e w2 ⟨rfl, hb2⟩
    replace hb := hb.trans (hb2.mono hb.size)
    clear hc hf hb2
    obtain ⟨hc, hf⟩ := bcell hb
    go_wp2_with fail
    refine bodyPost_ret (v := .tuple #[.agg #[.int .i64 r.lo, .int .i64 r.hi], .int .i64 r.e]) (by simp [results, Try.results64, go_sem, hc]) rfl ⟨rfl, ?_⟩
    exact (((((((Below.refl _ _).alloc (Nat.le_refl _) _).alloc (by simp) _).alloc (by simp; omega) _).trans (hb.mono (by simp; omega)))).setCell (by simp; omega) _).setCell (by simp; omega) _
  · have k : subS a b c d = ⟨0, 0, 2⟩ := if_neg h
    rw [k]
    have c1 := fun w => checkBoth_bad a b c d h w
    clear h k
    go_enter Try.func64, Try.ntmps64
    go_wp2_with fail
    refine (c1 _).mono ?_
    rintro e w1 ⟨rfl, hb⟩
    obtain ⟨hc, hf⟩ := bcell hb
    go_wp2_with fail
    refine bodyPost_ret (v := .tuple #[.agg #[.int .i64 0, .int .i64 0], .int .i64 2]) (by simp [results, Try.results64, go_sem, hc]) rfl ⟨rfl, ?_⟩
    exact (((((((Below.refl _ _).alloc (Nat.le_refl _) _).alloc (by simp) _).alloc (by simp; omega) _).trans (hb.mono (by simp; omega)))).setCell (by simp; omega) _).setCell (by simp; omega) _
set_option maxHeartbeats 1000000 in
theorem bmeet_any (a b c d : Int) (w : World) :
    Calls Try.prog 143 #[.agg #[.int .i64 a, .int .i64 b], .agg #[.int .i64 c, .int .i64 d]] w fun e w' => e = .returned (.tuple #[.agg #[.int .i64 (bmeetS a b c d).lo, .int .i64 (bmeetS a b c d).hi], .int .i64 (bmeetS a b c d).e]) ∧ Below w.heap.size w w' := by
  obtain ⟨A, hA⟩ : ∃ A, A = ((w.alloc (.cells #[.int .i64 a, .int .i64 b] 23)).alloc (.cells #[.int .i64 c, .int .i64 d] 23)).alloc (.cells #[.int .i64 0, .int .i64 0] 23) := ⟨_, rfl⟩
  have HBA := Lib.hid (show Below w.heap.size w A by rw [hA]; exact (((Below.refl _ _).alloc (Nat.le_refl _) _).alloc (by simp) _).alloc (by simp; omega) _)
  have hzA : A.heap.size = w.heap.size + 3 := by rw [hA]; simp
  have k0 : A.cell? ⟨w.heap.size, 0, none⟩ = some (.int .i64 a) := by rw [hA]; simp [go_sem]
  have k1 : A.cell? ⟨w.heap.size, 1, none⟩ = some (.int .i64 b) := by rw [hA]; simp [go_sem]
  have k2 : A.cell? ⟨w.heap.size + 1, 0, none⟩ = some (.int .i64 c) := by rw [hA]; simp [go_sem]
  have k3 : A.cell? ⟨w.heap.size + 1, 1, none⟩ = some (.int .i64 d) := by rw [hA]; simp [go_sem]
  have kr : Bx2 A (w.heap.size + 2) (.int .i64 0) (.int .i64 0) := by
    rw [hA]
    have q := Bx2.new ((w.alloc (.cells #[.int .i64 a, .int .i64 b] 23)).alloc (.cells #[.int .i64 c, .int .i64 d] 23)) (.int .i64 0) (.int .i64 0)
    simpa using q
  have HKR := Lib.hid kr
  have KK := Lib.hid (show ∀ W, Below A.heap.size A W → W.cell? ⟨w.heap.size, 0, none⟩ = some (.int .i64 a) ∧ W.cell? ⟨w.heap.size, 1, none⟩ = some (.int .i64 b) ∧ W.cell? ⟨w.heap.size + 1, 0, none⟩ = some (.int .i64 c) ∧ W.cell? ⟨w.heap.size + 1, 1, none⟩ = some (.int .i64 d) from fun W h => ⟨(h.cell (p := ⟨w.heap.size, 0, none⟩) (by show w.heap.size < A.heap.size; omega)).trans k0, (h.cell (p := ⟨w.heap.size, 1, none⟩) (by show w.heap.size < A.heap.size; omega)).trans k1, (h.cell (p := ⟨w.heap.size + 1, 0, none⟩) (by show w.heap.size + 1 < A.heap.size; omega)).trans k2, (h.cell (p := ⟨w.heap.size + 1, 1, none⟩) (by show w.heap.size + 1 < A.heap.size; omega)).trans k3⟩)
  have HEND := Lib.hid (show ∀ W v0 v1, Below A.heap.size A W → Below w.heap.size w ((W.setCell ⟨w.heap.size + 2, 0, none⟩ v0).setCell ⟨w.heap.size + 2, 1, none⟩ v1) from fun W v0 v1 h => ((HBA.out.trans (h.mono HBA.out.size)).setCell (p := ⟨w.heap.size + 2, 0, none⟩) (by show w.heap.size ≤ w.heap.size + 2; omega) _).setCell (p := ⟨w.heap.size + 2, 1, none⟩) (by show w.heap.size ≤ w.heap.size + 2; omega) _)
  clear kr hzA
  by_cases h : vB a b = true ∧ vB c d = true
  · have K := Lib.hid (show bmeetS a b c d = (if min b d < max a c then ⟨0, 0, 5⟩ else ⟨max a c, min b d, 0⟩) from if_pos h)
    have c1 := fun w => checkBoth_ok a b c d h.1 h.2 w
    clear h
    generalize bmeetS a b c d = q at *
    go_enter Try.func143, Try.ntmps143
    go_upto_region 1 with fail
    rw [← hA]
    clear hA
    go_wp2_with fail
    refine (c1 _).mono ?_
    rintro e w1 ⟨rfl, hb⟩
    have HB1 := Lib.hid hb
    obtain ⟨k0, k1, k2, k3⟩ := KK.out _ hb
    clear hb c1
    go_upto_region 5 with fail
    obtain ⟨V, hV⟩ : ∃ V, V = w1.alloc (.cells #[.int .i64 (max a c), .int .i64 (min b d)] 23) := ⟨_, rfl⟩
    try rw [← hV]
    have hBV : Below w1.heap.size w1 V := by rw [hV]; exact (Below.refl _ _).alloc (Nat.le_refl _) _
    have HV := Lib.hid (HB1.out.trans (hBV.mono HB1.out.size))
    have kx : Bx2 V w1.heap.size (.int .i64 (max a c)) (.int .i64 (min b d)) := by rw [hV]; exact Bx2.new _ _ _
    clear hV hBV
    generalize max a c = M at *
    generalize min b d = N at *
    have d0 := kx.c0
    have d1 := kx.c1
    have kr := HKR.out.keep HV.out
    have r0 := kr.c0
    have r1 := kr.c1
    have f0 := kr.f0 0
    have f1 := kr.f0 1
    clear kx kr k0 k1 k2 k3
    by_cases hm : N < M
    · have hq : q = ⟨0, 0, 5⟩ := by rw [K.out, if_pos hm]
      subst hq
      go_wp2_with fail
      exact bodyPost_ret (v := .tuple #[.agg #[.int .i64 0, .int .i64 0], .int .i64 5]) (by simp [results, Try.results143, go_sem, r0, r1]) rfl ⟨rfl, HEND.out _ _ _ HV.out⟩
    · have hq : q = ⟨M, N, 0⟩ := by rw [K.out, if_neg hm]
      subst hq
      go_wp2_with fail
      exact bodyPost_ret (v := .tuple #[.agg #[.int .i64 M, .int .i64 N], .int .i64 0]) (by simp [results, Try.results143, go_sem, r0, r1]) rfl ⟨rfl, HEND.out _ _ _ HV.out⟩
  · have k : bmeetS a b c d = ⟨0, 0, 2⟩ := if_neg h
    rw [k]
    have c1 := fun w => checkBoth_bad a b c d h w
    clear h k
    go_enter Try.func143, Try.ntmps143
    go_upto_region 1 with fail
    rw [← hA]
    clear hA
    go_wp2_with fail
    refine (c1 _).mono ?_
    rintro e w1 ⟨rfl, hb⟩
    have HB1 := Lib.hid hb
    have kr := HKR.out.keep hb
    have r0 := kr.c0
    have r1 := kr.c1
    have f0 := kr.f0 0
    have f1 := kr.f0 1
    clear hb c1 kr
    go_wp2_with fail
    exact bodyPost_ret (v := .tuple #[.agg #[.int .i64 0, .int .i64 0], .int .i64 2]) (by simp [results, Try.results143, go_sem, r0, r1]) rfl ⟨rfl, HEND.out _ _ _ HB1.out⟩
theorem cellH {W : World} {B : Nat} {cs : Array Value} {t : TypeId} {q : Nat × Nat} (h : W.heap[B]? = some (.cells cs t q)) (j : Nat) : W.cell? ⟨B, j, none⟩ = cs[j]? := by simp [World.cell?, h]
theorem frozH {W : World} {B : Nat} {cs : Array Value} {t : TypeId} (h : W.heap[B]? = some (.cells cs t (0, 0))) (j : Nat) : W.frozen? ⟨B, j, none⟩ = false := by simp [World.frozen?, h]
theorem withinL (x lo hi : Int) (w : World) :
    Calls Try.prog 106 #[.int .i64 x, .int .i64 lo, .int .i64 hi] w fun e w' => e = .returned (.bool (decide (lo ≤ x ∧ x ≤ hi))) ∧ w' = w := by
  by_cases h1 : lo ≤ x
  · by_cases h2 : x ≤ hi
    · rw [decide_eq_true ⟨h1, h2⟩]
      go_enter Try.func106, Try.ntmps106
      go_wp2_with fail
      go_ret
      first | exact ⟨rfl, rfl⟩ | simp [*]
    · rw [decide_eq_false (fun h => h2 h.2)]
      go_enter Try.func106, Try.ntmps106
      go_wp2_with fail
      go_ret
      first | exact ⟨rfl, rfl⟩ | simp [*]
  · rw [decide_eq_false (fun h => h1 h.1)]
    go_enter Try.func106, Try.ntmps106
    go_wp2_with fail
    go_ret
    first | exact ⟨rfl, rfl⟩ | simp [*]
theorem withinI (x lo hi : Int) (w : World) :
    Calls Try.prog 152 #[.int .i64 x, .int .i64 lo, .int .i64 hi] w fun e w' => e = .returned (.bool (decide (lo ≤ x ∧ x ≤ hi))) ∧ w' = w := by
  by_cases h1 : lo ≤ x
  · by_cases h2 : x ≤ hi
    · rw [decide_eq_true ⟨h1, h2⟩]
      go_enter Try.func152, Try.ntmps152
      go_wp2_with fail
      go_ret
      first | exact ⟨rfl, rfl⟩ | simp [*]
    · rw [decide_eq_false (fun h => h2 h.2)]
      go_enter Try.func152, Try.ntmps152
      go_wp2_with fail
      go_ret
      first | exact ⟨rfl, rfl⟩ | simp [*]
  · rw [decide_eq_false (fun h => h1 h.1)]
    go_enter Try.func152, Try.ntmps152
    go_wp2_with fail
    go_ret
    first | exact ⟨rfl, rfl⟩ | simp [*]
theorem isPart_ok (a b lo hi : Int) (hv : vB a b = true) (h1 : lo ≤ a) (h2 : b ≤ hi) (w : World) :
    Calls Try.prog 87 #[.agg #[.int .i64 a, .int .i64 b], .int .i64 lo, .int .i64 hi] w fun e w' => e = .returned (.bool true) ∧ Below w.heap.size w w' := by
  have c := fun W => check_ok a b hv W
  have HA := Lib.hid (show Below w.heap.size w (w.alloc (.cells #[.int .i64 a, .int .i64 b] 23)) from (Below.refl _ _).alloc (Nat.le_refl _) _)
  clear hv
  go_enter Try.func87, Try.ntmps87
  go_wp2_with fail
  refine (c _).mono ?_
  rintro e w1 ⟨rfl, hb⟩
  have HB := Lib.hid (HA.out.trans (hb.mono (by simp)))
  have k0 := hb.cell (p := ⟨w.heap.size, 0, none⟩) (by simp)
  have k1 := hb.cell (p := ⟨w.heap.size, 1, none⟩) (by simp)
  simp [go_sem] at k0 k1
  clear hb
  go_wp2_with fail
  go_ret
  exact ⟨by first | rfl | simp, HB.out⟩
theorem cellHB {W : World} {B : Nat} {cs : Array Value} {t : TypeId} {q : Nat × Nat} (h : W.heap[B]? = some (.cells cs t q)) (j : Nat) : W.cell? ⟨B, j, none⟩ = cs[j]? := by simp [World.cell?, h]
end Go.Proofs.Ytdohfpnnmppdkaa

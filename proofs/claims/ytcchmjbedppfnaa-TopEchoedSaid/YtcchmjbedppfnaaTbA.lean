/-
  Layer 1 in this seat: what is checked of two spans; Add, Sub, Meet, Grow, Less.
-/
import Derived.Test.YtcchmjbedppfnaaCkH
import Derived.Test.YtcchmjbedppfnaaRkA
import Derived.Deep.Cut
import Derived.Deep.AppendLies
namespace Go.Proofs.Ytcchmjbedppfnaa
open Go.RowKit Go.Shelf
set_option linter.unusedSimpArgs false
theorem bcell {W w1 : World} (hb : Below W.heap.size W w1) : (∀ b o, b < W.heap.size → w1.cell? ⟨b, o, none⟩ = W.cell? ⟨b, o, none⟩) ∧ (∀ b o, b < W.heap.size → w1.frozen? ⟨b, o, none⟩ = W.frozen? ⟨b, o, none⟩) :=
  ⟨fun b o h => hb.cell (p := ⟨b, o, none⟩) h, fun b o h => hb.frozen (p := ⟨b, o, none⟩) h⟩

theorem check_ok (lo hi : Int) (h : vB lo hi = true) (w : World) : Calls Try.prog 70 #[.agg #[.int .i64 lo, .int .i64 hi]] w fun e w' => e = .returned (.int .i64 0) ∧ Below w.heap.size w w' := by
  have q := check_any lo hi w
  rwa [if_pos h] at q
theorem check_bad (lo hi : Int) (h : ¬ vB lo hi = true) (w : World) : Calls Try.prog 70 #[.agg #[.int .i64 lo, .int .i64 hi]] w fun e w' => e = .returned (.int .i64 2) ∧ Below w.heap.size w w' := by
  have q := check_any lo hi w
  rwa [if_neg h] at q
set_option maxHeartbeats 400000 in
theorem checkBoth_ok (a b c d : Int) (h1 : vB a b = true) (h2 : vB c d = true) (w : World) :
    Calls Try.prog 128 #[.agg #[.int .i64 a, .int .i64 b], .agg #[.int .i64 c, .int .i64 d]] w fun e w' => e = .returned (.int .i64 0) ∧ Below w.heap.size w w' := by
  have c1 := fun w => check_ok a b h1 w
  have c2 := fun w => check_ok c d h2 w
  go_enter Try.func128, Try.ntmps128
  go_wp2_with fail
  refine (c1 _).mono ?_
  rintro e w1 ⟨rfl, hb⟩
  obtain ⟨hc, hf⟩ := bcell hb
  go_wp2_with fail
  refine (c2 _).mono ?_
  rintro e w2 ⟨rfl, hb2⟩
  go_wp2_with fail
  go_ret
  exact ⟨rfl, ((((Below.refl _ _).alloc (Nat.le_refl _) _).alloc (by simp) _).trans (hb.mono (by simp; omega))).trans (hb2.mono (by have := hb.size; simp at this; omega))⟩

set_option maxHeartbeats 400000 in
theorem checkBoth_bad (a b c d : Int) (h : ¬ (vB a b = true ∧ vB c d = true)) (w : World) :
    Calls Try.prog 128 #[.agg #[.int .i64 a, .int .i64 b], .agg #[.int .i64 c, .int .i64 d]] w fun e w' => e = .returned (.int .i64 2) ∧ Below w.heap.size w w' := by
  by_cases h1 : vB a b = true
  · have c1 := fun w => check_ok a b h1 w
    have c2 := fun w => check_bad c d (fun h2 => h ⟨h1, h2⟩) w
    clear h
    go_enter Try.func128, Try.ntmps128
    go_wp2_with fail
    refine (c1 _).mono ?_
    rintro e w1 ⟨rfl, hb⟩
    obtain ⟨hc, hf⟩ := bcell hb
    go_wp2_with fail
    refine (c2 _).mono ?_
    rintro e w2 ⟨rfl, hb2⟩
    go_wp2_with fail
    go_ret
    exact ⟨rfl, ((((Below.refl _ _).alloc (Nat.le_refl _) _).alloc (by simp) _).trans (hb.mono (by simp; omega))).trans (hb2.mono (by have := hb.size; simp at this; omega))⟩
  · have c1 := fun w => check_bad a b h1 w
    clear h
    go_enter Try.func128, Try.ntmps128
    go_wp2_with fail
    refine (c1 _).mono ?_
    rintro e w1 ⟨rfl, hb⟩
    go_wp2_with fail
    go_ret
    exact ⟨rfl, (((Below.refl _ _).alloc (Nat.le_refl _) _).alloc (by simp) _).trans (hb.mono (by simp; omega))⟩
theorem chainB {A W W' : World} (hb : Below W.heap.size W W') (h : Below A.heap.size A W) : Below A.heap.size A W' := h.trans (hb.mono h.size)
structure A2 where
  v : Int
  e : Int
def lessS (a b c d : Int) : A2 := if vB a b = true ∧ vB c d = true then (if b < c then ⟨2, 0⟩ else if d ≤ a then ⟨0, 0⟩ else ⟨1, 0⟩) else ⟨0, 2⟩
set_option maxHeartbeats 1000000 in
theorem bless_any (a b c d : Int) (w : World) :
    Calls Try.prog 71 #[.agg #[.int .i64 a, .int .i64 b], .agg #[.int .i64 c, .int .i64 d]] w fun e w' => e = .returned (.tuple #[.int .i64 (lessS a b c d).v, .int .i64 (lessS a b c d).e]) ∧ Below w.heap.size w w' := by
  by_cases h : vB a b = true ∧ vB c d = true
  · have k : lessS a b c d = (if b < c then ⟨2, 0⟩ else if d ≤ a then ⟨0, 0⟩ else ⟨1, 0⟩) := if_pos h
    rw [k]
    have c1 := fun w => checkBoth_ok a b c d h.1 h.2 w
    clear h k
    by_cases h1 : b < c
    · rw [if_pos h1]
      go_enter Try.func71, Try.ntmps71
      go_wp2_with fail
      refine (c1 _).mono ?_
      rintro e w1 ⟨rfl, hb⟩
      obtain ⟨hc, hf⟩ := bcell hb
      go_wp2_with fail
      go_ret2
      exact ⟨rfl, chainB (((Below.refl _ _).trans hb).mono (Nat.le_refl _)) (((Below.refl _ _).alloc (Nat.le_refl _) _).alloc (by simp) _)⟩
    · rw [if_neg h1]
      by_cases h2 : d ≤ a
      · rw [if_pos h2]
        go_enter Try.func71, Try.ntmps71
        go_wp2_with fail
        refine (c1 _).mono ?_
        rintro e w1 ⟨rfl, hb⟩
        obtain ⟨hc, hf⟩ := bcell hb
        go_wp2_with fail
        go_ret2
        exact ⟨rfl, chainB hb (((Below.refl _ _).alloc (Nat.le_refl _) _).alloc (by simp) _)⟩
      · rw [if_neg h2]
        go_enter Try.func71, Try.ntmps71
        go_wp2_with fail
        refine (c1 _).mono ?_
        rintro e w1 ⟨rfl, hb⟩
        obtain ⟨hc, hf⟩ := bcell hb
        go_wp2_with fail
        go_ret2
        exact ⟨rfl, chainB hb (((Below.refl _ _).alloc (Nat.le_refl _) _).alloc (by simp) _)⟩
  · have k : lessS a b c d = ⟨0, 2⟩ := if_neg h
    rw [k]
    have c1 := fun w => checkBoth_bad a b c d h w
    clear h k
    go_enter Try.func71, Try.ntmps71
    go_wp2_with fail
    refine (c1 _).mono ?_
    rintro e w1 ⟨rfl, hb⟩
    go_wp2_with fail
    go_ret2
    exact ⟨rfl, chainB hb (((Below.refl _ _).alloc (Nat.le_refl _) _).alloc (by simp) _)⟩

def fit (lo hi : Int) : R3 := if vB lo hi = true then ⟨lo, hi, 0⟩ else ⟨0, 0, 4⟩
def addS (a b c d : Int) : R3 := if vB a b = true ∧ vB c d = true then fit (a + c) (b + d) else ⟨0, 0, 2⟩
def subS (a b c d : Int) : R3 := if vB a b = true ∧ vB c d = true then fit (a - d) (b - c) else ⟨0, 0, 2⟩
set_option maxHeartbeats 400000 in
theorem fitting_any (lo hi : Int) (w : World) :
    Calls Try.prog 123 #[.agg #[.int .i64 lo, .int .i64 hi]] w fun e w' => e = .returned (.tuple #[.agg #[.int .i64 (fit lo hi).lo, .int .i64 (fit lo hi).hi], .int .i64 (fit lo hi).e]) ∧ Below w.heap.size w w' := by
  by_cases h1 : vB lo hi = true
  · have k : fit lo hi = ⟨lo, hi, 0⟩ := if_pos h1
    rw [k]
    have c1 := fun w => check_ok lo hi h1 w
    clear h1 k
    go_enter Try.func123, Try.ntmps123
    go_wp2_with fail
    refine (c1 _).mono ?_
    rintro e w1 ⟨rfl, hb⟩
    obtain ⟨hc, hf⟩ := bcell hb
    go_wp2_with fail
    refine bodyPost_ret (v := .tuple #[.agg #[.int .i64 lo, .int .i64 hi], .int .i64 0]) (by simp [results, Try.results123, go_sem, hc]) rfl ⟨rfl, ?_⟩
    exact ((((((Below.refl _ _).alloc (Nat.le_refl _) _).alloc (by simp) _).trans (hb.mono (by simp; omega))).setCell (by simp) _).setCell (by simp) _)
  · have k : fit lo hi = ⟨0, 0, 4⟩ := if_neg h1
    rw [k]
    have c1 := fun w => check_bad lo hi h1 w
    clear h1 k
    go_enter Try.func123, Try.ntmps123
    go_wp2_with fail
    refine (c1 _).mono ?_
    rintro e w1 ⟨rfl, hb⟩
    obtain ⟨hc, hf⟩ := bcell hb
    go_wp2_with fail
    refine bodyPost_ret (v := .tuple #[.agg #[.int .i64 0, .int .i64 0], .int .i64 4]) (by simp [results, Try.results123, go_sem, hc]) rfl ⟨rfl, ?_⟩
    exact ((((((Below.refl _ _).alloc (Nat.le_refl _) _).alloc (by simp) _).trans (hb.mono (by simp; omega))).setCell (by simp) _).setCell (by simp) _)

def Boxed2 (W : World) (B : Nat) (t : TypeId) (u v : Value) : Prop := W.heap[B]? = some (.cells #[u, v] t (0, 0))
theorem Boxed2.lt {W : World} {B : Nat} {t : TypeId} {u v : Value} (h : Boxed2 W B t u v) : B < W.heap.size := (Array.getElem?_eq_some_iff.1 h).1
theorem Boxed2.c0 {W : World} {B : Nat} {t : TypeId} {u v : Value} (h : Boxed2 W B t u v) : W.cell? ⟨B, 0, none⟩ = some u := by simp [World.cell?, show W.heap[B]? = _ from h]
theorem Boxed2.c1 {W : World} {B : Nat} {t : TypeId} {u v : Value} (h : Boxed2 W B t u v) : W.cell? ⟨B, 1, none⟩ = some v := by simp [World.cell?, show W.heap[B]? = _ from h]
theorem Boxed2.f0 {W : World} {B : Nat} {t : TypeId} {u v : Value} (h : Boxed2 W B t u v) : W.frozen? ⟨B, 0, none⟩ = false := by simp [World.frozen?, show W.heap[B]? = _ from h]
theorem Boxed2.f1 {W : World} {B : Nat} {t : TypeId} {u v : Value} (h : Boxed2 W B t u v) : W.frozen? ⟨B, 1, none⟩ = false := by simp [World.frozen?, show W.heap[B]? = _ from h]
theorem Boxed2.new (W : World) (t : TypeId) (u v : Value) : Boxed2 (W.alloc (.cells #[u, v] t)) W.heap.size t u v := World.alloc_heap_new W _
def bmeetS (a b c d : Int) : R3 := if vB a b = true ∧ vB c d = true then (if min b d < max a c then ⟨0, 0, 5⟩ else ⟨max a c, min b d, 0⟩) else ⟨0, 0, 2⟩
def growS (a b n : Int) : R3 := if vB a b = true then (if 0 ≤ n ∧ n ≤ 1073741824 then fit (a - n) (b + n) else ⟨0, 0, 3⟩) else ⟨0, 0, 2⟩

set_option maxHeartbeats 1000000 in
theorem badd_any (a b c d : Int) (w : World) :
    Calls Try.prog 66 #[.agg #[.int .i64 a, .int .i64 b], .agg #[.int .i64 c, .int .i64 d]] w fun e w' => e = .returned (.tuple #[.agg #[.int .i64 (addS a b c d).lo, .int .i64 (addS a b c d).hi], .int .i64 (addS a b c d).e]) ∧ Below w.heap.size w w' := by
  by_cases h : vB a b = true ∧ vB c d = true
  · have k : addS a b c d = fit (a + c) (b + d) := if_pos h
    rw [k]
    have c1 := fun w => checkBoth_ok a b c d h.1 h.2 w
    have c2 := fun w => fitting_any (a + c) (b + d) w
    generalize fit (a + c) (b + d) = r at c2 ⊢
    obtain ⟨h1, h2⟩ := h
    obtain ⟨h3, h4, h5⟩ := (vB_iff a b).1 h1
    obtain ⟨h6, h7, h8⟩ := (vB_iff c d).1 h2
    clear h1 h2 k
    go_enter Try.func66, Try.ntmps66
    go_wp2_with fail
    refine (c1 _).mono ?_
    rintro e w1 ⟨rfl, hb⟩
    obtain ⟨hc, hf⟩ := bcell hb
    go_wp2_with fail
    refine (c2 _).mono ?_
    rintro e w2 ⟨rfl, hb2⟩
    replace hb := hb.trans (hb2.mono hb.size)
    clear hc hf hb2
    obtain ⟨hc, hf⟩ := bcell hb
    go_wp2_with fail
    refine bodyPost_ret (v := .tuple #[.agg #[.int .i64 r.lo, .int .i64 r.hi], .int .i64 r.e]) (by simp [results, Try.results66, go_sem, hc]) rfl ⟨rfl, ?_⟩
    exact (((((((Below.refl _ _).alloc (Nat.le_refl _) _).alloc (by simp) _).alloc (by simp; omega) _).trans (hb.mono (by simp; omega)))).setCell (by simp; omega) _).setCell (by simp; omega) _
  · have k : addS a b c d = ⟨0, 0, 2⟩ := if_neg h
    rw [k]
    have c1 := fun w => checkBoth_bad a b c d h w
    clear h k
    go_enter Try.func66, Try.ntmps66
    go_wp2_with fail
    refine (c1 _).mono ?_
    rintro e w1 ⟨rfl, hb⟩
    obtain ⟨hc, hf⟩ := bcell hb
    go_wp2_with fail
    refine bodyPost_ret (v := .tuple #[.agg #[.int .i64 0, .int .i64 0], .int .i64 2]) (by simp [results, Try.results66, go_sem, hc]) rfl ⟨rfl, ?_⟩
    exact (((((((Below.refl _ _).alloc (Nat.le_refl _) _).alloc (by simp) _).alloc (by simp; omega) _).trans (hb.mono (by simp; omega)))).setCell (by simp; omega) _).setCell (by simp; omega) _

set_option maxHeartbeats 1000000 in
theorem bsub_any (a b c d : Int) (w : World) :
    Calls Try.prog 65 #[.agg #[.int .i64 a, .int .i64 b], .agg #[.int .i64 c, .int .i64 d]] w fun e w' => e = .returned (.tuple #[.agg #[.int .i64 (subS a b c d).lo, .int .i64 (subS a b c d).hi], .int .i64 (subS a b c d).e]) ∧ Below w.heap.size w w' := by
  by_cases h : vB a b = true ∧ vB c d = true
  · have k : subS a b c d = fit (a - d) (b - c) := if_pos h
    rw [k]
    have c1 := fun w => checkBoth_ok a b c d h.1 h.2 w
    have c2 := fun w => fitting_any (a - d) (b - c) w
    generalize fit (a - d) (b - c) = r at c2 ⊢
    obtain ⟨h1, h2⟩ := h
    obtain ⟨h3, h4, h5⟩ := (vB_iff a b).1 h1
    obtain ⟨h6, h7, h8⟩ := (vB_iff c d).1 h2
    clear h1 h2 k
    go_enter Try.func65, Try.ntmps65
    go_wp2_with fail
    refine (c1 _).mono ?_
    rintro e w1 ⟨rfl, hb⟩
    obtain ⟨hc, hf⟩ := bcell hb
    go_wp2_with fail
    refine (c2 _).mono ?_
    rintro e w2 ⟨rfl, hb2⟩
    replace hb := hb.trans (hb2.mono hb.size)
    clear hc hf hb2
    obtain ⟨hc, hf⟩ := bcell hb
    go_wp2_with fail
    refine bodyPost_ret (v := .tuple #[.agg #[.int .i64 r.lo, .int .i64 r.hi], .int .i64 r.e]) (by simp [results, Try.results65, go_sem, hc]) rfl ⟨rfl, ?_⟩
    exact (((((((Below.refl _ _).alloc (Nat.le_refl _) _).alloc (by simp) _).alloc (by simp; omega) _).trans (hb.mono (by simp; omega)))).setCell (by simp; omega) _).setCell (by simp; omega) _
  · have k : subS a b c d = ⟨0, 0, 2⟩ := if_neg h
    rw [k]
    have c1 := fun w => checkBoth_bad a b c d h w
    clear h k
    go_enter Try.func65, Try.ntmps65
    go_wp2_with fail
    refine (c1 _).mono ?_
    rintro e w1 ⟨rfl, hb⟩
    obtain ⟨hc, hf⟩ := bcell hb
    go_wp2_with fail
    refine bodyPost_ret (v := .tuple #[.agg #[.int .i64 0, .int .i64 0], .int .i64 2]) (by simp [results, Try.results65, go_sem, hc]) rfl ⟨rfl, ?_⟩
    exact (((((((Below.refl _ _).alloc (Nat.le_refl _) _).alloc (by simp) _).alloc (by simp; omega) _).trans (hb.mono (by simp; omega)))).setCell (by simp; omega) _).setCell (by simp; omega) _

set_option maxHeartbeats 1000000 in
theorem bgrow_any (a b n : Int) (w : World) :
    Calls Try.prog 67 #[.agg #[.int .i64 a, .int .i64 b], .int .i64 n] w fun e w' => e = .returned (.tuple #[.agg #[.int .i64 (growS a b n).lo, .int .i64 (growS a b n).hi], .int .i64 (growS a b n).e]) ∧ Below w.heap.size w w' := by
  by_cases h : vB a b = true
  · have c1 := fun w => check_ok a b h w
    obtain ⟨h3, h4, h5⟩ := (vB_iff a b).1 h
    by_cases hn : 0 ≤ n ∧ n ≤ 1073741824
    · have k : growS a b n = fit (a - n) (b + n) := by unfold growS; rw [if_pos h, if_pos hn]
      rw [k]
      have c2 := fun w => fitting_any (a - n) (b + n) w
      generalize fit (a - n) (b + n) = r at c2 ⊢
      obtain ⟨hn1, hn2⟩ := hn
      clear h k
      go_enter Try.func67, Try.ntmps67
      go_wp2_with fail
      refine (c1 _).mono ?_
      rintro e w1 ⟨rfl, hb⟩
      obtain ⟨hc, hf⟩ := bcell hb
      go_wp2_with fail
      refine (c2 _).mono ?_
      rintro e w2 ⟨rfl, hb2⟩
      replace hb := hb.trans (hb2.mono hb.size)
      clear hc hf hb2
      obtain ⟨hc, hf⟩ := bcell hb
      go_wp2_with fail
      refine bodyPost_ret (v := .tuple #[.agg #[.int .i64 r.lo, .int .i64 r.hi], .int .i64 r.e]) (by simp [results, Try.results67, go_sem, hc]) rfl ⟨rfl, ?_⟩
      exact ((((((Below.refl _ _).alloc (Nat.le_refl _) _).alloc (by simp) _).trans (hb.mono (by simp; omega)))).setCell (by simp) _).setCell (by simp) _
    · have k : growS a b n = ⟨0, 0, 3⟩ := by unfold growS; rw [if_pos h, if_neg hn]
      rw [k]
      have hn' : n < 0 ∨ (0 ≤ n ∧ 1073741824 < n) := by omega
      clear h k hn
      rcases hn' with hn | ⟨hn, hn'⟩
      all_goals
        go_enter Try.func67, Try.ntmps67
        go_wp2_with fail
        refine (c1 _).mono ?_
        rintro e w1 ⟨rfl, hb⟩
        obtain ⟨hc, hf⟩ := bcell hb
        go_wp2_with fail
        refine bodyPost_ret (v := .tuple #[.agg #[.int .i64 0, .int .i64 0], .int .i64 3]) (by simp [results, Try.results67, go_sem, hc]) rfl ⟨rfl, ?_⟩
        exact ((((((Below.refl _ _).alloc (Nat.le_refl _) _).alloc (by simp) _).trans (hb.mono (by simp; omega)))).setCell (by simp) _).setCell (by simp) _
  · have k : growS a b n = ⟨0, 0, 2⟩ := if_neg h
    rw [k]
    have c1 := fun w => check_bad a b h w
    clear h k
    go_enter Try.func67, Try.ntmps67
    go_wp2_with fail
    refine (c1 _).mono ?_
    rintro e w1 ⟨rfl, hb⟩
    obtain ⟨hc, hf⟩ := bcell hb
    go_wp2_with fail
    refine bodyPost_ret (v := .tuple #[.agg #[.int .i64 0, .int .i64 0], .int .i64 2]) (by simp [results, Try.results67, go_sem, hc]) rfl ⟨rfl, ?_⟩
    exact ((((((Below.refl _ _).alloc (Nat.le_refl _) _).alloc (by simp) _).trans (hb.mono (by simp; omega)))).setCell (by simp) _).setCell (by simp) _
set_option maxHeartbeats 1000000 in
theorem bmeet_any (a b c d : Int) (w : World) :
    Calls Try.prog 68 #[.agg #[.int .i64 a, .int .i64 b], .agg #[.int .i64 c, .int .i64 d]] w fun e w' => e = .returned (.tuple #[.agg #[.int .i64 (bmeetS a b c d).lo, .int .i64 (bmeetS a b c d).hi], .int .i64 (bmeetS a b c d).e]) ∧ Below w.heap.size w w' := by
  obtain ⟨A, hA⟩ : ∃ A, A = ((w.alloc (.cells #[.int .i64 a, .int .i64 b] 23)).alloc (.cells #[.int .i64 c, .int .i64 d] 23)).alloc (.cells #[.int .i64 0, .int .i64 0] 23) := ⟨_, rfl⟩
  have HBA := Lib.hid (show Below w.heap.size w A by rw [hA]; exact (((Below.refl _ _).alloc (Nat.le_refl _) _).alloc (by simp) _).alloc (by simp; omega) _)
  have hzA : A.heap.size = w.heap.size + 3 := by rw [hA]; simp
  have k0 : A.cell? ⟨w.heap.size, 0, none⟩ = some (.int .i64 a) := by rw [hA]; simp [go_sem]
  have k1 : A.cell? ⟨w.heap.size, 1, none⟩ = some (.int .i64 b) := by rw [hA]; simp [go_sem]
  have k2 : A.cell? ⟨w.heap.size + 1, 0, none⟩ = some (.int .i64 c) := by rw [hA]; simp [go_sem]
  have k3 : A.cell? ⟨w.heap.size + 1, 1, none⟩ = some (.int .i64 d) := by rw [hA]; simp [go_sem]
  have kr : Bx2 A (w.heap.size + 2) (.int .i64 0) (.int .i64 0) := by
    rw [hA]
    have q := Bx2.new ((w.alloc (.cells #[.int .i64 a, .int .i64 b] 23)).alloc (.cells #[.int .i64 c, .int .i64 d] 23)) (.int .i64 0) (.int .i64 0)
    simpa using q
  have HKR := Lib.hid kr
  have KK := Lib.hid (show ∀ W, Below A.heap.size A W → W.cell? ⟨w.heap.size, 0, none⟩ = some (.int .i64 a) ∧ W.cell? ⟨w.heap.size, 1, none⟩ = some (.int .i64 b) ∧ W.cell? ⟨w.heap.size + 1, 0, none⟩ = some (.int .i64 c) ∧ W.cell? ⟨w.heap.size + 1, 1, none⟩ = some (.int .i64 d) from fun W h => ⟨(h.cell (p := ⟨w.heap.size, 0, none⟩) (by show w.heap.size < A.heap.size; omega)).trans k0, (h.cell (p := ⟨w.heap.size, 1, none⟩) (by show w.heap.size < A.heap.size; omega)).trans k1, (h.cell (p := ⟨w.heap.size + 1, 0, none⟩) (by show w.heap.size + 1 < A.heap.size; omega)).trans k2, (h.cell (p := ⟨w.heap.size + 1, 1, none⟩) (by show w.heap.size + 1 < A.heap.size; omega)).trans k3⟩)
  have HEND := Lib.hid (show ∀ W v0 v1, Below A.heap.size A W → Below w.heap.size w ((W.setCell ⟨w.heap.size + 2, 0, none⟩ v0).setCell ⟨w.heap.size + 2, 1, none⟩ v1) from fun W v0 v1 h => ((HBA.out.trans (h.mono HBA.out.size)).setCell (p := ⟨w.heap.size + 2, 0, none⟩) (by show w.heap.size ≤ w.heap.size + 2; omega) _).setCell (p := ⟨w.heap.size + 2, 1, none⟩) (by show w.heap.size ≤ w.heap.size + 2; omega) _)
  clear kr hzA
  by_cases h : vB a b = true ∧ vB c d = true
  · have K := Lib.hid (show bmeetS a b c d = (if min b d < max a c then ⟨0, 0, 5⟩ else ⟨max a c, min b d, 0⟩) from if_pos h)
    have c1 := fun w => checkBoth_ok a b c d h.1 h.2 w
    clear h
    generalize bmeetS a b c d = q at *
    go_enter Try.func68, Try.ntmps68
    go_upto_region 1 with fail
    rw [← hA]
    clear hA
    go_wp2_with fail
    refine (c1 _).mono ?_
    rintro e w1 ⟨rfl, hb⟩
    have HB1 := Lib.hid hb
    obtain ⟨k0, k1, k2, k3⟩ := KK.out _ hb
    clear hb c1
    go_upto_region 5 with fail
    obtain ⟨V, hV⟩ : ∃ V, V = w1.alloc (.cells #[.int .i64 (max a c), .int .i64 (min b d)] 23) := ⟨_, rfl⟩
    try rw [← hV]
    have hBV : Below w1.heap.size w1 V := by rw [hV]; exact (Below.refl _ _).alloc (Nat.le_refl _) _
    have HV := Lib.hid (HB1.out.trans (hBV.mono HB1.out.size))
    have kx : Bx2 V w1.heap.size (.int .i64 (max a c)) (.int .i64 (min b d)) := by rw [hV]; exact Bx2.new _ _ _
    clear hV hBV
    generalize max a c = M at *
    generalize min b d = N at *
    have d0 := kx.c0
    have d1 := kx.c1
    have kr := HKR.out.keep HV.out
    have r0 := kr.c0
    have r1 := kr.c1
    have f0 := kr.f0 0
    have f1 := kr.f0 1
    clear kx kr k0 k1 k2 k3
    by_cases hm : N < M
    · have hq : q = ⟨0, 0, 5⟩ := by rw [K.out, if_pos hm]
      subst hq
      go_wp2_with fail
      exact bodyPost_ret (v := .tuple #[.agg #[.int .i64 0, .int .i64 0], .int .i64 5]) (by simp [results, Try.results68, go_sem, r0, r1]) rfl ⟨rfl, HEND.out _ _ _ HV.out⟩
    · have hq : q = ⟨M, N, 0⟩ := by rw [K.out, if_neg hm]
      subst hq
      go_wp2_with fail
      exact bodyPost_ret (v := .tuple #[.agg #[.int .i64 M, .int .i64 N], .int .i64 0]) (by simp [results, Try.results68, go_sem, r0, r1]) rfl ⟨rfl, HEND.out _ _ _ HV.out⟩
  · have k : bmeetS a b c d = ⟨0, 0, 2⟩ := if_neg h
    rw [k]
    have c1 := fun w => checkBoth_bad a b c d h w
    clear h k
    go_enter Try.func68, Try.ntmps68
    go_upto_region 1 with fail
    rw [← hA]
    clear hA
    go_wp2_with fail
    refine (c1 _).mono ?_
    rintro e w1 ⟨rfl, hb⟩
    have HB1 := Lib.hid hb
    have kr := HKR.out.keep hb
    have r0 := kr.c0
    have r1 := kr.c1
    have f0 := kr.f0 0
    have f1 := kr.f0 1
    clear hb c1 kr
    go_wp2_with fail
    exact bodyPost_ret (v := .tuple #[.agg #[.int .i64 0, .int .i64 0], .int .i64 2]) (by simp [results, Try.results68, go_sem, r0, r1]) rfl ⟨rfl, HEND.out _ _ _ HB1.out⟩
end Go.Proofs.Ytcchmjbedppfnaa

/-
  Layer 1 in this seat: what is checked of spans, boxes and answers; Sub, In, All, Any.
-/
import Derived.Test.YthegcbpmammokaaProg
import Derived.BigQuiet
import Derived.Deep.QuietTactic
import Derived.Deep.RegionHeld3
import Derived.Lib.Hide
import Derived.Lib.MinMax
import Derived.LoopIn
import Derived.LoopNIn
import Derived.Maps.AppendAt
import Derived.OwnWalkIn
import Derived.RangeFuncBound
import Derived.RangeFuncBox
import Derived.RangeFuncCalls
import Derived.RangeFuncLeaves
import Derived.RangeFuncNested
import Derived.TacticsInMore
import Derived.WalkKit
import Derived.WalkLawsBesides
import Derived.WalkSmall
import Derived.WalkSpells
import Derived.IntWalk
import Derived.Lib.MinMax
namespace Go.Proofs.Ythegcbpmammokaa
open Go.RowKit
set_option linter.unusedSimpArgs false
theorem bcell {W w1 : World} (hb : Below W.heap.size W w1) : (∀ b o, b < W.heap.size → w1.cell? ⟨b, o, none⟩ = W.cell? ⟨b, o, none⟩) ∧ (∀ b o, b < W.heap.size → w1.frozen? ⟨b, o, none⟩ = W.frozen? ⟨b, o, none⟩) :=
  ⟨fun b o h => hb.cell (p := ⟨b, o, none⟩) h, fun b o h => hb.frozen (p := ⟨b, o, none⟩) h⟩
def vB (lo hi : Int) : Bool := decide (lo ≤ hi) && (decide (-1073741824 ≤ lo) && decide (hi ≤ 1073741824))
theorem vB_iff (lo hi : Int) : vB lo hi = true ↔ lo ≤ hi ∧ -1073741824 ≤ lo ∧ hi ≤ 1073741824 := by simp [vB]
theorem ret_int {k : IntKind} {a b : Int} (h : a = b) : Ending.returned (.int k a) = .returned (.int k b) := by rw [h]
def chk (lo hi : Int) : Int := if vB lo hi = true then 0 else 2
theorem chk_ok {lo hi : Int} (h : vB lo hi = true) : chk lo hi = 0 := if_pos h
theorem chk_bad {lo hi : Int} (h : ¬ vB lo hi = true) : chk lo hi = 2 := if_neg h
set_option maxHeartbeats 400000 in
theorem check_ok (lo hi : Int) (h : vB lo hi = true) (w : World) :
    Calls Try.prog 48 #[.agg #[.int .i64 lo, .int .i64 hi]] w fun e w' => e = .returned (.int .i64 0) ∧ Below w.heap.size w w' := by
  obtain ⟨h1, h2, h3⟩ := (vB_iff lo hi).1 h
  go_enter Try.func48, Try.ntmps48
  go_wp2
  all_goals
    go_ret
    exact ⟨rfl, (Below.refl _ _).alloc (Nat.le_refl _) _⟩
set_option maxHeartbeats 400000 in
theorem check_bad (lo hi : Int) (h : ¬ vB lo hi = true) (w : World) :
    Calls Try.prog 48 #[.agg #[.int .i64 lo, .int .i64 hi]] w fun e w' => e = .returned (.int .i64 2) ∧ Below w.heap.size w w' := by
  rw [vB_iff] at h
  go_enter Try.func48, Try.ntmps48
  go_wp2
  all_goals
    go_ret
    exact ⟨by first | rfl | (exfalso; omega), (Below.refl _ _).alloc (Nat.le_refl _) _⟩
set_option maxHeartbeats 400000 in
theorem checkBoth_ok (a b c d : Int) (h1 : vB a b = true) (h2 : vB c d = true) (w : World) :
    Calls Try.prog 30 #[.agg #[.int .i64 a, .int .i64 b], .agg #[.int .i64 c, .int .i64 d]] w fun e w' => e = .returned (.int .i64 0) ∧ Below w.heap.size w w' := by
  have c1 := fun w => check_ok a b h1 w
  have c2 := fun w => check_ok c d h2 w
  go_enter Try.func30, Try.ntmps30
  go_wp2_with fail
  refine (c1 _).mono ?_
  rintro e w1 ⟨rfl, hb⟩
  obtain ⟨hc, hf⟩ := bcell hb
  go_wp2_with fail
  refine (c2 _).mono ?_
  rintro e w2 ⟨rfl, hb2⟩
  go_wp2_with fail
  go_ret
  exact ⟨rfl, ((((Below.refl _ _).alloc (Nat.le_refl _) _).alloc (by simp) _).trans (hb.mono (by simp; omega))).trans (hb2.mono (by have := hb.size; simp at this; omega))⟩
set_option maxHeartbeats 400000 in
theorem checkBoth_bad (a b c d : Int) (h : ¬ (vB a b = true ∧ vB c d = true)) (w : World) :
    Calls Try.prog 30 #[.agg #[.int .i64 a, .int .i64 b], .agg #[.int .i64 c, .int .i64 d]] w fun e w' => e = .returned (.int .i64 2) ∧ Below w.heap.size w w' := by
  by_cases h1 : vB a b = true
  · have c1 := fun w => check_ok a b h1 w
    have c2 := fun w => check_bad c d (fun h2 => h ⟨h1, h2⟩) w
    clear h
    go_enter Try.func30, Try.ntmps30
    go_wp2_with fail
    refine (c1 _).mono ?_
    rintro e w1 ⟨rfl, hb⟩
    obtain ⟨hc, hf⟩ := bcell hb
    go_wp2_with fail
    refine (c2 _).mono ?_
    rintro e w2 ⟨rfl, hb2⟩
    go_wp2_with fail
    go_ret
    exact ⟨rfl, ((((Below.refl _ _).alloc (Nat.le_refl _) _).alloc (by simp) _).trans (hb.mono (by simp; omega))).trans (hb2.mono (by have := hb.size; simp at this; omega))⟩
  · have c1 := fun w => check_bad a b h1 w
    clear h
    go_enter Try.func30, Try.ntmps30
    go_wp2_with fail
    refine (c1 _).mono ?_
    rintro e w1 ⟨rfl, hb⟩
    go_wp2_with fail
    go_ret
    exact ⟨rfl, (((Below.refl _ _).alloc (Nat.le_refl _) _).alloc (by simp) _).trans (hb.mono (by simp; omega))⟩
theorem foldl_take (f : Int → Int → Int) (a : Int) (l : List Int) (k : Nat) (h : k < l.length) : (l.take (k + 1)).foldl f a = f ((l.take k).foldl f a) (l[k]?.getD 0) := by
  rw [List.take_succ_eq_append_getElem h, List.foldl_append]; simp [h]
/-- a span and an error -/
structure R3 where
  lo : Int
  hi : Int
  e : Int
def fit (lo hi : Int) : R3 := if vB lo hi = true then ⟨lo, hi, 0⟩ else ⟨0, 0, 4⟩
def subS (a b c d : Int) : R3 := if vB a b = true ∧ vB c d = true then fit (a - d) (b - c) else ⟨0, 0, 2⟩
set_option maxHeartbeats 400000 in
theorem fitting_any (lo hi : Int) (w : World) :
    Calls Try.prog 44 #[.agg #[.int .i64 lo, .int .i64 hi]] w fun e w' => e = .returned (.tuple #[.agg #[.int .i64 (fit lo hi).lo, .int .i64 (fit lo hi).hi], .int .i64 (fit lo hi).e]) ∧ Below w.heap.size w w' := by
  by_cases h1 : vB lo hi = true
  · have k : fit lo hi = ⟨lo, hi, 0⟩ := if_pos h1
    rw [k]
    have c1 := fun w => check_ok lo hi h1 w
    clear h1 k
    go_enter Try.func44, Try.ntmps44
    go_wp2_with fail
    refine (c1 _).mono ?_
    rintro e w1 ⟨rfl, hb⟩
    obtain ⟨hc, hf⟩ := bcell hb
    go_wp2_with fail
    refine bodyPost_ret (v := .tuple #[.agg #[.int .i64 lo, .int .i64 hi], .int .i64 0]) (by simp [results, Try.results44, go_sem, hc]) rfl ⟨rfl, ?_⟩
    exact ((((((Below.refl _ _).alloc (Nat.le_refl _) _).alloc (by simp) _).trans (hb.mono (by simp; omega))).setCell (by simp) _).setCell (by simp) _)
  · have k : fit lo hi = ⟨0, 0, 4⟩ := if_neg h1
    rw [k]
    have c1 := fun w => check_bad lo hi h1 w
    clear h1 k
    go_enter Try.func44, Try.ntmps44
    go_wp2_with fail
    refine (c1 _).mono ?_
    rintro e w1 ⟨rfl, hb⟩
    obtain ⟨hc, hf⟩ := bcell hb
    go_wp2_with fail
    refine bodyPost_ret (v := .tuple #[.agg #[.int .i64 0, .int .i64 0], .int .i64 4]) (by simp [results, Try.results44, go_sem, hc]) rfl ⟨rfl, ?_⟩
    exact ((((((Below.refl _ _).alloc (Nat.le_refl _) _).alloc (by simp) _).trans (hb.mono (by simp; omega))).setCell (by simp) _).setCell (by simp) _)
theorem chainB {A W W' : World} (hb : Below W.heap.size W W') (h : Below A.heap.size A W) : Below A.heap.size A W' := h.trans (hb.mono h.size)
theorem ret_bool {a b : Bool} (h : a = b) : Ending.returned (.bool a) = .returned (.bool b) := by rw [h]
set_option maxHeartbeats 400000 in
theorem within_any (x lo hi : Int) (w : World) :
    Calls Try.prog 54 #[.int .i64 x, .int .i64 lo, .int .i64 hi] w fun e w' => e = .returned (.bool (decide (lo ≤ x) && decide (x ≤ hi))) ∧ w' = w := by
  go_enter Try.func54, Try.ntmps54
  go_wp2
  all_goals
    go_ret
    exact ⟨ret_bool (by simp <;> omega), rfl⟩
set_option maxHeartbeats 400000 in
theorem valid_yes (a b : Int) (h : vB a b = true) (w : World) :
    Calls Try.prog 53 #[.agg #[.int .i64 a, .int .i64 b]] w fun e w' => e = .returned (.bool true) ∧ Below w.heap.size w w' := by
  obtain ⟨h1, h2, h3⟩ := (vB_iff a b).1 h
  clear h
  go_enter Try.func53, Try.ntmps53
  go_wp2
  all_goals
    go_ret
    exact ⟨ret_bool (by first | rfl | (simp <;> omega)), (Below.refl _ _).alloc (Nat.le_refl _) _⟩
set_option maxHeartbeats 400000 in
theorem valid_no (a b : Int) (h : ¬ vB a b = true) (w : World) :
    Calls Try.prog 53 #[.agg #[.int .i64 a, .int .i64 b]] w fun e w' => e = .returned (.bool false) ∧ Below w.heap.size w w' := by
  rw [vB_iff] at h
  go_enter Try.func53, Try.ntmps53
  go_wp2
  all_goals
    go_ret
    exact ⟨ret_bool (by first | rfl | (simp <;> omega)), (Below.refl _ _).alloc (Nat.le_refl _) _⟩
/-- an answer and an error -/
structure A2 where
  v : Int
  e : Int
def inS (a b c d : Int) : A2 := if vB a b = true ∧ vB c d = true then (if c ≤ a ∧ b ≤ d then ⟨2, 0⟩ else if b < c ∨ d < a then ⟨0, 0⟩ else ⟨1, 0⟩) else ⟨0, 2⟩
set_option maxHeartbeats 1000000 in
theorem in_any (a b c d : Int) (w : World) :
    Calls Try.prog 37 #[.agg #[.int .i64 a, .int .i64 b], .agg #[.int .i64 c, .int .i64 d]] w fun e w' => e = .returned (.tuple #[.int .i64 (inS a b c d).v, .int .i64 (inS a b c d).e]) ∧ Below w.heap.size w w' := by
  by_cases h : vB a b = true ∧ vB c d = true
  · have k : inS a b c d = (if c ≤ a ∧ b ≤ d then ⟨2, 0⟩ else if b < c ∨ d < a then ⟨0, 0⟩ else ⟨1, 0⟩) := if_pos h
    have K := Lib.hid k
    have c1 := fun w => checkBoth_ok a b c d h.1 h.2 w
    clear h k
    go_enter Try.func37, Try.ntmps37
    go_wp2_with fail
    refine (c1 _).mono ?_
    rintro e w1 ⟨rfl, hb⟩
    obtain ⟨hc, hf⟩ := bcell hb
    go_wp2_with fail
    all_goals
      go_ret2
      refine ⟨?_, chainB hb (((Below.refl _ _).alloc (Nat.le_refl _) _).alloc (by simp) _)⟩
      rw [K.out]
      repeat' split
      all_goals first | rfl | (exfalso; omega)
  · have k : inS a b c d = ⟨0, 2⟩ := if_neg h
    rw [k]
    have c1 := fun w => checkBoth_bad a b c d h w
    clear h k
    go_enter Try.func37, Try.ntmps37
    go_wp2_with fail
    refine (c1 _).mono ?_
    rintro e w1 ⟨rfl, hb⟩
    go_wp2_with fail
    go_ret2
    exact ⟨rfl, chainB hb (((Below.refl _ _).alloc (Nat.le_refl _) _).alloc (by simp) _)⟩
set_option maxHeartbeats 1000000 in
theorem sub_any (a b c d : Int) (w : World) :
    Calls Try.prog 16 #[.agg #[.int .i64 a, .int .i64 b], .agg #[.int .i64 c, .int .i64 d]] w fun e w' => e = .returned (.tuple #[.agg #[.int .i64 (subS a b c d).lo, .int .i64 (subS a b c d).hi], .int .i64 (subS a b c d).e]) ∧ Below w.heap.size w w' := by
  by_cases h : vB a b = true ∧ vB c d = true
  · have k : subS a b c d = fit (a - d) (b - c) := if_pos h
    rw [k]
    have c1 := fun w => checkBoth_ok a b c d h.1 h.2 w
    have c2 := fun w => fitting_any (a - d) (b - c) w
    generalize fit (a - d) (b - c) = r at c2 ⊢
    obtain ⟨h1, h2⟩ := h
    obtain ⟨h3, h4, h5⟩ := (vB_iff a b).1 h1
    obtain ⟨h6, h7, h8⟩ := (vB_iff c d).1 h2
    clear h1 h2 k
    go_enter Try.func16, Try.ntmps16
    go_wp2_with fail
    refine (c1 _).mono ?_
    rintro e w1 ⟨rfl, hb⟩
    obtain ⟨hc, hf⟩ := bcell hb
    go_wp2_with fail
    refine (c2 _).mono ?_
    rintro e w2 ⟨rfl, hb2⟩
    replace hb := hb.trans (hb2.mono hb.size)
    clear hc hf hb2
    obtain ⟨hc, hf⟩ := bcell hb
    go_wp2_with fail
    refine bodyPost_ret (v := .tuple #[.agg #[.int .i64 r.lo, .int .i64 r.hi], .int .i64 r.e]) (by simp [results, Try.results16, go_sem, hc]) rfl ⟨rfl, ?_⟩
    exact (((((((Below.refl _ _).alloc (Nat.le_refl _) _).alloc (by simp) _).alloc (by simp; omega) _).trans (hb.mono (by simp; omega)))).setCell (by simp; omega) _).setCell (by simp; omega) _
  · have k : subS a b c d = ⟨0, 0, 2⟩ := if_neg h
    rw [k]
    have c1 := fun w => checkBoth_bad a b c d h w
    clear h k
    go_enter Try.func16, Try.ntmps16
    go_wp2_with fail
    refine (c1 _).mono ?_
    rintro e w1 ⟨rfl, hb⟩
    obtain ⟨hc, hf⟩ := bcell hb
    go_wp2_with fail
    refine bodyPost_ret (v := .tuple #[.agg #[.int .i64 0, .int .i64 0], .int .i64 2]) (by simp [results, Try.results16, go_sem, hc]) rfl ⟨rfl, ?_⟩
    exact (((((((Below.refl _ _).alloc (Nat.le_refl _) _).alloc (by simp) _).alloc (by simp; omega) _).trans (hb.mono (by simp; omega)))).setCell (by simp; omega) _).setCell (by simp; omega) _
def ansE (x : Int) : Int := if 0 ≤ x ∧ x ≤ 2 then 0 else 2
set_option maxHeartbeats 400000 in
theorem checkAnswer_any (x : Int) (w : World) :
    Calls Try.prog 60 #[.int .i64 x] w fun e w' => e = .returned (.int .i64 (ansE x)) ∧ w' = w := by
  by_cases h : 0 ≤ x ∧ x ≤ 2
  · rw [show ansE x = 0 from if_pos h]
    obtain ⟨h1, h2⟩ := h
    go_enter Try.func60, Try.ntmps60
    go_wp2
    go_ret
    exact ⟨rfl, rfl⟩
  · rw [show ansE x = 2 from if_neg h]
    have h' : x < 0 ∨ (0 ≤ x ∧ 2 < x) := by omega
    clear h
    rcases h' with h | ⟨h, h'⟩
    all_goals
      go_enter Try.func60, Try.ntmps60
      go_wp2
      go_ret
      exact ⟨rfl, rfl⟩
/-- a value is a slice of these numbers -/
def SlA (w : World) (v : Value) (zs : List Int) : Prop :=
  (∃ ad cap, v = .slice ad 0 cap ∧ zs = []) ∨ ∃ b off cap, v = .slice (some ⟨b, off, none⟩) zs.length cap ∧ zs.length ≤ 9223372036854775807 ∧ b < w.heap.size ∧ ∀ k, k < zs.length → w.cell? ⟨b, off + k, none⟩ = some (.int .i64 (zs[k]?.getD 0))
def okA (z : Int) : Bool := decide (0 ≤ z ∧ z ≤ 2)
def ansL (zs : List Int) : Int := if 256 < zs.length then 6 else if zs.all okA = true then 0 else 2
theorem all_of_get (zs : List Int) (h : ∀ j, j < zs.length → okA (zs[j]?.getD 0) = true) : zs.all okA = true := by
  rw [List.all_eq_true]
  intro z hz
  obtain ⟨j, hj, rfl⟩ := List.getElem_of_mem hz
  have := h j hj
  rwa [List.getElem?_eq_getElem hj, Option.getD_some] at this
theorem not_all_of_get (zs : List Int) (k : Nat) (hk : k < zs.length) (h : ¬ okA (zs[k]?.getD 0) = true) : ¬ zs.all okA = true := by
  intro ha
  rw [List.all_eq_true] at ha
  refine h ?_
  rw [List.getElem?_eq_getElem hk, Option.getD_some]
  exact ha _ (List.getElem_mem hk)
theorem ansL_many {zs : List Int} (h : 256 < zs.length) : ansL zs = 6 := if_pos h
theorem ansL_bad {zs : List Int} (h : ¬ 256 < zs.length) (k : Nat) (hk : k < zs.length) (hb : ¬ okA (zs[k]?.getD 0) = true) : ansL zs = 2 := by
  unfold ansL; rw [if_neg h, if_neg (not_all_of_get zs k hk hb)]
theorem ansL_ok {zs : List Int} (h : ¬ 256 < zs.length) (ha : ∀ j, j < zs.length → okA (zs[j]?.getD 0) = true) : ansL zs = 0 := by
  unfold ansL; rw [if_neg h, if_pos (all_of_get zs ha)]
theorem okA_iff (z : Int) : okA z = true ↔ 0 ≤ z ∧ z ≤ 2 := by unfold okA; simp
set_option maxHeartbeats 1000000 in
theorem checkAnswers_any (zs : List Int) (v : Value) (w : World) (hv : SlA w v zs) :
    Calls Try.prog 39 #[v] w fun e w' => e = .returned (.int .i64 (ansL zs)) ∧ w' = w := by
  rcases hv with ⟨ad, cap, rfl, rfl⟩ | ⟨b, off, cap, rfl, hmax, hb, hc⟩
  · rw [show ansL [] = 0 from rfl]
    go_enter Try.func39, Try.ntmps39
    go_wp2
    go_loop [11] (fun i => i = .int .i64 0) (fun _ => 0)
    case atStart => rfl
    case round =>
      obtain rfl := hrel
      go_wp2
      go_ret
      exact ⟨rfl, rfl⟩
  · by_cases hm : 256 < zs.length
    · rw [ansL_many hm]
      generalize zs.length = len at hm hmax hc
      clear hc
      go_enter Try.func39, Try.ntmps39
      go_wp2
      go_ret
      exact ⟨rfl, rfl⟩
    · have A0 := Lib.hid (fun k hk hb => ansL_bad (zs := zs) hm k hk hb)
      have A1 := Lib.hid (fun ha => ansL_ok (zs := zs) hm ha)
      generalize ansL zs = r at A0 A1 ⊢
      have HC := Lib.hid hc
      clear hc
      generalize hL : zs.length = len at *
      have HL := Lib.hid hL
      clear hL
      go_enter Try.func39, Try.ntmps39
      go_wp2
      go_loop [11] (fun i => ∃ k : Nat, k ≤ len ∧ i = .int .i64 k ∧ ∀ j, j < k → okA (zs[j]?.getD 0) = true) (fun i => len - (intOf i).toNat)
      case atStart => exact ⟨0, Nat.zero_le _, rfl, fun j hj => absurd hj (Nat.not_lt_zero j)⟩
      case round =>
        obtain ⟨k, hk, rfl, hok⟩ := hrel
        have HO := Lib.hid hok
        clear hok
        by_cases hlt : k < len
        · have hck := HC.out k hlt
          by_cases hz : okA (zs[k]?.getD 0) = true
          · have hz' := (okA_iff _).1 hz
            have HZ := Lib.hid hz
            clear hz
            have c1 := fun w => checkAnswer_any (zs[k]?.getD 0) w
            rw [show ansE (zs[k]?.getD 0) = 0 from if_pos hz'] at c1
            generalize hgz : zs[k]?.getD 0 = z at hck hz' c1
            have HG := Lib.hid hgz
            clear hgz
            go_wp2_with fail
            refine (c1 _).mono ?_
            rintro e w1 ⟨rfl, rfl⟩
            go_wp2_with fail
            refine ⟨⟨k + 1, by omega, rfl, fun j hj => ?_⟩, by simp [intOf]; omega⟩
            rcases Nat.lt_or_ge j k with h | h
            · exact HO.out j h
            · obtain rfl : j = k := by omega
              exact HZ.out
          · have hr := A0.out k hlt hz
            have hz' : ¬ (0 ≤ zs[k]?.getD 0 ∧ zs[k]?.getD 0 ≤ 2) := fun h => hz ((okA_iff _).2 h)
            clear hz
            have c1 := fun w => checkAnswer_any (zs[k]?.getD 0) w
            rw [show ansE (zs[k]?.getD 0) = 2 from if_neg hz'] at c1
            clear hz'
            generalize zs[k]?.getD 0 = z at hck c1
            have HR := Lib.hid hr
            clear hr
            go_wp2_with fail
            refine (c1 _).mono ?_
            rintro e w1 ⟨rfl, rfl⟩
            go_wp2_with fail
            go_ret
            exact ⟨ret_int HR.out.symm, rfl⟩
        · obtain rfl : k = len := by omega
          have hr := A1.out HO.out
          have HR := Lib.hid hr
          clear hr
          go_wp2
          go_ret
          exact ⟨ret_int HR.out.symm, rfl⟩
def allS (zs : List Int) : A2 := if ansL zs = 0 then ⟨zs.foldl min 2, 0⟩ else ⟨0, ansL zs⟩
def anyS (zs : List Int) : A2 := if ansL zs = 0 then ⟨zs.foldl max 0, 0⟩ else ⟨0, ansL zs⟩
theorem ansL_short {zs : List Int} (h : ansL zs = 0) : zs.length ≤ 256 ∧ ∀ k, k < zs.length → 0 ≤ zs[k]?.getD 0 ∧ zs[k]?.getD 0 ≤ 2 := by
  unfold ansL at h
  split at h
  · exact absurd h (by decide)
  · split at h
    · rename_i h1 h2
      refine ⟨by omega, fun k hk => ?_⟩
      rw [List.all_eq_true] at h2
      rw [List.getElem?_eq_getElem hk, Option.getD_some]
      exact (okA_iff _).1 (h2 _ (List.getElem_mem hk))
    · exact absurd h (by decide)
set_option maxHeartbeats 1000000 in
theorem all_any (zs : List Int) (v : Value) (w : World) (hv : SlA w v zs) :
    Calls Try.prog 38 #[v] w fun e w' => e = .returned (.tuple #[.int .i64 (allS zs).v, .int .i64 (allS zs).e]) ∧ w' = w := by
  have c1 := checkAnswers_any zs v w hv
  by_cases hz : ansL zs = 0
  · rw [show allS zs = ⟨zs.foldl min 2, 0⟩ from if_pos hz]
    rw [hz] at c1
    obtain ⟨hlen, hel⟩ := ansL_short hz
    clear hz
    rcases hv with ⟨ad, cap, rfl, rfl⟩ | ⟨b, off, cap, rfl, hmax, hb, hc⟩
    · rw [show ([] : List Int).foldl min 2 = 2 from rfl]
      clear hel hlen
      go_enter Try.func38, Try.ntmps38
      go_wp2_with fail
      refine c1.mono ?_
      rintro e w1 ⟨rfl, rfl⟩
      go_wp2_with fail
      go_loop [5, 15] (fun m i => m = .int .i64 2 ∧ i = .int .i64 0) (fun _ _ => 0)
      case atStart => exact ⟨rfl, rfl⟩
      case round =>
        obtain ⟨rfl, rfl⟩ := hrel
        go_wp2
        go_ret2
        exact ⟨rfl, rfl⟩
    · have HC := Lib.hid hc
      clear hc hel
      generalize hL : zs.length = len at *
      have HL := Lib.hid hL
      clear hL
      go_enter Try.func38, Try.ntmps38
      go_wp2_with fail
      refine c1.mono ?_
      rintro e w1 ⟨rfl, rfl⟩
      clear c1
      go_wp2_with fail
      go_loop [5, 15] (fun m i => ∃ k : Nat, k ≤ len ∧ i = .int .i64 k ∧ m = .int .i64 ((zs.take k).foldl min 2)) (fun _ i => len - (intOf i).toNat)
      case atStart => exact ⟨0, Nat.zero_le _, rfl, rfl⟩
      case round =>
        obtain ⟨k, hk, rfl, rfl⟩ := hrel
        by_cases hlt : k < len
        · have hck := HC.out k hlt
          have hs1 : (zs.take (k + 1)).foldl min 2 = min ((zs.take k).foldl min 2) (zs[k]?.getD 0) := foldl_take _ _ _ _ (by rw [HL.out]; exact hlt)
          have Hs1 := Lib.hid hs1
          clear hs1
          generalize (zs.take k).foldl min 2 = mn at Hs1 ⊢
          generalize zs[k]?.getD 0 = z at hck Hs1
          go_wp2
          all_goals
            refine ⟨⟨k + 1, by omega, rfl, ?_⟩, by simp [intOf]; omega⟩
            rw [Hs1.out]
        · obtain rfl : k = len := by omega
          have e1 : zs.take k = zs := List.take_of_length_le (by rw [HL.out]; omega)
          rw [e1]
          generalize hmn : zs.foldl min 2 = mn
          have Hmn := Lib.hid hmn
          clear hmn
          go_wp2
          go_ret2
          exact ⟨by simp [go_sem]; exact Hmn.out.symm, rfl⟩
  · rw [show allS zs = ⟨0, ansL zs⟩ from if_neg hz]
    clear hv
    generalize ansL zs = r at c1 hz ⊢
    go_enter Try.func38, Try.ntmps38
    go_wp2_with fail
    refine c1.mono ?_
    rintro e w1 ⟨rfl, rfl⟩
    go_wp2_with fail
    go_ret2
    exact ⟨rfl, rfl⟩
set_option maxHeartbeats 1000000 in
theorem any_any (zs : List Int) (v : Value) (w : World) (hv : SlA w v zs) :
    Calls Try.prog 13 #[v] w fun e w' => e = .returned (.tuple #[.int .i64 (anyS zs).v, .int .i64 (anyS zs).e]) ∧ w' = w := by
  have c1 := checkAnswers_any zs v w hv
  by_cases hz : ansL zs = 0
  · rw [show anyS zs = ⟨zs.foldl max 0, 0⟩ from if_pos hz]
    rw [hz] at c1
    obtain ⟨hlen, hel⟩ := ansL_short hz
    clear hz
    rcases hv with ⟨ad, cap, rfl, rfl⟩ | ⟨b, off, cap, rfl, hmax, hb, hc⟩
    · rw [show ([] : List Int).foldl max 0 = 0 from rfl]
      clear hel hlen
      go_enter Try.func13, Try.ntmps13
      go_wp2_with fail
      refine c1.mono ?_
      rintro e w1 ⟨rfl, rfl⟩
      go_wp2_with fail
      go_loop [5, 15] (fun m i => m = .int .i64 0 ∧ i = .int .i64 0) (fun _ _ => 0)
      case atStart => exact ⟨rfl, rfl⟩
      case round =>
        obtain ⟨rfl, rfl⟩ := hrel
        go_wp2
        go_ret2
        exact ⟨rfl, rfl⟩
    · have HC := Lib.hid hc
      clear hc hel
      generalize hL : zs.length = len at *
      have HL := Lib.hid hL
      clear hL
      go_enter Try.func13, Try.ntmps13
      go_wp2_with fail
      refine c1.mono ?_
      rintro e w1 ⟨rfl, rfl⟩
      clear c1
      go_wp2_with fail
      go_loop [5, 15] (fun m i => ∃ k : Nat, k ≤ len ∧ i = .int .i64 k ∧ m = .int .i64 ((zs.take k).foldl max 0)) (fun _ i => len - (intOf i).toNat)
      case atStart => exact ⟨0, Nat.zero_le _, rfl, rfl⟩
      case round =>
        obtain ⟨k, hk, rfl, rfl⟩ := hrel
        by_cases hlt : k < len
        · have hck := HC.out k hlt
          have hs1 : (zs.take (k + 1)).foldl max 0 = max ((zs.take k).foldl max 0) (zs[k]?.getD 0) := foldl_take _ _ _ _ (by rw [HL.out]; exact hlt)
          have Hs1 := Lib.hid hs1
          clear hs1
          generalize (zs.take k).foldl max 0 = mn at Hs1 ⊢
          generalize zs[k]?.getD 0 = z at hck Hs1
          go_wp2
          all_goals
            refine ⟨⟨k + 1, by omega, rfl, ?_⟩, by simp [intOf]; omega⟩
            rw [Hs1.out]
        · obtain rfl : k = len := by omega
          have e1 : zs.take k = zs := List.take_of_length_le (by rw [HL.out]; omega)
          rw [e1]
          generalize hmn : zs.foldl max 0 = mn
          have Hmn := Lib.hid hmn
          clear hmn
          go_wp2
          go_ret2
          exact ⟨by simp [go_sem]; exact Hmn.out.symm, rfl⟩
  · rw [show anyS zs = ⟨0, ansL zs⟩ from if_neg hz]
    clear hv
    generalize ansL zs = r at c1 hz ⊢
    go_enter Try.func13, Try.ntmps13
    go_wp2_with fail
    refine c1.mono ?_
    rintro e w1 ⟨rfl, rfl⟩
    go_wp2_with fail
    go_ret2
    exact ⟨rfl, rfl⟩
theorem SlA.mono {w w' : World} {v : Value} {zs : List Int} (h : SlA w v zs) (hb : Below w.heap.size w w') : SlA w' v zs := by
  rcases h with h | ⟨b, off, cap, rfl, hm, hlt, hc⟩
  · exact .inl h
  · exact .inr ⟨b, off, cap, rfl, hm, Nat.lt_of_lt_of_le hlt hb.size, fun k hk => (hb.cell (p := ⟨b, off + k, none⟩) hlt).trans (hc k hk)⟩
theorem within_yes (x lo hi : Int) (h1 : lo ≤ x) (h2 : x ≤ hi) (w : World) :
    Calls Try.prog 54 #[.int .i64 x, .int .i64 lo, .int .i64 hi] w fun e w' => e = .returned (.bool true) ∧ Below w.heap.size w w' :=
  (within_any x lo hi w).mono fun _ _ ⟨he, hb⟩ => ⟨he.trans (ret_bool (by simp [h1, h2])), hb ▸ Below.refl _ _⟩
theorem within_no (x lo hi : Int) (h : ¬ (lo ≤ x ∧ x ≤ hi)) (w : World) :
    Calls Try.prog 54 #[.int .i64 x, .int .i64 lo, .int .i64 hi] w fun e w' => e = .returned (.bool false) ∧ Below w.heap.size w w' :=
  (within_any x lo hi w).mono fun _ _ ⟨he, hb⟩ => ⟨he.trans (ret_bool (by simp; omega)), hb ▸ Below.refl _ _⟩
theorem check_any (a b : Int) (w : World) :
    Calls Try.prog 48 #[.agg #[.int .i64 a, .int .i64 b]] w fun e w' => e = .returned (.int .i64 (chk a b)) ∧ Below w.heap.size w w' := by
  by_cases h : vB a b = true
  · rw [chk_ok h]; exact check_ok a b h w
  · rw [chk_bad h]; exact check_bad a b h w
/-- a valid box -/
def vX (a b c d : Int) : Bool := vB a b && (vB c d && (decide (-268435456 ≤ a ∧ a ≤ 268435456) && (decide (-268435456 ≤ b ∧ b ≤ 268435456) && (decide (-268435456 ≤ c ∧ c ≤ 268435456) && decide (-268435456 ≤ d ∧ d ≤ 268435456)))))
set_option maxHeartbeats 2000000 in
theorem validBox_any (a b c d : Int) (w : World) :
    Calls Try.prog 26 #[.agg #[.int .i64 a, .int .i64 b, .int .i64 c, .int .i64 d]] w fun e w' => e = .returned (.bool (vX a b c d)) ∧ Below w.heap.size w w' := by
  by_cases h0 : vB a b = true
  rotate_left
  · rw [show vX a b c d = false by simp [vX, h0]]
    have v0 := fun w => valid_no a b h0 w
    clear h0
    go_enter Try.func26, Try.ntmps26
    go_wp2_with fail
    refine (v0 _).mono ?_
    rintro e w1 ⟨rfl, hb⟩
    obtain ⟨hc, hf⟩ := bcell hb
    have k1_00 : w1.cell? ⟨w.heap.size, 0, none⟩ = some (.int .i64 a) := by rw [hc _ _ (by first | omega | (simp; omega) | simp)]; simp [go_sem, *]
    have k1_01 : w1.cell? ⟨w.heap.size, 1, none⟩ = some (.int .i64 b) := by rw [hc _ _ (by first | omega | (simp; omega) | simp)]; simp [go_sem, *]
    have k1_02 : w1.cell? ⟨w.heap.size, 2, none⟩ = some (.int .i64 c) := by rw [hc _ _ (by first | omega | (simp; omega) | simp)]; simp [go_sem, *]
    have k1_03 : w1.cell? ⟨w.heap.size, 3, none⟩ = some (.int .i64 d) := by rw [hc _ _ (by first | omega | (simp; omega) | simp)]; simp [go_sem, *]
    have z1_0 : w.heap.size < w1.heap.size := by have := hb.size; (try simp at this); omega
    have hB1 : Below w.heap.size w w1 := by repeat (first | exact (Below.refl _ _) | refine Below.drew ?_ | refine below_drewN ?_ _ | refine Below.setCell ?_ (by first | omega | (simp; omega) | simp) _ | refine Below.alloc ?_ (by first | omega | (simp; omega) | simp) _ | refine chainB (by assumption) ?_)
    have hs1 : w.heap.size ≤ w1.heap.size := hB1.size
    clear hc hf hb 
    go_wp2_with fail
    go_ret
    exact ⟨rfl, by repeat (first | exact hB1 | refine Below.drew ?_ | refine below_drewN ?_ _ | refine Below.setCell ?_ (by first | omega | (simp; omega) | simp) _ | refine Below.alloc ?_ (by first | omega | (simp; omega) | simp) _ | refine chainB (by assumption) ?_)⟩
  by_cases h1 : vB c d = true
  rotate_left
  · rw [show vX a b c d = false by simp [vX, h0, h1]]
    have v0 := fun w => valid_yes a b h0 w
    have v1 := fun w => valid_no c d h1 w
    clear h0 h1
    go_enter Try.func26, Try.ntmps26
    go_wp2_with fail
    refine (v0 _).mono ?_
    rintro e w1 ⟨rfl, hb⟩
    obtain ⟨hc, hf⟩ := bcell hb
    have k1_00 : w1.cell? ⟨w.heap.size, 0, none⟩ = some (.int .i64 a) := by rw [hc _ _ (by first | omega | (simp; omega) | simp)]; simp [go_sem, *]
    have k1_01 : w1.cell? ⟨w.heap.size, 1, none⟩ = some (.int .i64 b) := by rw [hc _ _ (by first | omega | (simp; omega) | simp)]; simp [go_sem, *]
    have k1_02 : w1.cell? ⟨w.heap.size, 2, none⟩ = some (.int .i64 c) := by rw [hc _ _ (by first | omega | (simp; omega) | simp)]; simp [go_sem, *]
    have k1_03 : w1.cell? ⟨w.heap.size, 3, none⟩ = some (.int .i64 d) := by rw [hc _ _ (by first | omega | (simp; omega) | simp)]; simp [go_sem, *]
    have z1_0 : w.heap.size < w1.heap.size := by have := hb.size; (try simp at this); omega
    have hB1 : Below w.heap.size w w1 := by repeat (first | exact (Below.refl _ _) | refine Below.drew ?_ | refine below_drewN ?_ _ | refine Below.setCell ?_ (by first | omega | (simp; omega) | simp) _ | refine Below.alloc ?_ (by first | omega | (simp; omega) | simp) _ | refine chainB (by assumption) ?_)
    have hs1 : w.heap.size ≤ w1.heap.size := hB1.size
    clear hc hf hb 
    go_wp2_with fail
    refine (v1 _).mono ?_
    rintro e w2 ⟨rfl, hb⟩
    obtain ⟨hc, hf⟩ := bcell hb
    have k2_00 : w2.cell? ⟨w.heap.size, 0, none⟩ = some (.int .i64 a) := by rw [hc _ _ (by first | omega | (simp; omega) | simp)]; simp [go_sem, *]
    have k2_01 : w2.cell? ⟨w.heap.size, 1, none⟩ = some (.int .i64 b) := by rw [hc _ _ (by first | omega | (simp; omega) | simp)]; simp [go_sem, *]
    have k2_02 : w2.cell? ⟨w.heap.size, 2, none⟩ = some (.int .i64 c) := by rw [hc _ _ (by first | omega | (simp; omega) | simp)]; simp [go_sem, *]
    have k2_03 : w2.cell? ⟨w.heap.size, 3, none⟩ = some (.int .i64 d) := by rw [hc _ _ (by first | omega | (simp; omega) | simp)]; simp [go_sem, *]
    have z2_0 : w.heap.size < w2.heap.size := by have := hb.size; (try simp at this); omega
    have hB2 : Below w.heap.size w w2 := by repeat (first | exact hB1 | refine Below.drew ?_ | refine below_drewN ?_ _ | refine Below.setCell ?_ (by first | omega | (simp; omega) | simp) _ | refine Below.alloc ?_ (by first | omega | (simp; omega) | simp) _ | refine chainB (by assumption) ?_)
    have hs2 : w.heap.size ≤ w2.heap.size := hB2.size
    clear hc hf hb k1_00 k1_01 k1_02 k1_03 z1_0 hB1 hs1
    go_wp2_with fail
    go_ret
    exact ⟨rfl, by repeat (first | exact hB2 | refine Below.drew ?_ | refine below_drewN ?_ _ | refine Below.setCell ?_ (by first | omega | (simp; omega) | simp) _ | refine Below.alloc ?_ (by first | omega | (simp; omega) | simp) _ | refine chainB (by assumption) ?_)⟩
  by_cases h2 : -268435456 ≤ a ∧ a ≤ 268435456
  rotate_left
  · rw [show vX a b c d = false by unfold vX; rw [decide_eq_false h2]; simp]
    have v0 := fun w => valid_yes a b h0 w
    have v1 := fun w => valid_yes c d h1 w
    have v2 := fun w => within_no a (-268435456) 268435456 h2 w
    clear h0 h1 h2
    go_enter Try.func26, Try.ntmps26
    go_wp2_with fail
    refine (v0 _).mono ?_
    rintro e w1 ⟨rfl, hb⟩
    obtain ⟨hc, hf⟩ := bcell hb
    have k1_00 : w1.cell? ⟨w.heap.size, 0, none⟩ = some (.int .i64 a) := by rw [hc _ _ (by first | omega | (simp; omega) | simp)]; simp [go_sem, *]
    have k1_01 : w1.cell? ⟨w.heap.size, 1, none⟩ = some (.int .i64 b) := by rw [hc _ _ (by first | omega | (simp; omega) | simp)]; simp [go_sem, *]
    have k1_02 : w1.cell? ⟨w.heap.size, 2, none⟩ = some (.int .i64 c) := by rw [hc _ _ (by first | omega | (simp; omega) | simp)]; simp [go_sem, *]
    have k1_03 : w1.cell? ⟨w.heap.size, 3, none⟩ = some (.int .i64 d) := by rw [hc _ _ (by first | omega | (simp; omega) | simp)]; simp [go_sem, *]
    have z1_0 : w.heap.size < w1.heap.size := by have := hb.size; (try simp at this); omega
    have hB1 : Below w.heap.size w w1 := by repeat (first | exact (Below.refl _ _) | refine Below.drew ?_ | refine below_drewN ?_ _ | refine Below.setCell ?_ (by first | omega | (simp; omega) | simp) _ | refine Below.alloc ?_ (by first | omega | (simp; omega) | simp) _ | refine chainB (by assumption) ?_)
    have hs1 : w.heap.size ≤ w1.heap.size := hB1.size
    clear hc hf hb 
    go_wp2_with fail
    refine (v1 _).mono ?_
    rintro e w2 ⟨rfl, hb⟩
    obtain ⟨hc, hf⟩ := bcell hb
    have k2_00 : w2.cell? ⟨w.heap.size, 0, none⟩ = some (.int .i64 a) := by rw [hc _ _ (by first | omega | (simp; omega) | simp)]; simp [go_sem, *]
    have k2_01 : w2.cell? ⟨w.heap.size, 1, none⟩ = some (.int .i64 b) := by rw [hc _ _ (by first | omega | (simp; omega) | simp)]; simp [go_sem, *]
    have k2_02 : w2.cell? ⟨w.heap.size, 2, none⟩ = some (.int .i64 c) := by rw [hc _ _ (by first | omega | (simp; omega) | simp)]; simp [go_sem, *]
    have k2_03 : w2.cell? ⟨w.heap.size, 3, none⟩ = some (.int .i64 d) := by rw [hc _ _ (by first | omega | (simp; omega) | simp)]; simp [go_sem, *]
    have z2_0 : w.heap.size < w2.heap.size := by have := hb.size; (try simp at this); omega
    have hB2 : Below w.heap.size w w2 := by repeat (first | exact hB1 | refine Below.drew ?_ | refine below_drewN ?_ _ | refine Below.setCell ?_ (by first | omega | (simp; omega) | simp) _ | refine Below.alloc ?_ (by first | omega | (simp; omega) | simp) _ | refine chainB (by assumption) ?_)
    have hs2 : w.heap.size ≤ w2.heap.size := hB2.size
    clear hc hf hb k1_00 k1_01 k1_02 k1_03 z1_0 hB1 hs1
    go_wp2_with fail
    refine (v2 _).mono ?_
    rintro e w3 ⟨rfl, hb⟩
    obtain ⟨hc, hf⟩ := bcell hb
    have k3_00 : w3.cell? ⟨w.heap.size, 0, none⟩ = some (.int .i64 a) := by rw [hc _ _ (by first | omega | (simp; omega) | simp)]; simp [go_sem, *]
    have k3_01 : w3.cell? ⟨w.heap.size, 1, none⟩ = some (.int .i64 b) := by rw [hc _ _ (by first | omega | (simp; omega) | simp)]; simp [go_sem, *]
    have k3_02 : w3.cell? ⟨w.heap.size, 2, none⟩ = some (.int .i64 c) := by rw [hc _ _ (by first | omega | (simp; omega) | simp)]; simp [go_sem, *]
    have k3_03 : w3.cell? ⟨w.heap.size, 3, none⟩ = some (.int .i64 d) := by rw [hc _ _ (by first | omega | (simp; omega) | simp)]; simp [go_sem, *]
    have z3_0 : w.heap.size < w3.heap.size := by have := hb.size; (try simp at this); omega
    have hB3 : Below w.heap.size w w3 := by repeat (first | exact hB2 | refine Below.drew ?_ | refine below_drewN ?_ _ | refine Below.setCell ?_ (by first | omega | (simp; omega) | simp) _ | refine Below.alloc ?_ (by first | omega | (simp; omega) | simp) _ | refine chainB (by assumption) ?_)
    have hs3 : w.heap.size ≤ w3.heap.size := hB3.size
    clear hc hf hb k2_00 k2_01 k2_02 k2_03 z2_0 hB2 hs2
    go_wp2_with fail
    go_ret
    exact ⟨rfl, by repeat (first | exact hB3 | refine Below.drew ?_ | refine below_drewN ?_ _ | refine Below.setCell ?_ (by first | omega | (simp; omega) | simp) _ | refine Below.alloc ?_ (by first | omega | (simp; omega) | simp) _ | refine chainB (by assumption) ?_)⟩
  by_cases h3 : -268435456 ≤ b ∧ b ≤ 268435456
  rotate_left
  · rw [show vX a b c d = false by unfold vX; rw [decide_eq_false h3]; simp]
    have v0 := fun w => valid_yes a b h0 w
    have v1 := fun w => valid_yes c d h1 w
    have v2 := fun w => within_yes a (-268435456) 268435456 h2.1 h2.2 w
    have v3 := fun w => within_no b (-268435456) 268435456 h3 w
    clear h0 h1 h2 h3
    go_enter Try.func26, Try.ntmps26
    go_wp2_with fail
    refine (v0 _).mono ?_
    rintro e w1 ⟨rfl, hb⟩
    obtain ⟨hc, hf⟩ := bcell hb
    have k1_00 : w1.cell? ⟨w.heap.size, 0, none⟩ = some (.int .i64 a) := by rw [hc _ _ (by first | omega | (simp; omega) | simp)]; simp [go_sem, *]
    have k1_01 : w1.cell? ⟨w.heap.size, 1, none⟩ = some (.int .i64 b) := by rw [hc _ _ (by first | omega | (simp; omega) | simp)]; simp [go_sem, *]
    have k1_02 : w1.cell? ⟨w.heap.size, 2, none⟩ = some (.int .i64 c) := by rw [hc _ _ (by first | omega | (simp; omega) | simp)]; simp [go_sem, *]
    have k1_03 : w1.cell? ⟨w.heap.size, 3, none⟩ = some (.int .i64 d) := by rw [hc _ _ (by first | omega | (simp; omega) | simp)]; simp [go_sem, *]
    have z1_0 : w.heap.size < w1.heap.size := by have := hb.size; (try simp at this); omega
    have hB1 : Below w.heap.size w w1 := by repeat (first | exact (Below.refl _ _) | refine Below.drew ?_ | refine below_drewN ?_ _ | refine Below.setCell ?_ (by first | omega | (simp; omega) | simp) _ | refine Below.alloc ?_ (by first | omega | (simp; omega) | simp) _ | refine chainB (by assumption) ?_)
    have hs1 : w.heap.size ≤ w1.heap.size := hB1.size
    clear hc hf hb 
    go_wp2_with fail
    refine (v1 _).mono ?_
    rintro e w2 ⟨rfl, hb⟩
    obtain ⟨hc, hf⟩ := bcell hb
    have k2_00 : w2.cell? ⟨w.heap.size, 0, none⟩ = some (.int .i64 a) := by rw [hc _ _ (by first | omega | (simp; omega) | simp)]; simp [go_sem, *]
    have k2_01 : w2.cell? ⟨w.heap.size, 1, none⟩ = some (.int .i64 b) := by rw [hc _ _ (by first | omega | (simp; omega) | simp)]; simp [go_sem, *]
    have k2_02 : w2.cell? ⟨w.heap.size, 2, none⟩ = some (.int .i64 c) := by rw [hc _ _ (by first | omega | (simp; omega) | simp)]; simp [go_sem, *]
    have k2_03 : w2.cell? ⟨w.heap.size, 3, none⟩ = some (.int .i64 d) := by rw [hc _ _ (by first | omega | (simp; omega) | simp)]; simp [go_sem, *]
    have z2_0 : w.heap.size < w2.heap.size := by have := hb.size; (try simp at this); omega
    have hB2 : Below w.heap.size w w2 := by repeat (first | exact hB1 | refine Below.drew ?_ | refine below_drewN ?_ _ | refine Below.setCell ?_ (by first | omega | (simp; omega) | simp) _ | refine Below.alloc ?_ (by first | omega | (simp; omega) | simp) _ | refine chainB (by assumption) ?_)
    have hs2 : w.heap.size ≤ w2.heap.size := hB2.size
    clear hc hf hb k1_00 k1_01 k1_02 k1_03 z1_0 hB1 hs1
    go_wp2_with fail
    refine (v2 _).mono ?_
    rintro e w3 ⟨rfl, hb⟩
    obtain ⟨hc, hf⟩ := bcell hb
    have k3_00 : w3.cell? ⟨w.heap.size, 0, none⟩ = some (.int .i64 a) := by rw [hc _ _ (by first | omega | (simp; omega) | simp)]; simp [go_sem, *]
    have k3_01 : w3.cell? ⟨w.heap.size, 1, none⟩ = some (.int .i64 b) := by rw [hc _ _ (by first | omega | (simp; omega) | simp)]; simp [go_sem, *]
    have k3_02 : w3.cell? ⟨w.heap.size, 2, none⟩ = some (.int .i64 c) := by rw [hc _ _ (by first | omega | (simp; omega) | simp)]; simp [go_sem, *]
    have k3_03 : w3.cell? ⟨w.heap.size, 3, none⟩ = some (.int .i64 d) := by rw [hc _ _ (by first | omega | (simp; omega) | simp)]; simp [go_sem, *]
    have z3_0 : w.heap.size < w3.heap.size := by have := hb.size; (try simp at this); omega
    have hB3 : Below w.heap.size w w3 := by repeat (first | exact hB2 | refine Below.drew ?_ | refine below_drewN ?_ _ | refine Below.setCell ?_ (by first | omega | (simp; omega) | simp) _ | refine Below.alloc ?_ (by first | omega | (simp; omega) | simp) _ | refine chainB (by assumption) ?_)
    have hs3 : w.heap.size ≤ w3.heap.size := hB3.size
    clear hc hf hb k2_00 k2_01 k2_02 k2_03 z2_0 hB2 hs2
    go_wp2_with fail
    refine (v3 _).mono ?_
    rintro e w4 ⟨rfl, hb⟩
    obtain ⟨hc, hf⟩ := bcell hb
    have k4_00 : w4.cell? ⟨w.heap.size, 0, none⟩ = some (.int .i64 a) := by rw [hc _ _ (by first | omega | (simp; omega) | simp)]; simp [go_sem, *]
    have k4_01 : w4.cell? ⟨w.heap.size, 1, none⟩ = some (.int .i64 b) := by rw [hc _ _ (by first | omega | (simp; omega) | simp)]; simp [go_sem, *]
    have k4_02 : w4.cell? ⟨w.heap.size, 2, none⟩ = some (.int .i64 c) := by rw [hc _ _ (by first | omega | (simp; omega) | simp)]; simp [go_sem, *]
    have k4_03 : w4.cell? ⟨w.heap.size, 3, none⟩ = some (.int .i64 d) := by rw [hc _ _ (by first | omega | (simp; omega) | simp)]; simp [go_sem, *]
    have z4_0 : w.heap.size < w4.heap.size := by have := hb.size; (try simp at this); omega
    have hB4 : Below w.heap.size w w4 := by repeat (first | exact hB3 | refine Below.drew ?_ | refine below_drewN ?_ _ | refine Below.setCell ?_ (by first | omega | (simp; omega) | simp) _ | refine Below.alloc ?_ (by first | omega | (simp; omega) | simp) _ | refine chainB (by assumption) ?_)
    have hs4 : w.heap.size ≤ w4.heap.size := hB4.size
    clear hc hf hb k3_00 k3_01 k3_02 k3_03 z3_0 hB3 hs3
    go_wp2_with fail
    go_ret
    exact ⟨rfl, by repeat (first | exact hB4 | refine Below.drew ?_ | refine below_drewN ?_ _ | refine Below.setCell ?_ (by first | omega | (simp; omega) | simp) _ | refine Below.alloc ?_ (by first | omega | (simp; omega) | simp) _ | refine chainB (by assumption) ?_)⟩
  by_cases h4 : -268435456 ≤ c ∧ c ≤ 268435456
  rotate_left
  · rw [show vX a b c d = false by unfold vX; rw [decide_eq_false h4]; simp]
    have v0 := fun w => valid_yes a b h0 w
    have v1 := fun w => valid_yes c d h1 w
    have v2 := fun w => within_yes a (-268435456) 268435456 h2.1 h2.2 w
    have v3 := fun w => within_yes b (-268435456) 268435456 h3.1 h3.2 w
    have v4 := fun w => within_no c (-268435456) 268435456 h4 w
    clear h0 h1 h2 h3 h4
    go_enter Try.func26, Try.ntmps26
    go_wp2_with fail
    refine (v0 _).mono ?_
    rintro e w1 ⟨rfl, hb⟩
    obtain ⟨hc, hf⟩ := bcell hb
    have k1_00 : w1.cell? ⟨w.heap.size, 0, none⟩ = some (.int .i64 a) := by rw [hc _ _ (by first | omega | (simp; omega) | simp)]; simp [go_sem, *]
    have k1_01 : w1.cell? ⟨w.heap.size, 1, none⟩ = some (.int .i64 b) := by rw [hc _ _ (by first | omega | (simp; omega) | simp)]; simp [go_sem, *]
    have k1_02 : w1.cell? ⟨w.heap.size, 2, none⟩ = some (.int .i64 c) := by rw [hc _ _ (by first | omega | (simp; omega) | simp)]; simp [go_sem, *]
    have k1_03 : w1.cell? ⟨w.heap.size, 3, none⟩ = some (.int .i64 d) := by rw [hc _ _ (by first | omega | (simp; omega) | simp)]; simp [go_sem, *]
    have z1_0 : w.heap.size < w1.heap.size := by have := hb.size; (try simp at this); omega
    have hB1 : Below w.heap.size w w1 := by repeat (first | exact (Below.refl _ _) | refine Below.drew ?_ | refine below_drewN ?_ _ | refine Below.setCell ?_ (by first | omega | (simp; omega) | simp) _ | refine Below.alloc ?_ (by first | omega | (simp; omega) | simp) _ | refine chainB (by assumption) ?_)
    have hs1 : w.heap.size ≤ w1.heap.size := hB1.size
    clear hc hf hb 
    go_wp2_with fail
    refine (v1 _).mono ?_
    rintro e w2 ⟨rfl, hb⟩
    obtain ⟨hc, hf⟩ := bcell hb
    have k2_00 : w2.cell? ⟨w.heap.size, 0, none⟩ = some (.int .i64 a) := by rw [hc _ _ (by first | omega | (simp; omega) | simp)]; simp [go_sem, *]
    have k2_01 : w2.cell? ⟨w.heap.size, 1, none⟩ = some (.int .i64 b) := by rw [hc _ _ (by first | omega | (simp; omega) | simp)]; simp [go_sem, *]
    have k2_02 : w2.cell? ⟨w.heap.size, 2, none⟩ = some (.int .i64 c) := by rw [hc _ _ (by first | omega | (simp; omega) | simp)]; simp [go_sem, *]
    have k2_03 : w2.cell? ⟨w.heap.size, 3, none⟩ = some (.int .i64 d) := by rw [hc _ _ (by first | omega | (simp; omega) | simp)]; simp [go_sem, *]
    have z2_0 : w.heap.size < w2.heap.size := by have := hb.size; (try simp at this); omega
    have hB2 : Below w.heap.size w w2 := by repeat (first | exact hB1 | refine Below.drew ?_ | refine below_drewN ?_ _ | refine Below.setCell ?_ (by first | omega | (simp; omega) | simp) _ | refine Below.alloc ?_ (by first | omega | (simp; omega) | simp) _ | refine chainB (by assumption) ?_)
    have hs2 : w.heap.size ≤ w2.heap.size := hB2.size
    clear hc hf hb k1_00 k1_01 k1_02 k1_03 z1_0 hB1 hs1
    go_wp2_with fail
    refine (v2 _).mono ?_
    rintro e w3 ⟨rfl, hb⟩
    obtain ⟨hc, hf⟩ := bcell hb
    have k3_00 : w3.cell? ⟨w.heap.size, 0, none⟩ = some (.int .i64 a) := by rw [hc _ _ (by first | omega | (simp; omega) | simp)]; simp [go_sem, *]
    have k3_01 : w3.cell? ⟨w.heap.size, 1, none⟩ = some (.int .i64 b) := by rw [hc _ _ (by first | omega | (simp; omega) | simp)]; simp [go_sem, *]
    have k3_02 : w3.cell? ⟨w.heap.size, 2, none⟩ = some (.int .i64 c) := by rw [hc _ _ (by first | omega | (simp; omega) | simp)]; simp [go_sem, *]
    have k3_03 : w3.cell? ⟨w.heap.size, 3, none⟩ = some (.int .i64 d) := by rw [hc _ _ (by first | omega | (simp; omega) | simp)]; simp [go_sem, *]
    have z3_0 : w.heap.size < w3.heap.size := by have := hb.size; (try simp at this); omega
    have hB3 : Below w.heap.size w w3 := by repeat (first | exact hB2 | refine Below.drew ?_ | refine below_drewN ?_ _ | refine Below.setCell ?_ (by first | omega | (simp; omega) | simp) _ | refine Below.alloc ?_ (by first | omega | (simp; omega) | simp) _ | refine chainB (by assumption) ?_)
    have hs3 : w.heap.size ≤ w3.heap.size := hB3.size
    clear hc hf hb k2_00 k2_01 k2_02 k2_03 z2_0 hB2 hs2
    go_wp2_with fail
    refine (v3 _).mono ?_
    rintro e w4 ⟨rfl, hb⟩
    obtain ⟨hc, hf⟩ := bcell hb
    have k4_00 : w4.cell? ⟨w.heap.size, 0, none⟩ = some (.int .i64 a) := by rw [hc _ _ (by first | omega | (simp; omega) | simp)]; simp [go_sem, *]
    have k4_01 : w4.cell? ⟨w.heap.size, 1, none⟩ = some (.int .i64 b) := by rw [hc _ _ (by first | omega | (simp; omega) | simp)]; simp [go_sem, *]
    have k4_02 : w4.cell? ⟨w.heap.size, 2, none⟩ = some (.int .i64 c) := by rw [hc _ _ (by first | omega | (simp; omega) | simp)]; simp [go_sem, *]
    have k4_03 : w4.cell? ⟨w.heap.size, 3, none⟩ = some (.int .i64 d) := by rw [hc _ _ (by first | omega | (simp; omega) | simp)]; simp [go_sem, *]
    have z4_0 : w.heap.size < w4.heap.size := by have := hb.size; (try simp at this); omega
    have hB4 : Below w.heap.size w w4 := by repeat (first | exact hB3 | refine Below.drew ?_ | refine below_drewN ?_ _ | refine Below.setCell ?_ (by first | omega | (simp; omega) | simp) _ | refine Below.alloc ?_ (by first | omega | (simp; omega) | simp) _ | refine chainB (by assumption) ?_)
    have hs4 : w.heap.size ≤ w4.heap.size := hB4.size
    clear hc hf hb k3_00 k3_01 k3_02 k3_03 z3_0 hB3 hs3
    go_wp2_with fail
    refine (v4 _).mono ?_
    rintro e w5 ⟨rfl, hb⟩
    obtain ⟨hc, hf⟩ := bcell hb
    have k5_00 : w5.cell? ⟨w.heap.size, 0, none⟩ = some (.int .i64 a) := by rw [hc _ _ (by first | omega | (simp; omega) | simp)]; simp [go_sem, *]
    have k5_01 : w5.cell? ⟨w.heap.size, 1, none⟩ = some (.int .i64 b) := by rw [hc _ _ (by first | omega | (simp; omega) | simp)]; simp [go_sem, *]
    have k5_02 : w5.cell? ⟨w.heap.size, 2, none⟩ = some (.int .i64 c) := by rw [hc _ _ (by first | omega | (simp; omega) | simp)]; simp [go_sem, *]
    have k5_03 : w5.cell? ⟨w.heap.size, 3, none⟩ = some (.int .i64 d) := by rw [hc _ _ (by first | omega | (simp; omega) | simp)]; simp [go_sem, *]
    have z5_0 : w.heap.size < w5.heap.size := by have := hb.size; (try simp at this); omega
    have hB5 : Below w.heap.size w w5 := by repeat (first | exact hB4 | refine Below.drew ?_ | refine below_drewN ?_ _ | refine Below.setCell ?_ (by first | omega | (simp; omega) | simp) _ | refine Below.alloc ?_ (by first | omega | (simp; omega) | simp) _ | refine chainB (by assumption) ?_)
    have hs5 : w.heap.size ≤ w5.heap.size := hB5.size
    clear hc hf hb k4_00 k4_01 k4_02 k4_03 z4_0 hB4 hs4
    go_wp2_with fail
    go_ret
    exact ⟨rfl, by repeat (first | exact hB5 | refine Below.drew ?_ | refine below_drewN ?_ _ | refine Below.setCell ?_ (by first | omega | (simp; omega) | simp) _ | refine Below.alloc ?_ (by first | omega | (simp; omega) | simp) _ | refine chainB (by assumption) ?_)⟩
  by_cases h5 : -268435456 ≤ d ∧ d ≤ 268435456
  rotate_left
  · rw [show vX a b c d = false by unfold vX; rw [decide_eq_false h5]; simp]
    have v0 := fun w => valid_yes a b h0 w
    have v1 := fun w => valid_yes c d h1 w
    have v2 := fun w => within_yes a (-268435456) 268435456 h2.1 h2.2 w
    have v3 := fun w => within_yes b (-268435456) 268435456 h3.1 h3.2 w
    have v4 := fun w => within_yes c (-268435456) 268435456 h4.1 h4.2 w
    have v5 := fun w => within_no d (-268435456) 268435456 h5 w
    clear h0 h1 h2 h3 h4 h5
    go_enter Try.func26, Try.ntmps26
    go_wp2_with fail
    refine (v0 _).mono ?_
    rintro e w1 ⟨rfl, hb⟩
    obtain ⟨hc, hf⟩ := bcell hb
    have k1_00 : w1.cell? ⟨w.heap.size, 0, none⟩ = some (.int .i64 a) := by rw [hc _ _ (by first | omega | (simp; omega) | simp)]; simp [go_sem, *]
    have k1_01 : w1.cell? ⟨w.heap.size, 1, none⟩ = some (.int .i64 b) := by rw [hc _ _ (by first | omega | (simp; omega) | simp)]; simp [go_sem, *]
    have k1_02 : w1.cell? ⟨w.heap.size, 2, none⟩ = some (.int .i64 c) := by rw [hc _ _ (by first | omega | (simp; omega) | simp)]; simp [go_sem, *]
    have k1_03 : w1.cell? ⟨w.heap.size, 3, none⟩ = some (.int .i64 d) := by rw [hc _ _ (by first | omega | (simp; omega) | simp)]; simp [go_sem, *]
    have z1_0 : w.heap.size < w1.heap.size := by have := hb.size; (try simp at this); omega
    have hB1 : Below w.heap.size w w1 := by repeat (first | exact (Below.refl _ _) | refine Below.drew ?_ | refine below_drewN ?_ _ | refine Below.setCell ?_ (by first | omega | (simp; omega) | simp) _ | refine Below.alloc ?_ (by first | omega | (simp; omega) | simp) _ | refine chainB (by assumption) ?_)
    have hs1 : w.heap.size ≤ w1.heap.size := hB1.size
    clear hc hf hb 
    go_wp2_with fail
    refine (v1 _).mono ?_
    rintro e w2 ⟨rfl, hb⟩
    obtain ⟨hc, hf⟩ := bcell hb
    have k2_00 : w2.cell? ⟨w.heap.size, 0, none⟩ = some (.int .i64 a) := by rw [hc _ _ (by first | omega | (simp; omega) | simp)]; simp [go_sem, *]
    have k2_01 : w2.cell? ⟨w.heap.size, 1, none⟩ = some (.int .i64 b) := by rw [hc _ _ (by first | omega | (simp; omega) | simp)]; simp [go_sem, *]
    have k2_02 : w2.cell? ⟨w.heap.size, 2, none⟩ = some (.int .i64 c) := by rw [hc _ _ (by first | omega | (simp; omega) | simp)]; simp [go_sem, *]
    have k2_03 : w2.cell? ⟨w.heap.size, 3, none⟩ = some (.int .i64 d) := by rw [hc _ _ (by first | omega | (simp; omega) | simp)]; simp [go_sem, *]
    have z2_0 : w.heap.size < w2.heap.size := by have := hb.size; (try simp at this); omega
    have hB2 : Below w.heap.size w w2 := by repeat (first | exact hB1 | refine Below.drew ?_ | refine below_drewN ?_ _ | refine Below.setCell ?_ (by first | omega | (simp; omega) | simp) _ | refine Below.alloc ?_ (by first | omega | (simp; omega) | simp) _ | refine chainB (by assumption) ?_)
    have hs2 : w.heap.size ≤ w2.heap.size := hB2.size
    clear hc hf hb k1_00 k1_01 k1_02 k1_03 z1_0 hB1 hs1
    go_wp2_with fail
    refine (v2 _).mono ?_
    rintro e w3 ⟨rfl, hb⟩
    obtain ⟨hc, hf⟩ := bcell hb
    have k3_00 : w3.cell? ⟨w.heap.size, 0, none⟩ = some (.int .i64 a) := by rw [hc _ _ (by first | omega | (simp; omega) | simp)]; simp [go_sem, *]
    have k3_01 : w3.cell? ⟨w.heap.size, 1, none⟩ = some (.int .i64 b) := by rw [hc _ _ (by first | omega | (simp; omega) | simp)]; simp [go_sem, *]
    have k3_02 : w3.cell? ⟨w.heap.size, 2, none⟩ = some (.int .i64 c) := by rw [hc _ _ (by first | omega | (simp; omega) | simp)]; simp [go_sem, *]
    have k3_03 : w3.cell? ⟨w.heap.size, 3, none⟩ = some (.int .i64 d) := by rw [hc _ _ (by first | omega | (simp; omega) | simp)]; simp [go_sem, *]
    have z3_0 : w.heap.size < w3.heap.size := by have := hb.size; (try simp at this); omega
    have hB3 : Below w.heap.size w w3 := by repeat (first | exact hB2 | refine Below.drew ?_ | refine below_drewN ?_ _ | refine Below.setCell ?_ (by first | omega | (simp; omega) | simp) _ | refine Below.alloc ?_ (by first | omega | (simp; omega) | simp) _ | refine chainB (by assumption) ?_)
    have hs3 : w.heap.size ≤ w3.heap.size := hB3.size
    clear hc hf hb k2_00 k2_01 k2_02 k2_03 z2_0 hB2 hs2
    go_wp2_with fail
    refine (v3 _).mono ?_
    rintro e w4 ⟨rfl, hb⟩
    obtain ⟨hc, hf⟩ := bcell hb
    have k4_00 : w4.cell? ⟨w.heap.size, 0, none⟩ = some (.int .i64 a) := by rw [hc _ _ (by first | omega | (simp; omega) | simp)]; simp [go_sem, *]
    have k4_01 : w4.cell? ⟨w.heap.size, 1, none⟩ = some (.int .i64 b) := by rw [hc _ _ (by first | omega | (simp; omega) | simp)]; simp [go_sem, *]
    have k4_02 : w4.cell? ⟨w.heap.size, 2, none⟩ = some (.int .i64 c) := by rw [hc _ _ (by first | omega | (simp; omega) | simp)]; simp [go_sem, *]
    have k4_03 : w4.cell? ⟨w.heap.size, 3, none⟩ = some (.int .i64 d) := by rw [hc _ _ (by first | omega | (simp; omega) | simp)]; simp [go_sem, *]
    have z4_0 : w.heap.size < w4.heap.size := by have := hb.size; (try simp at this); omega
    have hB4 : Below w.heap.size w w4 := by repeat (first | exact hB3 | refine Below.drew ?_ | refine below_drewN ?_ _ | refine Below.setCell ?_ (by first | omega | (simp; omega) | simp) _ | refine Below.alloc ?_ (by first | omega | (simp; omega) | simp) _ | refine chainB (by assumption) ?_)
    have hs4 : w.heap.size ≤ w4.heap.size := hB4.size
    clear hc hf hb k3_00 k3_01 k3_02 k3_03 z3_0 hB3 hs3
    go_wp2_with fail
    refine (v4 _).mono ?_
    rintro e w5 ⟨rfl, hb⟩
    obtain ⟨hc, hf⟩ := bcell hb
    have k5_00 : w5.cell? ⟨w.heap.size, 0, none⟩ = some (.int .i64 a) := by rw [hc _ _ (by first | omega | (simp; omega) | simp)]; simp [go_sem, *]
    have k5_01 : w5.cell? ⟨w.heap.size, 1, none⟩ = some (.int .i64 b) := by rw [hc _ _ (by first | omega | (simp; omega) | simp)]; simp [go_sem, *]
    have k5_02 : w5.cell? ⟨w.heap.size, 2, none⟩ = some (.int .i64 c) := by rw [hc _ _ (by first | omega | (simp; omega) | simp)]; simp [go_sem, *]
    have k5_03 : w5.cell? ⟨w.heap.size, 3, none⟩ = some (.int .i64 d) := by rw [hc _ _ (by first | omega | (simp; omega) | simp)]; simp [go_sem, *]
    have z5_0 : w.heap.size < w5.heap.size := by have := hb.size; (try simp at this); omega
    have hB5 : Below w.heap.size w w5 := by repeat (first | exact hB4 | refine Below.drew ?_ | refine below_drewN ?_ _ | refine Below.setCell ?_ (by first | omega | (simp; omega) | simp) _ | refine Below.alloc ?_ (by first | omega | (simp; omega) | simp) _ | refine chainB (by assumption) ?_)
    have hs5 : w.heap.size ≤ w5.heap.size := hB5.size
    clear hc hf hb k4_00 k4_01 k4_02 k4_03 z4_0 hB4 hs4
    go_wp2_with fail
    refine (v5 _).mono ?_
    rintro e w6 ⟨rfl, hb⟩
    obtain ⟨hc, hf⟩ := bcell hb
    have k6_00 : w6.cell? ⟨w.heap.size, 0, none⟩ = some (.int .i64 a) := by rw [hc _ _ (by first | omega | (simp; omega) | simp)]; simp [go_sem, *]
    have k6_01 : w6.cell? ⟨w.heap.size, 1, none⟩ = some (.int .i64 b) := by rw [hc _ _ (by first | omega | (simp; omega) | simp)]; simp [go_sem, *]
    have k6_02 : w6.cell? ⟨w.heap.size, 2, none⟩ = some (.int .i64 c) := by rw [hc _ _ (by first | omega | (simp; omega) | simp)]; simp [go_sem, *]
    have k6_03 : w6.cell? ⟨w.heap.size, 3, none⟩ = some (.int .i64 d) := by rw [hc _ _ (by first | omega | (simp; omega) | simp)]; simp [go_sem, *]
    have z6_0 : w.heap.size < w6.heap.size := by have := hb.size; (try simp at this); omega
    have hB6 : Below w.heap.size w w6 := by repeat (first | exact hB5 | refine Below.drew ?_ | refine below_drewN ?_ _ | refine Below.setCell ?_ (by first | omega | (simp; omega) | simp) _ | refine Below.alloc ?_ (by first | omega | (simp; omega) | simp) _ | refine chainB (by assumption) ?_)
    have hs6 : w.heap.size ≤ w6.heap.size := hB6.size
    clear hc hf hb k5_00 k5_01 k5_02 k5_03 z5_0 hB5 hs5
    go_wp2_with fail
    go_ret
    exact ⟨rfl, by repeat (first | exact hB6 | refine Below.drew ?_ | refine below_drewN ?_ _ | refine Below.setCell ?_ (by first | omega | (simp; omega) | simp) _ | refine Below.alloc ?_ (by first | omega | (simp; omega) | simp) _ | refine chainB (by assumption) ?_)⟩
  rw [show vX a b c d = true by unfold vX; simp [h0, h1]; exact ⟨h2, h3, h4, h5⟩]
  have v0 := fun w => valid_yes a b h0 w
  have v1 := fun w => valid_yes c d h1 w
  have v2 := fun w => within_yes a (-268435456) 268435456 h2.1 h2.2 w
  have v3 := fun w => within_yes b (-268435456) 268435456 h3.1 h3.2 w
  have v4 := fun w => within_yes c (-268435456) 268435456 h4.1 h4.2 w
  have v5 := fun w => within_yes d (-268435456) 268435456 h5.1 h5.2 w
  clear h0 h1 h2 h3 h4 h5
  go_enter Try.func26, Try.ntmps26
  go_wp2_with fail
  refine (v0 _).mono ?_
  rintro e w1 ⟨rfl, hb⟩
  obtain ⟨hc, hf⟩ := bcell hb
  have k1_00 : w1.cell? ⟨w.heap.size, 0, none⟩ = some (.int .i64 a) := by rw [hc _ _ (by first | omega | (simp; omega) | simp)]; simp [go_sem, *]
  have k1_01 : w1.cell? ⟨w.heap.size, 1, none⟩ = some (.int .i64 b) := by rw [hc _ _ (by first | omega | (simp; omega) | simp)]; simp [go_sem, *]
  have k1_02 : w1.cell? ⟨w.heap.size, 2, none⟩ = some (.int .i64 c) := by rw [hc _ _ (by first | omega | (simp; omega) | simp)]; simp [go_sem, *]
  have k1_03 : w1.cell? ⟨w.heap.size, 3, none⟩ = some (.int .i64 d) := by rw [hc _ _ (by first | omega | (simp; omega) | simp)]; simp [go_sem, *]
  have z1_0 : w.heap.size < w1.heap.size := by have := hb.size; (try simp at this); omega
  have hB1 : Below w.heap.size w w1 := by repeat (first | exact (Below.refl _ _) | refine Below.drew ?_ | refine below_drewN ?_ _ | refine Below.setCell ?_ (by first | omega | (simp; omega) | simp) _ | refine Below.alloc ?_ (by first | omega | (simp; omega) | simp) _ | refine chainB (by assumption) ?_)
  have hs1 : w.heap.size ≤ w1.heap.size := hB1.size
  clear hc hf hb 
  go_wp2_with fail
  refine (v1 _).mono ?_
  rintro e w2 ⟨rfl, hb⟩
  obtain ⟨hc, hf⟩ := bcell hb
  have k2_00 : w2.cell? ⟨w.heap.size, 0, none⟩ = some (.int .i64 a) := by rw [hc _ _ (by first | omega | (simp; omega) | simp)]; simp [go_sem, *]
  have k2_01 : w2.cell? ⟨w.heap.size, 1, none⟩ = some (.int .i64 b) := by rw [hc _ _ (by first | omega | (simp; omega) | simp)]; simp [go_sem, *]
  have k2_02 : w2.cell? ⟨w.heap.size, 2, none⟩ = some (.int .i64 c) := by rw [hc _ _ (by first | omega | (simp; omega) | simp)]; simp [go_sem, *]
  have k2_03 : w2.cell? ⟨w.heap.size, 3, none⟩ = some (.int .i64 d) := by rw [hc _ _ (by first | omega | (simp; omega) | simp)]; simp [go_sem, *]
  have z2_0 : w.heap.size < w2.heap.size := by have := hb.size; (try simp at this); omega
  have hB2 : Below w.heap.size w w2 := by repeat (first | exact hB1 | refine Below.drew ?_ | refine below_drewN ?_ _ | refine Below.setCell ?_ (by first | omega | (simp; omega) | simp) _ | refine Below.alloc ?_ (by first | omega | (simp; omega) | simp) _ | refine chainB (by assumption) ?_)
  have hs2 : w.heap.size ≤ w2.heap.size := hB2.size
  clear hc hf hb k1_00 k1_01 k1_02 k1_03 z1_0 hB1 hs1
  go_wp2_with fail
  refine (v2 _).mono ?_
  rintro e w3 ⟨rfl, hb⟩
  obtain ⟨hc, hf⟩ := bcell hb
  have k3_00 : w3.cell? ⟨w.heap.size, 0, none⟩ = some (.int .i64 a) := by rw [hc _ _ (by first | omega | (simp; omega) | simp)]; simp [go_sem, *]
  have k3_01 : w3.cell? ⟨w.heap.size, 1, none⟩ = some (.int .i64 b) := by rw [hc _ _ (by first | omega | (simp; omega) | simp)]; simp [go_sem, *]
  have k3_02 : w3.cell? ⟨w.heap.size, 2, none⟩ = some (.int .i64 c) := by rw [hc _ _ (by first | omega | (simp; omega) | simp)]; simp [go_sem, *]
  have k3_03 : w3.cell? ⟨w.heap.size, 3, none⟩ = some (.int .i64 d) := by rw [hc _ _ (by first | omega | (simp; omega) | simp)]; simp [go_sem, *]
  have z3_0 : w.heap.size < w3.heap.size := by have := hb.size; (try simp at this); omega
  have hB3 : Below w.heap.size w w3 := by repeat (first | exact hB2 | refine Below.drew ?_ | refine below_drewN ?_ _ | refine Below.setCell ?_ (by first | omega | (simp; omega) | simp) _ | refine Below.alloc ?_ (by first | omega | (simp; omega) | simp) _ | refine chainB (by assumption) ?_)
  have hs3 : w.heap.size ≤ w3.heap.size := hB3.size
  clear hc hf hb k2_00 k2_01 k2_02 k2_03 z2_0 hB2 hs2
  go_wp2_with fail
  refine (v3 _).mono ?_
  rintro e w4 ⟨rfl, hb⟩
  obtain ⟨hc, hf⟩ := bcell hb
  have k4_00 : w4.cell? ⟨w.heap.size, 0, none⟩ = some (.int .i64 a) := by rw [hc _ _ (by first | omega | (simp; omega) | simp)]; simp [go_sem, *]
  have k4_01 : w4.cell? ⟨w.heap.size, 1, none⟩ = some (.int .i64 b) := by rw [hc _ _ (by first | omega | (simp; omega) | simp)]; simp [go_sem, *]
  have k4_02 : w4.cell? ⟨w.heap.size, 2, none⟩ = some (.int .i64 c) := by rw [hc _ _ (by first | omega | (simp; omega) | simp)]; simp [go_sem, *]
  have k4_03 : w4.cell? ⟨w.heap.size, 3, none⟩ = some (.int .i64 d) := by rw [hc _ _ (by first | omega | (simp; omega) | simp)]; simp [go_sem, *]
  have z4_0 : w.heap.size < w4.heap.size := by have := hb.size; (try simp at this); omega
  have hB4 : Below w.heap.size w w4 := by repeat (first | exact hB3 | refine Below.drew ?_ | refine below_drewN ?_ _ | refine Below.setCell ?_ (by first | omega | (simp; omega) | simp) _ | refine Below.alloc ?_ (by first | omega | (simp; omega) | simp) _ | refine chainB (by assumption) ?_)
  have hs4 : w.heap.size ≤ w4.heap.size := hB4.size
  clear hc hf hb k3_00 k3_01 k3_02 k3_03 z3_0 hB3 hs3
  go_wp2_with fail
  refine (v4 _).mono ?_
  rintro e w5 ⟨rfl, hb⟩
  obtain ⟨hc, hf⟩ := bcell hb
  have k5_00 : w5.cell? ⟨w.heap.size, 0, none⟩ = some (.int .i64 a) := by rw [hc _ _ (by first | omega | (simp; omega) | simp)]; simp [go_sem, *]
  have k5_01 : w5.cell? ⟨w.heap.size, 1, none⟩ = some (.int .i64 b) := by rw [hc _ _ (by first | omega | (simp; omega) | simp)]; simp [go_sem, *]
  have k5_02 : w5.cell? ⟨w.heap.size, 2, none⟩ = some (.int .i64 c) := by rw [hc _ _ (by first | omega | (simp; omega) | simp)]; simp [go_sem, *]
  have k5_03 : w5.cell? ⟨w.heap.size, 3, none⟩ = some (.int .i64 d) := by rw [hc _ _ (by first | omega | (simp; omega) | simp)]; simp [go_sem, *]
  have z5_0 : w.heap.size < w5.heap.size := by have := hb.size; (try simp at this); omega
  have hB5 : Below w.heap.size w w5 := by repeat (first | exact hB4 | refine Below.drew ?_ | refine below_drewN ?_ _ | refine Below.setCell ?_ (by first | omega | (simp; omega) | simp) _ | refine Below.alloc ?_ (by first | omega | (simp; omega) | simp) _ | refine chainB (by assumption) ?_)
  have hs5 : w.heap.size ≤ w5.heap.size := hB5.size
  clear hc hf hb k4_00 k4_01 k4_02 k4_03 z4_0 hB4 hs4
  go_wp2_with fail
  refine (v5 _).mono ?_
  rintro e w6 ⟨rfl, hb⟩
  obtain ⟨hc, hf⟩ := bcell hb
  have k6_00 : w6.cell? ⟨w.heap.size, 0, none⟩ = some (.int .i64 a) := by rw [hc _ _ (by first | omega | (simp; omega) | simp)]; simp [go_sem, *]
  have k6_01 : w6.cell? ⟨w.heap.size, 1, none⟩ = some (.int .i64 b) := by rw [hc _ _ (by first | omega | (simp; omega) | simp)]; simp [go_sem, *]
  have k6_02 : w6.cell? ⟨w.heap.size, 2, none⟩ = some (.int .i64 c) := by rw [hc _ _ (by first | omega | (simp; omega) | simp)]; simp [go_sem, *]
  have k6_03 : w6.cell? ⟨w.heap.size, 3, none⟩ = some (.int .i64 d) := by rw [hc _ _ (by first | omega | (simp; omega) | simp)]; simp [go_sem, *]
  have z6_0 : w.heap.size < w6.heap.size := by have := hb.size; (try simp at this); omega
  have hB6 : Below w.heap.size w w6 := by repeat (first | exact hB5 | refine Below.drew ?_ | refine below_drewN ?_ _ | refine Below.setCell ?_ (by first | omega | (simp; omega) | simp) _ | refine Below.alloc ?_ (by first | omega | (simp; omega) | simp) _ | refine chainB (by assumption) ?_)
  have hs6 : w.heap.size ≤ w6.heap.size := hB6.size
  clear hc hf hb k5_00 k5_01 k5_02 k5_03 z5_0 hB5 hs5
  go_wp2_with fail
  go_ret
  exact ⟨rfl, by repeat (first | exact hB6 | refine Below.drew ?_ | refine below_drewN ?_ _ | refine Below.setCell ?_ (by first | omega | (simp; omega) | simp) _ | refine Below.alloc ?_ (by first | omega | (simp; omega) | simp) _ | refine chainB (by assumption) ?_)⟩
def chkX (a b c d : Int) : Int := if vX a b c d = true then 0 else 2
theorem idx0 (a b c d : Int) (w : World) : (Instr.index 90 (.agg #[.int .i64 a, .int .i64 b, .int .i64 c, .int .i64 d]) (.int .i64 0)).run Try.prog w = .ok (.agg #[.int .i64 a, .int .i64 b]) w := by
  simp [Instr.index, go_sem]
theorem idx1 (a b c d : Int) (w : World) : (Instr.index 90 (.agg #[.int .i64 a, .int .i64 b, .int .i64 c, .int .i64 d]) (.int .i64 1)).run Try.prog w = .ok (.agg #[.int .i64 c, .int .i64 d]) w := by
  simp [Instr.index, go_sem]
def gX (a b : Int) : Prop := vB a b = true ∧ -268435456 ≤ a ∧ b ≤ 268435456
theorem vX_iff (a b c d : Int) : vX a b c d = true ↔ gX a b ∧ gX c d := by
  unfold vX gX
  simp only [Bool.and_eq_true, decide_eq_true_eq]
  constructor
  · rintro ⟨h1, h2, h3, h4, h5, h6⟩; exact ⟨⟨h1, h3.1, h4.2⟩, h2, h5.1, h6.2⟩
  · rintro ⟨⟨h1, h2, h3⟩, h4, h5, h6⟩
    obtain ⟨k1, _, _⟩ := (vB_iff a b).1 h1
    obtain ⟨k2, _, _⟩ := (vB_iff c d).1 h4
    exact ⟨h1, h4, by omega, by omega, by omega, by omega⟩
theorem chkX_bad {a b c d : Int} (h : ¬ (gX a b ∧ gX c d)) : chkX a b c d = 2 := if_neg fun k => h ((vX_iff a b c d).1 k)
theorem chkX_ok {a b c d : Int} (h : gX a b) (k : gX c d) : chkX a b c d = 0 := if_pos ((vX_iff a b c d).2 ⟨h, k⟩)
theorem gX_cases (a b : Int) : (chk a b = 0 ∧ -268435456 ≤ a ∧ b ≤ 268435456 ∧ gX a b) ∨ (¬ gX a b ∧ chk a b = 2) ∨ (¬ gX a b ∧ chk a b = 0 ∧ a < -268435456) ∨ (¬ gX a b ∧ chk a b = 0 ∧ -268435456 ≤ a ∧ 268435456 < b) := by
  by_cases h : vB a b = true
  · have e := chk_ok h
    by_cases h1 : -268435456 ≤ a
    · by_cases h2 : b ≤ 268435456
      · exact .inl ⟨e, h1, h2, h, h1, h2⟩
      · exact .inr (.inr (.inr ⟨fun k => h2 k.2.2, e, h1, by omega⟩))
    · exact .inr (.inr (.inl ⟨fun k => h1 k.2.1, e, by omega⟩))
  · exact .inr (.inl ⟨fun k => h k.1, chk_bad h⟩)
set_option maxRecDepth 100000 in
set_option maxHeartbeats 4000000 in
theorem checkBox_any (a b c d : Int) (w : World) :
    Calls Try.prog 20 #[.agg #[.int .i64 a, .int .i64 b, .int .i64 c, .int .i64 d]] w fun e w' => e = .returned (.int .i64 (chkX a b c d)) ∧ Below w.heap.size w w' := by
  have A0 := Lib.hid (fun h => chkX_bad (a := a) (b := b) (c := c) (d := d) h)
  have A1 := Lib.hid (fun h k => chkX_ok (a := a) (b := b) (c := c) (d := d) h k)
  generalize chkX a b c d = r at A0 A1 ⊢
  have c1 := fun w => check_any a b w
  have c2 := fun w => check_any c d w
  have s1 := gX_cases a b
  have s2 := gX_cases c d
  generalize chk a b = q1 at c1 s1
  generalize chk c d = q2 at c2 s2
  have S1 := Lib.hid s1
  have S2 := Lib.hid s2
  clear s1 s2
  have i0 := idx0 a b c d
  have i1 := idx1 a b c d
  go_enter Try.func20, Try.ntmps20
  go_wp2_with fail
  go_loopw [10] (fun i wr => ∃ k : Nat, k ≤ 2 ∧ i = .int .i64 k ∧ (1 ≤ k → gX a b) ∧ (2 ≤ k → gX c d) ∧ w.heap.size ≤ wr.heap.size ∧ Below w.heap.size w wr) (fun i _ => 2 - (intOf i).toNat)
  case atStart => exact ⟨0, by omega, rfl, fun h => absurd h (by decide), fun h => absurd h (by decide), by simp, (Below.refl _ _).alloc (Nat.le_refl _) _⟩
  case round =>
    obtain ⟨k, hk, rfl, G1, G2, hz, hB0⟩ := hrel
    have H1 := Lib.hid G1
    have H2 := Lib.hid G2
    clear G1 G2
    match k, hk with
    | 0, _ =>
      rcases S1.out with ⟨rfl, k1, k2, k3⟩ | ⟨k3, rfl⟩ | ⟨k3, rfl, k1⟩ | ⟨k3, rfl, k1, k2⟩
      · have K := Lib.hid k3
        clear k3
        go_wp2_with (go_at_call 48; refine (c1 _).mono ?_; rintro e w' ⟨rfl, hb⟩; have hcc := (bcell hb).1)
        refine ⟨⟨1, by omega, rfl, fun _ => K.out, fun h => absurd h (by decide), by have := hb.size; simp at this; omega, chainB hb (hB0.alloc hz _)⟩, by simp [intOf]⟩
      all_goals
        have K := Lib.hid k3
        clear k3
        go_wp2_with (go_at_call 48; refine (c1 _).mono ?_; rintro e w' ⟨rfl, hb⟩; have hcc := (bcell hb).1)
        go_ret
        exact ⟨ret_int (A0.out (fun h => K.out h.1)).symm, chainB hb (hB0.alloc hz _)⟩
    | 1, _ =>
      rcases S2.out with ⟨rfl, k1, k2, k3⟩ | ⟨k3, rfl⟩ | ⟨k3, rfl, k1⟩ | ⟨k3, rfl, k1, k2⟩
      · have K := Lib.hid k3
        clear k3
        go_wp2_with (go_at_call 48; refine (c2 _).mono ?_; rintro e w' ⟨rfl, hb⟩; have hcc := (bcell hb).1)
        refine ⟨⟨2, by omega, rfl, fun _ => H1.out (by decide), fun _ => K.out, by have := hb.size; simp at this; omega, chainB hb (hB0.alloc hz _)⟩, by simp [intOf]⟩
      all_goals
        have K := Lib.hid k3
        clear k3
        go_wp2_with (go_at_call 48; refine (c2 _).mono ?_; rintro e w' ⟨rfl, hb⟩; have hcc := (bcell hb).1)
        go_ret
        exact ⟨ret_int (A0.out (fun h => K.out h.2)).symm, chainB hb (hB0.alloc hz _)⟩
    | 2, _ =>
      go_wp2_with fail
      go_ret
      exact ⟨ret_int (A1.out (H1.out (by decide)) (H2.out (by decide))).symm, hB0⟩
end Go.Proofs.Ythegcbpmammokaa

/-
  MoA: the watch circle's top (layer 2), ported from its own seat, in the cable seat (Codes, CheckCodes, Elem, CheckM, SmallM, SliceMin).
-/
import Derived.Lib.Zigzag
import Derived.Shelf.Abstract
import Derived.Shelf.RegionOpen
import Derived.Lib.Hide
import Derived.WalkSpells
import Derived.WalkLawsBesides
import Derived.WalkSmall
import Derived.Below
import Derived.RangeFuncBox
import Derived.OwnWalkIn
import Derived.WalkKit
import Derived.Test.YtdohfpnnmppdkaaProg
namespace Go.Proofs.Ytdohfpnnmppdkaa.Moo
set_option linter.unusedSimpArgs false
open Go.RowKit
/-- bit number i of a number -/
def bitAt (x i : Nat) : Nat := x / 2 ^ i % 2
/-- in how many of the first B bits two numbers differ -/
def apart (x y : Nat) : Nat → Nat
  | 0 => 0
  | B + 1 => apart x y B + if bitAt x B = bitAt y B then 0 else 1
end Go.Proofs.Ytdohfpnnmppdkaa.Moo
namespace Go.Proofs.Ytdohfpnnmppdkaa.Moo
open Go.RowKit Go.Shelf
set_option linter.unusedSimpArgs false
/-- the slice value holds these numbers (64 bits each), in a block below n₀; or it is nil -/
def Nums (n₀ : Nat) (W : World) (sv : Value) (zs : List Int) : Prop :=
  ∃ a cap, sv = .slice a zs.length cap ∧ zs.length ≤ cap ∧ ∀ k, k < zs.length → ∃ b off, a = some ⟨b, off, none⟩ ∧ b < n₀ ∧ W.cell? ⟨b, off + k, none⟩ = some (.int .i64 (zs[k]?.getD 0))
theorem Nums.at {W W' : World} {sv : Value} {zs : List Int} (h : Nums W.heap.size W sv zs) (hb : Below W.heap.size W W') : Nums W'.heap.size W' sv zs := by
  obtain ⟨a, cap, e, hl, hc⟩ := h
  refine ⟨a, cap, e, hl, fun k hk => ?_⟩
  obtain ⟨b, off, h1, h2, h3⟩ := hc k hk
  exact ⟨b, off, h1, Nat.lt_of_lt_of_le h2 hb.size, (hb.cell (p := ⟨b, off + k, none⟩) h2).trans h3⟩
theorem ret_bool {a b : Bool} (h : a = b) : Ending.returned (.bool a) = .returned (.bool b) := by rw [h]
theorem ret_int {k : IntKind} {a b : Int} (h : a = b) : Ending.returned (.int k a) = .returned (.int k b) := by rw [h]
end Go.Proofs.Ytdohfpnnmppdkaa.Moo
namespace Go.Proofs.Ytdohfpnnmppdkaa.Moo
open Go.RowKit Go.Shelf
set_option linter.unusedSimpArgs false
/-- an element: length, lift, drag, strength -/
structure El where
  len : Int
  lift : Int
  drag : Int
  str : Int
def elv (x : El) : Value := .agg #[.int .i64 x.len, .int .i64 x.lift, .int .i64 x.drag, .int .i64 x.str]
def btw (lo x hi : Int) : Bool := decide (lo ≤ x) && decide (x ≤ hi)
theorem btw_iff (lo x hi : Int) : btw lo x hi = true ↔ lo ≤ x ∧ x ≤ hi := by simp [btw]
def vE (x : El) : Bool := btw 0 x.len 1048576 && (btw (-1048576) x.lift 1048576 && (btw 0 x.drag 65536 && btw 1 x.str 16777216))
set_option maxHeartbeats 400000 in
theorem within64_any (x lo hi : Int) (w : World) :
    Calls Try.prog 231 #[.int .i64 x, .int .i64 lo, .int .i64 hi] w fun e w' => e = .returned (.bool (btw lo x hi)) ∧ w' = w := by
  unfold btw
  go_enter Try.func231, Try.ntmps231
  go_wp2
  all_goals
    go_ret
    exact ⟨ret_bool (by simp <;> omega), rfl⟩
set_option maxHeartbeats 2000000 in
theorem validElement_any (x : El) (w : World) :
    Calls Try.prog 232 #[elv x] w fun e w' => e = .returned (.bool (vE x)) ∧ Below w.heap.size w w' := by
  have c1 := fun w => within64_any x.len 0 1048576 w
  have c2 := fun w => within64_any x.lift (-1048576) 1048576 w
  have c3 := fun w => within64_any x.drag 0 65536 w
  have c4 := fun w => within64_any x.str 1 16777216 w
  unfold vE elv
  generalize btw 0 x.len 1048576 = b1 at *
  generalize btw (-1048576) x.lift 1048576 = b2 at *
  generalize btw 0 x.drag 65536 = b3 at *
  generalize btw 1 x.str 16777216 = b4 at *
  have hB : Below w.heap.size w (w.alloc (.cells #[.int .i64 x.len, .int .i64 x.lift, .int .i64 x.drag, .int .i64 x.str] 170)) := (Below.refl _ _).alloc (Nat.le_refl _) _
  cases b1
  · clear c2 c3 c4
    go_enter Try.func232, Try.ntmps232
    go_wp2_with fail
    refine (c1 _).mono ?_
    rintro e w1 ⟨rfl, rfl⟩
    go_wp2_with fail
    go_ret
    exact ⟨rfl, hB⟩
  cases b2
  · clear c3 c4
    go_enter Try.func232, Try.ntmps232
    go_wp2_with fail
    refine (c1 _).mono ?_
    rintro e w1 ⟨rfl, rfl⟩
    go_wp2_with fail
    refine (c2 _).mono ?_
    rintro e w1 ⟨rfl, rfl⟩
    go_wp2_with fail
    go_ret
    exact ⟨rfl, hB⟩
  cases b3
  · clear c4
    go_enter Try.func232, Try.ntmps232
    go_wp2_with fail
    refine (c1 _).mono ?_
    rintro e w1 ⟨rfl, rfl⟩
    go_wp2_with fail
    refine (c2 _).mono ?_
    rintro e w1 ⟨rfl, rfl⟩
    go_wp2_with fail
    refine (c3 _).mono ?_
    rintro e w1 ⟨rfl, rfl⟩
    go_wp2_with fail
    go_ret
    exact ⟨rfl, hB⟩
  · go_enter Try.func232, Try.ntmps232
    go_wp2_with fail
    refine (c1 _).mono ?_
    rintro e w1 ⟨rfl, rfl⟩
    go_wp2_with fail
    refine (c2 _).mono ?_
    rintro e w1 ⟨rfl, rfl⟩
    go_wp2_with fail
    refine (c3 _).mono ?_
    rintro e w1 ⟨rfl, rfl⟩
    go_wp2_with fail
    refine (c4 _).mono ?_
    rintro e w1 ⟨rfl, rfl⟩
    go_wp2_with fail
    go_ret
    exact ⟨rfl, hB⟩
end Go.Proofs.Ytdohfpnnmppdkaa.Moo
namespace Go.Proofs.Ytdohfpnnmppdkaa.Moo
open Go.RowKit Go.Shelf
set_option linter.unusedSimpArgs false
instance : Inhabited El := ⟨⟨0, 0, 0, 0⟩⟩
/-- element number k -/
def el (zs : List El) (k : Nat) : El := zs[k]?.getD default
/-- the slice value holds these elements, in a block below n₀; or it is nil -/
def Els (n₀ : Nat) (W : World) (sv : Value) (zs : List El) : Prop :=
  ∃ a cap, sv = .slice a zs.length cap ∧ zs.length ≤ cap ∧ ∀ k, k < zs.length → ∃ b off, a = some ⟨b, off, none⟩ ∧ b < n₀ ∧
    W.cell? ⟨b, off + k * 4, none⟩ = some (.int .i64 (el zs k).len) ∧ W.cell? ⟨b, off + k * 4 + 1, none⟩ = some (.int .i64 (el zs k).lift) ∧
    W.cell? ⟨b, off + k * 4 + 2, none⟩ = some (.int .i64 (el zs k).drag) ∧ W.cell? ⟨b, off + k * 4 + 3, none⟩ = some (.int .i64 (el zs k).str)
theorem Els.at {W W' : World} {sv : Value} {zs : List El} (h : Els W.heap.size W sv zs) (hb : Below W.heap.size W W') : Els W'.heap.size W' sv zs := by
  obtain ⟨a, cap, e, hl, hc⟩ := h
  refine ⟨a, cap, e, hl, fun k hk => ?_⟩
  obtain ⟨b, off, h1, h2, h3, h4, h5, h6⟩ := hc k hk
  exact ⟨b, off, h1, Nat.lt_of_lt_of_le h2 hb.size, (hb.cell (p := ⟨b, off + k * 4, none⟩) h2).trans h3, (hb.cell (p := ⟨b, off + k * 4 + 1, none⟩) h2).trans h4, (hb.cell (p := ⟨b, off + k * 4 + 2, none⟩) h2).trans h5, (hb.cell (p := ⟨b, off + k * 4 + 3, none⟩) h2).trans h6⟩
def mooOk (d an fr : Int) : Bool := btw 1 d 1048576 && (btw 0 an 1048576 && btw 0 fr 1000)
def mooE (d : Int) (zs : List El) (an fr : Int) : Int := if 40 < zs.length then 6 else if zs.length = 0 then 2 else if mooOk d an fr = true then (if zs.all vE = true then 0 else 2) else 2
theorem all_bad {zs : List El} {k : Nat} (hk : k < zs.length) (h : vE (el zs k) = false) : ¬ zs.all vE = true := by
  intro h2
  have := List.all_eq_true.1 h2 zs[k] (List.getElem_mem hk)
  unfold el at h
  rw [List.getElem?_eq_getElem hk, Option.getD_some, this] at h
  exact absurd h (by decide)
theorem all_ok {zs : List El} (h : ∀ k, k < zs.length → vE (el zs k) = true) : zs.all vE = true := by
  refine List.all_eq_true.2 fun z hz => ?_
  obtain ⟨k, hk, rfl⟩ := List.getElem_of_mem hz
  have := h k hk
  unfold el at this
  rwa [List.getElem?_eq_getElem hk, Option.getD_some] at this
set_option maxRecDepth 10000 in
set_option maxHeartbeats 4000000 in
theorem checkM_any (d an fr : Int) (sv : Value) (zs : List El) (w : World) (hI : Els w.heap.size w sv zs) :
    Calls Try.prog 215 #[.agg #[.int .i64 d, sv, .int .i64 an, .int .i64 fr]] w fun e w' => e = .returned (.int .i64 (mooE d zs an fr)) ∧ Below w.heap.size w w' := by
  have c1 := fun w => within64_any d 1 1048576 w
  have c2 := fun w => within64_any an 0 1048576 w
  have c3 := fun w => within64_any fr 0 1000 w
  obtain ⟨a, cap, rfl, hcap, hcell⟩ := hI
  have hB : Below w.heap.size w (w.alloc (.cells #[.int .i64 d, .slice a zs.length cap, .int .i64 an, .int .i64 fr] 97)) := (Below.refl _ _).alloc (Nat.le_refl _) _
  by_cases hl : 40 < zs.length
  · rw [show mooE d zs an fr = 6 from if_pos hl]
    clear hcell c1 c2 c3
    generalize zs.length = len at *
    go_enter Try.func215, Try.ntmps215
    go_wp2_with fail
    go_ret
    exact ⟨rfl, hB⟩
  by_cases h0 : zs.length = 0
  · rw [show mooE d zs an fr = 2 by unfold mooE; rw [if_neg hl, if_pos h0]]
    clear hcell c1 c2 c3 hl hcap
    rw [h0] at hB ⊢
    go_enter Try.func215, Try.ntmps215
    go_wp2_with fail
    go_ret
    exact ⟨rfl, hB⟩
  by_cases hb1 : btw 1 d 1048576 = true
  rotate_left
  · rw [show mooE d zs an fr = 2 by unfold mooE mooOk; rw [if_neg hl, if_neg h0, if_neg (by simp [hb1])]]
    rw [Bool.not_eq_true] at hb1
    rw [hb1] at c1
    clear hcell c2 c3 hb1
    generalize zs.length = len at *
    go_enter Try.func215, Try.ntmps215
    go_wp2_with fail
    refine (c1 _).mono ?_
    rintro e w1 ⟨rfl, rfl⟩
    go_wp2_with fail
    go_ret
    exact ⟨rfl, hB⟩
  by_cases hb2 : btw 0 an 1048576 = true
  rotate_left
  · rw [show mooE d zs an fr = 2 by unfold mooE mooOk; rw [if_neg hl, if_neg h0, if_neg (by simp [hb2])]]
    rw [Bool.not_eq_true] at hb2
    rw [hb1] at c1
    rw [hb2] at c2
    clear hcell c3 hb1 hb2
    generalize zs.length = len at *
    go_enter Try.func215, Try.ntmps215
    go_wp2_with fail
    refine (c1 _).mono ?_
    rintro e w1 ⟨rfl, rfl⟩
    go_wp2_with fail
    refine (c2 _).mono ?_
    rintro e w1 ⟨rfl, rfl⟩
    go_wp2_with fail
    go_ret
    exact ⟨rfl, hB⟩
  by_cases hb3 : btw 0 fr 1000 = true
  rotate_left
  · rw [show mooE d zs an fr = 2 by unfold mooE mooOk; rw [if_neg hl, if_neg h0, if_neg (by simp [hb3])]]
    rw [Bool.not_eq_true] at hb3
    rw [hb1] at c1
    rw [hb2] at c2
    rw [hb3] at c3
    clear hcell hb1 hb2 hb3
    generalize zs.length = len at *
    go_enter Try.func215, Try.ntmps215
    go_wp2_with fail
    refine (c1 _).mono ?_
    rintro e w1 ⟨rfl, rfl⟩
    go_wp2_with fail
    refine (c2 _).mono ?_
    rintro e w1 ⟨rfl, rfl⟩
    go_wp2_with fail
    refine (c3 _).mono ?_
    rintro e w1 ⟨rfl, rfl⟩
    go_wp2_with fail
    go_ret
    exact ⟨rfl, hB⟩
  rw [hb1] at c1
  rw [hb2] at c2
  rw [hb3] at c3
  have hok : mooOk d an fr = true := by unfold mooOk; rw [hb1, hb2, hb3]; rfl
  have HE := Lib.hid (show mooE d zs an fr = if zs.all vE = true then 0 else 2 by unfold mooE; rw [if_neg hl, if_neg h0, if_pos hok])
  have HX := Lib.hid (fun k hk h => all_bad (zs := zs) (k := k) hk h)
  have HO := Lib.hid (fun h => all_ok (zs := zs) h)
  have HC := Lib.hid hcell
  clear hcell hb1 hb2 hb3 hok
  generalize mooE d zs an fr = r at *
  generalize zs.all vE = al at *
  obtain ⟨A, hA⟩ : ∃ A, A = w.alloc (.cells #[.int .i64 d, .slice a zs.length cap, .int .i64 an, .int .i64 fr] 97) := ⟨_, rfl⟩
  rw [← hA] at hB
  have hsl : A.cell? ⟨w.heap.size, 1, none⟩ = some (.slice a zs.length cap) := by rw [hA]; simp [go_sem]
  have hwl : w.heap.size < A.heap.size := by rw [hA]; simp
  generalize zs.length = len at *
  have hz0 : ((len : Int) == 0) = false := by simp; omega
  go_enter Try.func215, Try.ntmps215
  go_wp2_with fail
  refine (c1 _).mono ?_
  rintro e w1 ⟨rfl, rfl⟩
  go_wp2_with fail
  refine (c2 _).mono ?_
  rintro e w1 ⟨rfl, rfl⟩
  go_wp2_with fail
  refine (c3 _).mono ?_
  rintro e w1 ⟨rfl, rfl⟩
  clear c1 c2 c3
  go_wp2_with fail
  try rw [← hA]
  clear hA
  go_loopw [34] (fun i wr => ∃ k : Nat, k ≤ len ∧ i = .int .i64 k ∧ (∀ j, j < k → vE (el zs j) = true) ∧ Below w.heap.size w wr) (fun i _ => len - (intOf i).toNat)
  case atStart => exact ⟨0, Nat.zero_le _, rfl, fun j hj => absurd hj (Nat.not_lt_zero j), hB⟩
  case round =>
    obtain ⟨k, hk, rfl, hall, hBr⟩ := hrel
    have HALL := Lib.hid hall
    clear hall
    by_cases hlt : k < len
    · obtain ⟨b, off, rfl, hb, k0, k1, k2, k3⟩ := HC.out k hlt
      have HXk := Lib.hid (HX.out k hlt)
      generalize hx : el zs k = x at k0 k1 k2 k3 HXk
      have HEX := Lib.hid hx
      clear hx
      have m0 := (hBr.cell (p := ⟨b, off + k * 4, none⟩) hb).trans k0
      have m1 := (hBr.cell (p := ⟨b, off + k * 4 + 1, none⟩) hb).trans k1
      have m2 := (hBr.cell (p := ⟨b, off + k * 4 + 2, none⟩) hb).trans k2
      have m3 := (hBr.cell (p := ⟨b, off + k * 4 + 3, none⟩) hb).trans k3
      clear k0 k1 k2 k3
      have cc := fun w => validElement_any x w
      unfold elv at cc
      by_cases hv : vE x = true
      · rw [hv] at cc
        have HV := Lib.hid hv
        clear hv
        go_wp2_with fail
        refine (cc _).mono ?_
        rintro e w2 ⟨rfl, hb2⟩
        go_wp2_with fail
        go_roundw
        case rel =>
          refine ⟨k + 1, by omega, by go_num, fun j hj => ?_, (hBr.alloc hBr.size _).trans (hb2.mono (by have := hBr.size; simp; omega))⟩
          rcases Nat.lt_or_ge j k with h | h
          · exact HALL.out j h
          · obtain rfl : j = k := by omega
            rw [HEX.out]; exact HV.out
        case measure => simp [intOf]; omega
      · rw [Bool.not_eq_true] at hv
        rw [hv] at cc
        have hr := HE.out
        rw [if_neg (HXk.out hv)] at hr
        clear HX HXk HO HE hv
        subst hr
        go_wp2_with fail
        refine (cc _).mono ?_
        rintro e w2 ⟨rfl, hb2⟩
        go_wp2_with fail
        go_ret
        exact ⟨rfl, (hBr.alloc hBr.size _).trans (hb2.mono (by have := hBr.size; simp; omega))⟩
    · obtain rfl : k = len := by omega
      have hr := HE.out
      rw [if_pos (HO.out HALL.out)] at hr
      clear HX HO HE hlt
      subst hr
      go_wp2_with fail
      go_ret
      exact ⟨rfl, hBr⟩
end Go.Proofs.Ytdohfpnnmppdkaa.Moo
namespace Go.Proofs.Ytdohfpnnmppdkaa.Moo
open Go.RowKit Go.Shelf
set_option linter.unusedSimpArgs false
def vB (lo hi : Int) : Bool := decide (lo ≤ hi) && (decide (-1073741824 ≤ lo) && decide (hi ≤ 1073741824))
theorem vB_iff (lo hi : Int) : vB lo hi = true ↔ lo ≤ hi ∧ -1073741824 ≤ lo ∧ hi ≤ 1073741824 := by simp [vB]
def chk (lo hi : Int) : Int := if vB lo hi = true then 0 else 2
set_option maxHeartbeats 400000 in
theorem floats_any (x : Int) (w : World) : Calls Try.prog 216 #[.int .i64 x] w fun e w' => e = .returned (.bool (decide (1 ≤ x))) ∧ w' = w := by
  go_enter Try.func216, Try.ntmps216
  go_wp2
  all_goals
    go_ret
    exact ⟨ret_bool (by first | rfl | (simp <;> omega)), rfl⟩
set_option maxHeartbeats 400000 in
theorem exactly_any (x : Int) (w : World) : Calls Try.prog 167 #[.int .i64 x] w fun e w' => e = .returned (.agg #[.int .i64 x, .int .i64 x]) ∧ Below w.heap.size w w' := by
  go_enter Try.func167, Try.ntmps167
  go_wp2_with fail
  refine bodyPost_ret (v := .agg #[.int .i64 x, .int .i64 x]) (by simp [results, Try.results167, go_sem]) rfl ⟨rfl, (Below.refl _ _).alloc (Nat.le_refl _) _⟩
set_option maxHeartbeats 400000 in
theorem bcheck_ok (lo hi : Int) (h : vB lo hi = true) (w : World) :
    Calls Try.prog 110 #[.agg #[.int .i64 lo, .int .i64 hi]] w fun e w' => e = .returned (.int .i64 0) ∧ Below w.heap.size w w' := by
  obtain ⟨h1, h2, h3⟩ := (vB_iff lo hi).1 h
  go_enter Try.func110, Try.ntmps110
  go_wp2
  all_goals
    go_ret
    exact ⟨rfl, (Below.refl _ _).alloc (Nat.le_refl _) _⟩
set_option maxHeartbeats 400000 in
theorem bcheck_bad (lo hi : Int) (h : ¬ vB lo hi = true) (w : World) :
    Calls Try.prog 110 #[.agg #[.int .i64 lo, .int .i64 hi]] w fun e w' => e = .returned (.int .i64 2) ∧ Below w.heap.size w w' := by
  rw [vB_iff] at h
  go_enter Try.func110, Try.ntmps110
  go_wp2
  all_goals
    go_ret
    exact ⟨by first | rfl | (exfalso; omega), (Below.refl _ _).alloc (Nat.le_refl _) _⟩
set_option maxHeartbeats 400000 in
theorem atMost_any (lo hi n : Int) (w : World) : Calls Try.prog 204 #[.agg #[.int .i64 lo, .int .i64 hi], .int .i64 n] w fun e w' => e = .returned (.agg #[.int .i64 lo, .int .i64 (min hi n)]) ∧ Below w.heap.size w w' := by
  go_enter Try.func204, Try.ntmps204
  go_wp2_with fail
  all_goals
    refine bodyPost_ret (v := .agg #[.int .i64 lo, .int .i64 (min hi n)]) (by simp [results, Try.results204, go_sem]; try omega) rfl ⟨rfl, ?_⟩
    repeat (first | exact Below.refl _ _ | refine Below.setCell ?_ (by first | omega | (simp; omega) | simp) _ | refine Below.alloc ?_ (by first | omega | (simp; omega) | simp) _)
end Go.Proofs.Ytdohfpnnmppdkaa.Moo
namespace Go.Proofs.Ytdohfpnnmppdkaa.Moo
open Go.RowKit Go.Shelf
set_option linter.unusedSimpArgs false
def nth (zs : List Int) (k : Nat) : Int := zs[k]?.getD 0
/-- the least of the first k + 1 numbers -/
def leastTo (zs : List Int) : Nat → Int
  | 0 => nth zs 0
  | k + 1 => min (leastTo zs k) (nth zs (k + 1))
set_option maxHeartbeats 1000000 in
theorem sliceMin_any (sv : Value) (zs : List Int) (h0 : 0 < zs.length) (hl : zs.length ≤ 2147483649) (w : World) (hI : Nums w.heap.size w sv zs) :
    Calls Try.prog 217 #[sv] w fun e w' => e = .returned (.int .i64 (leastTo zs (zs.length - 1))) ∧ w' = w := by
  obtain ⟨a, cap, rfl, -, hcell⟩ := hI
  have HC := Lib.hid (show ∀ k, k < zs.length → ∃ b off, a = some ⟨b, off, none⟩ ∧ b < w.heap.size ∧ w.cell? ⟨b, off + k, none⟩ = some (.int .i64 (nth zs k)) from hcell)
  have HS := Lib.hid (show ∀ k, leastTo zs (k + 1) = min (leastTo zs k) (nth zs (k + 1)) from fun _ => rfl)
  have HZ := Lib.hid (show leastTo zs 0 = nth zs 0 from rfl)
  clear hcell
  generalize zs.length = len at *
  obtain ⟨b, off, rfl, hb, c0⟩ := HC.out 0 h0
  simp only [Nat.add_zero] at c0
  rw [← HZ.out] at c0
  go_enter Try.func217, Try.ntmps217
  go_wp2_with fail
  go_loopw [3, 4] (fun m i wr => ∃ k : Nat, k + 1 ≤ len ∧ i = .int .i64 (k + 1 : Nat) ∧ m = .int .i64 (leastTo zs k) ∧ wr = w) (fun _ i _ => len - (intOf i).toNat)
  case atStart => exact ⟨0, by omega, rfl, rfl, rfl⟩
  case round =>
    obtain ⟨k, hk, rfl, rfl, rfl⟩ := hrel
    by_cases hlt : k + 1 < len
    · obtain ⟨b2, off2, e2, hb2, c1⟩ := HC.out (k + 1) hlt
      simp at e2
      obtain ⟨rfl, rfl⟩ := e2
      have HSk := Lib.hid (HS.out k)
      generalize nth zs (k + 1) = y at c1 HSk
      generalize leastTo zs k = x at HSk ⊢
      go_wp2_with fail
      all_goals
        go_roundw
        case rel => exact ⟨k + 1, by omega, by go_num, by rw [HSk.out]; congr 1; omega, by first | rfl | trivial⟩
        case measure => simp [intOf]; omega
    · have e : len - 1 = k := by omega
      have HE := Lib.hid e
      clear e
      go_wp2_with fail
      go_ret
      exact ⟨by rw [HE.out]; rfl, rfl⟩
end Go.Proofs.Ytdohfpnnmppdkaa.Moo

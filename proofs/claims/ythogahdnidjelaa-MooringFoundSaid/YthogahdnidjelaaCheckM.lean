/-
  mooring.Check.
-/
import Derived.Test.YthogahdnidjelaaElem
namespace Go.Proofs.Ythogahdnidjelaa
open Go.RowKit Go.Shelf
set_option linter.unusedSimpArgs false
instance : Inhabited El := ⟨⟨0, 0, 0, 0⟩⟩
/-- element number k -/
def el (zs : List El) (k : Nat) : El := zs[k]?.getD default
/-- the slice value holds these elements, in a block below n₀; or it is nil -/
def Els (n₀ : Nat) (W : World) (sv : Value) (zs : List El) : Prop :=
  ∃ a cap, sv = .slice a zs.length cap ∧ zs.length ≤ cap ∧ ∀ k, k < zs.length → ∃ b off, a = some ⟨b, off, none⟩ ∧ b < n₀ ∧
    W.cell? ⟨b, off + k * 4, none⟩ = some (.int .i64 (el zs k).len) ∧ W.cell? ⟨b, off + k * 4 + 1, none⟩ = some (.int .i64 (el zs k).lift) ∧
    W.cell? ⟨b, off + k * 4 + 2, none⟩ = some (.int .i64 (el zs k).drag) ∧ W.cell? ⟨b, off + k * 4 + 3, none⟩ = some (.int .i64 (el zs k).str)
theorem Els.at {W W' : World} {sv : Value} {zs : List El} (h : Els W.heap.size W sv zs) (hb : Below W.heap.size W W') : Els W'.heap.size W' sv zs := by
  obtain ⟨a, cap, e, hl, hc⟩ := h
  refine ⟨a, cap, e, hl, fun k hk => ?_⟩
  obtain ⟨b, off, h1, h2, h3, h4, h5, h6⟩ := hc k hk
  exact ⟨b, off, h1, Nat.lt_of_lt_of_le h2 hb.size, (hb.cell (p := ⟨b, off + k * 4, none⟩) h2).trans h3, (hb.cell (p := ⟨b, off + k * 4 + 1, none⟩) h2).trans h4, (hb.cell (p := ⟨b, off + k * 4 + 2, none⟩) h2).trans h5, (hb.cell (p := ⟨b, off + k * 4 + 3, none⟩) h2).trans h6⟩
def mooOk (d an fr : Int) : Bool := btw 1 d 1048576 && (btw 0 an 1048576 && btw 0 fr 1000)
def mooE (d : Int) (zs : List El) (an fr : Int) : Int := if 40 < zs.length then 6 else if zs.length = 0 then 2 else if mooOk d an fr = true then (if zs.all vE = true then 0 else 2) else 2
theorem all_bad {zs : List El} {k : Nat} (hk : k < zs.length) (h : vE (el zs k) = false) : ¬ zs.all vE = true := by
  intro h2
  have := List.all_eq_true.1 h2 zs[k] (List.getElem_mem hk)
  unfold el at h
  rw [List.getElem?_eq_getElem hk, Option.getD_some, this] at h
  exact absurd h (by decide)
theorem all_ok {zs : List El} (h : ∀ k, k < zs.length → vE (el zs k) = true) : zs.all vE = true := by
  refine List.all_eq_true.2 fun z hz => ?_
  obtain ⟨k, hk, rfl⟩ := List.getElem_of_mem hz
  have := h k hk
  unfold el at this
  rwa [List.getElem?_eq_getElem hk, Option.getD_some] at this
set_option maxRecDepth 10000 in
set_option maxHeartbeats 4000000 in
theorem checkM_any (d an fr : Int) (sv : Value) (zs : List El) (w : World) (hI : Els w.heap.size w sv zs) :
    Calls Try.prog 18 #[.agg #[.int .i64 d, sv, .int .i64 an, .int .i64 fr]] w fun e w' => e = .returned (.int .i64 (mooE d zs an fr)) ∧ Below w.heap.size w w' := by
  have c1 := fun w => within64_any d 1 1048576 w
  have c2 := fun w => within64_any an 0 1048576 w
  have c3 := fun w => within64_any fr 0 1000 w
  obtain ⟨a, cap, rfl, hcap, hcell⟩ := hI
  have hB : Below w.heap.size w (w.alloc (.cells #[.int .i64 d, .slice a zs.length cap, .int .i64 an, .int .i64 fr] 24)) := (Below.refl _ _).alloc (Nat.le_refl _) _
  by_cases hl : 40 < zs.length
  · rw [show mooE d zs an fr = 6 from if_pos hl]
    clear hcell c1 c2 c3
    generalize zs.length = len at *
    go_enter Try.func18, Try.ntmps18
    go_wp2_with fail
    go_ret
    exact ⟨rfl, hB⟩
  by_cases h0 : zs.length = 0
  · rw [show mooE d zs an fr = 2 by unfold mooE; rw [if_neg hl, if_pos h0]]
    clear hcell c1 c2 c3 hl hcap
    rw [h0] at hB ⊢
    go_enter Try.func18, Try.ntmps18
    go_wp2_with fail
    go_ret
    exact ⟨rfl, hB⟩
  by_cases hb1 : btw 1 d 1048576 = true
  rotate_left
  · rw [show mooE d zs an fr = 2 by unfold mooE mooOk; rw [if_neg hl, if_neg h0, if_neg (by simp [hb1])]]
    rw [Bool.not_eq_true] at hb1
    rw [hb1] at c1
    clear hcell c2 c3 hb1
    generalize zs.length = len at *
    go_enter Try.func18, Try.ntmps18
    go_wp2_with fail
    refine (c1 _).mono ?_
    rintro e w1 ⟨rfl, rfl⟩
    go_wp2_with fail
    go_ret
    exact ⟨rfl, hB⟩
  by_cases hb2 : btw 0 an 1048576 = true
  rotate_left
  · rw [show mooE d zs an fr = 2 by unfold mooE mooOk; rw [if_neg hl, if_neg h0, if_neg (by simp [hb2])]]
    rw [Bool.not_eq_true] at hb2
    rw [hb1] at c1
    rw [hb2] at c2
    clear hcell c3 hb1 hb2
    generalize zs.length = len at *
    go_enter Try.func18, Try.ntmps18
    go_wp2_with fail
    refine (c1 _).mono ?_
    rintro e w1 ⟨rfl, rfl⟩
    go_wp2_with fail
    refine (c2 _).mono ?_
    rintro e w1 ⟨rfl, rfl⟩
    go_wp2_with fail
    go_ret
    exact ⟨rfl, hB⟩
  by_cases hb3 : btw 0 fr 1000 = true
  rotate_left
  · rw [show mooE d zs an fr = 2 by unfold mooE mooOk; rw [if_neg hl, if_neg h0, if_neg (by simp [hb3])]]
    rw [Bool.not_eq_true] at hb3
    rw [hb1] at c1
    rw [hb2] at c2
    rw [hb3] at c3
    clear hcell hb1 hb2 hb3
    generalize zs.length = len at *
    go_enter Try.func18, Try.ntmps18
    go_wp2_with fail
    refine (c1 _).mono ?_
    rintro e w1 ⟨rfl, rfl⟩
    go_wp2_with fail
    refine (c2 _).mono ?_
    rintro e w1 ⟨rfl, rfl⟩
    go_wp2_with fail
    refine (c3 _).mono ?_
    rintro e w1 ⟨rfl, rfl⟩
    go_wp2_with fail
    go_ret
    exact ⟨rfl, hB⟩
  rw [hb1] at c1
  rw [hb2] at c2
  rw [hb3] at c3
  have hok : mooOk d an fr = true := by unfold mooOk; rw [hb1, hb2, hb3]; rfl
  have HE := Lib.hid (show mooE d zs an fr = if zs.all vE = true then 0 else 2 by unfold mooE; rw [if_neg hl, if_neg h0, if_pos hok])
  have HX := Lib.hid (fun k hk h => all_bad (zs := zs) (k := k) hk h)
  have HO := Lib.hid (fun h => all_ok (zs := zs) h)
  have HC := Lib.hid hcell
  clear hcell hb1 hb2 hb3 hok
  generalize mooE d zs an fr = r at *
  generalize zs.all vE = al at *
  obtain ⟨A, hA⟩ : ∃ A, A = w.alloc (.cells #[.int .i64 d, .slice a zs.length cap, .int .i64 an, .int .i64 fr] 24) := ⟨_, rfl⟩
  rw [← hA] at hB
  have hsl : A.cell? ⟨w.heap.size, 1, none⟩ = some (.slice a zs.length cap) := by rw [hA]; simp [go_sem]
  have hwl : w.heap.size < A.heap.size := by rw [hA]; simp
  generalize zs.length = len at *
  have hz0 : ((len : Int) == 0) = false := by simp; omega
  go_enter Try.func18, Try.ntmps18
  go_wp2_with fail
  refine (c1 _).mono ?_
  rintro e w1 ⟨rfl, rfl⟩
  go_wp2_with fail
  refine (c2 _).mono ?_
  rintro e w1 ⟨rfl, rfl⟩
  go_wp2_with fail
  refine (c3 _).mono ?_
  rintro e w1 ⟨rfl, rfl⟩
  clear c1 c2 c3
  go_wp2_with fail
  try rw [← hA]
  clear hA
  go_loopw [34] (fun i wr => ∃ k : Nat, k ≤ len ∧ i = .int .i64 k ∧ (∀ j, j < k → vE (el zs j) = true) ∧ Below w.heap.size w wr) (fun i _ => len - (intOf i).toNat)
  case atStart => exact ⟨0, Nat.zero_le _, rfl, fun j hj => absurd hj (Nat.not_lt_zero j), hB⟩
  case round =>
    obtain ⟨k, hk, rfl, hall, hBr⟩ := hrel
    have HALL := Lib.hid hall
    clear hall
    by_cases hlt : k < len
    · obtain ⟨b, off, rfl, hb, k0, k1, k2, k3⟩ := HC.out k hlt
      have HXk := Lib.hid (HX.out k hlt)
      generalize hx : el zs k = x at k0 k1 k2 k3 HXk
      have HEX := Lib.hid hx
      clear hx
      have m0 := (hBr.cell (p := ⟨b, off + k * 4, none⟩) hb).trans k0
      have m1 := (hBr.cell (p := ⟨b, off + k * 4 + 1, none⟩) hb).trans k1
      have m2 := (hBr.cell (p := ⟨b, off + k * 4 + 2, none⟩) hb).trans k2
      have m3 := (hBr.cell (p := ⟨b, off + k * 4 + 3, none⟩) hb).trans k3
      clear k0 k1 k2 k3
      have cc := fun w => validElement_any x w
      unfold elv at cc
      by_cases hv : vE x = true
      · rw [hv] at cc
        have HV := Lib.hid hv
        clear hv
        go_wp2_with fail
        refine (cc _).mono ?_
        rintro e w2 ⟨rfl, hb2⟩
        go_wp2_with fail
        go_roundw
        case rel =>
          refine ⟨k + 1, by omega, by go_num, fun j hj => ?_, (hBr.alloc hBr.size _).trans (hb2.mono (by have := hBr.size; simp; omega))⟩
          rcases Nat.lt_or_ge j k with h | h
          · exact HALL.out j h
          · obtain rfl : j = k := by omega
            rw [HEX.out]; exact HV.out
        case measure => simp [intOf]; omega
      · rw [Bool.not_eq_true] at hv
        rw [hv] at cc
        have hr := HE.out
        rw [if_neg (HXk.out hv)] at hr
        clear HX HXk HO HE hv
        subst hr
        go_wp2_with fail
        refine (cc _).mono ?_
        rintro e w2 ⟨rfl, hb2⟩
        go_wp2_with fail
        go_ret
        exact ⟨rfl, (hBr.alloc hBr.size _).trans (hb2.mono (by have := hBr.size; simp; omega))⟩
    · obtain rfl : k = len := by omega
      have hr := HE.out
      rw [if_pos (HO.out HALL.out)] at hr
      clear HX HO HE hlt
      subst hr
      go_wp2_with fail
      go_ret
      exact ⟨rfl, hBr⟩
end Go.Proofs.Ythogahdnidjelaa

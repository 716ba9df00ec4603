/-
  The reference's currents, Stands, all.
-/
import Derived.Test.YtmodplodnimmkaaDoorRefCheckM
import Derived.Test.YtmodplodnimmkaaDoorCur
import Derived.BigQuiet
import Derived.Deep.QuietTactic
namespace Go.Proofs.YtmodplodnimmkaaDoor
open Go.RowKit Go.Shelf
set_option linter.unusedSimpArgs false
theorem okC_three (a : Pr) : (a.hi < a.lo ∧ okC a = false) ∨ (a.lo ≤ a.hi ∧ a.lo < 0 ∧ okC a = false) ∨ (a.lo ≤ a.hi ∧ 0 ≤ a.lo ∧ 3000 < a.hi ∧ okC a = false) ∨ (a.lo ≤ a.hi ∧ 0 ≤ a.lo ∧ a.hi ≤ 3000 ∧ okC a = true) := by
  have no : ¬ (0 ≤ a.lo ∧ a.lo ≤ a.hi ∧ a.hi ≤ 3000) → okC a = false := fun h => by
    cases e : okC a
    · rfl
    · exact absurd ((okC_iff a).1 e) h
  rcases Int.lt_or_le a.hi a.lo with h | h
  · exact .inl ⟨h, no (by omega)⟩
  · rcases Int.lt_or_le a.lo 0 with g | g
    · exact .inr (.inl ⟨h, g, no (by omega)⟩)
    · rcases Int.lt_or_le 3000 a.hi with k | k
      · exact .inr (.inr (.inl ⟨h, g, k, no (by omega)⟩))
      · exact .inr (.inr (.inr ⟨h, g, k, (okC_iff a).2 ⟨g, h, k⟩⟩))
set_option maxRecDepth 10000 in
set_option maxHeartbeats 8000000 in
theorem rcurrents_any (d an fr : Int) (sv cv : Value) (zs : List El) (cs : List Pr) (w : World) (hI : Els w.heap.size w sv zs) (hC : Prs w.heap.size w cv cs) :
    Calls Tryd.prog 62 #[.agg #[.int .i64 d, sv, .int .i64 an, .int .i64 fr], cv] w fun e w' => e = .returned (.int .i64 (curE d zs an fr cs)) ∧ Below w.heap.size w w' := by
  have c1 := fun w' (hb : Below w.heap.size w w') => rcheckM_any d an fr sv zs w' (hI.at hb)
  have HE := Lib.hid (show curE d zs an fr cs = if mooE d zs an fr = 0 then (if cs.length = zs.length then (if cs.all okC = true then 0 else 2) else 17) else mooE d zs an fr from rfl)
  have HM := Lib.hid (show mooE d zs an fr = 0 → zs.length ≤ 40 from fun h => (mooE_ok h).2.1)
  have HX := Lib.hid (fun k hk h => call_bad (cs := cs) (k := k) hk h)
  have HO := Lib.hid (fun h => call_ok (cs := cs) h)
  obtain ⟨a, cap, rfl, -, -⟩ := hI
  obtain ⟨c, cap2, rfl, -, hcur⟩ := hC
  have HU := Lib.hid hcur
  clear hcur
  generalize curE d zs an fr cs = r at *
  generalize mooE d zs an fr = e0 at *
  generalize cs.all okC = al at *
  generalize zs.length = len at *
  generalize cs.length = len2 at *
  have hB0 : Below w.heap.size w (w.alloc (.cells #[.int .i64 d, .slice a len cap, .int .i64 an, .int .i64 fr] 24)) := (Below.refl _ _).alloc (Nat.le_refl _) _
  by_cases he : e0 = 0
  rotate_left
  · have hr : r = e0 := by rw [HE.out, if_neg he]
    subst hr
    have hb : (r != 0) = true := by simpa using he
    clear HX HO HE HU HM he
    go_enter Tryd.func62, Tryd.ntmps62
    go_wp2_with fail
    refine (c1 _ hB0).mono ?_
    rintro e w1 ⟨rfl, hb1⟩
    have hB1 := hB0.trans (hb1.mono (by simp))
    clear hb1
    go_wp2_with fail
    go_ret
    exact ⟨rfl, hB1⟩
  subst he
  have h40 := HM.out rfl
  by_cases hl : len2 = len
  rotate_left
  · have hr : r = 17 := by rw [HE.out, if_pos rfl, if_neg hl]
    subst hr
    clear HX HO HE HU HM
    have hln : ((len2 : Int) != (len : Int)) = true := by simp; omega
    go_enter Tryd.func62, Tryd.ntmps62
    go_wp2_with fail
    refine (c1 _ hB0).mono ?_
    rintro e w1 ⟨rfl, hb1⟩
    have hB1 := hB0.trans (hb1.mono (by simp))
    have hsl : w1.cell? ⟨w.heap.size, 1, none⟩ = some (.slice a len cap) := (hb1.cell (p := ⟨w.heap.size, 1, none⟩) (by simp)).trans (by simp [go_sem])
    clear hb1
    go_wp2_with fail
    go_ret
    exact ⟨rfl, hB1⟩
  subst hl
  rw [if_pos rfl, if_pos rfl] at HE
  go_enter Tryd.func62, Tryd.ntmps62
  go_wp2_with fail
  refine (c1 _ hB0).mono ?_
  rintro e w1 ⟨rfl, hb1⟩
  have hB1 := hB0.trans (hb1.mono (by simp))
  have hsl : w1.cell? ⟨w.heap.size, 1, none⟩ = some (.slice a len2 cap) := (hb1.cell (p := ⟨w.heap.size, 1, none⟩) (by simp)).trans (by simp [go_sem])
  clear hb1 c1 hB0
  go_wp2_with fail
  go_loopw [6] (fun i wr => ∃ k : Nat, k ≤ len2 ∧ i = .int .i64 k ∧ (∀ j, j < k → okC (pr cs j) = true) ∧ Below w.heap.size w wr) (fun i _ => len2 - (intOf i).toNat)
  case atStart => exact ⟨0, Nat.zero_le _, rfl, fun j hj => absurd hj (Nat.not_lt_zero j), hB1⟩
  case round =>
    obtain ⟨k, hk, rfl, hall, hB⟩ := hrel
    have HALL := Lib.hid hall
    clear hall hB1 hsl
    have hsz := hB.size
    by_cases hlt : k < len2
    · obtain ⟨b2, off2, rfl, hb2, u0, u1⟩ := HU.out k hlt
      have HXk := Lib.hid (HX.out k hlt)
      have hcs := okC_three (pr cs k)
      have HK := Lib.hid (show k + 1 ≤ len2 by omega)
      have HSt := Lib.hid (show okC (pr cs k) = true → ∀ j, j < k + 1 → okC (pr cs j) = true from fun h j hj => by
        rcases Nat.lt_or_ge j k with g | g
        · exact HALL.out j g
        · obtain rfl : j = k := by omega
          exact h)
      generalize pr cs k = y at *
      obtain ⟨y0, y1⟩ := y
      dsimp only at *
      have n0 := (hB.cell (p := ⟨b2, off2 + k * 2, none⟩) hb2).trans u0
      have n1 := (hB.cell (p := ⟨b2, off2 + k * 2 + 1, none⟩) hb2).trans u1
      have hli : (k : Int) < (len2 : Int) := by omega
      clear u0 u1
      rcases hcs with ⟨h1, h4⟩ | ⟨h1, h2, h4⟩ | ⟨h1, h2, h3, h4⟩ | ⟨h1, h2, h3, h4⟩
      · have hr : r = 2 := by rw [HE.out, if_neg (HXk.out h4)]
        subst hr
        clear HX HO HE HXk HSt HALL h4
        have z1 : decide (y1 < y0) = true := by simp; omega
        go_wp2_with fail
        go_quiet (fail)
        go_wp2_with fail
        go_ret
        exact ⟨rfl, below_drewN hB _⟩
      · have hr : r = 2 := by rw [HE.out, if_neg (HXk.out h4)]
        subst hr
        clear HX HO HE HXk HSt HALL h4
        have z1 : decide (y1 < y0) = false := by simp; omega
        have z2 : decide (y0 < 0) = true := by simp; omega
        go_wp2_with fail
        go_quiet (fail)
        go_wp2_with fail
        go_ret
        exact ⟨rfl, below_drewN hB _⟩
      · have hr : r = 2 := by rw [HE.out, if_neg (HXk.out h4)]
        subst hr
        clear HX HO HE HXk HSt HALL h4
        have z1 : decide (y1 < y0) = false := by simp; omega
        have z2 : decide (y0 < 0) = false := by simp; omega
        have z3 : decide (3000 < y1) = true := by simp; omega
        go_wp2_with fail
        go_quiet (fail)
        go_wp2_with fail
        go_ret
        exact ⟨rfl, below_drewN hB _⟩
      · have HN := Lib.hid (HSt.out h4)
        clear HX HO HE HXk HSt HALL h4
        have z1 : decide (y1 < y0) = false := by simp; omega
        have z2 : decide (y0 < 0) = false := by simp; omega
        have z3 : decide (3000 < y1) = false := by simp; omega
        go_wp2_with fail
        go_quiet (fail)
        go_wp2_with fail
        go_roundw
        case rel => exact ⟨k + 1, HK.out, by go_num, HN.out, below_drewN hB _⟩
        case measure => have := HK.out; simp [intOf]; omega
    · obtain rfl : k = len2 := by omega
      have hr := HE.out
      rw [if_pos (HO.out HALL.out)] at hr
      clear HX HO HE HALL hlt HU
      subst hr
      go_wp2_with fail
      go_ret
      exact ⟨rfl, hB⟩
end Go.Proofs.YtmodplodnimmkaaDoor

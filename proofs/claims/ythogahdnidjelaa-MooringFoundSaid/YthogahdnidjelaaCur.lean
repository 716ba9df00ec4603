/-
  checkCurrents, checkStanding.
-/
import Derived.Test.YthogahdnidjelaaStands
namespace Go.Proofs.Ythogahdnidjelaa
open Go.RowKit Go.Shelf
set_option linter.unusedSimpArgs false
theorem okC_cases (a : Pr) : (vB a.lo a.hi = false ∧ okC a = false) ∨ (vB a.lo a.hi = true ∧ a.lo < 0 ∧ okC a = false) ∨ (vB a.lo a.hi = true ∧ 0 ≤ a.lo ∧ 3000 < a.hi ∧ okC a = false) ∨ (vB a.lo a.hi = true ∧ 0 ≤ a.lo ∧ a.hi ≤ 3000 ∧ okC a = true) := by
  cases hv : vB a.lo a.hi
  · left; simp [okC, hv]
  · by_cases h1 : a.lo < 0
    · right; left; refine ⟨rfl, h1, ?_⟩
      cases h : okC a
      · rfl
      · have := (okC_iff a).1 h; omega
    · by_cases h2 : 3000 < a.hi
      · right; right; left; refine ⟨rfl, by omega, h2, ?_⟩
        cases h : okC a
        · rfl
        · have := (okC_iff a).1 h; omega
      · right; right; right; refine ⟨rfl, by omega, by omega, ?_⟩
        rw [vB_iff] at hv
        exact (okC_iff a).2 ⟨by omega, hv.1, by omega⟩
set_option maxRecDepth 10000 in
set_option maxHeartbeats 4000000 in
theorem checkCurrents_any (d an fr : Int) (sv cv : Value) (zs : List El) (cs : List Pr) (w : World) (hI : Els w.heap.size w sv zs) (hC : Prs w.heap.size w cv cs) :
    Calls Try.prog 57 #[.agg #[.int .i64 d, sv, .int .i64 an, .int .i64 fr], cv] w fun e w' => e = .returned (.int .i64 (curE d zs an fr cs)) ∧ Below w.heap.size w w' := by
  have c1 := fun w' (hb : Below w.heap.size w w') => checkM_any d an fr sv zs w' (hI.at hb)
  have HE := Lib.hid (show curE d zs an fr cs = if mooE d zs an fr = 0 then (if cs.length = zs.length then (if cs.all okC = true then 0 else 2) else 17) else mooE d zs an fr from rfl)
  have HM := Lib.hid (show mooE d zs an fr = 0 → zs.length ≤ 40 from fun h => (mooE_ok h).2.1)
  have HX := Lib.hid (fun k hk h => call_bad (cs := cs) (k := k) hk h)
  have HO := Lib.hid (fun h => call_ok (cs := cs) h)
  obtain ⟨a, cap, rfl, -, -⟩ := hI
  obtain ⟨c, cap2, rfl, -, hcur⟩ := hC
  have HU := Lib.hid hcur
  clear hcur
  generalize curE d zs an fr cs = r at *
  generalize mooE d zs an fr = e0 at *
  generalize cs.all okC = al at *
  generalize zs.length = len at *
  generalize cs.length = len2 at *
  have hB0 : Below w.heap.size w (w.alloc (.cells #[.int .i64 d, .slice a len cap, .int .i64 an, .int .i64 fr] 24)) := (Below.refl _ _).alloc (Nat.le_refl _) _
  by_cases he : e0 = 0
  rotate_left
  · have hr : r = e0 := by rw [HE.out, if_neg he]
    subst hr
    have hb : (r != 0) = true := by simpa using he
    clear HX HO HE HU he
    go_enter Try.func57, Try.ntmps57
    go_wp2_with fail
    refine (c1 _ hB0).mono ?_
    rintro e w1 ⟨rfl, hb1⟩
    have hB1 := hB0.trans (hb1.mono (by simp))
    clear hb1
    go_wp2_with fail
    go_ret
    exact ⟨rfl, hB1⟩
  subst he
  have h40 := HM.out rfl
  by_cases hl : len2 = len
  rotate_left
  · have hr : r = 17 := by rw [HE.out, if_pos rfl, if_neg hl]
    subst hr
    clear HX HO HE HU HM
    have hln : ((len2 : Int) != (len : Int)) = true := by simp; omega
    go_enter Try.func57, Try.ntmps57
    go_wp2_with fail
    refine (c1 _ hB0).mono ?_
    rintro e w1 ⟨rfl, hb1⟩
    have hB1 := hB0.trans (hb1.mono (by simp))
    have hsl : w1.cell? ⟨w.heap.size, 1, none⟩ = some (.slice a len cap) := (hb1.cell (p := ⟨w.heap.size, 1, none⟩) (by simp)).trans (by simp [go_sem])
    clear hb1
    go_wp2_with fail
    go_ret
    exact ⟨rfl, hB1⟩
  subst hl
  rw [if_pos rfl, if_pos rfl] at HE
  go_enter Try.func57, Try.ntmps57
  go_wp2_with fail
  refine (c1 _ hB0).mono ?_
  rintro e w1 ⟨rfl, hb1⟩
  have hB1 := hB0.trans (hb1.mono (by simp))
  have hsl : w1.cell? ⟨w.heap.size, 1, none⟩ = some (.slice a len2 cap) := (hb1.cell (p := ⟨w.heap.size, 1, none⟩) (by simp)).trans (by simp [go_sem])
  clear hb1 c1 hB0
  go_wp2_with fail
  go_loopw [22] (fun i wr => ∃ k : Nat, k ≤ len2 ∧ i = .int .i64 k ∧ (∀ j, j < k → okC (pr cs j) = true) ∧ Below w.heap.size w wr) (fun i _ => len2 - (intOf i).toNat)
  case atStart => exact ⟨0, Nat.zero_le _, rfl, fun j hj => absurd hj (Nat.not_lt_zero j), hB1⟩
  case round =>
    obtain ⟨k, hk, rfl, hall, hB⟩ := hrel
    have HALL := Lib.hid hall
    clear hall hB1 hsl
    have hsz := hB.size
    by_cases hlt : k < len2
    · obtain ⟨b2, off2, rfl, hb2, u0, u1⟩ := HU.out k hlt
      have HXk := Lib.hid (HX.out k hlt)
      have hcs := okC_cases (pr cs k)
      have HSt := Lib.hid (show okC (pr cs k) = true → ∀ j, j < k + 1 → okC (pr cs j) = true from fun h j hj => by
        rcases Nat.lt_or_ge j k with g | g
        · exact HALL.out j g
        · obtain rfl : j = k := by omega
          exact h)
      generalize pr cs k = y at *
      obtain ⟨y0, y1⟩ := y
      dsimp only at *
      have n0 := (hB.cell (p := ⟨b2, off2 + k * 2, none⟩) hb2).trans u0
      have n1 := (hB.cell (p := ⟨b2, off2 + k * 2 + 1, none⟩) hb2).trans u1
      clear u0 u1
      rcases hcs with ⟨h1, h4⟩ | ⟨h1, h2, h4⟩ | ⟨h1, h2, h3, h4⟩ | ⟨h1, h2, h3, h4⟩
      · have hr : r = 2 := by rw [HE.out, if_neg (HXk.out h4)]
        have cc := fun w => bcheck_bad y0 y1 (by rw [h1]; decide) w
        subst hr
        clear HX HO HE HXk HSt HALL h1 h4
        go_wp2_with fail
        refine (cc _).mono ?_
        rintro e w2 ⟨rfl, hb⟩
        have hB2 := (hB.alloc hsz _).trans (hb.mono (by simp; omega))
        clear hb
        go_wp2_with fail
        go_ret
        exact ⟨rfl, hB2⟩
      · have hr : r = 2 := by rw [HE.out, if_neg (HXk.out h4)]
        have cc := fun w => bcheck_ok y0 y1 h1 w
        subst hr
        clear HX HO HE HXk HSt HALL h1 h4
        go_wp2_with fail
        refine (cc _).mono ?_
        rintro e w2 ⟨rfl, hb⟩
        have hB2 := (hB.alloc hsz _).trans (hb.mono (by simp; omega))
        have t0 : w2.cell? ⟨wr.heap.size, 0, none⟩ = some (.int .i64 y0) := (hb.cell (p := ⟨wr.heap.size, 0, none⟩) (by simp)).trans (by simp [go_sem])
        have t1 : w2.cell? ⟨wr.heap.size, 1, none⟩ = some (.int .i64 y1) := (hb.cell (p := ⟨wr.heap.size, 1, none⟩) (by simp)).trans (by simp [go_sem])
        clear hb
        go_wp2_with fail
        go_ret
        exact ⟨rfl, hB2⟩
      · have hr : r = 2 := by rw [HE.out, if_neg (HXk.out h4)]
        have cc := fun w => bcheck_ok y0 y1 h1 w
        subst hr
        clear HX HO HE HXk HSt HALL h1 h4
        go_wp2_with fail
        refine (cc _).mono ?_
        rintro e w2 ⟨rfl, hb⟩
        have hB2 := (hB.alloc hsz _).trans (hb.mono (by simp; omega))
        have t0 : w2.cell? ⟨wr.heap.size, 0, none⟩ = some (.int .i64 y0) := (hb.cell (p := ⟨wr.heap.size, 0, none⟩) (by simp)).trans (by simp [go_sem])
        have t1 : w2.cell? ⟨wr.heap.size, 1, none⟩ = some (.int .i64 y1) := (hb.cell (p := ⟨wr.heap.size, 1, none⟩) (by simp)).trans (by simp [go_sem])
        clear hb
        go_wp2_with fail
        go_ret
        exact ⟨rfl, hB2⟩
      · have cc := fun w => bcheck_ok y0 y1 h1 w
        have HN := Lib.hid (HSt.out h4)
        have HK := Lib.hid (show k + 1 ≤ len2 by omega)
        clear HX HO HE HXk HSt HALL h1 h4
        go_wp2_with fail
        refine (cc _).mono ?_
        rintro e w2 ⟨rfl, hb⟩
        have hB2 := (hB.alloc hsz _).trans (hb.mono (by simp; omega))
        have t0 : w2.cell? ⟨wr.heap.size, 0, none⟩ = some (.int .i64 y0) := (hb.cell (p := ⟨wr.heap.size, 0, none⟩) (by simp)).trans (by simp [go_sem])
        have t1 : w2.cell? ⟨wr.heap.size, 1, none⟩ = some (.int .i64 y1) := (hb.cell (p := ⟨wr.heap.size, 1, none⟩) (by simp)).trans (by simp [go_sem])
        clear hb
        go_wp2_with fail
        go_roundw
        case rel => exact ⟨k + 1, HK.out, by go_num, HN.out, hB2⟩
        case measure => have := HK.out; simp [intOf]; omega
    · obtain rfl : k = len2 := by omega
      have hr := HE.out
      rw [if_pos (HO.out HALL.out)] at hr
      clear HX HO HE HALL hlt HU
      subst hr
      go_wp2_with fail
      go_ret
      exact ⟨rfl, hB⟩
set_option maxRecDepth 10000 in
set_option maxHeartbeats 4000000 in
theorem checkStanding_any (d an fr : Int) (sv cv : Value) (zs : List El) (cs : List Pr) (w : World) (hI : Els w.heap.size w sv zs) (hC : Prs w.heap.size w cv cs) :
    Calls Try.prog 64 #[.agg #[.int .i64 d, sv, .int .i64 an, .int .i64 fr], cv] w fun e w' => e = .returned (.int .i64 (staE d zs an fr cs)) ∧ Below w.heap.size w w' := by
  have hA : Below w.heap.size w (w.alloc (.cells #[.int .i64 d, sv, .int .i64 an, .int .i64 fr] 24)) := (Below.refl _ _).alloc (Nat.le_refl _) _
  have c1 := checkCurrents_any d an fr sv cv zs cs _ (hI.at hA) (hC.at hA)
  have HE := Lib.hid (show staE d zs an fr cs = if curE d zs an fr cs = 0 then (if standB zs = true then 0 else 10) else curE d zs an fr cs from rfl)
  have C2 := Lib.hid (fun (h0 : curE d zs an fr cs = 0) (W : World) (hb : Below w.heap.size w W) => stands_any d an fr sv zs (curE_ok h0).1.pos (curE_ok h0).1.most (fun k hk => ((vE_iff _).1 ((curE_ok h0).1.els k hk)).2.1) W (hI.at hb))
  have HA := Lib.hid hA
  obtain ⟨a, cap, rfl, -, -⟩ := hI
  obtain ⟨c, cap2, rfl, -, -⟩ := hC
  generalize staE d zs an fr cs = r at *
  generalize curE d zs an fr cs = e0 at *
  generalize standB zs = sb at *
  generalize zs.length = len at *
  generalize cs.length = len2 at *
  clear hA
  by_cases he : e0 = 0
  rotate_left
  · have hr : r = e0 := by rw [HE.out, if_neg he]
    subst hr
    have hb : (r != 0) = true := by simpa using he
    clear HE C2 he
    go_enter Try.func64, Try.ntmps64
    go_wp2_with fail
    refine Calls.mono c1 ?_
    rintro e w1 ⟨rfl, hb1⟩
    have hB1 := HA.out.trans (hb1.mono (by simp))
    clear hb1
    go_wp2_with fail
    go_ret
    exact ⟨rfl, hB1⟩
  · subst he
    have hr : r = if sb = true then 0 else 10 := by rw [HE.out, if_pos rfl]
    have c2 := fun W (hb : Below w.heap.size w W) => C2.out rfl W hb
    clear HE C2
    cases sb
    · obtain rfl : r = 10 := hr
      go_enter Try.func64, Try.ntmps64
      go_wp2_with fail
      refine Calls.mono c1 ?_
      rintro e w1 ⟨rfl, hb1⟩
      have hB1 := HA.out.trans (hb1.mono (by simp))
      have k0 : w1.cell? ⟨w.heap.size, 0, none⟩ = some (.int .i64 d) := (hb1.cell (p := ⟨w.heap.size, 0, none⟩) (by simp)).trans (by simp [go_sem])
      have k1 : w1.cell? ⟨w.heap.size, 1, none⟩ = some (.slice a len cap) := (hb1.cell (p := ⟨w.heap.size, 1, none⟩) (by simp)).trans (by simp [go_sem])
      have k2 : w1.cell? ⟨w.heap.size, 2, none⟩ = some (.int .i64 an) := (hb1.cell (p := ⟨w.heap.size, 2, none⟩) (by simp)).trans (by simp [go_sem])
      have k3 : w1.cell? ⟨w.heap.size, 3, none⟩ = some (.int .i64 fr) := (hb1.cell (p := ⟨w.heap.size, 3, none⟩) (by simp)).trans (by simp [go_sem])
      clear hb1 c1
      go_wp2_with fail
      refine Calls.mono (c2 _ hB1) ?_
      rintro e w2 ⟨rfl, hb2⟩
      have hB2 := hB1.trans (hb2.mono hB1.size)
      clear hb2
      go_wp2_with fail
      go_ret
      exact ⟨rfl, hB2⟩
    · obtain rfl : r = 0 := hr
      go_enter Try.func64, Try.ntmps64
      go_wp2_with fail
      refine Calls.mono c1 ?_
      rintro e w1 ⟨rfl, hb1⟩
      have hB1 := HA.out.trans (hb1.mono (by simp))
      have k0 : w1.cell? ⟨w.heap.size, 0, none⟩ = some (.int .i64 d) := (hb1.cell (p := ⟨w.heap.size, 0, none⟩) (by simp)).trans (by simp [go_sem])
      have k1 : w1.cell? ⟨w.heap.size, 1, none⟩ = some (.slice a len cap) := (hb1.cell (p := ⟨w.heap.size, 1, none⟩) (by simp)).trans (by simp [go_sem])
      have k2 : w1.cell? ⟨w.heap.size, 2, none⟩ = some (.int .i64 an) := (hb1.cell (p := ⟨w.heap.size, 2, none⟩) (by simp)).trans (by simp [go_sem])
      have k3 : w1.cell? ⟨w.heap.size, 3, none⟩ = some (.int .i64 fr) := (hb1.cell (p := ⟨w.heap.size, 3, none⟩) (by simp)).trans (by simp [go_sem])
      clear hb1 c1
      go_wp2_with fail
      refine Calls.mono (c2 _ hB1) ?_
      rintro e w2 ⟨rfl, hb2⟩
      have hB2 := hB1.trans (hb2.mono hB1.size)
      clear hb2
      go_wp2_with fail
      go_ret
      exact ⟨rfl, hB2⟩
end Go.Proofs.Ythogahdnidjelaa

/-
  The reference's Check; Lifts of both sides.
-/
import Derived.Test.YthogahdnidjelaaRefLifts
import Derived.Test.YthogahdnidjelaaForceMath
namespace Go.Proofs.Ythogahdnidjelaa
open Go.RowKit Go.Shelf
set_option linter.unusedSimpArgs false
set_option maxRecDepth 10000 in
set_option maxHeartbeats 8000000 in
theorem rcheckM_any (d an fr : Int) (sv : Value) (zs : List El) (w : World) (hI : Els w.heap.size w sv zs) :
    Calls Try.prog 19 #[.agg #[.int .i64 d, sv, .int .i64 an, .int .i64 fr]] w fun e w' => e = .returned (.int .i64 (mooE d zs an fr)) ∧ Below w.heap.size w w' := by
  have c1 := fun w => rwithin_any d 1 1048576 w
  have c2 := fun w => rwithin_any an 0 1048576 w
  have c3 := fun w => rwithin_any fr 0 1000 w
  obtain ⟨a, cap, rfl, hcap, hcell⟩ := hI
  have hB : Below w.heap.size w (w.alloc (.cells #[.int .i64 d, .slice a zs.length cap, .int .i64 an, .int .i64 fr] 24)) := (Below.refl _ _).alloc (Nat.le_refl _) _
  by_cases hl : 40 < zs.length
  · rw [show mooE d zs an fr = 6 from if_pos hl]
    clear hcell c1 c2 c3
    generalize zs.length = len at *
    go_enter Try.func19, Try.ntmps19
    go_wp2_with fail
    go_ret
    exact ⟨rfl, hB⟩
  by_cases h0 : zs.length = 0
  · rw [show mooE d zs an fr = 2 by unfold mooE; rw [if_neg hl, if_pos h0]]
    clear hcell c1 c2 c3 hl hcap
    rw [h0] at hB ⊢
    go_enter Try.func19, Try.ntmps19
    go_wp2_with fail
    go_ret
    exact ⟨rfl, hB⟩
  by_cases hb1 : btw 1 d 1048576 = true
  rotate_left
  · rw [show mooE d zs an fr = 2 by unfold mooE mooOk; rw [if_neg hl, if_neg h0, if_neg (by simp [hb1])]]
    rw [Bool.not_eq_true] at hb1
    rw [hb1] at c1
    clear hcell c2 c3 hb1
    generalize zs.length = len at *
    have hz0 : ((len : Int) == 0) = false := by simp; omega
    go_enter Try.func19, Try.ntmps19
    go_wp2_with fail
    refine (c1 _).mono ?_
    rintro e w1 ⟨rfl, rfl⟩
    go_wp2_with fail
    go_ret
    exact ⟨rfl, hB⟩
  by_cases hb2 : btw 0 an 1048576 = true
  rotate_left
  · rw [show mooE d zs an fr = 2 by unfold mooE mooOk; rw [if_neg hl, if_neg h0, if_neg (by simp [hb2])]]
    rw [Bool.not_eq_true] at hb2
    rw [hb1] at c1
    rw [hb2] at c2
    clear hcell c3 hb2
    generalize zs.length = len at *
    have hz0 : ((len : Int) == 0) = false := by simp; omega
    go_enter Try.func19, Try.ntmps19
    go_wp2_with fail
    refine (c1 _).mono ?_
    rintro e w1 ⟨rfl, rfl⟩
    go_wp2_with fail
    refine (c2 _).mono ?_
    rintro e w1 ⟨rfl, rfl⟩
    go_wp2_with fail
    go_ret
    exact ⟨rfl, hB⟩
  by_cases hb3 : btw 0 fr 1000 = true
  rotate_left
  · rw [show mooE d zs an fr = 2 by unfold mooE mooOk; rw [if_neg hl, if_neg h0, if_neg (by simp [hb3])]]
    rw [Bool.not_eq_true] at hb3
    rw [hb1] at c1
    rw [hb2] at c2
    rw [hb3] at c3
    clear hcell  hb3
    generalize zs.length = len at *
    have hz0 : ((len : Int) == 0) = false := by simp; omega
    go_enter Try.func19, Try.ntmps19
    go_wp2_with fail
    refine (c1 _).mono ?_
    rintro e w1 ⟨rfl, rfl⟩
    go_wp2_with fail
    refine (c2 _).mono ?_
    rintro e w1 ⟨rfl, rfl⟩
    go_wp2_with fail
    refine (c3 _).mono ?_
    rintro e w1 ⟨rfl, rfl⟩
    go_wp2_with fail
    go_ret
    exact ⟨rfl, hB⟩
  rw [hb1] at c1
  rw [hb2] at c2
  rw [hb3] at c3
  have hok : mooOk d an fr = true := by unfold mooOk; rw [hb1, hb2, hb3]; rfl
  have HE := Lib.hid (show mooE d zs an fr = if zs.all vE = true then 0 else 2 by unfold mooE; rw [if_neg hl, if_neg h0, if_pos hok])
  have HX := Lib.hid (fun k hk h => all_bad (zs := zs) (k := k) hk h)
  have HO := Lib.hid (fun h => all_ok (zs := zs) h)
  have HC := Lib.hid hcell
  clear hcell hb1 hb2 hb3 hok
  generalize mooE d zs an fr = r at *
  generalize zs.all vE = al at *
  obtain ⟨A, hA⟩ : ∃ A, A = w.alloc (.cells #[.int .i64 d, .slice a zs.length cap, .int .i64 an, .int .i64 fr] 24) := ⟨_, rfl⟩
  rw [← hA] at hB
  have hsl : A.cell? ⟨w.heap.size, 1, none⟩ = some (.slice a zs.length cap) := by rw [hA]; simp [go_sem]
  have hzA : A.heap.size = w.heap.size + 1 := by rw [hA]; simp
  generalize zs.length = len at *
  have HSL := Lib.hid (fun W (h : Below (w.heap.size + 1) A W) => (h.cell (p := ⟨w.heap.size, 1, none⟩) (Nat.lt_succ_self _)).trans hsl)
  have HBA := Lib.hid hB
  have hz0 : ((len : Int) == 0) = false := by simp; omega
  go_enter Try.func19, Try.ntmps19
  go_wp2_with fail
  refine (c1 _).mono ?_
  rintro e w1 ⟨rfl, rfl⟩
  go_wp2_with fail
  refine (c2 _).mono ?_
  rintro e w2 ⟨rfl, rfl⟩
  go_wp2_with fail
  refine (c3 _).mono ?_
  rintro e w3 ⟨rfl, rfl⟩
  clear c1 c2 c3
  go_wp2_with fail
  try rw [← hA]
  clear hA hsl hB
  go_loopw [3] (fun i wr => ∃ k : Nat, k ≤ len ∧ i = .int .i64 k ∧ (∀ j, j < k → vE (el zs j) = true) ∧ Below (w.heap.size + 1) A wr) (fun i _ => len - (intOf i).toNat)
  case atStart => exact ⟨0, Nat.zero_le _, rfl, fun j hj => absurd hj (Nat.not_lt_zero j), Below.refl _ _⟩
  case round =>
    obtain ⟨k, hk, rfl, hall, hBr⟩ := hrel
    have HALL := Lib.hid hall
    clear hall
    have hsz := hBr.size
    have hs := HSL.out _ hBr
    have hBw := Lib.hid (HBA.out.trans (hBr.mono (Nat.le_succ _)))
    by_cases hlt : k < len
    · obtain ⟨b, off, rfl, hb, k0, k1, k2, k3⟩ := HC.out k hlt
      have HXk := Lib.hid (HX.out k hlt)
      have HSt := Lib.hid (show vE (el zs k) = true → ∀ j, j < k + 1 → vE (el zs j) = true from fun h j hj => by
        rcases Nat.lt_or_ge j k with g | g
        · exact HALL.out j g
        · obtain rfl : j = k := by omega
          exact h)
      generalize el zs k = x at k0 k1 k2 k3 HXk HSt
      have m0 := (hBw.out.cell (p := ⟨b, off + k * 4, none⟩) hb).trans k0
      have m1 := (hBw.out.cell (p := ⟨b, off + k * 4 + 1, none⟩) hb).trans k1
      have m2 := (hBw.out.cell (p := ⟨b, off + k * 4 + 2, none⟩) hb).trans k2
      have m3 := (hBw.out.cell (p := ⟨b, off + k * 4 + 3, none⟩) hb).trans k3
      clear k0 k1 k2 k3
      have q1 := fun w => rwithin_any x.len 0 1048576 w
      have q2 := fun w => rwithin_any x.lift (-1048576) 1048576 w
      have q3 := fun w => rwithin_any x.drag 0 65536 w
      have q4 := fun w => rwithin_any x.str 1 16777216 w
      have hv : vE x = (btw 0 x.len 1048576 && (btw (-1048576) x.lift 1048576 && (btw 0 x.drag 65536 && btw 1 x.str 16777216))) := rfl
      generalize btw 0 x.len 1048576 = p1 at *
      generalize btw (-1048576) x.lift 1048576 = p2 at *
      generalize btw 0 x.drag 65536 = p3 at *
      generalize btw 1 x.str 16777216 = p4 at *
      cases p1
      · have hr := HE.out
        rw [if_neg (HXk.out (by rw [hv]; simp))] at hr
        clear HX HXk HO HE HSt HALL hv q2 q3 q4
        subst hr
        go_wp2_with fail
        refine (q1 _).mono ?_
        rintro e w4 ⟨rfl, rfl⟩
        go_wp2_with fail
        go_ret
        exact ⟨rfl, hBw.out.alloc (by omega) _⟩
      cases p2
      · have hr := HE.out
        rw [if_neg (HXk.out (by rw [hv]; simp))] at hr
        clear HX HXk HO HE HSt HALL hv q3 q4
        subst hr
        go_wp2_with fail
        refine (q1 _).mono ?_
        rintro e w4 ⟨rfl, rfl⟩
        go_wp2_with fail
        refine (q2 _).mono ?_
        rintro e w4 ⟨rfl, rfl⟩
        go_wp2_with fail
        go_ret
        exact ⟨rfl, hBw.out.alloc (by omega) _⟩
      cases p3
      · have hr := HE.out
        rw [if_neg (HXk.out (by rw [hv]; simp))] at hr
        clear HX HXk HO HE HSt HALL hv q4
        subst hr
        go_wp2_with fail
        refine (q1 _).mono ?_
        rintro e w4 ⟨rfl, rfl⟩
        go_wp2_with fail
        refine (q2 _).mono ?_
        rintro e w4 ⟨rfl, rfl⟩
        go_wp2_with fail
        refine (q3 _).mono ?_
        rintro e w4 ⟨rfl, rfl⟩
        go_wp2_with fail
        go_ret
        exact ⟨rfl, hBw.out.alloc (by omega) _⟩
      cases p4
      · have hr := HE.out
        rw [if_neg (HXk.out (by rw [hv]; simp))] at hr
        clear HX HXk HO HE HSt HALL hv 
        subst hr
        go_wp2_with fail
        refine (q1 _).mono ?_
        rintro e w4 ⟨rfl, rfl⟩
        go_wp2_with fail
        refine (q2 _).mono ?_
        rintro e w4 ⟨rfl, rfl⟩
        go_wp2_with fail
        refine (q3 _).mono ?_
        rintro e w4 ⟨rfl, rfl⟩
        go_wp2_with fail
        refine (q4 _).mono ?_
        rintro e w4 ⟨rfl, rfl⟩
        go_wp2_with fail
        go_ret
        exact ⟨rfl, hBw.out.alloc (by omega) _⟩
      have HN := Lib.hid (HSt.out (by rw [hv]; rfl))
      have HK := Lib.hid (show k + 1 ≤ len by omega)
      clear HX HXk HO HE HSt HALL hv
      go_wp2_with fail
      refine (q1 _).mono ?_
      rintro e w4 ⟨rfl, rfl⟩
      go_wp2_with fail
      refine (q2 _).mono ?_
      rintro e w4 ⟨rfl, rfl⟩
      go_wp2_with fail
      refine (q3 _).mono ?_
      rintro e w4 ⟨rfl, rfl⟩
      go_wp2_with fail
      refine (q4 _).mono ?_
      rintro e w4 ⟨rfl, rfl⟩
      go_wp2_with fail
      go_roundw
      case rel => exact ⟨k + 1, HK.out, by go_num, HN.out, hBr.alloc (by omega) _⟩
      case measure => have := HK.out; simp [intOf]; omega
    · obtain rfl : k = len := by omega
      have hr := HE.out
      rw [if_pos (HO.out HALL.out)] at hr
      clear HX HO HE hlt
      subst hr
      go_wp2_with fail
      go_ret
      exact ⟨rfl, hBw.out⟩
def lifV (d : Int) (zs : List El) (an fr : Int) : List Int := if mooE d zs an fr = 0 then lifL zs zs.length else []
set_option maxRecDepth 10000 in
set_option maxHeartbeats 2000000 in
theorem liftsM_any (d an fr : Int) (sv : Value) (zs : List El) (w : World) (hI : Els w.heap.size w sv zs) :
    Calls Try.prog 16 #[.agg #[.int .i64 d, sv, .int .i64 an, .int .i64 fr]] w fun e w' => ∃ v, e = .returned (.tuple #[v, .int .i64 (mooE d zs an fr)]) ∧ Nums w'.heap.size w' v (lifV d zs an fr) ∧ Below w.heap.size w w' := by
  have hA : Below w.heap.size w (w.alloc (.cells #[.int .i64 d, sv, .int .i64 an, .int .i64 fr] 24)) := (Below.refl _ _).alloc (Nat.le_refl _) _
  have c1 := fun W (hb : Below w.heap.size w W) => checkM_any d an fr sv zs W (hI.at hb)
  have hv : mooE d zs an fr = 0 → zs.length ≤ 40 ∧ ∀ k, k < zs.length → -1048576 ≤ (el zs k).lift ∧ (el zs k).lift ≤ 1048576 := fun h => ⟨(mooE_ok h).2.1, fun k hk => ((vE_iff _).1 ((mooE_ok h).2.2.1 k hk)).2.1⟩
  have C2 := Lib.hid (fun (h : mooE d zs an fr = 0) W (hb : Below w.heap.size w W) => lifts_any d an fr sv zs (hv h).1 (hv h).2 W (hI.at hb))
  have HV := Lib.hid (show lifV d zs an fr = if mooE d zs an fr = 0 then lifL zs zs.length else [] from rfl)
  obtain ⟨a, cap, rfl, -, -⟩ := hI
  clear hv
  generalize lifV d zs an fr = V at *
  generalize mooE d zs an fr = E at *
  generalize lifL zs zs.length = L at *
  generalize zs.length = len at *
  have HA := Lib.hid hA
  by_cases hE : E = 0
  rotate_left
  · have hV : V = [] := by rw [HV.out, if_neg hE]
    subst hV
    have hb : (E != 0) = true := by simpa using hE
    clear HV C2 hE hA
    go_enter Try.func16, Try.ntmps16
    go_wp2_with fail
    refine (c1 _ HA.out).mono ?_
    rintro e w1 ⟨rfl, hb1⟩
    have hB1 := Lib.hid (HA.out.trans (hb1.mono (by simp)))
    clear hb1 c1
    go_wp2_with fail
    go_ret2
    exact ⟨_, rfl, nums_nil _ _, hB1.out⟩
  · subst hE
    have hV : V = L := by rw [HV.out, if_pos rfl]
    subst hV
    have c2 := C2.out rfl
    clear HV C2 hA
    go_enter Try.func16, Try.ntmps16
    go_wp2_with fail
    refine (c1 _ HA.out).mono ?_
    rintro e w1 ⟨rfl, hb1⟩
    have hB1 := Lib.hid (HA.out.trans (hb1.mono (by simp)))
    have k0 : w1.cell? ⟨w.heap.size, 0, none⟩ = some (.int .i64 d) := (hb1.cell (p := ⟨w.heap.size, 0, none⟩) (by simp)).trans (by simp [go_sem])
    have k1 : w1.cell? ⟨w.heap.size, 1, none⟩ = some (.slice a len cap) := (hb1.cell (p := ⟨w.heap.size, 1, none⟩) (by simp)).trans (by simp [go_sem])
    have k2 : w1.cell? ⟨w.heap.size, 2, none⟩ = some (.int .i64 an) := (hb1.cell (p := ⟨w.heap.size, 2, none⟩) (by simp)).trans (by simp [go_sem])
    have k3 : w1.cell? ⟨w.heap.size, 3, none⟩ = some (.int .i64 fr) := (hb1.cell (p := ⟨w.heap.size, 3, none⟩) (by simp)).trans (by simp [go_sem])
    clear hb1 c1
    go_wp2_with fail
    refine (c2 _ hB1.out).mono ?_
    rintro e w2 ⟨v, rfl, hn, hb2⟩
    have hB2 := Lib.hid (hB1.out.trans (hb2.mono hB1.out.size))
    have HN := Lib.hid hn
    clear hn hb2
    go_wp2_with fail
    go_ret2
    exact ⟨_, rfl, HN.out, hB2.out⟩
set_option maxRecDepth 10000 in
set_option maxHeartbeats 2000000 in
theorem rliftsM_any (d an fr : Int) (sv : Value) (zs : List El) (w : World) (hI : Els w.heap.size w sv zs) :
    Calls Try.prog 17 #[.agg #[.int .i64 d, sv, .int .i64 an, .int .i64 fr]] w fun e w' => ∃ v, e = .returned (.tuple #[v, .int .i64 (mooE d zs an fr)]) ∧ Nums w'.heap.size w' v (lifV d zs an fr) ∧ Below w.heap.size w w' := by
  have hA : Below w.heap.size w (w.alloc (.cells #[.int .i64 d, sv, .int .i64 an, .int .i64 fr] 24)) := (Below.refl _ _).alloc (Nat.le_refl _) _
  have c1 := fun W (hb : Below w.heap.size w W) => rcheckM_any d an fr sv zs W (hI.at hb)
  have hv : mooE d zs an fr = 0 → zs.length ≤ 40 ∧ ∀ k, k < zs.length → -1048576 ≤ (el zs k).lift ∧ (el zs k).lift ≤ 1048576 := fun h => ⟨(mooE_ok h).2.1, fun k hk => ((vE_iff _).1 ((mooE_ok h).2.2.1 k hk)).2.1⟩
  have C2 := Lib.hid (fun (h : mooE d zs an fr = 0) W (hb : Below w.heap.size w W) => rlifts_any d an fr sv zs (hv h).1 (hv h).2 W (hI.at hb))
  have HV := Lib.hid (show lifV d zs an fr = if mooE d zs an fr = 0 then lifL zs zs.length else [] from rfl)
  obtain ⟨a, cap, rfl, -, -⟩ := hI
  clear hv
  generalize lifV d zs an fr = V at *
  generalize mooE d zs an fr = E at *
  generalize lifL zs zs.length = L at *
  generalize zs.length = len at *
  have HA := Lib.hid hA
  by_cases hE : E = 0
  rotate_left
  · have hV : V = [] := by rw [HV.out, if_neg hE]
    subst hV
    have hb : (E != 0) = true := by simpa using hE
    clear HV C2 hE hA
    go_enter Try.func17, Try.ntmps17
    go_wp2_with fail
    refine (c1 _ HA.out).mono ?_
    rintro e w1 ⟨rfl, hb1⟩
    have hB1 := Lib.hid (HA.out.trans (hb1.mono (by simp)))
    clear hb1 c1
    go_wp2_with fail
    go_ret2
    exact ⟨_, rfl, nums_nil _ _, hB1.out⟩
  · subst hE
    have hV : V = L := by rw [HV.out, if_pos rfl]
    subst hV
    have c2 := C2.out rfl
    clear HV C2 hA
    go_enter Try.func17, Try.ntmps17
    go_wp2_with fail
    refine (c1 _ HA.out).mono ?_
    rintro e w1 ⟨rfl, hb1⟩
    have hB1 := Lib.hid (HA.out.trans (hb1.mono (by simp)))
    have k0 : w1.cell? ⟨w.heap.size, 0, none⟩ = some (.int .i64 d) := (hb1.cell (p := ⟨w.heap.size, 0, none⟩) (by simp)).trans (by simp [go_sem])
    have k1 : w1.cell? ⟨w.heap.size, 1, none⟩ = some (.slice a len cap) := (hb1.cell (p := ⟨w.heap.size, 1, none⟩) (by simp)).trans (by simp [go_sem])
    have k2 : w1.cell? ⟨w.heap.size, 2, none⟩ = some (.int .i64 an) := (hb1.cell (p := ⟨w.heap.size, 2, none⟩) (by simp)).trans (by simp [go_sem])
    have k3 : w1.cell? ⟨w.heap.size, 3, none⟩ = some (.int .i64 fr) := (hb1.cell (p := ⟨w.heap.size, 3, none⟩) (by simp)).trans (by simp [go_sem])
    clear hb1 c1
    go_wp2_with fail
    refine (c2 _ hB1.out).mono ?_
    rintro e w2 ⟨v, rfl, hn, hb2⟩
    have hB2 := Lib.hid (hB1.out.trans (hb2.mono hB1.out.size))
    have HN := Lib.hid hn
    clear hn hb2
    go_wp2_with fail
    go_ret2
    exact ⟨_, rfl, HN.out, hB2.out⟩
end Go.Proofs.Ythogahdnidjelaa

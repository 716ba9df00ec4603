/-
  The reference's Stands, all.
-/
import Derived.Test.YtmodplodnimmkaaDoorRefCur
namespace Go.Proofs.YtmodplodnimmkaaDoor
open Go.RowKit Go.Shelf
set_option linter.unusedSimpArgs false
set_option maxRecDepth 10000 in
set_option maxHeartbeats 4000000 in
theorem rstands_any (d an fr : Int) (sv : Value) (zs : List El) (h0 : 0 < zs.length) (hl : zs.length ≤ 40) (hv : ∀ k, k < zs.length → -1048576 ≤ (el zs k).lift ∧ (el zs k).lift ≤ 1048576) (w : World) (hI : Els w.heap.size w sv zs) :
    Calls Tryd.prog 45 #[.agg #[.int .i64 d, sv, .int .i64 an, .int .i64 fr]] w fun e w' => e = .returned (.bool (standB zs)) ∧ Below w.heap.size w w' := by
  have hA : Below w.heap.size w (w.alloc (.cells #[.int .i64 d, sv, .int .i64 an, .int .i64 fr] 24)) := (Below.refl _ _).alloc (Nat.le_refl _) _
  have c1 := rlifts_any d an fr sv zs hl hv _ (hI.at hA)
  have HY := Lib.hid (show (∀ k, k < zs.length → 1 ≤ lifTo zs (k + 1)) → standB zs = true from fun h => (standB_iff h0).2 h)
  have HN := Lib.hid (show ∀ k, k < zs.length → ¬ 1 ≤ lifTo zs (k + 1) → standB zs = false from fun k hk h => by
    cases e : standB zs
    · rfl
    · exact absurd ((standB_iff h0).1 e k hk) h)
  have HG := Lib.hid (fun k hk => lifL_nth zs zs.length k hk)
  have HLn := lifL_len zs zs.length
  obtain ⟨a, cap, rfl, -, -⟩ := hI
  have HA := Lib.hid hA
  generalize standB zs = r at *
  generalize lifL zs zs.length = L at *
  generalize zs.length = len at *
  clear hA hv
  go_enter Tryd.func45, Tryd.ntmps45
  go_wp2_with fail
  refine Calls.mono c1 ?_
  rintro e w1 ⟨v, rfl, hn, hb⟩
  obtain ⟨av, cv, rfl, -, hcell⟩ := hn
  have HC := Lib.hid hcell
  have HB := Lib.hid (HA.out.trans (hb.mono (by simp)))
  clear hcell hb c1
  rw [HLn] at HC ⊢
  go_wp2_with fail
  go_loopw [4] (fun i wr => ∃ k : Nat, k ≤ len ∧ i = .int .i64 k ∧ (∀ j, j < k → 1 ≤ lifTo zs (j + 1)) ∧ wr = w1) (fun i _ => len - (intOf i).toNat)
  case atStart => exact ⟨0, Nat.zero_le _, rfl, fun j hj => absurd hj (Nat.not_lt_zero j), rfl⟩
  case round =>
    obtain ⟨k, hk, rfl, hall, rfl⟩ := hrel
    have HALL := Lib.hid hall
    clear hall
    by_cases hlt : k < len
    · obtain ⟨b, off, rfl, hb, k0⟩ := HC.out k hlt
      rw [show L[k]?.getD 0 = lifTo zs (k + 1) from HG.out k hlt] at k0
      have HNk := Lib.hid (HN.out k hlt)
      have HK := Lib.hid (show k + 1 ≤ len by omega)
      have HSt := Lib.hid (show 1 ≤ lifTo zs (k + 1) → ∀ j, j < k + 1 → 1 ≤ lifTo zs (j + 1) from fun h j hj => by
        rcases Nat.lt_or_ge j k with g | g
        · exact HALL.out j g
        · obtain rfl : j = k := by omega
          exact h)
      generalize lifTo zs (k + 1) = x at *
      by_cases hx : 1 ≤ x
      · have HS1 := Lib.hid (HSt.out hx)
        clear HSt HNk HN HY HALL
        go_wp2_with fail
        go_roundw
        case rel => exact ⟨k + 1, HK.out, by go_num, HS1.out, by first | rfl | trivial⟩
        case measure => have := HK.out; simp [intOf]; omega
      · have hr := HNk.out (by omega)
        subst hr
        clear HSt HNk HN HY HALL
        go_wp2_with fail
        go_ret
        exact ⟨rfl, HB.out⟩
    · obtain rfl : k = len := by omega
      have hr := HY.out HALL.out
      subst hr
      clear HN HY HALL
      go_wp2_with fail
      go_ret
      exact ⟨rfl, HB.out⟩
set_option maxRecDepth 10000 in
set_option maxHeartbeats 4000000 in
theorem rall_any (d an fr : Int) (sv cv : Value) (zs : List El) (cs : List Pr) (w : World) (hI : Els w.heap.size w sv zs) (hC : Prs w.heap.size w cv cs) :
    Calls Tryd.prog 35 #[.agg #[.int .i64 d, sv, .int .i64 an, .int .i64 fr], cv] w fun e w' => e = .returned (.int .i64 (staE d zs an fr cs)) ∧ Below w.heap.size w w' := by
  have hA : Below w.heap.size w (w.alloc (.cells #[.int .i64 d, sv, .int .i64 an, .int .i64 fr] 24)) := (Below.refl _ _).alloc (Nat.le_refl _) _
  have c1 := rcurrents_any d an fr sv cv zs cs _ (hI.at hA) (hC.at hA)
  have HE := Lib.hid (show staE d zs an fr cs = if curE d zs an fr cs = 0 then (if standB zs = true then 0 else 10) else curE d zs an fr cs from rfl)
  have C2 := Lib.hid (fun (h0 : curE d zs an fr cs = 0) (W : World) (hb : Below w.heap.size w W) => rstands_any d an fr sv zs (curE_ok h0).1.pos (curE_ok h0).1.most (fun k hk => ((vE_iff _).1 ((curE_ok h0).1.els k hk)).2.1) W (hI.at hb))
  have HA := Lib.hid hA
  obtain ⟨a, cap, rfl, -, -⟩ := hI
  obtain ⟨c, cap2, rfl, -, -⟩ := hC
  generalize staE d zs an fr cs = r at *
  generalize curE d zs an fr cs = e0 at *
  generalize standB zs = sb at *
  generalize zs.length = len at *
  generalize cs.length = len2 at *
  clear hA
  by_cases he : e0 = 0
  rotate_left
  · have hr : r = e0 := by rw [HE.out, if_neg he]
    subst hr
    have hb : (r != 0) = true := by simpa using he
    clear HE C2 he
    go_enter Tryd.func35, Tryd.ntmps35
    go_wp2_with fail
    refine Calls.mono c1 ?_
    rintro e w1 ⟨rfl, hb1⟩
    have hB1 := HA.out.trans (hb1.mono (by simp))
    clear hb1
    go_wp2_with fail
    go_ret
    exact ⟨rfl, hB1⟩
  · subst he
    have hr : r = if sb = true then 0 else 10 := by rw [HE.out, if_pos rfl]
    have c2 := fun W (hb : Below w.heap.size w W) => C2.out rfl W hb
    clear HE C2
    cases sb
    · obtain rfl : r = 10 := hr
      go_enter Tryd.func35, Tryd.ntmps35
      go_wp2_with fail
      refine Calls.mono c1 ?_
      rintro e w1 ⟨rfl, hb1⟩
      have hB1 := HA.out.trans (hb1.mono (by simp))
      have k0 : w1.cell? ⟨w.heap.size, 0, none⟩ = some (.int .i64 d) := (hb1.cell (p := ⟨w.heap.size, 0, none⟩) (by simp)).trans (by simp [go_sem])
      have k1 : w1.cell? ⟨w.heap.size, 1, none⟩ = some (.slice a len cap) := (hb1.cell (p := ⟨w.heap.size, 1, none⟩) (by simp)).trans (by simp [go_sem])
      have k2 : w1.cell? ⟨w.heap.size, 2, none⟩ = some (.int .i64 an) := (hb1.cell (p := ⟨w.heap.size, 2, none⟩) (by simp)).trans (by simp [go_sem])
      have k3 : w1.cell? ⟨w.heap.size, 3, none⟩ = some (.int .i64 fr) := (hb1.cell (p := ⟨w.heap.size, 3, none⟩) (by simp)).trans (by simp [go_sem])
      clear hb1 c1
      go_wp2_with fail
      refine Calls.mono (c2 _ hB1) ?_
      rintro e w2 ⟨rfl, hb2⟩
      have hB2 := hB1.trans (hb2.mono hB1.size)
      clear hb2
      go_wp2_with fail
      go_ret
      exact ⟨rfl, hB2⟩
    · obtain rfl : r = 0 := hr
      go_enter Tryd.func35, Tryd.ntmps35
      go_wp2_with fail
      refine Calls.mono c1 ?_
      rintro e w1 ⟨rfl, hb1⟩
      have hB1 := HA.out.trans (hb1.mono (by simp))
      have k0 : w1.cell? ⟨w.heap.size, 0, none⟩ = some (.int .i64 d) := (hb1.cell (p := ⟨w.heap.size, 0, none⟩) (by simp)).trans (by simp [go_sem])
      have k1 : w1.cell? ⟨w.heap.size, 1, none⟩ = some (.slice a len cap) := (hb1.cell (p := ⟨w.heap.size, 1, none⟩) (by simp)).trans (by simp [go_sem])
      have k2 : w1.cell? ⟨w.heap.size, 2, none⟩ = some (.int .i64 an) := (hb1.cell (p := ⟨w.heap.size, 2, none⟩) (by simp)).trans (by simp [go_sem])
      have k3 : w1.cell? ⟨w.heap.size, 3, none⟩ = some (.int .i64 fr) := (hb1.cell (p := ⟨w.heap.size, 3, none⟩) (by simp)).trans (by simp [go_sem])
      clear hb1 c1
      go_wp2_with fail
      refine Calls.mono (c2 _ hB1) ?_
      rintro e w2 ⟨rfl, hb2⟩
      have hB2 := hB1.trans (hb2.mono hB1.size)
      clear hb2
      go_wp2_with fail
      go_ret
      exact ⟨rfl, hB2⟩
end Go.Proofs.YtmodplodnimmkaaDoor

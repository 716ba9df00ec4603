/-
  Cables: Coordinated.
-/
import Derived.Test.YtdohfpnnmppdkaaBkD
import Derived.Test.YtdohfpnnmppdkaaCbR
import Derived.OwnWalk
namespace Go.Proofs.Ytdohfpnnmppdkaa
open Go.RowKit Go.Shelf
set_option linter.unusedSimpArgs false
attribute [local go_sem] Oper.semAt_some
/-- the results of Coordinated -/
noncomputable def cooS (sl sh : Int) (ns : List Nd) (m : Int) : Int × Int × Int := if cabE sl sh ns = 0 then (if 0 ≤ m ∧ m ≤ 1048576 then cooR ns m else (0, 0, 3)) else (0, 0, cabE sl sh ns)
theorem cooR_none {ns : List Nd} {m : Int} (h : cooL ns m ns.length = none) : cooR ns m = (0, 0, 0) := by unfold cooR; rw [h]
theorem cooR_some {ns : List Nd} {m : Int} {k j : Nat} (hk : k < ns.length) (h : cooL ns m k = none) (h2 : earN ns m k = some j) : cooR ns m = ((k : Int), (j : Int), 18) := by
  unfold cooR
  rw [cooL_later (cooL_step_some h h2) ns.length hk]
set_option maxRecDepth 100000 in
set_option maxHeartbeats 16000000 in
theorem coord_any (sl sh : Int) (sv : Value) (ns : List Nd) (m : Int) (w : World) (hN : Nds w.heap.size w sv ns) :
    Calls Try.prog 42 #[.agg #[.int .i64 sl, .int .i64 sh, sv], .int .i64 m] w fun e w' => e = .returned (.tuple #[.int .i64 (cooS sl sh ns m).1, .int .i64 (cooS sl sh ns m).2.1, .int .i64 (cooS sl sh ns m).2.2]) ∧ Below w.heap.size w w' := by
  have c25 := Lib.hid (fun W (h : Below w.heap.size w W) => check25 sl sh sv ns W (hN.at h))
  have c107 := Lib.hid (fun (hv : ValidC sl sh ns) (hm0 : 0 ≤ m) (hm1 : m ≤ 1048576) (k : Nat) (hk : k < ns.length) W (h : Below w.heap.size w W) => early_any sl sh sv ns hv.all hv.len k hk m hm0 hm1 W (hN.at h))
  have c106 := fun W => withinL m 0 1048576 W
  obtain ⟨a, cap, hsv⟩ := hN.form
  subst hsv
  clear hN
  unfold cooS
  by_cases hE : cabE sl sh ns = 0
  rotate_left
  · rw [if_neg hE]
    have hE' : (cabE sl sh ns != 0) = true := by simpa using hE
    clear c107 hE
    generalize cabE sl sh ns = E at *
    generalize ns.length = n at *
    obtain ⟨A, hA⟩ : ∃ A, A = w.alloc (.cells #[.int .i64 sl, .int .i64 sh, .slice a n cap] 26) := ⟨_, rfl⟩
    have HBA := Lib.hid (show Below w.heap.size w A by rw [hA]; exact ((Below.refl _ _).alloc (Nat.le_refl _) _))
    have hltA : w.heap.size + 1 ≤ A.heap.size := by rw [hA]; simp
    have q0 : A.cell? ⟨w.heap.size, 0, none⟩ = some (.int .i64 sl) := by rw [hA]; exact (cellHB (World.alloc_heap_new w _) 0).trans (by simp)
    have q1 : A.cell? ⟨w.heap.size, 1, none⟩ = some (.int .i64 sh) := by rw [hA]; exact (cellHB (World.alloc_heap_new w _) 1).trans (by simp)
    have q2 : A.cell? ⟨w.heap.size, 2, none⟩ = some (.slice a n cap) := by rw [hA]; exact (cellHB (World.alloc_heap_new w _) 2).trans (by simp)
    have KK := Lib.hid (show ∀ W, Below A.heap.size A W → W.cell? ⟨w.heap.size, 0, none⟩ = some (.int .i64 sl) ∧ W.cell? ⟨w.heap.size, 1, none⟩ = some (.int .i64 sh) ∧ W.cell? ⟨w.heap.size, 2, none⟩ = some (.slice a n cap) from fun W h => ⟨(h.cell (p := ⟨w.heap.size, 0, none⟩) (by show w.heap.size < A.heap.size; omega)).trans q0, (h.cell (p := ⟨w.heap.size, 1, none⟩) (by show w.heap.size < A.heap.size; omega)).trans q1, (h.cell (p := ⟨w.heap.size, 2, none⟩) (by show w.heap.size < A.heap.size; omega)).trans q2⟩)
    have HLT := Lib.hid hltA
    clear hltA q0 q1 q2
    obtain ⟨k0, k1, k2⟩ := KK.out _ (Below.refl _ _)
    go_enter Try.func42, Try.ntmps42
    go_upto_region 1 with fail
    rw [← hA]
    clear hA
    go_wp2_with fail
    refine (c25.out _ HBA.out).mono ?_
    rintro e w1 ⟨rfl, hb⟩
    have HB1 := Lib.hid hb
    clear hb k0 k1 k2
    obtain ⟨k0, k1, k2⟩ := KK.out _ HB1.out
    go_wp2_with fail
    go_ret3
    exact ⟨by first | rfl | simp [*], HBA.out.trans (HB1.out.mono HBA.out.size)⟩
  rw [if_pos hE]
  have hv := cabE_ok hE
  rw [hE] at c25
  have hl := hv.len
  by_cases hm : 0 ≤ m ∧ m ≤ 1048576
  rotate_left
  · rw [if_neg hm]
    rw [decide_eq_false hm] at c106
    clear c107 hE hv hm
    generalize ns.length = n at *
    obtain ⟨A, hA⟩ : ∃ A, A = w.alloc (.cells #[.int .i64 sl, .int .i64 sh, .slice a n cap] 26) := ⟨_, rfl⟩
    have HBA := Lib.hid (show Below w.heap.size w A by rw [hA]; exact ((Below.refl _ _).alloc (Nat.le_refl _) _))
    have hltA : w.heap.size + 1 ≤ A.heap.size := by rw [hA]; simp
    have q0 : A.cell? ⟨w.heap.size, 0, none⟩ = some (.int .i64 sl) := by rw [hA]; exact (cellHB (World.alloc_heap_new w _) 0).trans (by simp)
    have q1 : A.cell? ⟨w.heap.size, 1, none⟩ = some (.int .i64 sh) := by rw [hA]; exact (cellHB (World.alloc_heap_new w _) 1).trans (by simp)
    have q2 : A.cell? ⟨w.heap.size, 2, none⟩ = some (.slice a n cap) := by rw [hA]; exact (cellHB (World.alloc_heap_new w _) 2).trans (by simp)
    have KK := Lib.hid (show ∀ W, Below A.heap.size A W → W.cell? ⟨w.heap.size, 0, none⟩ = some (.int .i64 sl) ∧ W.cell? ⟨w.heap.size, 1, none⟩ = some (.int .i64 sh) ∧ W.cell? ⟨w.heap.size, 2, none⟩ = some (.slice a n cap) from fun W h => ⟨(h.cell (p := ⟨w.heap.size, 0, none⟩) (by show w.heap.size < A.heap.size; omega)).trans q0, (h.cell (p := ⟨w.heap.size, 1, none⟩) (by show w.heap.size < A.heap.size; omega)).trans q1, (h.cell (p := ⟨w.heap.size, 2, none⟩) (by show w.heap.size < A.heap.size; omega)).trans q2⟩)
    have HLT := Lib.hid hltA
    clear hltA q0 q1 q2
    obtain ⟨k0, k1, k2⟩ := KK.out _ (Below.refl _ _)
    go_enter Try.func42, Try.ntmps42
    go_upto_region 1 with fail
    rw [← hA]
    clear hA
    go_wp2_with fail
    refine (c25.out _ HBA.out).mono ?_
    rintro e w1 ⟨rfl, hb⟩
    have HB1 := Lib.hid hb
    clear hb k0 k1 k2
    obtain ⟨k0, k1, k2⟩ := KK.out _ HB1.out
    go_wp2_with fail
    refine (c106 _).mono ?_
    rintro e w2 ⟨rfl, rfl⟩
    go_wp2_with fail
    go_ret3
    exact ⟨by first | rfl | simp [*], HBA.out.trans (HB1.out.mono HBA.out.size)⟩
  rw [if_pos hm]
  rw [decide_eq_true hm] at c106
  have c7 := Lib.hid (c107.out hv hm.1 hm.2)
  have HN := Lib.hid (cooR_none (ns := ns) (m := m))
  have HS := Lib.hid (fun (k j : Nat) => cooR_some (ns := ns) (m := m) (k := k) (j := j))
  clear c107 hE hv hm
  generalize cooR ns m = R at *
  generalize hnn : ns.length = n at *
  clear hnn
  obtain ⟨A, hA⟩ : ∃ A, A = w.alloc (.cells #[.int .i64 sl, .int .i64 sh, .slice a n cap] 26) := ⟨_, rfl⟩
  have HBA := Lib.hid (show Below w.heap.size w A by rw [hA]; exact ((Below.refl _ _).alloc (Nat.le_refl _) _))
  have hltA : w.heap.size + 1 ≤ A.heap.size := by rw [hA]; simp
  have q0 : A.cell? ⟨w.heap.size, 0, none⟩ = some (.int .i64 sl) := by rw [hA]; exact (cellHB (World.alloc_heap_new w _) 0).trans (by simp)
  have q1 : A.cell? ⟨w.heap.size, 1, none⟩ = some (.int .i64 sh) := by rw [hA]; exact (cellHB (World.alloc_heap_new w _) 1).trans (by simp)
  have q2 : A.cell? ⟨w.heap.size, 2, none⟩ = some (.slice a n cap) := by rw [hA]; exact (cellHB (World.alloc_heap_new w _) 2).trans (by simp)
  have KK := Lib.hid (show ∀ W, Below A.heap.size A W → W.cell? ⟨w.heap.size, 0, none⟩ = some (.int .i64 sl) ∧ W.cell? ⟨w.heap.size, 1, none⟩ = some (.int .i64 sh) ∧ W.cell? ⟨w.heap.size, 2, none⟩ = some (.slice a n cap) from fun W h => ⟨(h.cell (p := ⟨w.heap.size, 0, none⟩) (by show w.heap.size < A.heap.size; omega)).trans q0, (h.cell (p := ⟨w.heap.size, 1, none⟩) (by show w.heap.size < A.heap.size; omega)).trans q1, (h.cell (p := ⟨w.heap.size, 2, none⟩) (by show w.heap.size < A.heap.size; omega)).trans q2⟩)
  have HLT := Lib.hid hltA
  clear hltA q0 q1 q2
  obtain ⟨k0, k1, k2⟩ := KK.out _ (Below.refl _ _)
  go_enter Try.func42, Try.ntmps42
  go_upto_region 1 with fail
  rw [← hA]
  clear hA
  go_wp2_with fail
  refine (c25.out _ HBA.out).mono ?_
  rintro e w1 ⟨rfl, hb⟩
  have HB1 := Lib.hid hb
  clear hb k0 k1 k2
  obtain ⟨k0, k1, k2⟩ := KK.out _ HB1.out
  go_wp2_with fail
  refine (c106 _).mono ?_
  rintro e w2 ⟨rfl, rfl⟩
  go_wp2_with fail
  go_loopw [22] (fun iv wr => ∃ k : Nat, k ≤ n ∧ iv = .int .i64 k ∧ cooL ns m k = none ∧ Below A.heap.size A wr) (fun iv _ => n - (intOf iv).toNat)
  case atStart => exact ⟨0, Nat.zero_le _, rfl, rfl, HB1.out⟩
  case round =>
    obtain ⟨k, hk, rfl, hco, hB⟩ := hrel
    have HCO := Lib.hid hco
    have HB := Lib.hid hB
    clear hco hB k0 k1 k2
    obtain ⟨k0, k1, k2⟩ := KK.out _ HB.out
    by_cases hlt : k < n
    · have hki : (k : Int) < (n : Int) := by omega
      have c := c7.out k hlt wr (HBA.out.trans (HB.out.mono HBA.out.size))
      have HSk := Lib.hid (fun j => HS.out k j hlt HCO.out)
      have HNk := Lib.hid (fun h => cooL_step_none (ns := ns) (m := m) HCO.out h)
      cases he : earN ns m k
      · rw [he] at c
        have HX := Lib.hid (HNk.out he)
        clear he
        go_wp2_with fail
        refine c.mono ?_
        rintro e w3 ⟨rfl, hb⟩
        have HB3 := Lib.hid (HB.out.trans (hb.mono HB.out.size))
        clear hb k0 k1 k2
        obtain ⟨k0, k1, k2⟩ := KK.out _ HB3.out
        go_wp2_with fail
        go_roundw
        case rel => exact ⟨k + 1, by omega, by go_num, HX.out, HB3.out⟩
        case measure => simp [intOf]; omega
      · rename_i j
        rw [he] at c
        have HX := Lib.hid (HSk.out j he)
        clear he
        go_wp2_with fail
        refine c.mono ?_
        rintro e w3 ⟨rfl, hb⟩
        have HB3 := Lib.hid (HB.out.trans (hb.mono HB.out.size))
        clear hb k0 k1 k2
        go_wp2_with fail
        go_ret3
        exact ⟨by rw [HX.out]; rfl, HBA.out.trans (HB3.out.mono HBA.out.size)⟩
    · obtain rfl : k = n := by omega
      have HX := Lib.hid (HN.out HCO.out)
      go_wp2_with fail
      go_ret3
      exact ⟨by rw [HX.out]; rfl, HBA.out.trans (HB.out.mono HBA.out.size)⟩
end Go.Proofs.Ytdohfpnnmppdkaa

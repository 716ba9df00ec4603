/-
  Cables: Path and Subtree, both.
-/
import Derived.Test.YtdohfpnnmppdkaaCbW
namespace Go.Proofs.Ytdohfpnnmppdkaa
open Go.RowKit Go.Shelf
set_option linter.unusedSimpArgs false
theorem nodE_def (sl sh : Int) (ns : List Nd) (k : Int) : nodE sl sh ns k = if cabE sl sh ns = 0 then (if 0 ≤ k ∧ k < ns.length then 0 else 3) else cabE sl sh ns := rfl
theorem nodE_ok {sl sh : Int} {ns : List Nd} {z : Int} (h : nodE sl sh ns z = 0) : ValidC sl sh ns ∧ ∃ k : Nat, z = (k : Int) ∧ k < ns.length := by
  rw [nodE_def] at h
  split at h
  · split at h
    · exact ⟨cabE_ok (by assumption), z.toNat, by omega, by omega⟩
    · omega
  · exact absurd h (by assumption)
/-- the nodes of a path, and of a subtree, as the functions give them -/
def pthL (ns : List Nd) (E z : Int) : List Nat := if E = 0 then pth (par ns) z.toNat else []
def subL (ns : List Nd) (E z : Int) : List Nat := if E = 0 then sub (par ns) ns.length z.toNat else []
def LstR (E : Int) (L : List Nat) (w : World) (e : Ending) (w' : World) : Prop := ∃ v, e = .returned (.tuple #[v, .int .i64 E]) ∧ Il w'.heap.size w' v (zs L) ∧ Below w.heap.size w w'
theorem path_all (sl sh : Int) (sv : Value) (ns : List Nd) (z : Int) (w : World) (hN : Nds w.heap.size w sv ns) :
    Calls Try.prog 21 #[.agg #[.int .i64 sl, .int .i64 sh, sv], .int .i64 z] w (LstR (nodE sl sh ns z) (pthL ns (nodE sl sh ns z) z) w) := by
  by_cases hE : nodE sl sh ns z = 0
  · obtain ⟨hv, k, rfl, hk⟩ := nodE_ok hE
    refine (path_ok sl sh sv ns k hv hk w hN).mono fun e w' h => ?_
    obtain ⟨v, rfl, hr, hb⟩ := h
    exact ⟨v, by rw [hE], by unfold pthL; rw [if_pos hE, Int.toNat_natCast]; exact il_of_own hr, hb⟩
  · refine (path_bad sl sh sv ns z hE w hN).mono fun e w' h => ?_
    obtain ⟨rfl, hb⟩ := h
    exact ⟨_, rfl, by unfold pthL; rw [if_neg hE]; exact il_nil _ _, hb⟩
theorem subtree_all (sl sh : Int) (sv : Value) (ns : List Nd) (z : Int) (w : World) (hN : Nds w.heap.size w sv ns) :
    Calls Try.prog 23 #[.agg #[.int .i64 sl, .int .i64 sh, sv], .int .i64 z] w (LstR (nodE sl sh ns z) (subL ns (nodE sl sh ns z) z) w) := by
  by_cases hE : nodE sl sh ns z = 0
  · obtain ⟨hv, k, rfl, hk⟩ := nodE_ok hE
    refine (subtree_ok sl sh sv ns k hv hk w hN).mono fun e w' h => ?_
    obtain ⟨v, rfl, hr, hb⟩ := h
    exact ⟨v, by rw [hE], by unfold subL; rw [if_pos hE, Int.toNat_natCast]; exact il_of_own hr, hb⟩
  · refine (subtree_bad sl sh sv ns z hE w hN).mono fun e w' h => ?_
    obtain ⟨rfl, hb⟩ := h
    exact ⟨_, rfl, by unfold subL; rw [if_neg hE]; exact il_nil _ _, hb⟩
set_option maxHeartbeats 4000000 in
theorem refPath_all (sl sh : Int) (sv : Value) (ns : List Nd) (z : Int) (w : World) (hN : Nds w.heap.size w sv ns) :
    Calls Try.prog 22 #[.agg #[.int .i64 sl, .int .i64 sh, sv], .int .i64 z] w (LstR (nodE sl sh ns z) (pthL ns (nodE sl sh ns z) z) w) := by
  have c1 := Lib.hid (fun W (h : Below w.heap.size w W) => refCheck_any sl sh sv ns W (hN.at h))
  have cP := Lib.hid (fun (hv : ValidC sl sh ns) (k : Nat) (hk : k < ns.length) W (h : Below w.heap.size w W) => refpath_any sl sh sv ns hv.all hv.len k hk W (hN.at h))
  have HE := Lib.hid (nodE_def sl sh ns z)
  have HV := Lib.hid (fun (h : nodE sl sh ns z = 0) => nodE_ok h)
  have HL := Lib.hid (show pthL ns (nodE sl sh ns z) z = if nodE sl sh ns z = 0 then pth (par ns) z.toNat else [] from rfl)
  obtain ⟨a, cap, hsv⟩ := hN.form
  subst hsv
  unfold LstR
  clear hN
  generalize pthL ns (nodE sl sh ns z) z = LL at *
  generalize nodE sl sh ns z = R at *
  generalize cabE sl sh ns = E at *
  generalize hnn : ns.length = n at *
  obtain ⟨A, hA⟩ : ∃ A, A = w.alloc (.cells #[.int .i64 sl, .int .i64 sh, .slice a n cap] 26) := ⟨_, rfl⟩
  have HBA := Lib.hid (show Below w.heap.size w A by rw [hA]; exact ((Below.refl _ _).alloc (Nat.le_refl _) _))
  have hltA : w.heap.size + 1 ≤ A.heap.size := by rw [hA]; simp
  have q0 : A.cell? ⟨w.heap.size, 0, none⟩ = some (.int .i64 sl) := by rw [hA]; exact (cellHB (World.alloc_heap_new w _) 0).trans (by simp)
  have q1 : A.cell? ⟨w.heap.size, 1, none⟩ = some (.int .i64 sh) := by rw [hA]; exact (cellHB (World.alloc_heap_new w _) 1).trans (by simp)
  have q2 : A.cell? ⟨w.heap.size, 2, none⟩ = some (.slice a n cap) := by rw [hA]; exact (cellHB (World.alloc_heap_new w _) 2).trans (by simp)
  have KK := Lib.hid (show ∀ W, Below A.heap.size A W → W.cell? ⟨w.heap.size, 0, none⟩ = some (.int .i64 sl) ∧ W.cell? ⟨w.heap.size, 1, none⟩ = some (.int .i64 sh) ∧ W.cell? ⟨w.heap.size, 2, none⟩ = some (.slice a n cap) from fun W h => ⟨(h.cell (p := ⟨w.heap.size, 0, none⟩) (by show w.heap.size < A.heap.size; omega)).trans q0, (h.cell (p := ⟨w.heap.size, 1, none⟩) (by show w.heap.size < A.heap.size; omega)).trans q1, (h.cell (p := ⟨w.heap.size, 2, none⟩) (by show w.heap.size < A.heap.size; omega)).trans q2⟩)
  have HLT := Lib.hid hltA
  clear hltA q0 q1 q2
  obtain ⟨k0, k1, k2⟩ := KK.out _ (Below.refl _ _)
  by_cases hE : E = 0
  rotate_left
  · have hR := HE.out
    rw [if_neg hE] at hR
    subst hR
    have hL := HL.out
    rw [if_neg hE] at hL
    have hE' : (R == 0) = false := by simpa using hE
    go_enter Try.func22, Try.ntmps22
    go_upto_region 1 with fail
    rw [← hA]
    clear hA
    go_wp2_with fail
    refine (c1.out _ HBA.out).mono ?_
    rintro e w1 ⟨rfl, hb⟩
    have HB1 := Lib.hid hb
    clear hb k0 k1 k2
    obtain ⟨k0, k1, k2⟩ := KK.out _ HB1.out
    go_wp2_with fail
    go_ret2
    exact ⟨_, rfl, by rw [hL]; exact il_nil _ _, HBA.out.trans (HB1.out.mono HBA.out.size)⟩
  subst hE
  have hR := HE.out
  rw [if_pos rfl] at hR
  by_cases h0 : z < 0
  · rw [if_neg (by omega)] at hR
    subst hR
    have hL := HL.out
    rw [if_neg (by decide)] at hL
    go_enter Try.func22, Try.ntmps22
    go_upto_region 1 with fail
    rw [← hA]
    clear hA
    go_wp2_with fail
    refine (c1.out _ HBA.out).mono ?_
    rintro e w1 ⟨rfl, hb⟩
    have HB1 := Lib.hid hb
    clear hb k0 k1 k2
    obtain ⟨k0, k1, k2⟩ := KK.out _ HB1.out
    go_wp2_with fail
    go_ret2
    exact ⟨_, rfl, by rw [hL]; exact il_nil _ _, HBA.out.trans (HB1.out.mono HBA.out.size)⟩
  by_cases h1 : (n : Int) ≤ z
  · rw [if_neg (by omega)] at hR
    subst hR
    have hL := HL.out
    rw [if_neg (by decide)] at hL
    go_enter Try.func22, Try.ntmps22
    go_upto_region 1 with fail
    rw [← hA]
    clear hA
    go_wp2_with fail
    refine (c1.out _ HBA.out).mono ?_
    rintro e w1 ⟨rfl, hb⟩
    have HB1 := Lib.hid hb
    clear hb k0 k1 k2
    obtain ⟨k0, k1, k2⟩ := KK.out _ HB1.out
    go_wp2_with fail
    go_ret2
    exact ⟨_, rfl, by rw [hL]; exact il_nil _ _, HBA.out.trans (HB1.out.mono HBA.out.size)⟩
  rw [if_pos (by omega)] at hR
  subst hR
  obtain ⟨hv, k, rfl, hk⟩ := HV.out (by first | rfl | trivial)
  have hL := HL.out
  rw [if_pos rfl, Int.toNat_natCast] at hL
  have HL2 := Lib.hid hL
  have c2 := Lib.hid (fun W h => cP.out hv k (by omega) W h)
  clear cP hv HV HL hL HE
  go_enter Try.func22, Try.ntmps22
  go_upto_region 1 with fail
  rw [← hA]
  clear hA
  go_wp2_with fail
  refine (c1.out _ HBA.out).mono ?_
  rintro e w1 ⟨rfl, hb⟩
  have HB1 := Lib.hid hb
  clear hb k0 k1 k2
  obtain ⟨k0, k1, k2⟩ := KK.out _ HB1.out
  go_wp2_with fail
  refine (c2.out _ (HBA.out.trans (HB1.out.mono HBA.out.size))).mono ?_
  rintro e w2 ⟨v, rfl, hr, hb⟩
  have HI := Lib.hid (show Il w2.heap.size w2 v (zs LL) by rw [HL2.out]; exact il_of_own hr)
  have HB2 := Lib.hid (HB1.out.trans (hb.mono HB1.out.size))
  clear hr hb
  go_wp2_with fail
  go_ret2
  exact ⟨_, rfl, HI.out, HBA.out.trans (HB2.out.mono HBA.out.size)⟩
set_option maxHeartbeats 4000000 in
theorem refSubtree_all (sl sh : Int) (sv : Value) (ns : List Nd) (z : Int) (w : World) (hN : Nds w.heap.size w sv ns) :
    Calls Try.prog 24 #[.agg #[.int .i64 sl, .int .i64 sh, sv], .int .i64 z] w (LstR (nodE sl sh ns z) (subL ns (nodE sl sh ns z) z) w) := by
  have c1 := Lib.hid (fun W (h : Below w.heap.size w W) => refCheck_any sl sh sv ns W (hN.at h))
  have cP := Lib.hid (fun (hv : ValidC sl sh ns) (k : Nat) (hk : k < ns.length) W (h : Below w.heap.size w W) => refsub_any sl sh sv ns hv.all hv.len k W (hN.at h))
  have HE := Lib.hid (nodE_def sl sh ns z)
  have HV := Lib.hid (fun (h : nodE sl sh ns z = 0) => nodE_ok h)
  have HL := Lib.hid (show subL ns (nodE sl sh ns z) z = if nodE sl sh ns z = 0 then sub (par ns) ns.length z.toNat else [] from rfl)
  obtain ⟨a, cap, hsv⟩ := hN.form
  subst hsv
  unfold LstR
  clear hN
  generalize subL ns (nodE sl sh ns z) z = LL at *
  generalize nodE sl sh ns z = R at *
  generalize cabE sl sh ns = E at *
  generalize hnn : ns.length = n at *
  obtain ⟨A, hA⟩ : ∃ A, A = w.alloc (.cells #[.int .i64 sl, .int .i64 sh, .slice a n cap] 26) := ⟨_, rfl⟩
  have HBA := Lib.hid (show Below w.heap.size w A by rw [hA]; exact ((Below.refl _ _).alloc (Nat.le_refl _) _))
  have hltA : w.heap.size + 1 ≤ A.heap.size := by rw [hA]; simp
  have q0 : A.cell? ⟨w.heap.size, 0, none⟩ = some (.int .i64 sl) := by rw [hA]; exact (cellHB (World.alloc_heap_new w _) 0).trans (by simp)
  have q1 : A.cell? ⟨w.heap.size, 1, none⟩ = some (.int .i64 sh) := by rw [hA]; exact (cellHB (World.alloc_heap_new w _) 1).trans (by simp)
  have q2 : A.cell? ⟨w.heap.size, 2, none⟩ = some (.slice a n cap) := by rw [hA]; exact (cellHB (World.alloc_heap_new w _) 2).trans (by simp)
  have KK := Lib.hid (show ∀ W, Below A.heap.size A W → W.cell? ⟨w.heap.size, 0, none⟩ = some (.int .i64 sl) ∧ W.cell? ⟨w.heap.size, 1, none⟩ = some (.int .i64 sh) ∧ W.cell? ⟨w.heap.size, 2, none⟩ = some (.slice a n cap) from fun W h => ⟨(h.cell (p := ⟨w.heap.size, 0, none⟩) (by show w.heap.size < A.heap.size; omega)).trans q0, (h.cell (p := ⟨w.heap.size, 1, none⟩) (by show w.heap.size < A.heap.size; omega)).trans q1, (h.cell (p := ⟨w.heap.size, 2, none⟩) (by show w.heap.size < A.heap.size; omega)).trans q2⟩)
  have HLT := Lib.hid hltA
  clear hltA q0 q1 q2
  obtain ⟨k0, k1, k2⟩ := KK.out _ (Below.refl _ _)
  by_cases hE : E = 0
  rotate_left
  · have hR := HE.out
    rw [if_neg hE] at hR
    subst hR
    have hL := HL.out
    rw [if_neg hE] at hL
    have hE' : (R == 0) = false := by simpa using hE
    go_enter Try.func24, Try.ntmps24
    go_upto_region 1 with fail
    rw [← hA]
    clear hA
    go_wp2_with fail
    refine (c1.out _ HBA.out).mono ?_
    rintro e w1 ⟨rfl, hb⟩
    have HB1 := Lib.hid hb
    clear hb k0 k1 k2
    obtain ⟨k0, k1, k2⟩ := KK.out _ HB1.out
    go_wp2_with fail
    go_ret2
    exact ⟨_, rfl, by rw [hL]; exact il_nil _ _, HBA.out.trans (HB1.out.mono HBA.out.size)⟩
  subst hE
  have hR := HE.out
  rw [if_pos rfl] at hR
  by_cases h0 : z < 0
  · rw [if_neg (by omega)] at hR
    subst hR
    have hL := HL.out
    rw [if_neg (by decide)] at hL
    go_enter Try.func24, Try.ntmps24
    go_upto_region 1 with fail
    rw [← hA]
    clear hA
    go_wp2_with fail
    refine (c1.out _ HBA.out).mono ?_
    rintro e w1 ⟨rfl, hb⟩
    have HB1 := Lib.hid hb
    clear hb k0 k1 k2
    obtain ⟨k0, k1, k2⟩ := KK.out _ HB1.out
    go_wp2_with fail
    go_ret2
    exact ⟨_, rfl, by rw [hL]; exact il_nil _ _, HBA.out.trans (HB1.out.mono HBA.out.size)⟩
  by_cases h1 : (n : Int) ≤ z
  · rw [if_neg (by omega)] at hR
    subst hR
    have hL := HL.out
    rw [if_neg (by decide)] at hL
    go_enter Try.func24, Try.ntmps24
    go_upto_region 1 with fail
    rw [← hA]
    clear hA
    go_wp2_with fail
    refine (c1.out _ HBA.out).mono ?_
    rintro e w1 ⟨rfl, hb⟩
    have HB1 := Lib.hid hb
    clear hb k0 k1 k2
    obtain ⟨k0, k1, k2⟩ := KK.out _ HB1.out
    go_wp2_with fail
    go_ret2
    exact ⟨_, rfl, by rw [hL]; exact il_nil _ _, HBA.out.trans (HB1.out.mono HBA.out.size)⟩
  rw [if_pos (by omega)] at hR
  subst hR
  obtain ⟨hv, k, rfl, hk⟩ := HV.out (by first | rfl | trivial)
  have hL := HL.out
  rw [if_pos rfl, Int.toNat_natCast] at hL
  have HL2 := Lib.hid hL
  have c2 := Lib.hid (fun W h => cP.out hv k (by omega) W h)
  clear cP hv HV HL hL HE
  go_enter Try.func24, Try.ntmps24
  go_upto_region 1 with fail
  rw [← hA]
  clear hA
  go_wp2_with fail
  refine (c1.out _ HBA.out).mono ?_
  rintro e w1 ⟨rfl, hb⟩
  have HB1 := Lib.hid hb
  clear hb k0 k1 k2
  obtain ⟨k0, k1, k2⟩ := KK.out _ HB1.out
  go_wp2_with fail
  refine (c2.out _ (HBA.out.trans (HB1.out.mono HBA.out.size))).mono ?_
  rintro e w2 ⟨v, rfl, hr, hb⟩
  have HI := Lib.hid (show Il w2.heap.size w2 v (zs LL) by rw [HL2.out]; exact il_of_own hr)
  have HB2 := Lib.hid (HB1.out.trans (hb.mono HB1.out.size))
  clear hr hb
  go_wp2_with fail
  go_ret2
  exact ⟨_, rfl, HI.out, HBA.out.trans (HB2.out.mono HBA.out.size)⟩
end Go.Proofs.Ytdohfpnnmppdkaa

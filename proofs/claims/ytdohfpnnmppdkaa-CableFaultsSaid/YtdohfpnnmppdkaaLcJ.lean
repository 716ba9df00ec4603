/-
  Cables: Segments of the reference.
-/
import Derived.Test.YtdohfpnnmppdkaaLcI
namespace Go.Proofs.Ytdohfpnnmppdkaa
open Go.RowKit Go.Shelf
set_option linter.unusedSimpArgs false
open Go.RowKit Go.Shelf
set_option linter.unusedSimpArgs false
attribute [local go_sem] Oper.semAt_some
def okT (ls : List Int) (j : Nat) : Prop := 0 ≤ ti ls j ∧ ti ls j ≤ 1048576 ∧ (j = 0 → ti ls j = 0)
theorem lenB_all {ls : List Int} (h0 : 0 < ls.length) (h : ∀ j, j < ls.length → okT ls j) : lenB ls = true :=
  decide_eq_true ⟨(h 0 h0).2.2 rfl, fun k hk => ⟨(h k hk).1, (h k hk).2.1⟩⟩
theorem lenB_not {ls : List Int} {j : Nat} (hj : j < ls.length) (h : ¬ okT ls j) : ¬ lenB ls = true := fun q => h (by
  have r := of_decide_eq_true q
  exact ⟨(r.2 j hj).1, (r.2 j hj).2, fun e => by rw [e]; exact r.1⟩)
set_option maxRecDepth 100000 in
set_option maxHeartbeats 8000000 in
theorem refsegments_any (sl sh : Int) (sv lv : Value) (ns : List Nd) (ls : List Int) (k a b : Int) (w : World) (hN : Nds w.heap.size w sv ns) (hL : Il w.heap.size w lv ls) :
    Calls Try.prog 49 #[.agg #[.int .i64 sl, .int .i64 sh, sv], lv, .int .i64 k, .agg #[.int .i64 a, .int .i64 b]] w (SegR sl sh ns ls k a b w) := by
  unfold SegR
  obtain ⟨i0, hi0, hz0, hz1, hz2⟩ := info_parts infoI3
  have c25 := Lib.hid (fun W (h : Below w.heap.size w W) => refCheck_any sl sh sv ns W (hN.at h))
  have HV := Lib.hid (fun (h : cabE sl sh ns = 0) => cabE_ok h)
  obtain ⟨ca, cap, hsv⟩ := hN.form
  have c82 := Lib.hid (fun (hv : ValidC sl sh ns) (kn : Nat) (hk : kn < ns.length) W (h : Below w.heap.size w W) => refpath_any sl sh sv ns hv.all hv.len kn hk W (hN.at h))
  have c113 := Lib.hid (fun W => refCheck1_any a b W)
  obtain ⟨la, lc, hlv, -, hlc⟩ := hL
  have HLC := Lib.hid (show ∀ W j, Below w.heap.size w W → j < ls.length → ∃ g o, la = some ⟨g, o, none⟩ ∧ W.cell? ⟨g, o + j, none⟩ = some (.int .i64 (ti ls j)) from fun W j hW hj => by
    obtain ⟨g, o, e, hg, c0⟩ := hlc j hj
    exact ⟨g, o, e, (hW.cell (p := ⟨g, _, none⟩) hg).trans c0⟩)
  subst hsv
  subst hlv
  clear hN hlc
  by_cases hE : cabE sl sh ns = 0
  rotate_left
  · rw [seg1 hE, if_neg hE]
    have hE' : (cabE sl sh ns != 0) = true := by simpa using hE
    clear HV c113 c82 HLC hE
    generalize cabE sl sh ns = E at *
    generalize ns.length = n at *
    generalize ls.length = m at *
    obtain ⟨A, hA⟩ : ∃ A, A = (w.alloc (.cells #[.int .i64 sl, .int .i64 sh, .slice ca n cap] 26)).alloc (.cells #[.int .i64 a, .int .i64 b] 23) := ⟨_, rfl⟩
    have HBA := Lib.hid (show Below w.heap.size w A by rw [hA]; exact ((Below.refl _ _).alloc (Nat.le_refl _) _).alloc (by simp) _)
    have hzA : A.heap.size = w.heap.size + 2 := by rw [hA]; simp
    have q0 : A.cell? ⟨w.heap.size, 0, none⟩ = some (.int .i64 sl) := by rw [hA]; simp [go_sem]
    have q1 : A.cell? ⟨w.heap.size, 1, none⟩ = some (.int .i64 sh) := by rw [hA]; simp [go_sem]
    have q2 : A.cell? ⟨w.heap.size, 2, none⟩ = some (.slice ca n cap) := by rw [hA]; simp [go_sem]
    have q3 : A.cell? ⟨w.heap.size + 1, 0, none⟩ = some (.int .i64 a) := by rw [hA]; simp [go_sem]
    have q4 : A.cell? ⟨w.heap.size + 1, 1, none⟩ = some (.int .i64 b) := by rw [hA]; simp [go_sem]
    have KK := Lib.hid (show ∀ W, Below A.heap.size A W → W.cell? ⟨w.heap.size, 0, none⟩ = some (.int .i64 sl) ∧ W.cell? ⟨w.heap.size, 1, none⟩ = some (.int .i64 sh) ∧ W.cell? ⟨w.heap.size, 2, none⟩ = some (.slice ca n cap) ∧ W.cell? ⟨w.heap.size + 1, 0, none⟩ = some (.int .i64 a) ∧ W.cell? ⟨w.heap.size + 1, 1, none⟩ = some (.int .i64 b) from fun W h => ⟨(h.cell (p := ⟨w.heap.size, 0, none⟩) (by show w.heap.size < A.heap.size; omega)).trans q0, (h.cell (p := ⟨w.heap.size, 1, none⟩) (by show w.heap.size < A.heap.size; omega)).trans q1, (h.cell (p := ⟨w.heap.size, 2, none⟩) (by show w.heap.size < A.heap.size; omega)).trans q2, (h.cell (p := ⟨w.heap.size + 1, 0, none⟩) (by show w.heap.size + 1 < A.heap.size; omega)).trans q3, (h.cell (p := ⟨w.heap.size + 1, 1, none⟩) (by show w.heap.size + 1 < A.heap.size; omega)).trans q4⟩)
    clear q0 q1 q2 q3 q4 hzA
    obtain ⟨k0, k1, k2, k3, k4⟩ := KK.out _ (Below.refl _ _)
    go_enter Try.func49, Try.ntmps49
    go_upto_region 1 with fail
    rw [← hA]
    clear hA
    go_wp2_with fail
    refine (c25.out _ HBA.out).mono ?_
    rintro e w1 ⟨rfl, hb⟩
    have HB1 := Lib.hid hb
    clear hb
    clear k0 k1 k2 k3 k4
    obtain ⟨k0, k1, k2, k3, k4⟩ := KK.out _ HB1.out
    go_wp2_with fail
    go_ret2
    exact ⟨_, rfl, by simp only [zs, List.map_nil]; exact il_nil _ _, HBA.out.trans (HB1.out.mono HBA.out.size)⟩
  have hv := HV.out hE
  have hn := hv.len
  have hn0 := hv.pos
  rw [hE] at c25
  by_cases h2 : ls.length = ns.length
  rotate_left
  · rw [seg2 hE h2, if_neg (by decide)]
    have h2' : ((ls.length : Int) != (ns.length : Int)) = true := by simp; omega
    clear HV c113 c82 HLC hE hv h2 hn hn0
    generalize ns.length = n at *
    generalize ls.length = m at *
    obtain ⟨A, hA⟩ : ∃ A, A = (w.alloc (.cells #[.int .i64 sl, .int .i64 sh, .slice ca n cap] 26)).alloc (.cells #[.int .i64 a, .int .i64 b] 23) := ⟨_, rfl⟩
    have HBA := Lib.hid (show Below w.heap.size w A by rw [hA]; exact ((Below.refl _ _).alloc (Nat.le_refl _) _).alloc (by simp) _)
    have hzA : A.heap.size = w.heap.size + 2 := by rw [hA]; simp
    have q0 : A.cell? ⟨w.heap.size, 0, none⟩ = some (.int .i64 sl) := by rw [hA]; simp [go_sem]
    have q1 : A.cell? ⟨w.heap.size, 1, none⟩ = some (.int .i64 sh) := by rw [hA]; simp [go_sem]
    have q2 : A.cell? ⟨w.heap.size, 2, none⟩ = some (.slice ca n cap) := by rw [hA]; simp [go_sem]
    have q3 : A.cell? ⟨w.heap.size + 1, 0, none⟩ = some (.int .i64 a) := by rw [hA]; simp [go_sem]
    have q4 : A.cell? ⟨w.heap.size + 1, 1, none⟩ = some (.int .i64 b) := by rw [hA]; simp [go_sem]
    have KK := Lib.hid (show ∀ W, Below A.heap.size A W → W.cell? ⟨w.heap.size, 0, none⟩ = some (.int .i64 sl) ∧ W.cell? ⟨w.heap.size, 1, none⟩ = some (.int .i64 sh) ∧ W.cell? ⟨w.heap.size, 2, none⟩ = some (.slice ca n cap) ∧ W.cell? ⟨w.heap.size + 1, 0, none⟩ = some (.int .i64 a) ∧ W.cell? ⟨w.heap.size + 1, 1, none⟩ = some (.int .i64 b) from fun W h => ⟨(h.cell (p := ⟨w.heap.size, 0, none⟩) (by show w.heap.size < A.heap.size; omega)).trans q0, (h.cell (p := ⟨w.heap.size, 1, none⟩) (by show w.heap.size < A.heap.size; omega)).trans q1, (h.cell (p := ⟨w.heap.size, 2, none⟩) (by show w.heap.size < A.heap.size; omega)).trans q2, (h.cell (p := ⟨w.heap.size + 1, 0, none⟩) (by show w.heap.size + 1 < A.heap.size; omega)).trans q3, (h.cell (p := ⟨w.heap.size + 1, 1, none⟩) (by show w.heap.size + 1 < A.heap.size; omega)).trans q4⟩)
    clear q0 q1 q2 q3 q4 hzA
    obtain ⟨k0, k1, k2, k3, k4⟩ := KK.out _ (Below.refl _ _)
    go_enter Try.func49, Try.ntmps49
    go_upto_region 1 with fail
    rw [← hA]
    clear hA
    go_wp2_with fail
    refine (c25.out _ HBA.out).mono ?_
    rintro e w1 ⟨rfl, hb⟩
    have HB1 := Lib.hid hb
    clear hb
    clear k0 k1 k2 k3 k4
    obtain ⟨k0, k1, k2, k3, k4⟩ := KK.out _ HB1.out
    go_wp2_with fail
    go_ret2
    exact ⟨_, rfl, by simp only [zs, List.map_nil]; exact il_nil _ _, HBA.out.trans (HB1.out.mono HBA.out.size)⟩
  clear HV
  by_cases h3 : 0 ≤ k ∧ k < (ns.length : Int)
  rotate_left
  · rw [seg3 hE h2 h3, if_neg (by decide), h2]
    clear c113 c82 HLC hE hv h2 hn hn0
    generalize ns.length = n at *
    by_cases h31 : k < 0
    · clear h3
      obtain ⟨A, hA⟩ : ∃ A, A = (w.alloc (.cells #[.int .i64 sl, .int .i64 sh, .slice ca n cap] 26)).alloc (.cells #[.int .i64 a, .int .i64 b] 23) := ⟨_, rfl⟩
      have HBA := Lib.hid (show Below w.heap.size w A by rw [hA]; exact ((Below.refl _ _).alloc (Nat.le_refl _) _).alloc (by simp) _)
      have hzA : A.heap.size = w.heap.size + 2 := by rw [hA]; simp
      have q0 : A.cell? ⟨w.heap.size, 0, none⟩ = some (.int .i64 sl) := by rw [hA]; simp [go_sem]
      have q1 : A.cell? ⟨w.heap.size, 1, none⟩ = some (.int .i64 sh) := by rw [hA]; simp [go_sem]
      have q2 : A.cell? ⟨w.heap.size, 2, none⟩ = some (.slice ca n cap) := by rw [hA]; simp [go_sem]
      have q3 : A.cell? ⟨w.heap.size + 1, 0, none⟩ = some (.int .i64 a) := by rw [hA]; simp [go_sem]
      have q4 : A.cell? ⟨w.heap.size + 1, 1, none⟩ = some (.int .i64 b) := by rw [hA]; simp [go_sem]
      have KK := Lib.hid (show ∀ W, Below A.heap.size A W → W.cell? ⟨w.heap.size, 0, none⟩ = some (.int .i64 sl) ∧ W.cell? ⟨w.heap.size, 1, none⟩ = some (.int .i64 sh) ∧ W.cell? ⟨w.heap.size, 2, none⟩ = some (.slice ca n cap) ∧ W.cell? ⟨w.heap.size + 1, 0, none⟩ = some (.int .i64 a) ∧ W.cell? ⟨w.heap.size + 1, 1, none⟩ = some (.int .i64 b) from fun W h => ⟨(h.cell (p := ⟨w.heap.size, 0, none⟩) (by show w.heap.size < A.heap.size; omega)).trans q0, (h.cell (p := ⟨w.heap.size, 1, none⟩) (by show w.heap.size < A.heap.size; omega)).trans q1, (h.cell (p := ⟨w.heap.size, 2, none⟩) (by show w.heap.size < A.heap.size; omega)).trans q2, (h.cell (p := ⟨w.heap.size + 1, 0, none⟩) (by show w.heap.size + 1 < A.heap.size; omega)).trans q3, (h.cell (p := ⟨w.heap.size + 1, 1, none⟩) (by show w.heap.size + 1 < A.heap.size; omega)).trans q4⟩)
      clear q0 q1 q2 q3 q4 hzA
      obtain ⟨k0, k1, k2, k3, k4⟩ := KK.out _ (Below.refl _ _)
      go_enter Try.func49, Try.ntmps49
      go_upto_region 1 with fail
      rw [← hA]
      clear hA
      go_wp2_with fail
      refine (c25.out _ HBA.out).mono ?_
      rintro e w1 ⟨rfl, hb⟩
      have HB1 := Lib.hid hb
      clear hb
      clear k0 k1 k2 k3 k4
      obtain ⟨k0, k1, k2, k3, k4⟩ := KK.out _ HB1.out
      go_wp2_with fail
      go_ret2
      exact ⟨_, rfl, by simp only [zs, List.map_nil]; exact il_nil _ _, HBA.out.trans (HB1.out.mono HBA.out.size)⟩
    · have h32 : (n : Int) ≤ k := by omega
      have h33 : k ≥ (n : Int) := h32
      clear h3
      obtain ⟨A, hA⟩ : ∃ A, A = (w.alloc (.cells #[.int .i64 sl, .int .i64 sh, .slice ca n cap] 26)).alloc (.cells #[.int .i64 a, .int .i64 b] 23) := ⟨_, rfl⟩
      have HBA := Lib.hid (show Below w.heap.size w A by rw [hA]; exact ((Below.refl _ _).alloc (Nat.le_refl _) _).alloc (by simp) _)
      have hzA : A.heap.size = w.heap.size + 2 := by rw [hA]; simp
      have q0 : A.cell? ⟨w.heap.size, 0, none⟩ = some (.int .i64 sl) := by rw [hA]; simp [go_sem]
      have q1 : A.cell? ⟨w.heap.size, 1, none⟩ = some (.int .i64 sh) := by rw [hA]; simp [go_sem]
      have q2 : A.cell? ⟨w.heap.size, 2, none⟩ = some (.slice ca n cap) := by rw [hA]; simp [go_sem]
      have q3 : A.cell? ⟨w.heap.size + 1, 0, none⟩ = some (.int .i64 a) := by rw [hA]; simp [go_sem]
      have q4 : A.cell? ⟨w.heap.size + 1, 1, none⟩ = some (.int .i64 b) := by rw [hA]; simp [go_sem]
      have KK := Lib.hid (show ∀ W, Below A.heap.size A W → W.cell? ⟨w.heap.size, 0, none⟩ = some (.int .i64 sl) ∧ W.cell? ⟨w.heap.size, 1, none⟩ = some (.int .i64 sh) ∧ W.cell? ⟨w.heap.size, 2, none⟩ = some (.slice ca n cap) ∧ W.cell? ⟨w.heap.size + 1, 0, none⟩ = some (.int .i64 a) ∧ W.cell? ⟨w.heap.size + 1, 1, none⟩ = some (.int .i64 b) from fun W h => ⟨(h.cell (p := ⟨w.heap.size, 0, none⟩) (by show w.heap.size < A.heap.size; omega)).trans q0, (h.cell (p := ⟨w.heap.size, 1, none⟩) (by show w.heap.size < A.heap.size; omega)).trans q1, (h.cell (p := ⟨w.heap.size, 2, none⟩) (by show w.heap.size < A.heap.size; omega)).trans q2, (h.cell (p := ⟨w.heap.size + 1, 0, none⟩) (by show w.heap.size + 1 < A.heap.size; omega)).trans q3, (h.cell (p := ⟨w.heap.size + 1, 1, none⟩) (by show w.heap.size + 1 < A.heap.size; omega)).trans q4⟩)
      clear q0 q1 q2 q3 q4 hzA
      obtain ⟨k0, k1, k2, k3, k4⟩ := KK.out _ (Below.refl _ _)
      go_enter Try.func49, Try.ntmps49
      go_upto_region 1 with fail
      rw [← hA]
      clear hA
      go_wp2_with fail
      refine (c25.out _ HBA.out).mono ?_
      rintro e w1 ⟨rfl, hb⟩
      have HB1 := Lib.hid hb
      clear hb
      clear k0 k1 k2 k3 k4
      obtain ⟨k0, k1, k2, k3, k4⟩ := KK.out _ HB1.out
      go_wp2_with fail
      go_ret2
      exact ⟨_, rfl, by simp only [zs, List.map_nil]; exact il_nil _ _, HBA.out.trans (HB1.out.mono HBA.out.size)⟩
  have HBAD := Lib.hid (show ∀ j, j < ls.length → ¬ okT ls j → segE sl sh ns ls k a b = 2 from fun j hj h => seg4 hE h2 h3 (fun q => lenB_not hj h q.1))
  have HVB := Lib.hid (show ¬ vB a b = true → segE sl sh ns ls k a b = 2 from fun h => seg4 hE h2 h3 (fun q => h q.2))
  have HGO := Lib.hid (show lenB ls = true → vB a b = true → segE sl sh ns ls k a b = 0 from fun h h' => seg5 hE h2 h3 ⟨h, h'⟩)
  have HLA := Lib.hid (fun h => lenB_all (ls := ls) (by omega) h)
  have HNIL := Lib.hid (show segE sl sh ns ls k a b = 2 → (if segE sl sh ns ls k a b = 0 then segL ns ls k a b else []) = [] from fun h => if_neg (by rw [h]; decide))
  have HYES := Lib.hid (show segE sl sh ns ls k a b = 0 → (if segE sl sh ns ls k a b = 0 then segL ns ls k a b else []) = segL ns ls k a b from fun h => if_pos h)
  obtain ⟨kn, rfl⟩ : ∃ kn : Nat, k = (kn : Int) := ⟨k.toNat, by omega⟩
  have hkn : kn < ns.length := by omega
  have hki : (kn : Int) < (ns.length : Int) := by omega
  have hk0 : (0 : Int) ≤ (kn : Int) := by omega
  have hpl := pth_len hv.all.tree kn
  have hp0 : 0 < (pth (par ns) kn).length := by
    obtain ⟨L, hL⟩ := pth_head hv.all.tree kn
    rw [hL]; simp
  have hpm : (pth (par ns) kn).length ≤ 60 := by omega
  have cR := Lib.hid (c82.out hv kn hkn)
  have HPL := Lib.hid (show ∀ i, i < (pth (par ns) kn).length → tn (pth (par ns) kn) i < ls.length from fun i hi => by rw [h2]; exact pth_place hv.all hkn hi)
  have HSL : segL ns ls (kn : Int) a b = sgL ls (pth (par ns) kn) a b ((pth (par ns) kn).length - 1) := by unfold segL; rw [Int.toNat_natCast]
  rw [HSL] at HYES HNIL
  rw [HSL]
  clear HSL c82 hE hv h3 hpl
  generalize segE sl sh ns ls (kn : Int) a b = SE at *
  generalize (if SE = 0 then sgL ls (pth (par ns) kn) a b ((pth (par ns) kn).length - 1) else []) = RL at *
  have hK : ∀ j, sgK (pth (par ns) kn) j = tn (pth (par ns) kn) ((pth (par ns) kn).length - 2 - j) := fun _ => rfl
  have HW := Lib.hid (fun (hB : lenB ls = true) j (h : j < (pth (par ns) kn).length - 1) => show wrap64 (sgB ls (pth (par ns) kn) j + ti ls (sgK (pth (par ns) kn) j)) = sgB ls (pth (par ns) kn) (j + 1) from by
    have q := sgB_bd hB HPL.out j (by omega)
    have r := (sg_valid hB HPL.out hpm (j := j) (by omega)).2
    have e : sgB ls (pth (par ns) kn) (j + 1) = sgB ls (pth (par ns) kn) j + ti ls (sgK (pth (par ns) kn) j) := rfl
    rw [e]
    unfold wrap64; omega)
  generalize pth (par ns) kn = p at *
  have HIN := Lib.hid (fun j => @sgL_in ls p a b j)
  have HOUT := Lib.hid (fun j => @sgL_out ls p a b j)
  have HLN := Lib.hid (sgL_len ls p a b)
  have HK := Lib.hid hK
  clear hK
  generalize hnn : ns.length = n at *
  generalize hmm : ls.length = n' at *
  subst h2
  clear hnn hmm
  obtain ⟨A, hA⟩ : ∃ A, A = (w.alloc (.cells #[.int .i64 sl, .int .i64 sh, .slice ca n' cap] 26)).alloc (.cells #[.int .i64 a, .int .i64 b] 23) := ⟨_, rfl⟩
  have HBA := Lib.hid (show Below w.heap.size w A by rw [hA]; exact ((Below.refl _ _).alloc (Nat.le_refl _) _).alloc (by simp) _)
  have hzA : A.heap.size = w.heap.size + 2 := by rw [hA]; simp
  have q0 : A.cell? ⟨w.heap.size, 0, none⟩ = some (.int .i64 sl) := by rw [hA]; simp [go_sem]
  have q1 : A.cell? ⟨w.heap.size, 1, none⟩ = some (.int .i64 sh) := by rw [hA]; simp [go_sem]
  have q2 : A.cell? ⟨w.heap.size, 2, none⟩ = some (.slice ca n' cap) := by rw [hA]; simp [go_sem]
  have q3 : A.cell? ⟨w.heap.size + 1, 0, none⟩ = some (.int .i64 a) := by rw [hA]; simp [go_sem]
  have q4 : A.cell? ⟨w.heap.size + 1, 1, none⟩ = some (.int .i64 b) := by rw [hA]; simp [go_sem]
  have KK := Lib.hid (show ∀ W, Below A.heap.size A W → W.cell? ⟨w.heap.size, 0, none⟩ = some (.int .i64 sl) ∧ W.cell? ⟨w.heap.size, 1, none⟩ = some (.int .i64 sh) ∧ W.cell? ⟨w.heap.size, 2, none⟩ = some (.slice ca n' cap) ∧ W.cell? ⟨w.heap.size + 1, 0, none⟩ = some (.int .i64 a) ∧ W.cell? ⟨w.heap.size + 1, 1, none⟩ = some (.int .i64 b) from fun W h => ⟨(h.cell (p := ⟨w.heap.size, 0, none⟩) (by show w.heap.size < A.heap.size; omega)).trans q0, (h.cell (p := ⟨w.heap.size, 1, none⟩) (by show w.heap.size < A.heap.size; omega)).trans q1, (h.cell (p := ⟨w.heap.size, 2, none⟩) (by show w.heap.size < A.heap.size; omega)).trans q2, (h.cell (p := ⟨w.heap.size + 1, 0, none⟩) (by show w.heap.size + 1 < A.heap.size; omega)).trans q3, (h.cell (p := ⟨w.heap.size + 1, 1, none⟩) (by show w.heap.size + 1 < A.heap.size; omega)).trans q4⟩)
  clear q0 q1 q2 q3 q4 hzA
  obtain ⟨k0, k1, k2, k3, k4⟩ := KK.out _ (Below.refl _ _)
  go_enter Try.func49, Try.ntmps49
  go_upto_region 1 with fail
  rw [← hA]
  clear hA
  go_wp2_with fail
  refine (c25.out _ HBA.out).mono ?_
  rintro e w1 ⟨rfl, hb⟩
  have HB1 := Lib.hid hb
  clear hb
  clear k0 k1 k2 k3 k4
  obtain ⟨k0, k1, k2, k3, k4⟩ := KK.out _ HB1.out
  go_wp2_with fail
  go_loop [11] (fun iv => ∃ j : Nat, j ≤ n' ∧ iv = .int .i64 j ∧ ∀ t, t < j → okT ls t) (fun iv => n' - (intOf iv).toNat)
  case atStart => exact ⟨0, Nat.zero_le _, rfl, fun t ht => absurd ht (Nat.not_lt_zero _)⟩
  case round =>
    obtain ⟨j, hj, rfl, hok⟩ := hrel
    have HOK := Lib.hid hok
    clear hok
    by_cases hlt : j < n'
    · have hji : (j : Int) < (n' : Int) := by omega
      obtain ⟨lg, lo, rfl, cl⟩ := HLC.out w1 j (HBA.out.trans (HB1.out.mono HBA.out.size)) hlt
      have HBj := Lib.hid (HBAD.out j hlt)
      have HOJ := Lib.hid (show okT ls j ↔ (0 ≤ ti ls j ∧ ti ls j ≤ 1048576 ∧ (j = 0 → ti ls j = 0)) from Iff.rfl)
      have HNX := Lib.hid (show okT ls j → ∀ t, t < j + 1 → okT ls t from fun h t ht => by
        rcases (show t < j ∨ t = j by omega) with h' | h'
        · exact HOK.out t h'
        · rw [h']; exact h)
      clear HBAD HVB HGO HLA HYES HW HIN HOUT HLN HK cR HPL HOK
      generalize ti ls j = t at *
      by_cases h4 : t < 0
      · have HR := Lib.hid (HBj.out (fun h => by have := (HOJ.out.1 h).1; omega))
        have HN' := Lib.hid (HNIL.out HR.out)
        clear HNX HOJ
        go_wp2_with fail
        go_ret2
        exact ⟨_, by rw [HR.out]; rfl, by rw [HN'.out]; exact il_nil _ _, HBA.out.trans (HB1.out.mono HBA.out.size)⟩
      by_cases h5 : 1048576 < t
      · have HR := Lib.hid (HBj.out (fun h => by have := (HOJ.out.1 h).2.1; omega))
        have HN' := Lib.hid (HNIL.out HR.out)
        clear HNX HOJ
        go_wp2_with fail
        go_ret2
        exact ⟨_, by rw [HR.out]; rfl, by rw [HN'.out]; exact il_nil _ _, HBA.out.trans (HB1.out.mono HBA.out.size)⟩
      by_cases h6 : j = 0
      · have h6' : ((j : Int) == 0) = true := by rw [h6]; rfl
        have HJ0 := Lib.hid h6
        clear h6
        by_cases h7 : t = 0
        · subst h7
          have HNX' := Lib.hid (HNX.out (HOJ.out.2 ⟨by omega, by omega, fun _ => rfl⟩))
          clear HNX HOJ HBj HNIL
          go_wp2_with fail
          go_round
          case rel => exact ⟨j + 1, by omega, by go_num, HNX'.out⟩
          case measure => simp [intOf]; omega
        · have h7' : (t != 0) = true := by simpa using h7
          have HR := Lib.hid (HBj.out (fun h => h7 ((HOJ.out.1 h).2.2 HJ0.out)))
          have HN' := Lib.hid (HNIL.out HR.out)
          clear HNX HOJ h7
          go_wp2_with fail
          go_ret2
          exact ⟨_, by rw [HR.out]; rfl, by rw [HN'.out]; exact il_nil _ _, HBA.out.trans (HB1.out.mono HBA.out.size)⟩
      · have h6' : ((j : Int) == 0) = false := beq_eq_false_iff_ne.2 (by omega)
        have HNX' := Lib.hid (HNX.out (HOJ.out.2 ⟨by omega, by omega, fun h => absurd h h6⟩))
        clear HNX HOJ HBj HNIL
        go_wp2_with fail
        go_round
        case rel => exact ⟨j + 1, by omega, by go_num, HNX'.out⟩
        case measure => simp [intOf]; omega
    · obtain rfl : j = n' := by omega
      have HLB := Lib.hid (HLA.out HOK.out)
      clear HBAD HLA HOK
      by_cases hvb : vB a b = true
      rotate_left
      · have HR := Lib.hid (HVB.out hvb)
        have HN' := Lib.hid (HNIL.out HR.out)
        have c13 := Lib.hid (fun W => c113.out W)
        rw [if_neg hvb] at c13
        clear HVB HGO HYES HW HIN HOUT HLN HK cR HPL HNIL hvb c113
        go_wp2_with fail
        refine (c13.out _).mono ?_
        rintro e w2 ⟨rfl, hb⟩
        have HB2 := Lib.hid (HB1.out.trans (hb.mono HB1.out.size))
        clear hb
        go_wp2_with fail
        go_ret2
        exact ⟨_, by rw [HR.out]; rfl, by rw [HN'.out]; exact il_nil _ _, HBA.out.trans (HB2.out.mono HBA.out.size)⟩
      have HR := Lib.hid (HGO.out HLB.out hvb)
      have HY' := Lib.hid (HYES.out HR.out)
      have HWJ := Lib.hid (HW.out HLB.out)
      have c13 := Lib.hid (fun W => c113.out W)
      rw [if_pos hvb] at c13
      clear HVB HGO HYES HW HNIL hvb c113
      go_wp2_with fail
      refine (c13.out _).mono ?_
      rintro e w2 ⟨rfl, hb⟩
      have HB2 := Lib.hid (HB1.out.trans (hb.mono HB1.out.size))
      clear hb k0 k1 k2 k3 k4
      obtain ⟨k0, k1, k2, k3, k4⟩ := KK.out _ HB2.out
      go_wp2_with fail
      refine (cR.out _ (HBA.out.trans (HB2.out.mono HBA.out.size))).mono ?_
      rintro e w3 ⟨pv, rfl, hr, hb⟩
      have HB3 := Lib.hid (HB2.out.trans (hb.mono HB2.out.size))
      obtain ⟨pg, pc, rfl⟩ := own_pos hr hp0
      have HPC := Lib.hid (show ∀ W i, Below w3.heap.size w3 W → i < p.length → W.cell? ⟨pg, i, none⟩ = some (.int .i64 (tn p i : Int)) from fun W i hW hi => by
        obtain ⟨g', c', e, -, -, hg, c0⟩ := own3_cell hr (i := i) hi
        simp only [Value.slice.injEq, Option.some.injEq, Addr.mk.injEq] at e
        obtain ⟨⟨rfl, -, -⟩, -, -⟩ := e
        exact (hW.cell (p := ⟨pg, _, none⟩) hg).trans c0)
      clear hb hr k0 k1 k2 k3 k4 cR
      generalize hpp : p.length = pl at *
      have hpi : (pl : Int) ≤ 60 := by omega
      clear hpp
      go_wp2_with fail
      go_loopw [13, 14, 15] (fun ov bv iv wr => ∃ (i : Nat) (z : Int), i ≤ pl - 1 ∧ iv = .int .i64 z ∧ z = (pl : Int) - 2 - i ∧ bv = .int .i64 (sgB ls p i) ∧ wr.ownsRow w3.heap.size 3 1 ov (sgL ls p a b i).length (flatN (sgL ls p a b i)) ∧ Below w3.heap.size w3 wr) (fun _ _ iv _ => (intOf iv + 1).toNat)
      case atStart => exact ⟨0, _, Nat.zero_le _, rfl, by omega, rfl, World.ownsRow_nil _ _ _ _, Below.refl _ _⟩
      case round =>
        obtain ⟨i, z, hi, rfl, hz, rfl, hrow, hBi⟩ := hrel
        have HROW := Lib.hid hrow
        have HBi := Lib.hid hBi
        have HLEN := Lib.hid (show (sgL ls p a b i).length ≤ 60 from Nat.le_trans (HLN.out i) (by omega))
        obtain ⟨oa, oc, rfl⟩ := own_form3 hrow
        clear hrow hBi
        by_cases hlt : i < pl - 1
        · obtain ⟨q, hq⟩ : ∃ q, q = pl - 2 - i := ⟨_, rfl⟩
          obtain rfl : z = (q : Int) := by omega
          have hKi := HK.out i
          rw [← hq] at hKi
          have HXW := Lib.hid (HB3.out.trans (HBi.out.mono HB3.out.size))
          have cp := HPC.out wr q HBi.out (by omega)
          have hxn := HPL.out q (by omega)
          rw [← hKi] at cp hxn
          obtain ⟨lg, lo, rfl, cl⟩ := HLC.out wr _ (HBA.out.trans (HXW.out.mono HBA.out.size)) hxn
          have hw := HWJ.out i hlt
          have HIj := Lib.hid (HIN.out i)
          have HOj := Lib.hid (HOUT.out i)
          have hx0 : (0 : Int) ≤ (sgK p i : Int) := by omega
          have hxi : (sgK p i : Int) < (j : Int) := by omega
          have hqp : (q : Int) < (pl : Int) := by omega
          have hq0 : (0 : Int) ≤ (q : Int) := by omega
          have HQ := Lib.hid hq
          have HZ := Lib.hid hz
          obtain ⟨-, -, -, x0, x1⟩ := KK.out _ HXW.out
          clear HPC HPL HLC HWJ HIN HOUT HLN HK hq hz hKi
          generalize ti ls (sgK p i) = t at *
          generalize hB1 : sgB ls p (i + 1) = b1 at *
          have HB1' := Lib.hid hB1
          clear hB1 hxn
          generalize sgB ls p i = b0 at *
          generalize sgK p i = x at *
          by_cases h1 : a ≤ b1
          · by_cases hh : b0 ≤ b
            · have HS := Lib.hid (HIj.out ⟨h1, hh⟩)
              have hge : b ≥ b0 := hh
              clear HIj HOj
              generalize hln : (sgL ls p a b i).length = ln at *
              have HLN' := Lib.hid hln
              clear hln
              go_wp2_with (at_builtin; refine wpList_append_own _ rfl _ _ 29 rfl w3.heap.size 3 i0 (.int .i64 0) 1 8 Try.underlying29 hi0 hz0 hz1 hz2 rfl (by decide) _ _ _ rfl (HROW.out.alloc _) ⟨wr.heap.size, 0, none⟩ 1 1 [.int .i64 (x : Int)] rfl rfl (one_new3 _ _) (by simp [Value.oneCell']) (by unfold maxLen; have := HLEN.out; omega) (by have := HLEN.out; omega) (by have := HBi.out.size; simp; omega) ?_; intro v' w5 hown' hgrow _; have HG := Lib.hid hgrow; have HO := Lib.hid hown'; obtain ⟨g', cap', rfl⟩ := ownsRow_succ hown'; clear hown' hgrow; have HB5 := Lib.hid (show Below w3.heap.size w3 w5 from (HBi.out.alloc HBi.out.size _).grown HG.out (by have := HBi.out.size; simp; omega) (fun r e => (((HROW.out.alloc (.cells #[.int .i64 (x : Int)] 3)).lt r e).1))))
              have HR5 := Lib.hid (show w5.ownsRow w3.heap.size 3 1 _ (sgL ls p a b (i + 1)).length (flatN (sgL ls p a b (i + 1))) by rw [HS.out, List.length_append, HLN'.out, flatN_snoc]; exact HO.out)
              go_roundw
              case rel => exact ⟨i + 1, (q : Int) - 1, by omega, by go_num, by have := HZ.out; omega, by rw [HB1'.out]; try rw [hw], HR5.out, HB5.out⟩
              case measure => simp [intOf]; try omega
            · have HS := Lib.hid (HOj.out (fun h => hh h.2))
              have hge : ¬ b ≥ b0 := hh
              clear HIj HOj
              go_wp2_with fail
              go_roundw
              case rel => exact ⟨i + 1, (q : Int) - 1, by omega, by go_num, by have := HZ.out; omega, by rw [HB1'.out]; try rw [hw], by rw [HS.out]; exact HROW.out, HBi.out⟩
              case measure => simp [intOf]; try omega
          · have HS := Lib.hid (HOj.out (fun h => h1 h.1))
            clear HIj HOj
            go_wp2_with fail
            go_roundw
            case rel => exact ⟨i + 1, (q : Int) - 1, by omega, by go_num, by have := HZ.out; omega, by rw [HB1'.out]; try rw [hw], by rw [HS.out]; exact HROW.out, HBi.out⟩
            case measure => simp [intOf]; try omega
        · obtain rfl : i = pl - 1 := by omega
          have hzn : ¬ z ≥ 0 := by omega
          have hzn' : z < 0 := by omega
          have HI := Lib.hid (il_of_own HROW.out)
          clear hz HWJ
          go_wp2_with fail
          go_ret2
          exact ⟨_, by rw [HR.out]; rfl, by rw [HY'.out]; exact HI.out, HBA.out.trans ((HB3.out.trans (HBi.out.mono HB3.out.size)).mono HBA.out.size)⟩
end Go.Proofs.Ytdohfpnnmppdkaa

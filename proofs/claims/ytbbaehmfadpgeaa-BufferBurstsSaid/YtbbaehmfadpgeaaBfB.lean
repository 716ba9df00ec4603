/-
  Buffers: which record is less important: the program and the reference.
-/
import Derived.Test.YtbbaehmfadpgeaaBfA
namespace Go.Proofs.Ytbbaehmfadpgeaa
open Go.RowKit Go.Shelf
set_option linter.unusedSimpArgs false
set_option maxHeartbeats 1000000 in
set_option maxRecDepth 100000 in
theorem less_any (a b : Rc) (w : World) : Calls Try.prog 51 #[.agg #[.int .i64 a.id, .int .i64 a.cls, .int .i64 a.made, .int .i64 a.size, .int .i64 a.packed], .agg #[.int .i64 b.id, .int .i64 b.cls, .int .i64 b.made, .int .i64 b.size, .int .i64 b.packed]] w fun e w' => e = .returned (.bool (lsR a b)) ∧ Below w.heap.size w w' := by
  obtain ⟨A, hA⟩ : ∃ A, A = (w.alloc (.cells #[.int .i64 a.id, .int .i64 a.cls, .int .i64 a.made, .int .i64 a.size, .int .i64 a.packed] 23)).alloc (.cells #[.int .i64 b.id, .int .i64 b.cls, .int .i64 b.made, .int .i64 b.size, .int .i64 b.packed] 23) := ⟨_, rfl⟩
  have HBA := Lib.hid (show Below w.heap.size w A by rw [hA]; exact (((Below.refl _ _).alloc (Nat.le_refl _) _).alloc (by simp) _))
  have HX := Lib.hid (show BxR A w.heap.size a by rw [hA]; exact (BxR.new w a).keep ((Below.refl _ _).alloc (Nat.le_refl _) _))
  have HY := Lib.hid (show BxR A (w.heap.size + 1) b by rw [hA]; exact (show (w.alloc (.cells #[.int .i64 a.id, .int .i64 a.cls, .int .i64 a.made, .int .i64 a.size, .int .i64 a.packed] 23)).heap.size = w.heap.size + 1 by simp) ▸ BxR.new (w.alloc (.cells #[.int .i64 a.id, .int .i64 a.cls, .int .i64 a.made, .int .i64 a.size, .int .i64 a.packed] 23)) b)
  obtain ⟨k0, k1, k2, k3, k4⟩ := HX.out.all
  obtain ⟨j0, j1, j2, j3, j4⟩ := HY.out.all
  unfold lsR
  by_cases h1 : a.cls = b.cls
  · rw [if_pos h1]
    have e1 : (a.cls == b.cls) = true := by simpa using h1
    have e1' : (a.cls != b.cls) = false := by simpa using h1
    by_cases h2 : a.made = b.made
    · rw [if_pos h2]
      have e2 : (a.made == b.made) = true := by simpa using h2
      have e2' : (a.made != b.made) = false := by simpa using h2
      clear h1 h2
      go_enter Try.func51, Try.ntmps51
      go_upto_region 1 with fail
      rw [← hA]
      clear hA
      go_wp2_with fail
      go_ret
      exact ⟨by first | rfl | simp, HBA.out⟩
    · rw [if_neg h2]
      have e2 : (a.made == b.made) = false := by simpa using h2
      have e2' : (a.made != b.made) = true := by simpa using h2
      clear h1 h2
      go_enter Try.func51, Try.ntmps51
      go_upto_region 1 with fail
      rw [← hA]
      clear hA
      go_wp2_with fail
      go_ret
      exact ⟨by first | rfl | simp, HBA.out⟩
  · rw [if_neg h1]
    have e1 : (a.cls == b.cls) = false := by simpa using h1
    have e1' : (a.cls != b.cls) = true := by simpa using h1
    clear h1
    go_enter Try.func51, Try.ntmps51
    go_upto_region 1 with fail
    rw [← hA]
    clear hA
    go_wp2_with fail
    go_ret
    exact ⟨by first | rfl | simp, HBA.out⟩
set_option maxHeartbeats 1000000 in
set_option maxRecDepth 100000 in
theorem rlesser_any (a b : Rc) (w : World) : Calls Try.prog 52 #[.agg #[.int .i64 a.id, .int .i64 a.cls, .int .i64 a.made, .int .i64 a.size, .int .i64 a.packed], .agg #[.int .i64 b.id, .int .i64 b.cls, .int .i64 b.made, .int .i64 b.size, .int .i64 b.packed]] w fun e w' => e = .returned (.bool (lsR a b)) ∧ Below w.heap.size w w' := by
  obtain ⟨A, hA⟩ : ∃ A, A = (w.alloc (.cells #[.int .i64 a.id, .int .i64 a.cls, .int .i64 a.made, .int .i64 a.size, .int .i64 a.packed] 23)).alloc (.cells #[.int .i64 b.id, .int .i64 b.cls, .int .i64 b.made, .int .i64 b.size, .int .i64 b.packed] 23) := ⟨_, rfl⟩
  have HBA := Lib.hid (show Below w.heap.size w A by rw [hA]; exact (((Below.refl _ _).alloc (Nat.le_refl _) _).alloc (by simp) _))
  have HX := Lib.hid (show BxR A w.heap.size a by rw [hA]; exact (BxR.new w a).keep ((Below.refl _ _).alloc (Nat.le_refl _) _))
  have HY := Lib.hid (show BxR A (w.heap.size + 1) b by rw [hA]; exact (show (w.alloc (.cells #[.int .i64 a.id, .int .i64 a.cls, .int .i64 a.made, .int .i64 a.size, .int .i64 a.packed] 23)).heap.size = w.heap.size + 1 by simp) ▸ BxR.new (w.alloc (.cells #[.int .i64 a.id, .int .i64 a.cls, .int .i64 a.made, .int .i64 a.size, .int .i64 a.packed] 23)) b)
  obtain ⟨k0, k1, k2, k3, k4⟩ := HX.out.all
  obtain ⟨j0, j1, j2, j3, j4⟩ := HY.out.all
  unfold lsR
  by_cases h1 : a.cls = b.cls
  · rw [if_pos h1]
    have e1 : (a.cls == b.cls) = true := by simpa using h1
    have e1' : (a.cls != b.cls) = false := by simpa using h1
    by_cases h2 : a.made = b.made
    · rw [if_pos h2]
      have e2 : (a.made == b.made) = true := by simpa using h2
      have e2' : (a.made != b.made) = false := by simpa using h2
      clear h1 h2
      go_enter Try.func52, Try.ntmps52
      go_upto_region 1 with fail
      rw [← hA]
      clear hA
      go_wp2_with fail
      go_ret
      exact ⟨by first | rfl | simp, HBA.out⟩
    · rw [if_neg h2]
      have e2 : (a.made == b.made) = false := by simpa using h2
      have e2' : (a.made != b.made) = true := by simpa using h2
      clear h1 h2
      go_enter Try.func52, Try.ntmps52
      go_upto_region 1 with fail
      rw [← hA]
      clear hA
      go_wp2_with fail
      go_ret
      exact ⟨by first | rfl | simp, HBA.out⟩
  · rw [if_neg h1]
    have e1 : (a.cls == b.cls) = false := by simpa using h1
    have e1' : (a.cls != b.cls) = true := by simpa using h1
    clear h1
    go_enter Try.func52, Try.ntmps52
    go_upto_region 1 with fail
    rw [← hA]
    clear hA
    go_wp2_with fail
    go_ret
    exact ⟨by first | rfl | simp, HBA.out⟩
set_option maxHeartbeats 1000000 in
set_option maxRecDepth 100000 in
theorem rcheck_any (r : Rc) (w : World) : Calls Try.prog 19 #[.agg #[.int .i64 r.id, .int .i64 r.cls, .int .i64 r.made, .int .i64 r.size, .int .i64 r.packed]] w fun e w' => e = .returned (.int .i64 (chkR r)) ∧ Below w.heap.size w w' := by
  obtain ⟨A, hA⟩ : ∃ A, A = w.alloc (.cells #[.int .i64 r.id, .int .i64 r.cls, .int .i64 r.made, .int .i64 r.size, .int .i64 r.packed] 23) := ⟨_, rfl⟩
  have HBA := Lib.hid (show Below w.heap.size w A by rw [hA]; exact ((Below.refl _ _).alloc (Nat.le_refl _) _))
  have HX := Lib.hid (show BxR A w.heap.size r by rw [hA]; exact BxR.new w r)
  obtain ⟨k0, k1, k2, k3, k4⟩ := HX.out.all
  by_cases h0 : r.id < 0
  · rw [show chkR r = 2 from if_neg fun h => by unfold OkR at h; omega]
    have e0 : decide (r.id < 0) = true := by simpa using h0
    clear h0
    go_enter Try.func19, Try.ntmps19
    go_upto_region 1 with fail
    rw [← hA]
    clear hA
    go_wp2_with fail
    go_ret
    exact ⟨rfl, HBA.out⟩
  · by_cases h1 : 1073741824 < r.id
    · rw [show chkR r = 2 from if_neg fun h => by unfold OkR at h; omega]
      have e0 : decide (r.id < 0) = false := by simpa using h0
      have e1 : decide (1073741824 < r.id) = true := by simpa using h1
      clear h0 h1
      go_enter Try.func19, Try.ntmps19
      go_upto_region 1 with fail
      rw [← hA]
      clear hA
      go_wp2_with fail
      go_ret
      exact ⟨rfl, HBA.out⟩
    · by_cases h2 : r.cls < 0
      · rw [show chkR r = 2 from if_neg fun h => by unfold OkR at h; omega]
        have e0 : decide (r.id < 0) = false := by simpa using h0
        have e1 : decide (1073741824 < r.id) = false := by simpa using h1
        have e2 : decide (r.cls < 0) = true := by simpa using h2
        clear h0 h1 h2
        go_enter Try.func19, Try.ntmps19
        go_upto_region 1 with fail
        rw [← hA]
        clear hA
        go_wp2_with fail
        go_ret
        exact ⟨rfl, HBA.out⟩
      · by_cases h3 : 9 < r.cls
        · rw [show chkR r = 2 from if_neg fun h => by unfold OkR at h; omega]
          have e0 : decide (r.id < 0) = false := by simpa using h0
          have e1 : decide (1073741824 < r.id) = false := by simpa using h1
          have e2 : decide (r.cls < 0) = false := by simpa using h2
          have e3 : decide (9 < r.cls) = true := by simpa using h3
          clear h0 h1 h2 h3
          go_enter Try.func19, Try.ntmps19
          go_upto_region 1 with fail
          rw [← hA]
          clear hA
          go_wp2_with fail
          go_ret
          exact ⟨rfl, HBA.out⟩
        · by_cases h4 : r.made < 0
          · rw [show chkR r = 2 from if_neg fun h => by unfold OkR at h; omega]
            have e0 : decide (r.id < 0) = false := by simpa using h0
            have e1 : decide (1073741824 < r.id) = false := by simpa using h1
            have e2 : decide (r.cls < 0) = false := by simpa using h2
            have e3 : decide (9 < r.cls) = false := by simpa using h3
            have e4 : decide (r.made < 0) = true := by simpa using h4
            clear h0 h1 h2 h3 h4
            go_enter Try.func19, Try.ntmps19
            go_upto_region 1 with fail
            rw [← hA]
            clear hA
            go_wp2_with fail
            go_ret
            exact ⟨rfl, HBA.out⟩
          · by_cases h5 : 1073741824 < r.made
            · rw [show chkR r = 2 from if_neg fun h => by unfold OkR at h; omega]
              have e0 : decide (r.id < 0) = false := by simpa using h0
              have e1 : decide (1073741824 < r.id) = false := by simpa using h1
              have e2 : decide (r.cls < 0) = false := by simpa using h2
              have e3 : decide (9 < r.cls) = false := by simpa using h3
              have e4 : decide (r.made < 0) = false := by simpa using h4
              have e5 : decide (1073741824 < r.made) = true := by simpa using h5
              clear h0 h1 h2 h3 h4 h5
              go_enter Try.func19, Try.ntmps19
              go_upto_region 1 with fail
              rw [← hA]
              clear hA
              go_wp2_with fail
              go_ret
              exact ⟨rfl, HBA.out⟩
            · by_cases h6 : r.size < 1
              · rw [show chkR r = 2 from if_neg fun h => by unfold OkR at h; omega]
                have e0 : decide (r.id < 0) = false := by simpa using h0
                have e1 : decide (1073741824 < r.id) = false := by simpa using h1
                have e2 : decide (r.cls < 0) = false := by simpa using h2
                have e3 : decide (9 < r.cls) = false := by simpa using h3
                have e4 : decide (r.made < 0) = false := by simpa using h4
                have e5 : decide (1073741824 < r.made) = false := by simpa using h5
                have e6 : decide (r.size < 1) = true := by simpa using h6
                clear h0 h1 h2 h3 h4 h5 h6
                go_enter Try.func19, Try.ntmps19
                go_upto_region 1 with fail
                rw [← hA]
                clear hA
                go_wp2_with fail
                go_ret
                exact ⟨rfl, HBA.out⟩
              · by_cases h7 : 16777216 < r.size
                · rw [show chkR r = 2 from if_neg fun h => by unfold OkR at h; omega]
                  have e0 : decide (r.id < 0) = false := by simpa using h0
                  have e1 : decide (1073741824 < r.id) = false := by simpa using h1
                  have e2 : decide (r.cls < 0) = false := by simpa using h2
                  have e3 : decide (9 < r.cls) = false := by simpa using h3
                  have e4 : decide (r.made < 0) = false := by simpa using h4
                  have e5 : decide (1073741824 < r.made) = false := by simpa using h5
                  have e6 : decide (r.size < 1) = false := by simpa using h6
                  have e7 : decide (16777216 < r.size) = true := by simpa using h7
                  clear h0 h1 h2 h3 h4 h5 h6 h7
                  go_enter Try.func19, Try.ntmps19
                  go_upto_region 1 with fail
                  rw [← hA]
                  clear hA
                  go_wp2_with fail
                  go_ret
                  exact ⟨rfl, HBA.out⟩
                · by_cases h8 : r.packed < 1
                  · rw [show chkR r = 2 from if_neg fun h => by unfold OkR at h; omega]
                    have e0 : decide (r.id < 0) = false := by simpa using h0
                    have e1 : decide (1073741824 < r.id) = false := by simpa using h1
                    have e2 : decide (r.cls < 0) = false := by simpa using h2
                    have e3 : decide (9 < r.cls) = false := by simpa using h3
                    have e4 : decide (r.made < 0) = false := by simpa using h4
                    have e5 : decide (1073741824 < r.made) = false := by simpa using h5
                    have e6 : decide (r.size < 1) = false := by simpa using h6
                    have e7 : decide (16777216 < r.size) = false := by simpa using h7
                    have e8 : decide (r.packed < 1) = true := by simpa using h8
                    clear h0 h1 h2 h3 h4 h5 h6 h7 h8
                    go_enter Try.func19, Try.ntmps19
                    go_upto_region 1 with fail
                    rw [← hA]
                    clear hA
                    go_wp2_with fail
                    go_ret
                    exact ⟨rfl, HBA.out⟩
                  · by_cases h9 : r.size < r.packed
                    · rw [show chkR r = 2 from if_neg fun h => by unfold OkR at h; omega]
                      have e0 : decide (r.id < 0) = false := by simpa using h0
                      have e1 : decide (1073741824 < r.id) = false := by simpa using h1
                      have e2 : decide (r.cls < 0) = false := by simpa using h2
                      have e3 : decide (9 < r.cls) = false := by simpa using h3
                      have e4 : decide (r.made < 0) = false := by simpa using h4
                      have e5 : decide (1073741824 < r.made) = false := by simpa using h5
                      have e6 : decide (r.size < 1) = false := by simpa using h6
                      have e7 : decide (16777216 < r.size) = false := by simpa using h7
                      have e8 : decide (r.packed < 1) = false := by simpa using h8
                      have e9 : decide (r.size < r.packed) = true := by simpa using h9
                      clear h0 h1 h2 h3 h4 h5 h6 h7 h8 h9
                      go_enter Try.func19, Try.ntmps19
                      go_upto_region 1 with fail
                      rw [← hA]
                      clear hA
                      go_wp2_with fail
                      go_ret
                      exact ⟨rfl, HBA.out⟩
                    · rw [show chkR r = 0 from if_pos (by unfold OkR; omega)]
                      have e0 : decide (r.id < 0) = false := by simpa using h0
                      have e1 : decide (1073741824 < r.id) = false := by simpa using h1
                      have e2 : decide (r.cls < 0) = false := by simpa using h2
                      have e3 : decide (9 < r.cls) = false := by simpa using h3
                      have e4 : decide (r.made < 0) = false := by simpa using h4
                      have e5 : decide (1073741824 < r.made) = false := by simpa using h5
                      have e6 : decide (r.size < 1) = false := by simpa using h6
                      have e7 : decide (16777216 < r.size) = false := by simpa using h7
                      have e8 : decide (r.packed < 1) = false := by simpa using h8
                      have e9 : decide (r.size < r.packed) = false := by simpa using h9
                      clear h0 h1 h2 h3 h4 h5 h6 h7 h8 h9
                      go_enter Try.func19, Try.ntmps19
                      go_upto_region 1 with fail
                      rw [← hA]
                      clear hA
                      go_wp2_with fail
                      go_ret
                      exact ⟨rfl, HBA.out⟩
/-- what Less reports -/
def lesE (a b : Rc) : Int := if chkR a = 0 ∧ chkR b = 0 then 0 else 2
def lesV (a b : Rc) : Bool := if chkR a = 0 ∧ chkR b = 0 then lsR a b else false
theorem chkR_or (r : Rc) : chkR r = 0 ∨ chkR r = 2 := by unfold chkR; split <;> simp
set_option maxHeartbeats 2000000 in
set_option maxRecDepth 100000 in
theorem Less_any (a b : Rc) (w : World) : Calls Try.prog 14 #[.agg #[.int .i64 a.id, .int .i64 a.cls, .int .i64 a.made, .int .i64 a.size, .int .i64 a.packed], .agg #[.int .i64 b.id, .int .i64 b.cls, .int .i64 b.made, .int .i64 b.size, .int .i64 b.packed]] w fun e w' => e = .returned (.tuple #[.bool (lesV a b), .int .i64 (lesE a b)]) ∧ Below w.heap.size w w' := by
  obtain ⟨A, hA⟩ : ∃ A, A = (w.alloc (.cells #[.int .i64 a.id, .int .i64 a.cls, .int .i64 a.made, .int .i64 a.size, .int .i64 a.packed] 23)).alloc (.cells #[.int .i64 b.id, .int .i64 b.cls, .int .i64 b.made, .int .i64 b.size, .int .i64 b.packed] 23) := ⟨_, rfl⟩
  have HBA := Lib.hid (show Below w.heap.size w A by rw [hA]; exact (((Below.refl _ _).alloc (Nat.le_refl _) _).alloc (by simp) _))
  have HX := Lib.hid (show BxR A w.heap.size a by rw [hA]; exact (BxR.new w a).keep ((Below.refl _ _).alloc (Nat.le_refl _) _))
  have HY := Lib.hid (show BxR A (w.heap.size + 1) b by rw [hA]; exact (show (w.alloc (.cells #[.int .i64 a.id, .int .i64 a.cls, .int .i64 a.made, .int .i64 a.size, .int .i64 a.packed] 23)).heap.size = w.heap.size + 1 by simp) ▸ BxR.new (w.alloc (.cells #[.int .i64 a.id, .int .i64 a.cls, .int .i64 a.made, .int .i64 a.size, .int .i64 a.packed] 23)) b)
  obtain ⟨k0, k1, k2, k3, k4⟩ := HX.out.all
  obtain ⟨j0, j1, j2, j3, j4⟩ := HY.out.all
  have KP := Lib.hid (show ∀ W, Below A.heap.size A W → (W.cell? ⟨w.heap.size, 0, none⟩ = some (.int .i64 a.id) ∧ W.cell? ⟨w.heap.size, 1, none⟩ = some (.int .i64 a.cls) ∧ W.cell? ⟨w.heap.size, 2, none⟩ = some (.int .i64 a.made) ∧ W.cell? ⟨w.heap.size, 3, none⟩ = some (.int .i64 a.size) ∧ W.cell? ⟨w.heap.size, 4, none⟩ = some (.int .i64 a.packed)) ∧ (W.cell? ⟨w.heap.size + 1, 0, none⟩ = some (.int .i64 b.id) ∧ W.cell? ⟨w.heap.size + 1, 1, none⟩ = some (.int .i64 b.cls) ∧ W.cell? ⟨w.heap.size + 1, 2, none⟩ = some (.int .i64 b.made) ∧ W.cell? ⟨w.heap.size + 1, 3, none⟩ = some (.int .i64 b.size) ∧ W.cell? ⟨w.heap.size + 1, 4, none⟩ = some (.int .i64 b.packed)) from fun W h => ⟨(HX.out.keep h).all, (HY.out.keep h).all⟩)
  have c1 := fun W => check_any a W
  have c2 := fun W => check_any b W
  have c3 := fun W => less_any a b W
  by_cases h1 : chkR a = 0
  · by_cases h2 : chkR b = 0
    · rw [show lesE a b = 0 from if_pos ⟨h1, h2⟩, show lesV a b = lsR a b from if_pos ⟨h1, h2⟩]
      rw [h1] at c1
      rw [h2] at c2
      clear h1 h2
      generalize lsR a b = x at *
      go_enter Try.func14, Try.ntmps14
      go_upto_region 1 with fail
      rw [← hA]
      clear hA
      go_wp2_with fail
      refine (c1 _).mono ?_
      rintro e w0 ⟨rfl, hb⟩
      have HB0 := Lib.hid ((Below.refl A.heap.size A).trans (hb.mono (Below.refl A.heap.size A).size))
      clear hb k0 k1 k2 k3 k4 j0 j1 j2 j3 j4
      obtain ⟨⟨k0, k1, k2, k3, k4⟩, j0, j1, j2, j3, j4⟩ := KP.out _ HB0.out
      go_wp2_with fail
      refine (c2 _).mono ?_
      rintro e w1 ⟨rfl, hb⟩
      have HB1 := Lib.hid ((HB0.out).trans (hb.mono (HB0.out).size))
      clear hb k0 k1 k2 k3 k4 j0 j1 j2 j3 j4
      obtain ⟨⟨k0, k1, k2, k3, k4⟩, j0, j1, j2, j3, j4⟩ := KP.out _ HB1.out
      go_wp2_with fail
      refine (c3 _).mono ?_
      rintro e w2 ⟨rfl, hb⟩
      have HB2 := Lib.hid ((HB1.out).trans (hb.mono (HB1.out).size))
      clear hb k0 k1 k2 k3 k4 j0 j1 j2 j3 j4
      obtain ⟨⟨k0, k1, k2, k3, k4⟩, j0, j1, j2, j3, j4⟩ := KP.out _ HB2.out
      go_wp2_with fail
      exact bodyPost_ret (v := .tuple #[.bool _, .int .i64 _]) (by simp [results, Try.results14, go_sem]) rfl ⟨rfl, HBA.out.trans (HB2.out.mono HBA.out.size)⟩
    · rw [show lesE a b = 2 from if_neg fun h => h2 h.2, show lesV a b = false from if_neg fun h => h2 h.2]
      rw [h1] at c1
      rw [(chkR_or b).resolve_left h2] at c2
      clear h1 h2 c3
      go_enter Try.func14, Try.ntmps14
      go_upto_region 1 with fail
      rw [← hA]
      clear hA
      go_wp2_with fail
      refine (c1 _).mono ?_
      rintro e w0 ⟨rfl, hb⟩
      have HB0 := Lib.hid ((Below.refl A.heap.size A).trans (hb.mono (Below.refl A.heap.size A).size))
      clear hb k0 k1 k2 k3 k4 j0 j1 j2 j3 j4
      obtain ⟨⟨k0, k1, k2, k3, k4⟩, j0, j1, j2, j3, j4⟩ := KP.out _ HB0.out
      go_wp2_with fail
      refine (c2 _).mono ?_
      rintro e w1 ⟨rfl, hb⟩
      have HB1 := Lib.hid ((HB0.out).trans (hb.mono (HB0.out).size))
      clear hb k0 k1 k2 k3 k4 j0 j1 j2 j3 j4
      obtain ⟨⟨k0, k1, k2, k3, k4⟩, j0, j1, j2, j3, j4⟩ := KP.out _ HB1.out
      go_wp2_with fail
      exact bodyPost_ret (v := .tuple #[.bool _, .int .i64 _]) (by simp [results, Try.results14, go_sem]) rfl ⟨rfl, HBA.out.trans (HB1.out.mono HBA.out.size)⟩
  · rw [show lesE a b = 2 from if_neg fun h => h1 h.1, show lesV a b = false from if_neg fun h => h1 h.1]
    rw [(chkR_or a).resolve_left h1] at c1
    clear h1 c2 c3
    go_enter Try.func14, Try.ntmps14
    go_upto_region 1 with fail
    rw [← hA]
    clear hA
    go_wp2_with fail
    refine (c1 _).mono ?_
    rintro e w0 ⟨rfl, hb⟩
    have HB0 := Lib.hid ((Below.refl A.heap.size A).trans (hb.mono (Below.refl A.heap.size A).size))
    clear hb k0 k1 k2 k3 k4 j0 j1 j2 j3 j4
    obtain ⟨⟨k0, k1, k2, k3, k4⟩, j0, j1, j2, j3, j4⟩ := KP.out _ HB0.out
    go_wp2_with fail
    exact bodyPost_ret (v := .tuple #[.bool _, .int .i64 _]) (by simp [results, Try.results14, go_sem]) rfl ⟨rfl, HBA.out.trans (HB0.out.mono HBA.out.size)⟩
set_option maxHeartbeats 2000000 in
set_option maxRecDepth 100000 in
theorem rLess_any (a b : Rc) (w : World) : Calls Try.prog 15 #[.agg #[.int .i64 a.id, .int .i64 a.cls, .int .i64 a.made, .int .i64 a.size, .int .i64 a.packed], .agg #[.int .i64 b.id, .int .i64 b.cls, .int .i64 b.made, .int .i64 b.size, .int .i64 b.packed]] w fun e w' => e = .returned (.tuple #[.bool (lesV a b), .int .i64 (lesE a b)]) ∧ Below w.heap.size w w' := by
  obtain ⟨A, hA⟩ : ∃ A, A = (w.alloc (.cells #[.int .i64 a.id, .int .i64 a.cls, .int .i64 a.made, .int .i64 a.size, .int .i64 a.packed] 23)).alloc (.cells #[.int .i64 b.id, .int .i64 b.cls, .int .i64 b.made, .int .i64 b.size, .int .i64 b.packed] 23) := ⟨_, rfl⟩
  have HBA := Lib.hid (show Below w.heap.size w A by rw [hA]; exact (((Below.refl _ _).alloc (Nat.le_refl _) _).alloc (by simp) _))
  have HX := Lib.hid (show BxR A w.heap.size a by rw [hA]; exact (BxR.new w a).keep ((Below.refl _ _).alloc (Nat.le_refl _) _))
  have HY := Lib.hid (show BxR A (w.heap.size + 1) b by rw [hA]; exact (show (w.alloc (.cells #[.int .i64 a.id, .int .i64 a.cls, .int .i64 a.made, .int .i64 a.size, .int .i64 a.packed] 23)).heap.size = w.heap.size + 1 by simp) ▸ BxR.new (w.alloc (.cells #[.int .i64 a.id, .int .i64 a.cls, .int .i64 a.made, .int .i64 a.size, .int .i64 a.packed] 23)) b)
  obtain ⟨k0, k1, k2, k3, k4⟩ := HX.out.all
  obtain ⟨j0, j1, j2, j3, j4⟩ := HY.out.all
  have KP := Lib.hid (show ∀ W, Below A.heap.size A W → (W.cell? ⟨w.heap.size, 0, none⟩ = some (.int .i64 a.id) ∧ W.cell? ⟨w.heap.size, 1, none⟩ = some (.int .i64 a.cls) ∧ W.cell? ⟨w.heap.size, 2, none⟩ = some (.int .i64 a.made) ∧ W.cell? ⟨w.heap.size, 3, none⟩ = some (.int .i64 a.size) ∧ W.cell? ⟨w.heap.size, 4, none⟩ = some (.int .i64 a.packed)) ∧ (W.cell? ⟨w.heap.size + 1, 0, none⟩ = some (.int .i64 b.id) ∧ W.cell? ⟨w.heap.size + 1, 1, none⟩ = some (.int .i64 b.cls) ∧ W.cell? ⟨w.heap.size + 1, 2, none⟩ = some (.int .i64 b.made) ∧ W.cell? ⟨w.heap.size + 1, 3, none⟩ = some (.int .i64 b.size) ∧ W.cell? ⟨w.heap.size + 1, 4, none⟩ = some (.int .i64 b.packed)) from fun W h => ⟨(HX.out.keep h).all, (HY.out.keep h).all⟩)
  have c1 := fun W => rcheck_any a W
  have c2 := fun W => rcheck_any b W
  have c3 := fun W => rlesser_any a b W
  by_cases h1 : chkR a = 0
  · by_cases h2 : chkR b = 0
    · rw [show lesE a b = 0 from if_pos ⟨h1, h2⟩, show lesV a b = lsR a b from if_pos ⟨h1, h2⟩]
      rw [h1] at c1
      rw [h2] at c2
      clear h1 h2
      generalize lsR a b = x at *
      go_enter Try.func15, Try.ntmps15
      go_upto_region 1 with fail
      rw [← hA]
      clear hA
      go_wp2_with fail
      refine (c1 _).mono ?_
      rintro e w0 ⟨rfl, hb⟩
      have HB0 := Lib.hid ((Below.refl A.heap.size A).trans (hb.mono (Below.refl A.heap.size A).size))
      clear hb k0 k1 k2 k3 k4 j0 j1 j2 j3 j4
      obtain ⟨⟨k0, k1, k2, k3, k4⟩, j0, j1, j2, j3, j4⟩ := KP.out _ HB0.out
      go_wp2_with fail
      refine (c2 _).mono ?_
      rintro e w1 ⟨rfl, hb⟩
      have HB1 := Lib.hid ((HB0.out).trans (hb.mono (HB0.out).size))
      clear hb k0 k1 k2 k3 k4 j0 j1 j2 j3 j4
      obtain ⟨⟨k0, k1, k2, k3, k4⟩, j0, j1, j2, j3, j4⟩ := KP.out _ HB1.out
      go_wp2_with fail
      refine (c3 _).mono ?_
      rintro e w2 ⟨rfl, hb⟩
      have HB2 := Lib.hid ((HB1.out).trans (hb.mono (HB1.out).size))
      clear hb k0 k1 k2 k3 k4 j0 j1 j2 j3 j4
      obtain ⟨⟨k0, k1, k2, k3, k4⟩, j0, j1, j2, j3, j4⟩ := KP.out _ HB2.out
      go_wp2_with fail
      exact bodyPost_ret (v := .tuple #[.bool _, .int .i64 _]) (by simp [results, Try.results15, go_sem]) rfl ⟨rfl, HBA.out.trans (HB2.out.mono HBA.out.size)⟩
    · rw [show lesE a b = 2 from if_neg fun h => h2 h.2, show lesV a b = false from if_neg fun h => h2 h.2]
      rw [h1] at c1
      rw [(chkR_or b).resolve_left h2] at c2
      clear h1 h2 c3
      go_enter Try.func15, Try.ntmps15
      go_upto_region 1 with fail
      rw [← hA]
      clear hA
      go_wp2_with fail
      refine (c1 _).mono ?_
      rintro e w0 ⟨rfl, hb⟩
      have HB0 := Lib.hid ((Below.refl A.heap.size A).trans (hb.mono (Below.refl A.heap.size A).size))
      clear hb k0 k1 k2 k3 k4 j0 j1 j2 j3 j4
      obtain ⟨⟨k0, k1, k2, k3, k4⟩, j0, j1, j2, j3, j4⟩ := KP.out _ HB0.out
      go_wp2_with fail
      refine (c2 _).mono ?_
      rintro e w1 ⟨rfl, hb⟩
      have HB1 := Lib.hid ((HB0.out).trans (hb.mono (HB0.out).size))
      clear hb k0 k1 k2 k3 k4 j0 j1 j2 j3 j4
      obtain ⟨⟨k0, k1, k2, k3, k4⟩, j0, j1, j2, j3, j4⟩ := KP.out _ HB1.out
      go_wp2_with fail
      exact bodyPost_ret (v := .tuple #[.bool _, .int .i64 _]) (by simp [results, Try.results15, go_sem]) rfl ⟨rfl, HBA.out.trans (HB1.out.mono HBA.out.size)⟩
  · rw [show lesE a b = 2 from if_neg fun h => h1 h.1, show lesV a b = false from if_neg fun h => h1 h.1]
    rw [(chkR_or a).resolve_left h1] at c1
    clear h1 c2 c3
    go_enter Try.func15, Try.ntmps15
    go_upto_region 1 with fail
    rw [← hA]
    clear hA
    go_wp2_with fail
    refine (c1 _).mono ?_
    rintro e w0 ⟨rfl, hb⟩
    have HB0 := Lib.hid ((Below.refl A.heap.size A).trans (hb.mono (Below.refl A.heap.size A).size))
    clear hb k0 k1 k2 k3 k4 j0 j1 j2 j3 j4
    obtain ⟨⟨k0, k1, k2, k3, k4⟩, j0, j1, j2, j3, j4⟩ := KP.out _ HB0.out
    go_wp2_with fail
    exact bodyPost_ret (v := .tuple #[.bool _, .int .i64 _]) (by simp [results, Try.results15, go_sem]) rfl ⟨rfl, HBA.out.trans (HB0.out.mono HBA.out.size)⟩

end Go.Proofs.Ytbbaehmfadpgeaa

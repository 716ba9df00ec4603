/-
  GdA: what TopDocked needs of a vehicle (layer 3), in the cable seat.
-/
import Derived.Test.YtdohfpnnmppdkaaCbB
namespace Go.Proofs.Ytdohfpnnmppdkaa.Gd
open Go.RowKit Go.Shelf
set_option linter.unusedSimpArgs false
set_option maxHeartbeats 1000000
attribute [local go_sem] Oper.semAt_some
theorem within174 (x lo hi : Int) (w : World) :
    Calls Try.prog 174 #[.int .i64 x, .int .i64 lo, .int .i64 hi] w fun e w' => e = .returned (.bool (decide (lo ≤ x ∧ x ≤ hi))) ∧ w' = w := by
  by_cases h1 : lo ≤ x
  · by_cases h2 : x ≤ hi
    · rw [decide_eq_true ⟨h1, h2⟩]
      go_enter Try.func174, Try.ntmps174
      go_wp2_with fail
      go_ret
      first | exact ⟨rfl, rfl⟩ | simp [*]
    · rw [decide_eq_false (fun h => h2 h.2)]
      go_enter Try.func174, Try.ntmps174
      go_wp2_with fail
      go_ret
      first | exact ⟨rfl, rfl⟩ | simp [*]
  · rw [decide_eq_false (fun h => h1 h.1)]
    go_enter Try.func174, Try.ntmps174
    go_wp2_with fail
    go_ret
    first | exact ⟨rfl, rfl⟩ | simp [*]
theorem within176 (x lo hi : Int) (w : World) :
    Calls Try.prog 176 #[.int .i64 x, .int .i64 lo, .int .i64 hi] w fun e w' => e = .returned (.bool (decide (lo ≤ x ∧ x ≤ hi))) ∧ w' = w := by
  by_cases h1 : lo ≤ x
  · by_cases h2 : x ≤ hi
    · rw [decide_eq_true ⟨h1, h2⟩]
      go_enter Try.func176, Try.ntmps176
      go_wp2_with fail
      go_ret
      first | exact ⟨rfl, rfl⟩ | simp [*]
    · rw [decide_eq_false (fun h => h2 h.2)]
      go_enter Try.func176, Try.ntmps176
      go_wp2_with fail
      go_ret
      first | exact ⟨rfl, rfl⟩ | simp [*]
  · rw [decide_eq_false (fun h => h1 h.1)]
    go_enter Try.func176, Try.ntmps176
    go_wp2_with fail
    go_ret
    first | exact ⟨rfl, rfl⟩ | simp [*]
theorem isPart175 (a b lo hi : Int) (hv : vB a b = true) (h1 : lo ≤ a) (h2 : b ≤ hi) (w : World) :
    Calls Try.prog 175 #[.agg #[.int .i64 a, .int .i64 b], .int .i64 lo, .int .i64 hi] w fun e w' => e = .returned (.bool true) ∧ Below w.heap.size w w' := by
  have c := fun W => check_ok a b hv W
  have HA := Lib.hid (show Below w.heap.size w (w.alloc (.cells #[.int .i64 a, .int .i64 b] 23)) from (Below.refl _ _).alloc (Nat.le_refl _) _)
  clear hv
  go_enter Try.func175, Try.ntmps175
  go_wp2_with fail
  refine (c _).mono ?_
  rintro e w1 ⟨rfl, hb⟩
  have HB := Lib.hid (HA.out.trans (hb.mono (by simp)))
  have k0 := hb.cell (p := ⟨w.heap.size, 0, none⟩) (by simp)
  have k1 := hb.cell (p := ⟨w.heap.size, 1, none⟩) (by simp)
  simp [go_sem] at k0 k1
  clear hb
  go_wp2_with fail
  go_ret
  exact ⟨by first | rfl | simp, HB.out⟩
theorem unless139 (b : Bool) (n : Int) (w : World) : Calls Try.prog 139 #[.bool b, .int .i64 n] w fun e w' => e = .returned (.int .i64 (if b = true then 0 else n)) ∧ w' = w := by
  cases b
  · go_enter Try.func139, Try.ntmps139
    go_wp2_with fail
    go_ret
    exact ⟨rfl, rfl⟩
  · go_enter Try.func139, Try.ntmps139
    go_wp2_with fail
    go_ret
    exact ⟨rfl, rfl⟩
/-- no error among some -/
theorem first136 (b n cap : Nat) (hn : n ≤ 1000) (w : World) (hc : ∀ k, k < n → w.cell? ⟨b, k, none⟩ = some (.int .i64 0)) : Calls Try.prog 136 #[.slice (some ⟨b, 0, none⟩) n cap] w fun e w' => e = .returned (.int .i64 0) ∧ w' = w := by
  have HC := Lib.hid hc
  clear hc
  go_enter Try.func136, Try.ntmps136
  go_wp2_with fail
  go_loopw [7] (fun iv wr => ∃ k : Nat, k ≤ n ∧ iv = .int .i64 k ∧ wr = w) (fun iv _ => n - (intOf iv).toNat)
  case atStart => exact ⟨0, Nat.zero_le _, rfl, rfl⟩
  case round =>
    obtain ⟨k, hk, rfl, rfl⟩ := hrel
    by_cases hlt : k < n
    · have hki : (k : Int) < (n : Int) := by omega
      have m0 := HC.out k hlt
      go_wp2_with fail
      go_roundw
      case rel => exact ⟨k + 1, by omega, by go_num, by first | rfl | trivial⟩
      case measure => simp [intOf]; omega
    · obtain rfl : k = n := by omega
      go_wp2_with fail
      go_ret
      exact ⟨rfl, by first | rfl | trivial⟩
theorem vehicle137 (s d u0 u1 t0 t1 r : Int) (hs : 0 ≤ s ∧ s ≤ 5000) (hd : 1 ≤ d ∧ d ≤ 131072) (hu : vB u0 u1 = true) (hu0 : 0 ≤ u0) (ht : vB t0 t1 = true) (ht0 : 0 ≤ t0) (hr : 0 ≤ r ∧ r ≤ 1073741824) (w : World) :
    Calls Try.prog 137 #[.agg #[.int .i64 s, .int .i64 d, .int .i64 u0, .int .i64 u1, .int .i64 t0, .int .i64 t1, .int .i64 r]] w fun e w' => e = .returned (.int .i64 0) ∧ Below w.heap.size w w' := by
  have c1 := fun W => within174 s 0 5000 W
  rw [decide_eq_true hs] at c1
  have c2 := fun W => within174 d 1 131072 W
  rw [decide_eq_true hd] at c2
  have c3 := fun W => isPart175 u0 u1 0 1073741824 hu hu0 ((vB_iff _ _).1 hu).2.2 W
  have c4 := fun W => isPart175 t0 t1 0 1073741824 ht ht0 ((vB_iff _ _).1 ht).2.2 W
  have c5 := fun W => within174 r 0 1073741824 W
  rw [decide_eq_true hr] at c5
  have c6 := fun W => unless139 true 2 W
  obtain ⟨A, hA⟩ : ∃ A, A = w.alloc (.cells #[.int .i64 s, .int .i64 d, .int .i64 u0, .int .i64 u1, .int .i64 t0, .int .i64 t1, .int .i64 r] 110) := ⟨_, rfl⟩
  have HBA := Lib.hid (show Below w.heap.size w A by rw [hA]; exact (Below.refl _ _).alloc (Nat.le_refl _) _)
  have hlt : w.heap.size < A.heap.size := by rw [hA]; simp
  have k : ∀ o, A.cell? ⟨w.heap.size, o, none⟩ = (#[.int .i64 s, .int .i64 d, .int .i64 u0, .int .i64 u1, .int .i64 t0, .int .i64 t1, .int .i64 r] : Array Value)[o]? := fun o => cellHB (by rw [hA]; exact World.alloc_heap_new w _) o
  have KK := Lib.hid (show ∀ W, Below A.heap.size A W → W.cell? ⟨w.heap.size, 0, none⟩ = some (.int .i64 s) ∧ W.cell? ⟨w.heap.size, 1, none⟩ = some (.int .i64 d) ∧ W.cell? ⟨w.heap.size, 2, none⟩ = some (.int .i64 u0) ∧ W.cell? ⟨w.heap.size, 3, none⟩ = some (.int .i64 u1) ∧ W.cell? ⟨w.heap.size, 4, none⟩ = some (.int .i64 t0) ∧ W.cell? ⟨w.heap.size, 5, none⟩ = some (.int .i64 t1) ∧ W.cell? ⟨w.heap.size, 6, none⟩ = some (.int .i64 r) from fun W h => ⟨(h.cell (p := ⟨w.heap.size, 0, none⟩) hlt).trans (k 0), (h.cell (p := ⟨w.heap.size, 1, none⟩) hlt).trans (k 1), (h.cell (p := ⟨w.heap.size, 2, none⟩) hlt).trans (k 2), (h.cell (p := ⟨w.heap.size, 3, none⟩) hlt).trans (k 3), (h.cell (p := ⟨w.heap.size, 4, none⟩) hlt).trans (k 4), (h.cell (p := ⟨w.heap.size, 5, none⟩) hlt).trans (k 5), (h.cell (p := ⟨w.heap.size, 6, none⟩) hlt).trans (k 6)⟩)
  clear hlt k hs hd hu hu0 ht ht0 hr
  obtain ⟨k0, k1, k2, k3, k4, k5, k6⟩ := KK.out _ (Below.refl _ _)
  go_enter Try.func137, Try.ntmps137
  go_upto_region 1 with fail
  rw [← hA]
  clear hA
  go_wp2_with fail
  refine (c1 _).mono ?_
  rintro e w1 ⟨rfl, rfl⟩
  go_wp2_with fail
  refine (c2 _).mono ?_
  rintro e w2 ⟨rfl, rfl⟩
  have HB0 := Lib.hid (Below.refl w2.heap.size w2)
  go_wp2_with fail
  refine (c3 _).mono ?_
  rintro e w3 ⟨rfl, hb⟩
  have HB3 := Lib.hid (HB0.out.trans (hb.mono HB0.out.size))
  clear hb k0 k1 k2 k3 k4 k5 k6
  obtain ⟨k0, k1, k2, k3, k4, k5, k6⟩ := KK.out _ HB3.out
  go_wp2_with fail
  refine (c4 _).mono ?_
  rintro e w4 ⟨rfl, hb⟩
  have HB4 := Lib.hid (HB3.out.trans (hb.mono HB3.out.size))
  clear hb k0 k1 k2 k3 k4 k5 k6
  obtain ⟨k0, k1, k2, k3, k4, k5, k6⟩ := KK.out _ HB4.out
  go_wp2_with fail
  refine (c5 _).mono ?_
  rintro e w5 ⟨rfl, rfl⟩
  go_wp2_with fail
  refine (c6 _).mono ?_
  rintro e w6 ⟨rfl, rfl⟩
  go_wp2_with fail
  go_ret
  exact ⟨rfl, HBA.out.trans (HB4.out.mono HBA.out.size)⟩
theorem energy138 (a b : Int) (hv : vB a b = true) (h0 : 0 ≤ a) (w : World) : Calls Try.prog 138 #[.agg #[.int .i64 a, .int .i64 b]] w fun e w' => e = .returned (.int .i64 0) ∧ Below w.heap.size w w' := by
  have c1 := fun W => isPart175 a b 0 1073741824 hv h0 ((vB_iff _ _).1 hv).2.2 W
  have c2 := fun W => unless139 true 2 W
  have HA := Lib.hid (show Below w.heap.size w (w.alloc (.cells #[.int .i64 a, .int .i64 b] 23)) from (Below.refl _ _).alloc (Nat.le_refl _) _)
  clear hv h0
  go_enter Try.func138, Try.ntmps138
  go_wp2_with fail
  refine (c1 _).mono ?_
  rintro e w1 ⟨rfl, hb⟩
  have HB := Lib.hid (HA.out.trans (hb.mono (by simp)))
  clear hb
  go_wp2_with fail
  refine (c2 _).mono ?_
  rintro e w6 ⟨rfl, rfl⟩
  go_wp2_with fail
  go_ret
  exact ⟨rfl, HB.out⟩
/-- the first error among some -/
theorem first136_at (b n cap p : Nat) (E : Int) (hE : E ≠ 0) (hp : p < n) (hn : n ≤ 1000) (w : World) (hc : ∀ k, k < p → w.cell? ⟨b, k, none⟩ = some (.int .i64 0)) (he : w.cell? ⟨b, p, none⟩ = some (.int .i64 E)) : Calls Try.prog 136 #[.slice (some ⟨b, 0, none⟩) n cap] w fun e w' => e = .returned (.int .i64 E) ∧ w' = w := by
  have HC := Lib.hid hc
  have HE := Lib.hid he
  have hEb : (E != 0) = true := by simpa using hE
  clear hc he
  go_enter Try.func136, Try.ntmps136
  go_wp2_with fail
  go_loopw [7] (fun iv wr => ∃ k : Nat, k ≤ p ∧ iv = .int .i64 k ∧ wr = w) (fun iv _ => n - (intOf iv).toNat)
  case atStart => exact ⟨0, Nat.zero_le _, rfl, rfl⟩
  case round =>
    obtain ⟨k, hk, rfl, rfl⟩ := hrel
    have hki : (k : Int) < (n : Int) := by omega
    by_cases hlt : k < p
    · have m0 := HC.out k hlt
      go_wp2_with fail
      go_roundw
      case rel => exact ⟨k + 1, by omega, by go_num, by first | rfl | trivial⟩
      case measure => simp [intOf]; omega
    · obtain rfl : k = p := by omega
      have m0 := HE.out
      go_wp2_with fail
      go_ret
      exact ⟨rfl, by first | rfl | trivial⟩
set_option maxRecDepth 100000 in
theorem lasts74_ok (u0 u1 t0 t1 r a b : Int) (hu : vB u0 u1 = true) (hu0 : 0 ≤ u0) (ht : vB t0 t1 = true) (ht0 : 0 ≤ t0) (hr : 0 ≤ r ∧ r ≤ 1073741824) (hab : vB a b = true) (ha : 0 ≤ a) (hm : 1 ≤ u1) (hra : r ≤ a) (w : World) : Calls Try.prog 74 #[.agg #[.int .i64 0, .int .i64 1, .int .i64 u0, .int .i64 u1, .int .i64 t0, .int .i64 t1, .int .i64 r], .agg #[.int .i64 a, .int .i64 b]] w fun e w' => e = .returned (.tuple #[.int .i64 ((a - r) / max u1 t1), .int .i64 0]) ∧ Below w.heap.size w w' := by
  have c1 := fun W => vehicle137 0 1 u0 u1 t0 t1 r ⟨by decide, by decide⟩ ⟨by decide, by decide⟩ hu hu0 ht ht0 hr W
  have c2 := fun W => energy138 a b hab ha W
  have c3 := fun W => unless139 true 19 W
  have c4 := fun W => unless139 true 4 W
  have hab2 := (vB_iff _ _).1 hab
  have hu2 := (vB_iff _ _).1 hu
  have ht2 := (vB_iff _ _).1 ht
  have hm2 : 0 < max u1 t1 ∧ max u1 t1 ≤ 1073741824 := by omega
  obtain ⟨q, hq⟩ : ∃ q, q = (a - r) / max u1 t1 := ⟨_, rfl⟩
  have hqd : (a - r).tdiv (max u1 t1) = q := by rw [Int.tdiv_eq_ediv_of_nonneg (by omega), hq]
  have hqb : 0 ≤ q ∧ q ≤ 1073741824 := by
    rw [hq]
    exact ⟨Int.ediv_nonneg (by omega) (by omega), Int.le_trans (Int.ediv_le_self _ (by omega)) (by omega)⟩
  rw [← hq]
  clear hq
  have hm0 : (max u1 t1 == 0) = false := beq_eq_false_iff_ne.2 (by omega)
  clear hab hu ht
  obtain ⟨A, hA⟩ : ∃ A, A = (w.alloc (.cells #[.int .i64 0, .int .i64 1, .int .i64 u0, .int .i64 u1, .int .i64 t0, .int .i64 t1, .int .i64 r] 110)).alloc (.cells #[.int .i64 a, .int .i64 b] 23) := ⟨_, rfl⟩
  have HBA := Lib.hid (show Below w.heap.size w A by rw [hA]; exact ((Below.refl _ _).alloc (Nat.le_refl _) _).alloc (by simp) _)
  have hzA : A.heap.size = w.heap.size + 2 := by rw [hA]; simp
  have k0 : A.cell? ⟨w.heap.size, 0, none⟩ = some (.int .i64 0) := by rw [hA]; simp [go_sem]
  have k1 : A.cell? ⟨w.heap.size, 1, none⟩ = some (.int .i64 1) := by rw [hA]; simp [go_sem]
  have k2 : A.cell? ⟨w.heap.size, 2, none⟩ = some (.int .i64 u0) := by rw [hA]; simp [go_sem]
  have k3 : A.cell? ⟨w.heap.size, 3, none⟩ = some (.int .i64 u1) := by rw [hA]; simp [go_sem]
  have k4 : A.cell? ⟨w.heap.size, 4, none⟩ = some (.int .i64 t0) := by rw [hA]; simp [go_sem]
  have k5 : A.cell? ⟨w.heap.size, 5, none⟩ = some (.int .i64 t1) := by rw [hA]; simp [go_sem]
  have k6 : A.cell? ⟨w.heap.size, 6, none⟩ = some (.int .i64 r) := by rw [hA]; simp [go_sem]
  have k7 : A.cell? ⟨w.heap.size + 1, 0, none⟩ = some (.int .i64 a) := by rw [hA]; simp [go_sem]
  have k8 : A.cell? ⟨w.heap.size + 1, 1, none⟩ = some (.int .i64 b) := by rw [hA]; simp [go_sem]
  have KK := Lib.hid (show ∀ W, Below A.heap.size A W → W.cell? ⟨w.heap.size, 0, none⟩ = some (.int .i64 0) ∧ W.cell? ⟨w.heap.size, 1, none⟩ = some (.int .i64 1) ∧ W.cell? ⟨w.heap.size, 2, none⟩ = some (.int .i64 u0) ∧ W.cell? ⟨w.heap.size, 3, none⟩ = some (.int .i64 u1) ∧ W.cell? ⟨w.heap.size, 4, none⟩ = some (.int .i64 t0) ∧ W.cell? ⟨w.heap.size, 5, none⟩ = some (.int .i64 t1) ∧ W.cell? ⟨w.heap.size, 6, none⟩ = some (.int .i64 r) ∧ W.cell? ⟨w.heap.size + 1, 0, none⟩ = some (.int .i64 a) ∧ W.cell? ⟨w.heap.size + 1, 1, none⟩ = some (.int .i64 b) from fun W h => ⟨(h.cell (p := ⟨w.heap.size, 0, none⟩) (by show w.heap.size < A.heap.size; omega)).trans k0, (h.cell (p := ⟨w.heap.size, 1, none⟩) (by show w.heap.size < A.heap.size; omega)).trans k1, (h.cell (p := ⟨w.heap.size, 2, none⟩) (by show w.heap.size < A.heap.size; omega)).trans k2, (h.cell (p := ⟨w.heap.size, 3, none⟩) (by show w.heap.size < A.heap.size; omega)).trans k3, (h.cell (p := ⟨w.heap.size, 4, none⟩) (by show w.heap.size < A.heap.size; omega)).trans k4, (h.cell (p := ⟨w.heap.size, 5, none⟩) (by show w.heap.size < A.heap.size; omega)).trans k5, (h.cell (p := ⟨w.heap.size, 6, none⟩) (by show w.heap.size < A.heap.size; omega)).trans k6, (h.cell (p := ⟨w.heap.size + 1, 0, none⟩) (by show w.heap.size + 1 < A.heap.size; omega)).trans k7, (h.cell (p := ⟨w.heap.size + 1, 1, none⟩) (by show w.heap.size + 1 < A.heap.size; omega)).trans k8⟩)
  clear hzA
  go_enter Try.func74, Try.ntmps74
  go_upto_region 1 with fail
  rw [← hA]
  clear hA
  go_upto_region 2 with fail
  refine wp_region_held_drew (S := fun w' => w'.cell? ⟨w.heap.size, 0, none⟩ = some (.int .i64 0) ∧ w'.cell? ⟨w.heap.size, 1, none⟩ = some (.int .i64 1) ∧ w'.cell? ⟨w.heap.size, 2, none⟩ = some (.int .i64 u0) ∧ w'.cell? ⟨w.heap.size, 3, none⟩ = some (.int .i64 u1) ∧ w'.cell? ⟨w.heap.size, 4, none⟩ = some (.int .i64 t0) ∧ w'.cell? ⟨w.heap.size, 5, none⟩ = some (.int .i64 t1) ∧ w'.cell? ⟨w.heap.size, 6, none⟩ = some (.int .i64 r) ∧ w'.cell? ⟨w.heap.size + 1, 0, none⟩ = some (.int .i64 a) ∧ w'.cell? ⟨w.heap.size + 1, 1, none⟩ = some (.int .i64 b)) (by kernel_rfl) ⟨by simpa [go_sem] using k0, by simpa [go_sem] using k1, by simpa [go_sem] using k2, by simpa [go_sem] using k3, by simpa [go_sem] using k4, by simpa [go_sem] using k5, by simpa [go_sem] using k6, by simpa [go_sem] using k7, by simpa [go_sem] using k8⟩ (fun hHeld => ?_)
  refine wpAnyH_take (i := 0) (oi := _) (v := Value.agg #[Value.int .i64 0, Value.int .i64 1, Value.int .i64 u0, Value.int .i64 u1, Value.int .i64 t0, Value.int .i64 t1, Value.int .i64 r]) rfl (by kernel_rfl) (by kernel_rfl) (by kernel_rfl) (fun _ _ _ h => h) (Or.inl ⟨by rfl, fun w' hSw => ?_⟩) hHeld ?_
  · obtain ⟨t0, t1, t2, t3, t4, t5, t6, t7, t8⟩ := hSw
    go_simp
    try simp [*]
    try (intro hh; exfalso; omega)
    try omega
  try simp only [Act.put, List.setIfInBounds_toArray, List.set_cons_zero, List.set_cons_succ, List.getElem_toArray, List.getElem_cons_succ, List.getElem_cons_zero]
  refine wpAnyH_take (i := 2) (oi := _) (v := Value.agg #[Value.int .i64 a, Value.int .i64 b]) rfl (by kernel_rfl) (by kernel_rfl) (by kernel_rfl) (fun _ _ _ h => h) (Or.inl ⟨by rfl, fun w' hSw => ?_⟩) hHeld ?_
  · obtain ⟨t0, t1, t2, t3, t4, t5, t6, t7, t8⟩ := hSw
    go_simp
    try simp [*]
    try (intro hh; exfalso; omega)
    try omega
  try simp only [Act.put, List.setIfInBounds_toArray, List.set_cons_zero, List.set_cons_succ, List.getElem_toArray, List.getElem_cons_succ, List.getElem_cons_zero]
  refine wpAnyH_take (i := 4) (oi := _) (v := Value.pointer (some ⟨w.heap.size + 1, 0, none⟩)) rfl (by kernel_rfl) (by kernel_rfl) (by kernel_rfl) (fun _ _ _ h => h) (Or.inl ⟨by rfl, fun w' hSw => ?_⟩) hHeld ?_
  · obtain ⟨t0, t1, t2, t3, t4, t5, t6, t7, t8⟩ := hSw
    go_simp
    try simp [*]
    try (intro hh; exfalso; omega)
    try omega
  try simp only [Act.put, List.setIfInBounds_toArray, List.set_cons_zero, List.set_cons_succ, List.getElem_toArray, List.getElem_cons_succ, List.getElem_cons_zero]
  refine wpAnyH_take (i := 5) (oi := _) (v := Value.int .i64 a) rfl (by kernel_rfl) (by kernel_rfl) (by kernel_rfl) (fun _ _ _ h => h) (Or.inl ⟨by rfl, fun w' hSw => ?_⟩) hHeld ?_
  · obtain ⟨t0, t1, t2, t3, t4, t5, t6, t7, t8⟩ := hSw
    go_simp
    try simp [*]
    try (intro hh; exfalso; omega)
    try omega
  try simp only [Act.put, List.setIfInBounds_toArray, List.set_cons_zero, List.set_cons_succ, List.getElem_toArray, List.getElem_cons_succ, List.getElem_cons_zero]
  refine wpAnyH_take (i := 6) (oi := _) (v := Value.pointer (some ⟨w.heap.size, 6, none⟩)) rfl (by kernel_rfl) (by kernel_rfl) (by kernel_rfl) (fun _ _ _ h => h) (Or.inl ⟨by rfl, fun w' hSw => ?_⟩) hHeld ?_
  · obtain ⟨t0, t1, t2, t3, t4, t5, t6, t7, t8⟩ := hSw
    go_simp
    try simp [*]
    try (intro hh; exfalso; omega)
    try omega
  try simp only [Act.put, List.setIfInBounds_toArray, List.set_cons_zero, List.set_cons_succ, List.getElem_toArray, List.getElem_cons_succ, List.getElem_cons_zero]
  refine wpAnyH_take (i := 7) (oi := _) (v := Value.int .i64 r) rfl (by kernel_rfl) (by kernel_rfl) (by kernel_rfl) (fun _ _ _ h => h) (Or.inl ⟨by rfl, fun w' hSw => ?_⟩) hHeld ?_
  · obtain ⟨t0, t1, t2, t3, t4, t5, t6, t7, t8⟩ := hSw
    go_simp
    try simp [*]
    try (intro hh; exfalso; omega)
    try omega
  try simp only [Act.put, List.setIfInBounds_toArray, List.set_cons_zero, List.set_cons_succ, List.getElem_toArray, List.getElem_cons_succ, List.getElem_cons_zero]
  refine wpAnyH_take (i := 8) (oi := _) (v := Value.bool true) rfl (by kernel_rfl) (by kernel_rfl) (by kernel_rfl) (fun _ _ _ h => h) (Or.inl ⟨by rfl, fun w' hSw => ?_⟩) hHeld ?_
  · obtain ⟨t0, t1, t2, t3, t4, t5, t6, t7, t8⟩ := hSw
    go_simp
    try simp [*]
    try (intro hh; exfalso; omega)
    try omega
  try simp only [Act.put, List.setIfInBounds_toArray, List.set_cons_zero, List.set_cons_succ, List.getElem_toArray, List.getElem_cons_succ, List.getElem_cons_zero]
  refine wpAnyH_take (i := 10) (oi := _) (v := Value.int .i64 (max u1 t1)) rfl (by kernel_rfl) (by kernel_rfl) (by kernel_rfl) (fun _ _ _ h => h) (Or.inl ⟨by rfl, fun w' hSw => ?_⟩) hHeld ?_
  · obtain ⟨t0, t1, t2, t3, t4, t5, t6, t7, t8⟩ := hSw
    go_simp
    try simp [*]
    try (intro hh; exfalso; omega)
    try omega
  try simp only [Act.put, List.setIfInBounds_toArray, List.set_cons_zero, List.set_cons_succ, List.getElem_toArray, List.getElem_cons_succ, List.getElem_cons_zero]
  refine wpAnyH_take (i := 11) (oi := _) (v := Value.bool true) rfl (by kernel_rfl) (by kernel_rfl) (by kernel_rfl) (fun _ _ _ h => h) (Or.inl ⟨by rfl, fun w' hSw => ?_⟩) hHeld ?_
  · obtain ⟨t0, t1, t2, t3, t4, t5, t6, t7, t8⟩ := hSw
    go_simp
    try simp [*]
    try (intro hh; exfalso; omega)
    try omega
  try simp only [Act.put, List.setIfInBounds_toArray, List.set_cons_zero, List.set_cons_succ, List.getElem_toArray, List.getElem_cons_succ, List.getElem_cons_zero]
  have HD := Lib.hid (show Below A.heap.size A A.drew from (Below.refl _ _).drew)
  refine wpAnyH_ready (rs := [1]) (by kernel_rfl) (by simp) ?_
  refine AllReadyH.cons (o := _) rfl (fun K hK => ?_) AllReadyH.nil
  go_simp
  go_at_call 137
  refine Calls.mono (c1 _) ?_
  rintro e v1 ⟨rfl, hb⟩
  have HV1 := Lib.hid (show Below A.heap.size A v1 from HD.out.trans (hb.mono (Below.size HD.out)))
  clear hb
  clear hHeld
  refine hK.out _ _ (KK.out _ HV1.out) (fun hHeld => ?_)
  clear hK K
  try simp only [Act.put, List.setIfInBounds_toArray, List.set_cons_zero, List.set_cons_succ, List.getElem_toArray, List.getElem_cons_succ, List.getElem_cons_zero]
  refine wpAnyH_ready (rs := [3]) (by kernel_rfl) (by simp) ?_
  refine AllReadyH.cons (o := _) rfl (fun K hK => ?_) AllReadyH.nil
  go_simp
  go_at_call 138
  refine Calls.mono (c2 _) ?_
  rintro e v2 ⟨rfl, hb⟩
  have HV2 := Lib.hid (show Below A.heap.size A v2 from HV1.out.trans (hb.mono (Below.size HV1.out)))
  clear hb
  clear hHeld
  refine hK.out _ _ (KK.out _ HV2.out) (fun hHeld => ?_)
  clear hK K
  try simp only [Act.put, List.setIfInBounds_toArray, List.set_cons_zero, List.set_cons_succ, List.getElem_toArray, List.getElem_cons_succ, List.getElem_cons_zero]
  refine wpAnyH_ready (rs := [9]) (by kernel_rfl) (by simp) ?_
  refine AllReadyH.cons (o := _) rfl (fun K hK => ?_) AllReadyH.nil
  go_simp
  go_at_call 139
  refine Calls.mono (c3 _) ?_
  rintro e v3 ⟨rfl, rfl⟩
  clear hHeld
  refine hK.out _ _ (KK.out _ HV2.out) (fun hHeld => ?_)
  clear hK K
  try simp only [Act.put, List.setIfInBounds_toArray, List.set_cons_zero, List.set_cons_succ, List.getElem_toArray, List.getElem_cons_succ, List.getElem_cons_zero]
  refine wpAnyH_ready (rs := [12]) (by kernel_rfl) (by simp) ?_
  refine AllReadyH.cons (o := _) rfl (fun K hK => ?_) AllReadyH.nil
  go_simp
  go_at_call 139
  refine Calls.mono (c4 _) ?_
  rintro e v4 ⟨rfl, rfl⟩
  clear hHeld
  refine hK.out _ _ (KK.out _ HV2.out) (fun hHeld => ?_)
  clear hK K
  try simp only [Act.put, List.setIfInBounds_toArray, List.set_cons_zero, List.set_cons_succ, List.getElem_toArray, List.getElem_cons_succ, List.getElem_cons_zero]
  refine wpAnyH_ready (rs := [13]) (by kernel_rfl) (by simp) ?_
  refine AllReadyH.cons (o := _) rfl (fun K hK => ?_) AllReadyH.nil
  go_simp
  have HV5 := Lib.hid (show Below A.heap.size A (v4.alloc (.cells #[.int .i64 0, .int .i64 0, .int .i64 0, .int .i64 0] 30)) from HV2.out.alloc HV2.out.size _)
  clear hHeld
  refine hK.out _ _ (KK.out _ HV5.out) (fun hHeld => ?_)
  clear hK K
  try simp only [Act.put, List.setIfInBounds_toArray, List.set_cons_zero, List.set_cons_succ, List.getElem_toArray, List.getElem_cons_succ, List.getElem_cons_zero]
  have c5 := first136 v4.heap.size 4 4 (by decide) (v4.alloc (.cells #[.int .i64 0, .int .i64 0, .int .i64 0, .int .i64 0] 30)) (fun k hk => by
    match k, hk with
    | 0, _ => simp [go_sem]
    | 1, _ => simp
    | 2, _ => simp
    | 3, _ => simp)
  refine wpAnyH_ready (rs := [14]) (by kernel_rfl) (by simp) ?_
  refine AllReadyH.cons (o := _) rfl (fun K hK => ?_) AllReadyH.nil
  go_simp
  go_at_call 136
  refine Calls.mono c5 ?_
  rintro e v6 ⟨rfl, hw6⟩
  have hw7 := hw6.symm
  subst hw7
  clear hHeld
  refine hK.out _ _ (KK.out _ HV5.out) (fun hHeld => ?_)
  clear hK K
  try simp only [Act.put, List.setIfInBounds_toArray, List.set_cons_zero, List.set_cons_succ, List.getElem_toArray, List.getElem_cons_succ, List.getElem_cons_zero]
  refine wpAnyH_take (i := 15) (oi := _) (v := Value.int .i64 0) rfl (by kernel_rfl) (by kernel_rfl) (by kernel_rfl) (fun _ _ _ h => h) (Or.inl ⟨by rfl, fun w' hSw => ?_⟩) hHeld ?_
  · obtain ⟨t0, t1, t2, t3, t4, t5, t6, t7, t8⟩ := hSw
    go_simp
    try simp [*]
    try (intro hh; exfalso; omega)
    try omega
  try simp only [Act.put, List.setIfInBounds_toArray, List.set_cons_zero, List.set_cons_succ, List.getElem_toArray, List.getElem_cons_succ, List.getElem_cons_zero]
  refine wpAnyH_done (by kernel_rfl) ?_ _
  clear hHeld
  clear c5
  obtain ⟨k0, k1, k2, k3, k4, k5, k6, k7, k8⟩ := KK.out _ HV5.out
  go_wp2_with fail
  go_ret2
  exact ⟨rfl, HBA.out.trans (HV5.out.mono HBA.out.size)⟩
set_option maxRecDepth 100000 in
theorem lasts74_lost (u0 u1 t0 t1 r a b : Int) (hu : vB u0 u1 = true) (hu0 : 0 ≤ u0) (ht : vB t0 t1 = true) (ht0 : 0 ≤ t0) (hr : 0 ≤ r ∧ r ≤ 1073741824) (hab : vB a b = true) (ha : 0 ≤ a) (hm : 1 ≤ u1) (hra : a < r) (w : World) : Calls Try.prog 74 #[.agg #[.int .i64 0, .int .i64 1, .int .i64 u0, .int .i64 u1, .int .i64 t0, .int .i64 t1, .int .i64 r], .agg #[.int .i64 a, .int .i64 b]] w fun e w' => e = .returned (.tuple #[.int .i64 0, .int .i64 19]) ∧ Below w.heap.size w w' := by
  have c1 := fun W => vehicle137 0 1 u0 u1 t0 t1 r ⟨by decide, by decide⟩ ⟨by decide, by decide⟩ hu hu0 ht ht0 hr W
  have c2 := fun W => energy138 a b hab ha W
  have c3 := fun W => unless139 false 19 W
  have c4 := fun W => unless139 true 4 W
  have hab2 := (vB_iff _ _).1 hab
  have hu2 := (vB_iff _ _).1 hu
  have ht2 := (vB_iff _ _).1 ht
  have hm2 : 0 < max u1 t1 ∧ max u1 t1 ≤ 1073741824 := by omega
  clear hab hu ht
  obtain ⟨A, hA⟩ : ∃ A, A = (w.alloc (.cells #[.int .i64 0, .int .i64 1, .int .i64 u0, .int .i64 u1, .int .i64 t0, .int .i64 t1, .int .i64 r] 110)).alloc (.cells #[.int .i64 a, .int .i64 b] 23) := ⟨_, rfl⟩
  have HBA := Lib.hid (show Below w.heap.size w A by rw [hA]; exact ((Below.refl _ _).alloc (Nat.le_refl _) _).alloc (by simp) _)
  have hzA : A.heap.size = w.heap.size + 2 := by rw [hA]; simp
  have k0 : A.cell? ⟨w.heap.size, 0, none⟩ = some (.int .i64 0) := by rw [hA]; simp [go_sem]
  have k1 : A.cell? ⟨w.heap.size, 1, none⟩ = some (.int .i64 1) := by rw [hA]; simp [go_sem]
  have k2 : A.cell? ⟨w.heap.size, 2, none⟩ = some (.int .i64 u0) := by rw [hA]; simp [go_sem]
  have k3 : A.cell? ⟨w.heap.size, 3, none⟩ = some (.int .i64 u1) := by rw [hA]; simp [go_sem]
  have k4 : A.cell? ⟨w.heap.size, 4, none⟩ = some (.int .i64 t0) := by rw [hA]; simp [go_sem]
  have k5 : A.cell? ⟨w.heap.size, 5, none⟩ = some (.int .i64 t1) := by rw [hA]; simp [go_sem]
  have k6 : A.cell? ⟨w.heap.size, 6, none⟩ = some (.int .i64 r) := by rw [hA]; simp [go_sem]
  have k7 : A.cell? ⟨w.heap.size + 1, 0, none⟩ = some (.int .i64 a) := by rw [hA]; simp [go_sem]
  have k8 : A.cell? ⟨w.heap.size + 1, 1, none⟩ = some (.int .i64 b) := by rw [hA]; simp [go_sem]
  have KK := Lib.hid (show ∀ W, Below A.heap.size A W → W.cell? ⟨w.heap.size, 0, none⟩ = some (.int .i64 0) ∧ W.cell? ⟨w.heap.size, 1, none⟩ = some (.int .i64 1) ∧ W.cell? ⟨w.heap.size, 2, none⟩ = some (.int .i64 u0) ∧ W.cell? ⟨w.heap.size, 3, none⟩ = some (.int .i64 u1) ∧ W.cell? ⟨w.heap.size, 4, none⟩ = some (.int .i64 t0) ∧ W.cell? ⟨w.heap.size, 5, none⟩ = some (.int .i64 t1) ∧ W.cell? ⟨w.heap.size, 6, none⟩ = some (.int .i64 r) ∧ W.cell? ⟨w.heap.size + 1, 0, none⟩ = some (.int .i64 a) ∧ W.cell? ⟨w.heap.size + 1, 1, none⟩ = some (.int .i64 b) from fun W h => ⟨(h.cell (p := ⟨w.heap.size, 0, none⟩) (by show w.heap.size < A.heap.size; omega)).trans k0, (h.cell (p := ⟨w.heap.size, 1, none⟩) (by show w.heap.size < A.heap.size; omega)).trans k1, (h.cell (p := ⟨w.heap.size, 2, none⟩) (by show w.heap.size < A.heap.size; omega)).trans k2, (h.cell (p := ⟨w.heap.size, 3, none⟩) (by show w.heap.size < A.heap.size; omega)).trans k3, (h.cell (p := ⟨w.heap.size, 4, none⟩) (by show w.heap.size < A.heap.size; omega)).trans k4, (h.cell (p := ⟨w.heap.size, 5, none⟩) (by show w.heap.size < A.heap.size; omega)).trans k5, (h.cell (p := ⟨w.heap.size, 6, none⟩) (by show w.heap.size < A.heap.size; omega)).trans k6, (h.cell (p := ⟨w.heap.size + 1, 0, none⟩) (by show w.heap.size + 1 < A.heap.size; omega)).trans k7, (h.cell (p := ⟨w.heap.size + 1, 1, none⟩) (by show w.heap.size + 1 < A.heap.size; omega)).trans k8⟩)
  clear hzA
  go_enter Try.func74, Try.ntmps74
  go_upto_region 1 with fail
  rw [← hA]
  clear hA
  go_upto_region 2 with fail
  refine wp_region_held_drew (S := fun w' => w'.cell? ⟨w.heap.size, 0, none⟩ = some (.int .i64 0) ∧ w'.cell? ⟨w.heap.size, 1, none⟩ = some (.int .i64 1) ∧ w'.cell? ⟨w.heap.size, 2, none⟩ = some (.int .i64 u0) ∧ w'.cell? ⟨w.heap.size, 3, none⟩ = some (.int .i64 u1) ∧ w'.cell? ⟨w.heap.size, 4, none⟩ = some (.int .i64 t0) ∧ w'.cell? ⟨w.heap.size, 5, none⟩ = some (.int .i64 t1) ∧ w'.cell? ⟨w.heap.size, 6, none⟩ = some (.int .i64 r) ∧ w'.cell? ⟨w.heap.size + 1, 0, none⟩ = some (.int .i64 a) ∧ w'.cell? ⟨w.heap.size + 1, 1, none⟩ = some (.int .i64 b)) (by kernel_rfl) ⟨by simpa [go_sem] using k0, by simpa [go_sem] using k1, by simpa [go_sem] using k2, by simpa [go_sem] using k3, by simpa [go_sem] using k4, by simpa [go_sem] using k5, by simpa [go_sem] using k6, by simpa [go_sem] using k7, by simpa [go_sem] using k8⟩ (fun hHeld => ?_)
  refine wpAnyH_take (i := 0) (oi := _) (v := Value.agg #[Value.int .i64 0, Value.int .i64 1, Value.int .i64 u0, Value.int .i64 u1, Value.int .i64 t0, Value.int .i64 t1, Value.int .i64 r]) rfl (by kernel_rfl) (by kernel_rfl) (by kernel_rfl) (fun _ _ _ h => h) (Or.inl ⟨by rfl, fun w' hSw => ?_⟩) hHeld ?_
  · obtain ⟨t0, t1, t2, t3, t4, t5, t6, t7, t8⟩ := hSw
    go_simp
    try simp [*]
    try (intro hh; exfalso; omega)
    try omega
  try simp only [Act.put, List.setIfInBounds_toArray, List.set_cons_zero, List.set_cons_succ, List.getElem_toArray, List.getElem_cons_succ, List.getElem_cons_zero]
  refine wpAnyH_take (i := 2) (oi := _) (v := Value.agg #[Value.int .i64 a, Value.int .i64 b]) rfl (by kernel_rfl) (by kernel_rfl) (by kernel_rfl) (fun _ _ _ h => h) (Or.inl ⟨by rfl, fun w' hSw => ?_⟩) hHeld ?_
  · obtain ⟨t0, t1, t2, t3, t4, t5, t6, t7, t8⟩ := hSw
    go_simp
    try simp [*]
    try (intro hh; exfalso; omega)
    try omega
  try simp only [Act.put, List.setIfInBounds_toArray, List.set_cons_zero, List.set_cons_succ, List.getElem_toArray, List.getElem_cons_succ, List.getElem_cons_zero]
  refine wpAnyH_take (i := 4) (oi := _) (v := Value.pointer (some ⟨w.heap.size + 1, 0, none⟩)) rfl (by kernel_rfl) (by kernel_rfl) (by kernel_rfl) (fun _ _ _ h => h) (Or.inl ⟨by rfl, fun w' hSw => ?_⟩) hHeld ?_
  · obtain ⟨t0, t1, t2, t3, t4, t5, t6, t7, t8⟩ := hSw
    go_simp
    try simp [*]
    try (intro hh; exfalso; omega)
    try omega
  try simp only [Act.put, List.setIfInBounds_toArray, List.set_cons_zero, List.set_cons_succ, List.getElem_toArray, List.getElem_cons_succ, List.getElem_cons_zero]
  refine wpAnyH_take (i := 5) (oi := _) (v := Value.int .i64 a) rfl (by kernel_rfl) (by kernel_rfl) (by kernel_rfl) (fun _ _ _ h => h) (Or.inl ⟨by rfl, fun w' hSw => ?_⟩) hHeld ?_
  · obtain ⟨t0, t1, t2, t3, t4, t5, t6, t7, t8⟩ := hSw
    go_simp
    try simp [*]
    try (intro hh; exfalso; omega)
    try omega
  try simp only [Act.put, List.setIfInBounds_toArray, List.set_cons_zero, List.set_cons_succ, List.getElem_toArray, List.getElem_cons_succ, List.getElem_cons_zero]
  refine wpAnyH_take (i := 6) (oi := _) (v := Value.pointer (some ⟨w.heap.size, 6, none⟩)) rfl (by kernel_rfl) (by kernel_rfl) (by kernel_rfl) (fun _ _ _ h => h) (Or.inl ⟨by rfl, fun w' hSw => ?_⟩) hHeld ?_
  · obtain ⟨t0, t1, t2, t3, t4, t5, t6, t7, t8⟩ := hSw
    go_simp
    try simp [*]
    try (intro hh; exfalso; omega)
    try omega
  try simp only [Act.put, List.setIfInBounds_toArray, List.set_cons_zero, List.set_cons_succ, List.getElem_toArray, List.getElem_cons_succ, List.getElem_cons_zero]
  refine wpAnyH_take (i := 7) (oi := _) (v := Value.int .i64 r) rfl (by kernel_rfl) (by kernel_rfl) (by kernel_rfl) (fun _ _ _ h => h) (Or.inl ⟨by rfl, fun w' hSw => ?_⟩) hHeld ?_
  · obtain ⟨t0, t1, t2, t3, t4, t5, t6, t7, t8⟩ := hSw
    go_simp
    try simp [*]
    try (intro hh; exfalso; omega)
    try omega
  try simp only [Act.put, List.setIfInBounds_toArray, List.set_cons_zero, List.set_cons_succ, List.getElem_toArray, List.getElem_cons_succ, List.getElem_cons_zero]
  refine wpAnyH_take (i := 8) (oi := _) (v := Value.bool false) rfl (by kernel_rfl) (by kernel_rfl) (by kernel_rfl) (fun _ _ _ h => h) (Or.inl ⟨by rfl, fun w' hSw => ?_⟩) hHeld ?_
  · obtain ⟨t0, t1, t2, t3, t4, t5, t6, t7, t8⟩ := hSw
    go_simp
    try simp [*]
    try (intro hh; exfalso; omega)
    try omega
  try simp only [Act.put, List.setIfInBounds_toArray, List.set_cons_zero, List.set_cons_succ, List.getElem_toArray, List.getElem_cons_succ, List.getElem_cons_zero]
  refine wpAnyH_take (i := 10) (oi := _) (v := Value.int .i64 (max u1 t1)) rfl (by kernel_rfl) (by kernel_rfl) (by kernel_rfl) (fun _ _ _ h => h) (Or.inl ⟨by rfl, fun w' hSw => ?_⟩) hHeld ?_
  · obtain ⟨t0, t1, t2, t3, t4, t5, t6, t7, t8⟩ := hSw
    go_simp
    try simp [*]
    try (intro hh; exfalso; omega)
    try omega
  try simp only [Act.put, List.setIfInBounds_toArray, List.set_cons_zero, List.set_cons_succ, List.getElem_toArray, List.getElem_cons_succ, List.getElem_cons_zero]
  refine wpAnyH_take (i := 11) (oi := _) (v := Value.bool true) rfl (by kernel_rfl) (by kernel_rfl) (by kernel_rfl) (fun _ _ _ h => h) (Or.inl ⟨by rfl, fun w' hSw => ?_⟩) hHeld ?_
  · obtain ⟨t0, t1, t2, t3, t4, t5, t6, t7, t8⟩ := hSw
    go_simp
    try simp [*]
    try (intro hh; exfalso; omega)
    try omega
  try simp only [Act.put, List.setIfInBounds_toArray, List.set_cons_zero, List.set_cons_succ, List.getElem_toArray, List.getElem_cons_succ, List.getElem_cons_zero]
  have HD := Lib.hid (show Below A.heap.size A A.drew from (Below.refl _ _).drew)
  refine wpAnyH_ready (rs := [1]) (by kernel_rfl) (by simp) ?_
  refine AllReadyH.cons (o := _) rfl (fun K hK => ?_) AllReadyH.nil
  go_simp
  go_at_call 137
  refine Calls.mono (c1 _) ?_
  rintro e v1 ⟨rfl, hb⟩
  have HV1 := Lib.hid (show Below A.heap.size A v1 from HD.out.trans (hb.mono (Below.size HD.out)))
  clear hb
  clear hHeld
  refine hK.out _ _ (KK.out _ HV1.out) (fun hHeld => ?_)
  clear hK K
  try simp only [Act.put, List.setIfInBounds_toArray, List.set_cons_zero, List.set_cons_succ, List.getElem_toArray, List.getElem_cons_succ, List.getElem_cons_zero]
  refine wpAnyH_ready (rs := [3]) (by kernel_rfl) (by simp) ?_
  refine AllReadyH.cons (o := _) rfl (fun K hK => ?_) AllReadyH.nil
  go_simp
  go_at_call 138
  refine Calls.mono (c2 _) ?_
  rintro e v2 ⟨rfl, hb⟩
  have HV2 := Lib.hid (show Below A.heap.size A v2 from HV1.out.trans (hb.mono (Below.size HV1.out)))
  clear hb
  clear hHeld
  refine hK.out _ _ (KK.out _ HV2.out) (fun hHeld => ?_)
  clear hK K
  try simp only [Act.put, List.setIfInBounds_toArray, List.set_cons_zero, List.set_cons_succ, List.getElem_toArray, List.getElem_cons_succ, List.getElem_cons_zero]
  refine wpAnyH_ready (rs := [9]) (by kernel_rfl) (by simp) ?_
  refine AllReadyH.cons (o := _) rfl (fun K hK => ?_) AllReadyH.nil
  go_simp
  go_at_call 139
  refine Calls.mono (c3 _) ?_
  rintro e v3 ⟨rfl, rfl⟩
  clear hHeld
  refine hK.out _ _ (KK.out _ HV2.out) (fun hHeld => ?_)
  clear hK K
  try simp only [Act.put, List.setIfInBounds_toArray, List.set_cons_zero, List.set_cons_succ, List.getElem_toArray, List.getElem_cons_succ, List.getElem_cons_zero]
  refine wpAnyH_ready (rs := [12]) (by kernel_rfl) (by simp) ?_
  refine AllReadyH.cons (o := _) rfl (fun K hK => ?_) AllReadyH.nil
  go_simp
  go_at_call 139
  refine Calls.mono (c4 _) ?_
  rintro e v4 ⟨rfl, rfl⟩
  clear hHeld
  refine hK.out _ _ (KK.out _ HV2.out) (fun hHeld => ?_)
  clear hK K
  try simp only [Act.put, List.setIfInBounds_toArray, List.set_cons_zero, List.set_cons_succ, List.getElem_toArray, List.getElem_cons_succ, List.getElem_cons_zero]
  refine wpAnyH_ready (rs := [13]) (by kernel_rfl) (by simp) ?_
  refine AllReadyH.cons (o := _) rfl (fun K hK => ?_) AllReadyH.nil
  go_simp
  have HV5 := Lib.hid (show Below A.heap.size A (v4.alloc (.cells #[.int .i64 0, .int .i64 0, .int .i64 19, .int .i64 0] 30)) from HV2.out.alloc HV2.out.size _)
  clear hHeld
  refine hK.out _ _ (KK.out _ HV5.out) (fun hHeld => ?_)
  clear hK K
  try simp only [Act.put, List.setIfInBounds_toArray, List.set_cons_zero, List.set_cons_succ, List.getElem_toArray, List.getElem_cons_succ, List.getElem_cons_zero]
  have c5 := first136_at v4.heap.size 4 4 2 19 (by decide) (by decide) (by decide) (v4.alloc (.cells #[.int .i64 0, .int .i64 0, .int .i64 19, .int .i64 0] 30)) (fun k hk => by
    match k, hk with
    | 0, _ => simp [go_sem]
    | 1, _ => simp) (by simp)
  refine wpAnyH_ready (rs := [14]) (by kernel_rfl) (by simp) ?_
  refine AllReadyH.cons (o := _) rfl (fun K hK => ?_) AllReadyH.nil
  go_simp
  go_at_call 136
  refine Calls.mono c5 ?_
  rintro e v6 ⟨rfl, hw6⟩
  have hw7 := hw6.symm
  subst hw7
  clear hHeld
  refine hK.out _ _ (KK.out _ HV5.out) (fun hHeld => ?_)
  clear hK K
  try simp only [Act.put, List.setIfInBounds_toArray, List.set_cons_zero, List.set_cons_succ, List.getElem_toArray, List.getElem_cons_succ, List.getElem_cons_zero]
  refine wpAnyH_take (i := 15) (oi := _) (v := Value.int .i64 19) rfl (by kernel_rfl) (by kernel_rfl) (by kernel_rfl) (fun _ _ _ h => h) (Or.inl ⟨by rfl, fun w' hSw => ?_⟩) hHeld ?_
  · obtain ⟨t0, t1, t2, t3, t4, t5, t6, t7, t8⟩ := hSw
    go_simp
    try simp [*]
    try (intro hh; exfalso; omega)
    try omega
  try simp only [Act.put, List.setIfInBounds_toArray, List.set_cons_zero, List.set_cons_succ, List.getElem_toArray, List.getElem_cons_succ, List.getElem_cons_zero]
  refine wpAnyH_done (by kernel_rfl) ?_ _
  clear hHeld
  clear c5
  obtain ⟨k0, k1, k2, k3, k4, k5, k6, k7, k8⟩ := KK.out _ HV5.out
  go_wp2_with fail
  go_ret2
  exact ⟨rfl, HBA.out.trans (HV5.out.mono HBA.out.size)⟩
end Go.Proofs.Ytdohfpnnmppdkaa.Gd

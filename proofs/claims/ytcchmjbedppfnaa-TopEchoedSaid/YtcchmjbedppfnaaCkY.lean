/-
  Clock: Time; the chapter's example.
-/
import Derived.Test.YtcchmjbedppfnaaCkX
namespace Go.Proofs.Ytcchmjbedppfnaa
open Go.RowKit Go.Shelf
set_option linter.unusedSimpArgs false
theorem fstE_all {cs : List Cl} (h : fstE cs = 0) : ∀ k, k < cs.length → lrnE (cl cs k).p (cl cs k).r (cl cs k).xs = 0 := by
  induction cs with
  | nil => intro k hk; simp at hk
  | cons c cs ih =>
    intro k hk
    by_cases h0 : lrnE c.p c.r c.xs = 0
    · have h' : fstE cs = 0 := by
        unfold fstE at h
        rwa [if_pos h0] at h
      cases k with
      | zero => exact h0
      | succ k => exact ih h' k (by simpa using hk)
    · unfold fstE at h
      rw [if_neg h0] at h
      exact absurd h h0
theorem jnB_get {ks : List Kc} (h : jnB ks = true) : ∀ k, k < ks.length → (kc ks k).p < (k : Int) := by
  intro k hk
  unfold jnB at h
  exact of_decide_eq_true (List.all_eq_true.1 h k (List.mem_range.2 hk))
theorem shB_get {ks : List Kc} (h : shB ks = true) : ∀ k, k < ks.length → sdB (kc ks k).r (kc ks k).os = true := by
  intro k hk
  unfold shB at h
  exact List.all_eq_true.1 h k (List.mem_range.2 hk)
theorem entE_ok {cs : List Cl} (h : entE cs = 0) : (1 ≤ cs.length ∧ cs.length ≤ 32) ∧ (∀ k, k < cs.length → lrnE (cl cs k).p (cl cs k).r (cl cs k).xs = 0) ∧ jnB (cs.map knC) = true ∧ shB (cs.map knC) = true := by
  unfold entE at h
  split at h
  · exact absurd h (by decide)
  split at h
  · exact absurd h (by decide)
  split at h
  · rename_i h3
    exact absurd h h3
  rename_i h1 h2 h3
  split at h
  · exact absurd h (by decide)
  split at h
  · exact absurd h (by decide)
  rename_i h4 h5
  refine ⟨⟨by omega, by omega⟩, fstE_all (by simpa using h3), by simpa using h4, by simpa using h5⟩
theorem hs_of {cs : List Cl} (h : entE cs = 0) : HsOk (cs.map knC) := by
  obtain ⟨hl, hE, hj, -⟩ := entE_ok h
  have hm : (cs.map knC).length = cs.length := List.length_map ..
  refine ⟨by omega, fun k hk => ⟨?_, jnB_get hj k hk⟩, fun k hk => ?_, fun k hk => ?_⟩
  · rw [kc_map cs k (by omega)]
    exact (lrnE_ok (hE k (by omega))).2.1
  · rw [kc_map cs k (by omega)]
    exact valid_of (hE k (by omega))
  · rw [kc_map cs k (by omega)]
    show 1 ≤ (ofTo _ _ _).length
    rw [ofTo_len]
    exact (lrnE_ok (hE k (by omega))).1.1
/-- what Time returns -/
noncomputable def timeR (cs : List Cl) (c t : Int) : R3 := if entE cs = 0 then timR (cs.map knC) c t else ⟨0, 0, entE cs⟩
set_option maxRecDepth 100000 in
set_option maxHeartbeats 4000000 in
theorem time37_any (lv : Value) (cs : List Cl) (c t : Int) (w : World) (hC : Cls w.heap.size w lv cs) :
    Calls Try.prog 37 #[lv, .agg #[.int .i64 c, .int .i64 t]] w fun e w' => e = .returned (timeR cs c t).out ∧ Below w.heap.size w w' := by
  have c98 := Lib.hid (fun W (hb : Below w.heap.size w W) => enter_any lv cs W (hC.at hb))
  have c99 := Lib.hid (fun v (h0 : entE cs = 0) W (hK : Kcs W.heap.size W v (cs.map knC)) => time_any v (cs.map knC) c t (hs_of h0) W hK)
  unfold timeR
  obtain ⟨a, cap, hsv⟩ := hC.form
  subst hsv
  unfold EntR at c98
  obtain ⟨A, hA⟩ : ∃ A, A = (w.alloc (.cells #[.int .i64 c, .int .i64 t] 49)).alloc (.cells #[.int .i64 0, .int .i64 0] 23) := ⟨_, rfl⟩
  have hzA : A.heap.size = w.heap.size + 2 := by rw [hA]; simp
  have HBA := Lib.hid (show Below w.heap.size w A by rw [hA]; exact ((Below.refl _ _).alloc (Nat.le_refl _) _).alloc (by simp) _)
  have hRA : Bx2 A (w.heap.size + 1) (.int .i64 0) (.int .i64 0) := by
    rw [hA]
    have q := Bx2.new (w.alloc (.cells #[.int .i64 c, .int .i64 t] 49)) (.int .i64 0) (.int .i64 0)
    rwa [World.size_alloc] at q
  have k0 : A.cell? ⟨w.heap.size, 0, none⟩ = some (.int .i64 c) := by rw [hA]; simp [go_sem]
  have k1 : A.cell? ⟨w.heap.size, 1, none⟩ = some (.int .i64 t) := by rw [hA]; simp [go_sem]
  have KR := Lib.hid (show ∀ W, Below A.heap.size A W → (W.cell? ⟨w.heap.size + 1, 0, none⟩ = some (.int .i64 0) ∧ W.cell? ⟨w.heap.size + 1, 1, none⟩ = some (.int .i64 0)) ∧ W.frozen? ⟨w.heap.size + 1, 0, none⟩ = false ∧ W.frozen? ⟨w.heap.size + 1, 1, none⟩ = false from fun W h => ⟨⟨(hRA.keep h).c0, (hRA.keep h).c1⟩, (hRA.keep h).f0 0, (hRA.keep h).f0 1⟩)
  have KA := Lib.hid (show ∀ W, Below A.heap.size A W → W.cell? ⟨w.heap.size, 0, none⟩ = some (.int .i64 c) ∧ W.cell? ⟨w.heap.size, 1, none⟩ = some (.int .i64 t) from fun W h => ⟨(h.cell (p := ⟨w.heap.size, 0, none⟩) (by show w.heap.size < A.heap.size; omega)).trans k0, (h.cell (p := ⟨w.heap.size, 1, none⟩) (by show w.heap.size < A.heap.size; omega)).trans k1⟩)
  have HEND := Lib.hid (show ∀ W v0 v1, Below A.heap.size A W → Below w.heap.size w ((W.setCell ⟨w.heap.size + 1, 0, none⟩ v0).setCell ⟨w.heap.size + 1, 1, none⟩ v1) from fun W v0 v1 h =>
    ((HBA.out.trans (h.mono HBA.out.size)).setCell (p := ⟨w.heap.size + 1, 0, none⟩) (by show w.heap.size ≤ w.heap.size + 1; omega) _).setCell (p := ⟨w.heap.size + 1, 1, none⟩) (by show w.heap.size ≤ w.heap.size + 1; omega) _)
  clear hC hRA hzA k0 k1
  generalize hE : entE cs = E0 at *
  have HE := Lib.hid hE
  clear hE
  generalize timR (cs.map knC) c t = z at *
  generalize cs.map knC = ks at *
  generalize cs.length = len at *
  obtain ⟨z0, z1, ze⟩ := z
  unfold R3.out at *
  go_enter Try.func37, Try.ntmps37
  go_wp2_with fail
  try rw [← hA]
  clear hA
  refine (c98.out _ HBA.out).mono ?_
  rintro e w1 ⟨v, E, rfl, hE1, hok, ⟨a1, n1, c1, rfl⟩, hb⟩
  have hE2 := hE1.symm
  subst hE2
  have HB1 := Lib.hid hb
  have HOK := Lib.hid hok
  obtain ⟨⟨r0, r1⟩, r2, r3⟩ := KR.out _ hb
  obtain ⟨g0, g1⟩ := KA.out _ hb
  clear hb hok
  by_cases h0 : E0 = 0
  rotate_left
  · have hb0 : (E0 != 0) = true := by simpa using h0
    go_wp2_with fail
    refine bodyPost_ret (v := .tuple #[.agg #[.int .i64 0, .int .i64 0], .int .i64 E0]) (by simp [results, Try.results37, go_sem, r0, r1]) rfl ⟨?_, HEND.out _ _ _ HB1.out⟩
    first | rfl | rw [if_neg h0]
  have hK := HOK.out h0
  have HC9 := Lib.hid (c99.out _ h0 w1 hK)
  subst h0
  clear hK
  go_wp2_with fail
  refine HC9.out.mono ?_
  rintro e w4 ⟨rfl, hb4⟩
  have HB4 := Lib.hid (HB1.out.trans (hb4.mono HB1.out.size))
  obtain ⟨⟨r0, r1⟩, r2, r3⟩ := KR.out _ HB4.out
  clear hb4
  go_wp2_with fail
  refine bodyPost_ret (v := .tuple #[.agg #[.int .i64 z0, .int .i64 z1], .int .i64 ze]) (by simp [results, Try.results37, go_sem, r0, r1]) rfl ⟨?_, HEND.out _ _ _ HB4.out⟩
  first | rfl | rw [if_pos rfl]
/-- the exchanges of the chapter's example -/
def exX : List Xc := [⟨1000, 2010, 2020, 1030, 5, 15, 5, 15⟩, ⟨2000000, 2001020, 2001030, 2000060, 5, 40, 5, 40⟩]
set_option maxRecDepth 100000 in
set_option maxHeartbeats 4000000 in
theorem example_any (w : World) :
    Calls Try.prog 57 #[] w fun e w' => ∃ v, e = .returned (.agg #[.int .i64 (-1), .int .i64 1000, v]) ∧ Xcs w'.heap.size w' v exX ∧ Below w.heap.size w w' := by
  go_enter Try.func57, Try.ntmps57
  go_wp2_with fail
  refine bodyPost_ret (v := .agg #[.int .i64 (-1), .int .i64 1000, .slice (some ⟨w.heap.size + 1, 0, none⟩) 2 2]) (by simp [results, Try.results57, go_sem]) rfl ⟨_, rfl, ?_, ((Below.refl _ _).alloc (Nat.le_refl _) _).alloc (by simp) _⟩
  refine ⟨_, 2, rfl, Nat.le_refl _, fun k hk => ⟨w.heap.size + 1, 0, rfl, by simp, ?_⟩⟩
  have hk2 : k < 2 := hk
  rcases (by omega : k = 0 ∨ k = 1) with rfl | rfl
  · refine ⟨?_, ?_, ?_, ?_, ?_, ?_, ?_, ?_⟩ <;> simp [go_sem, xc, exX]
  · refine ⟨?_, ?_, ?_, ?_, ?_, ?_, ?_, ?_⟩ <;> simp [go_sem, xc, exX]
end Go.Proofs.Ytcchmjbedppfnaa

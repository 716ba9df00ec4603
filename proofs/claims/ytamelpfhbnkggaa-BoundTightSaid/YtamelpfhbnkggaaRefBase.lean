import Derived.Test.YtamelpfhbnkggaaRoot
import Derived.Test.YtamelpfhbnkggaaScale
import Derived.Test.YtamelpfhbnkggaaOps
namespace Go.Proofs.Ytamelpfhbnkggaa
open Go.RowKit Go.Shelf
/-- the root of a span -/
noncomputable def rootR (a b : Int) : R3 := if vB a b = true then (if a < 0 then ⟨0, 0, 3⟩ else ⟨isq a, isqUp b, 0⟩) else ⟨0, 0, 2⟩

set_option maxHeartbeats 1000000 in
theorem root_any (a b : Int) (w : World) :
    Calls Try.prog 25 #[.agg #[.int .i64 a, .int .i64 b]] w fun e w' => e = .returned (.tuple #[.agg #[.int .i64 (rootR a b).lo, .int .i64 (rootR a b).hi], .int .i64 (rootR a b).e]) ∧ Below w.heap.size w w' := by
  by_cases h : vB a b = true
  · have c1 := fun w => check_ok a b h w
    obtain ⟨h3, h4, h5⟩ := (vB_iff a b).1 h
    by_cases hn : a < 0
    · have k : rootR a b = ⟨0, 0, 3⟩ := by unfold rootR; rw [if_pos h, if_pos hn]
      rw [k]
      clear h k
      go_enter Try.func25, Try.ntmps25
      go_wp2_with fail
      refine (c1 _).mono ?_
      rintro e w1 ⟨rfl, hb⟩
      obtain ⟨hc, hf⟩ := bcell hb
      go_wp2_with fail
      refine bodyPost_ret (v := .tuple #[.agg #[.int .i64 0, .int .i64 0], .int .i64 3]) (by simp [results, Try.results25, go_sem, hc]) rfl ⟨rfl, ?_⟩
      exact ((((((Below.refl _ _).alloc (Nat.le_refl _) _).alloc (by simp) _).trans (hb.mono (by simp; omega))).setCell (by simp) _).setCell (by simp) _)
    · have k : rootR a b = ⟨isq a, isqUp b, 0⟩ := by unfold rootR; rw [if_pos h, if_neg hn]
      rw [k]
      have c2 := fun w => rootS_any a b (by omega) (by omega) (by omega) (by omega) w
      generalize isq a = x at c2 ⊢
      generalize isqUp b = y at c2 ⊢
      clear h k
      go_enter Try.func25, Try.ntmps25
      go_wp2_with fail
      refine (c1 _).mono ?_
      rintro e w1 ⟨rfl, hb⟩
      obtain ⟨hc, hf⟩ := bcell hb
      go_wp2_with fail
      refine (c2 _).mono ?_
      rintro e w4 ⟨rfl, hb2⟩
      replace hb := hb.trans (hb2.mono hb.size)
      clear hc hf hb2
      obtain ⟨hc, hf⟩ := bcell hb
      go_wp2_with fail
      refine bodyPost_ret (v := .tuple #[.agg #[.int .i64 x, .int .i64 y], .int .i64 0]) (by simp [results, Try.results25, go_sem, hc]) rfl ⟨rfl, ?_⟩
      exact ((((((Below.refl _ _).alloc (Nat.le_refl _) _).alloc (by simp) _).trans (hb.mono (by simp; omega))).setCell (by simp) _).setCell (by simp) _)
  · have k : rootR a b = ⟨0, 0, 2⟩ := if_neg h
    rw [k]
    have c1 := fun w => check_bad a b h w
    clear h k
    go_enter Try.func25, Try.ntmps25
    go_wp2_with fail
    refine (c1 _).mono ?_
    rintro e w1 ⟨rfl, hb⟩
    obtain ⟨hc, hf⟩ := bcell hb
    go_wp2_with fail
    refine bodyPost_ret (v := .tuple #[.agg #[.int .i64 0, .int .i64 0], .int .i64 2]) (by simp [results, Try.results25, go_sem, hc]) rfl ⟨rfl, ?_⟩
    exact ((((((Below.refl _ _).alloc (Nat.le_refl _) _).alloc (by simp) _).trans (hb.mono (by simp; omega))).setCell (by simp) _).setCell (by simp) _)

-- the reference
set_option maxHeartbeats 1000000 in
theorem result_any (lo hi : Int) (w : World) :
    Calls Try.prog 87 #[.int .i64 lo, .int .i64 hi] w fun e w' => e = .returned (.tuple #[.agg #[.int .i64 (fit lo hi).lo, .int .i64 (fit lo hi).hi], .int .i64 (fit lo hi).e]) ∧ Below w.heap.size w w' := by
  by_cases h : vB lo hi = true
  · have k : fit lo hi = ⟨lo, hi, 0⟩ := if_pos h
    rw [k]
    have c1 := fun w => valid_yes lo hi h w
    clear h k
    go_enter Try.func87, Try.ntmps87
    go_wp2_with fail
    refine (c1 _).mono ?_
    rintro e w1 ⟨rfl, hb⟩
    obtain ⟨hc, hf⟩ := bcell hb
    have k0 : w1.cell? ⟨w.heap.size, 0, none⟩ = some (.int .i64 0) := by rw [hc _ _ (by simp; try omega)]; simp [go_sem]
    have k1 : w1.cell? ⟨w.heap.size, 1, none⟩ = some (.int .i64 0) := by rw [hc _ _ (by simp; try omega)]; simp [go_sem]
    have f0 : w1.frozen? ⟨w.heap.size, 0, none⟩ = false := by rw [hf _ _ (by simp; try omega)]; simp [go_sem]
    have f1 : w1.frozen? ⟨w.heap.size, 1, none⟩ = false := by rw [hf _ _ (by simp; try omega)]; simp [go_sem]
    go_wp2_with fail
    refine bodyPost_ret (v := .tuple #[.agg #[.int .i64 lo, .int .i64 hi], .int .i64 0]) (by simp [results, Try.results87, go_sem, *]) rfl ⟨rfl, ?_⟩
    repeat (first | exact Below.refl _ _ | refine Below.setCell ?_ (by first | omega | (simp; omega) | simp) _ | refine Below.alloc ?_ (by first | omega | (simp; omega) | simp) _ | refine chainB (by assumption) ?_)
  · have k : fit lo hi = ⟨0, 0, 4⟩ := if_neg h
    rw [k]
    have c1 := fun w => valid_no lo hi h w
    clear h k
    go_enter Try.func87, Try.ntmps87
    go_wp2_with fail
    refine (c1 _).mono ?_
    rintro e w1 ⟨rfl, hb⟩
    obtain ⟨hc, hf⟩ := bcell hb
    have k0 : w1.cell? ⟨w.heap.size, 0, none⟩ = some (.int .i64 0) := by rw [hc _ _ (by simp; try omega)]; simp [go_sem]
    have k1 : w1.cell? ⟨w.heap.size, 1, none⟩ = some (.int .i64 0) := by rw [hc _ _ (by simp; try omega)]; simp [go_sem]
    have f0 : w1.frozen? ⟨w.heap.size, 0, none⟩ = false := by rw [hf _ _ (by simp; try omega)]; simp [go_sem]
    have f1 : w1.frozen? ⟨w.heap.size, 1, none⟩ = false := by rw [hf _ _ (by simp; try omega)]; simp [go_sem]
    go_wp2_with fail
    refine bodyPost_ret (v := .tuple #[.agg #[.int .i64 0, .int .i64 0], .int .i64 4]) (by simp [results, Try.results87, go_sem, *]) rfl ⟨rfl, ?_⟩
    repeat (first | exact Below.refl _ _ | refine Below.setCell ?_ (by first | omega | (simp; omega) | simp) _ | refine Below.alloc ?_ (by first | omega | (simp; omega) | simp) _ | refine chainB (by assumption) ?_)

set_option maxHeartbeats 400000 in
theorem rdown_pos (x d : Int) (hd : 1 ≤ d) (hd' : d ≤ 4611686018427387904) (h1 : -4611686018427387904 ≤ x) (h2 : x ≤ 4611686018427387904) (w : World) :
    Calls Try.prog 88 #[.int .i64 x, .int .i64 d] w fun e w' => e = .returned (.int .i64 (x / d)) ∧ w' = w := by
  obtain ⟨ha, hb⟩ := tdiv_dn x d hd
  obtain ⟨hq1, hq2⟩ := dn_bd x d 4611686018427387904 hd h1 h2
  by_cases hn : x.tmod d < 0
  · have he := ha hn
    have hq : x.tdiv d = x / d + 1 := by omega
    have Hq := Lib.hid hq
    have hq3 : -4611686018427387904 ≤ x.tdiv d := by omega
    have hq4 : x.tdiv d ≤ 4611686018427387905 := by omega
    clear ha hb he hq
    go_enter Try.func88, Try.ntmps88
    go_wp2
    go_ret
    exact ⟨ret_int (by rw [Hq.out]; omega), rfl⟩
  · have hq := hb hn
    have Hq := Lib.hid hq
    have hn' : 0 ≤ x.tmod d := by omega
    have hq3 : -4611686018427387904 ≤ x.tdiv d := by omega
    have hq4 : x.tdiv d ≤ 4611686018427387904 := by omega
    clear ha hb hq
    go_enter Try.func88, Try.ntmps88
    go_wp2
    go_ret
    exact ⟨ret_int (by rw [Hq.out]), rfl⟩
theorem rdown_neg (x d : Int) (hd : d < 0) (hd' : -4611686018427387904 ≤ d) (h1 : -4611686018427387904 ≤ x) (h2 : x ≤ 4611686018427387904) (w : World) :
    Calls Try.prog 88 #[.int .i64 x, .int .i64 d] w fun e w' => e = .returned (.int .i64 (-x / -d)) ∧ w' = w := by
  have c1 := fun w => rdown_pos (-x) (-d) (by omega) (by omega) (by omega) (by omega) w
  generalize -x / -d = y at c1 ⊢
  go_enter Try.func88, Try.ntmps88
  go_wp2_with fail
  refine (c1 _).mono ?_
  rintro e w' ⟨rfl, rfl⟩
  go_wp2_with fail
  go_ret
  exact ⟨rfl, rfl⟩
def rD (x d : Int) : Int := if d < 0 then -x / -d else x / d
def rU (x d : Int) : Int := -rD (-x) d
theorem rdown_any (x d : Int) (hd : d ≠ 0) (hd' : d ≤ 4611686018427387904) (hd'' : -4611686018427387904 ≤ d) (h1 : -4611686018427387904 ≤ x) (h2 : x ≤ 4611686018427387904) (w : World) :
    Calls Try.prog 88 #[.int .i64 x, .int .i64 d] w fun e w' => e = .returned (.int .i64 (rD x d)) ∧ w' = w := by
  unfold rD; split
  · exact rdown_neg x d (by omega) (by omega) h1 h2 w
  · exact rdown_pos x d (by omega) (by omega) h1 h2 w
theorem rD_bd (x d : Int) (hd : d ≠ 0) (h1 : -4611686018427387904 ≤ x) (h2 : x ≤ 4611686018427387904) : -4611686018427387904 ≤ rD x d ∧ rD x d ≤ 4611686018427387904 := by
  unfold rD; split
  · exact dn_bd (-x) (-d) _ (by omega) (by omega) (by omega)
  · exact dn_bd x d _ (by omega) (by omega) (by omega)
set_option maxHeartbeats 400000 in
theorem rup_any (x d : Int) (hd : d ≠ 0) (hd' : d ≤ 4611686018427387904) (hd'' : -4611686018427387904 ≤ d) (h1 : -4611686018427387904 ≤ x) (h2 : x ≤ 4611686018427387904) (w : World) :
    Calls Try.prog 89 #[.int .i64 x, .int .i64 d] w fun e w' => e = .returned (.int .i64 (rU x d)) ∧ w' = w := by
  have c1 := fun w => rdown_any (-x) d hd hd' hd'' (by omega) (by omega) w
  obtain ⟨b1, b2⟩ := rD_bd (-x) d hd (by omega) (by omega)
  unfold rU
  generalize rD (-x) d = y at c1 b1 b2 ⊢
  go_enter Try.func89, Try.ntmps89
  go_wp2_with fail
  refine (c1 _).mono ?_
  rintro e w' ⟨rfl, rfl⟩
  go_wp2_with fail
  go_ret
  exact ⟨rfl, rfl⟩
theorem rD_pos (x d : Int) (hd : 1 ≤ d) : rD x d = x / d := if_neg (by omega)
theorem rU_pos (x d : Int) (hd : 1 ≤ d) : rU x d = up x d := by unfold rU up; rw [rD_pos _ _ hd]
end Go.Proofs.Ytamelpfhbnkggaa

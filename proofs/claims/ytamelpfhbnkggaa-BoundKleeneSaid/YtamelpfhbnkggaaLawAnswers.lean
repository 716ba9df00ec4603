/-
  BoundAnswers: the arguments and the walk.
-/
import Derived.Test.YtamelpfhbnkggaaFrame
import Derived.Test.YtamelpfhbnkggaaAnswers
import Derived.Test.YtamelpfhbnkggaaWorks
namespace Go.Proofs.Ytamelpfhbnkggaa
open Go.ChangeShapes Go.WideShapes Go.ChangeAt Go.RowKit Go.Joins Go.Shelf
section
variable {H : Type} {enc : TypeId × Value → H} {W : World} {base : Nat} {v : Value} {d : DataW H} {p : List MemPlace}
set_option maxRecDepth 100000 in
theorem open_ansv (hv : Value.okWide Try.prog W .any base 37 v) (h : DataW.Trod enc Try.prog W 0 (fun _ => true) true 37 v d p) : ∃ a : Int, v = .int .i64 a ∧ I64 a := by
  obtain ⟨a, rfl, rfl, rfl, wa⟩ := open_int Try.underlying37 hv h
  exact ⟨a, rfl, i64_of_wf wa⟩
set_option maxRecDepth 100000 in
theorem open_ans (hv : Value.okWide Try.prog W .any base 36 v) (h : DataW.Trod enc Try.prog W 0 (fun _ => true) true 36 v d p) : ∃ zs : List Int, SlA W v zs := by
  obtain ⟨a0, len, cap, rfl⟩ := okWide_slice Try.underlying36 hv
  have hlt := lt_of_trod h
  obtain ⟨fuel, hf⟩ := h
  rcases open_ints Try.underlying36 Try.underlying37 (by kernel_rfl) hf with ⟨hcs, hx⟩ | ⟨a, len', cap', zs, hcs, _, hle, hmax, hall, hx, cell, wf⟩
  · simp [Value.cells] at hcs
    obtain ⟨rfl, rfl, rfl⟩ := hcs
    exact ⟨[], .inl ⟨none, 0, rfl, rfl⟩⟩
  · simp [Value.cells] at hcs
    obtain ⟨rfl, rfl, rfl⟩ := hcs
    simp only [if_true] at hall
    simp only [Prod.mk.injEq] at hx
    obtain ⟨rfl, rfl⟩ := hx
    by_cases h0 : len = 0
    · subst h0; exact ⟨[], .inl ⟨some a, cap, rfl, rfl⟩⟩
    · obtain ⟨b, off, rfl, hc⟩ := ints_at cell (by omega)
      have hb : b < W.heap.size := by
        exact hlt (.cell b (off + 0)) (List.mem_map.2 ⟨0, List.mem_range.2 (by omega), rfl⟩)
      unfold maxLen at hmax
      have e : (zs.take len).length = len := by rw [List.length_take]; omega
      refine ⟨zs.take len, .inr ⟨b, off, cap, by rw [e], by rw [e]; omega, hb, fun k hk => ?_⟩⟩
      rw [e] at hk
      rw [hc k (by omega), List.getD_eq_getElem?_getD, List.getElem?_take]
      simp [hk]
end
theorem SlA.mono {w w' : World} {v : Value} {zs : List Int} (h : SlA w v zs) (hb : Below w.heap.size w w') : SlA w' v zs := by
  rcases h with h | ⟨b, off, cap, rfl, hm, hlt, hc⟩
  · exact .inl h
  · exact .inr ⟨b, off, cap, rfl, hm, Nat.lt_of_lt_of_le hlt hb.size, fun k hk => (hb.cell (p := ⟨b, off + k, none⟩) hlt).trans (hc k hk)⟩

set_option maxRecDepth 100000 in
set_option maxHeartbeats 4000000 in
theorem law_answers (a b c d x : Int) (v : Value) (zs : List Int) (w : World) (hv : SlA w v zs) :
    Calls Try.prog 5 #[.agg #[.int .i64 a, .int .i64 b], .agg #[.int .i64 c, .int .i64 d], v, .int .i64 x] w fun e w' => e = .returned (.bool true) ∧ Below w.heap.size w w' := by
  have cW := fun w => works_any w
  have c1 := fun w => less_any a b c d w
  have d1 := fun w => rless_any a b c d w
  have c2 := fun w => in_any a b c d w
  have d2 := fun w => rin_any a b c d w
  have c3 := fun w' (hb : Below w.heap.size w w') => all_any zs v w' (hv.mono hb)
  have d3 := fun w' (hb : Below w.heap.size w w') => rall_any zs v w' (hv.mono hb)
  have c4 := fun w' (hb : Below w.heap.size w w') => any_any zs v w' (hv.mono hb)
  have d4 := fun w' (hb : Below w.heap.size w w') => rany_any zs v w' (hv.mono hb)
  have c5 : ∀ w, Calls Try.prog 39 #[.int .i64 x] w fun e w' => e = .returned (.tuple #[.int .i64 (notS x).v, .int .i64 (notS x).e]) ∧ Below w.heap.size w w' := fun w => (not_any x w).mono fun _ _ ⟨he, hb⟩ => ⟨he, hb ▸ Below.refl _ _⟩
  have d5 : ∀ w, Calls Try.prog 40 #[.int .i64 x] w fun e w' => e = .returned (.tuple #[.int .i64 (notS x).v, .int .i64 (notS x).e]) ∧ Below w.heap.size w w' := fun w => (rnot_any x w).mono fun _ _ ⟨he, hb⟩ => ⟨he, hb ▸ Below.refl _ _⟩
  generalize lessS a b c d = p1 at c1 d1
  generalize inS a b c d = p2 at c2 d2
  generalize allS zs = p3 at c3 d3
  generalize anyS zs = p4 at c4 d4
  generalize notS x = p5 at c5 d5
  have hlen : ∃ ad n cap, v = .slice ad n cap ∧ n ≤ 9223372036854775807 := by
    rcases hv with ⟨ad, cap, rfl, rfl⟩ | ⟨b, off, cap, rfl, hm, _, _⟩
    · exact ⟨_, _, _, rfl, by omega⟩
    · exact ⟨_, _, _, rfl, hm⟩
  clear hv
  obtain ⟨ad, n, cap, rfl, hm⟩ := hlen
  by_cases hn : 300 < n
  · clear c1 d1 c2 d2 c3 d3 c4 d4 c5 d5
    go_enter Try.func5, Try.ntmps5
    go_wp2_with fail
    refine (cW _).mono ?_
    rintro e w1 ⟨rfl, hb⟩
    obtain ⟨hc, hf⟩ := bcell hb
    have k1_0a : w1.cell? ⟨w.heap.size, 0, none⟩ = some (.int .i64 a) := by rw [hc _ _ (by first | omega | (simp; omega) | simp)]; simp [go_sem, *]
    have k1_0b : w1.cell? ⟨w.heap.size, 1, none⟩ = some (.int .i64 b) := by rw [hc _ _ (by first | omega | (simp; omega) | simp)]; simp [go_sem, *]
    have z1_0 : w.heap.size < w1.heap.size := by have := hb.size; (try simp at this); omega
    have k1_1a : w1.cell? ⟨(w.heap.size + 1), 0, none⟩ = some (.int .i64 c) := by rw [hc _ _ (by first | omega | (simp; omega) | simp)]; simp [go_sem, *]
    have k1_1b : w1.cell? ⟨(w.heap.size + 1), 1, none⟩ = some (.int .i64 d) := by rw [hc _ _ (by first | omega | (simp; omega) | simp)]; simp [go_sem, *]
    have z1_1 : (w.heap.size + 1) < w1.heap.size := by have := hb.size; (try simp at this); omega
    have hB1 : Below w.heap.size w w1 := by repeat (first | exact (Below.refl _ _) | refine Below.drew ?_ | refine below_drewN ?_ _ | refine Below.setCell ?_ (by first | omega | (simp; omega) | simp) _ | refine Below.alloc ?_ (by first | omega | (simp; omega) | simp) _ | refine chainB (by assumption) ?_)
    have hs1 : w.heap.size ≤ w1.heap.size := hB1.size
    clear hc hf hb 
    go_wp2_with fail
    go_ret
    exact ⟨rfl, by repeat (first | exact hB1 | refine Below.drew ?_ | refine below_drewN ?_ _ | refine Below.setCell ?_ (by first | omega | (simp; omega) | simp) _ | refine Below.alloc ?_ (by first | omega | (simp; omega) | simp) _ | refine chainB (by assumption) ?_)⟩
  · go_enter Try.func5, Try.ntmps5
    go_wp2_with fail
    refine (c1 _).mono ?_
    rintro e w1 ⟨rfl, hb⟩
    obtain ⟨hc, hf⟩ := bcell hb
    have k1_0a : w1.cell? ⟨w.heap.size, 0, none⟩ = some (.int .i64 a) := by rw [hc _ _ (by first | omega | (simp; omega) | simp)]; simp [go_sem, *]
    have k1_0b : w1.cell? ⟨w.heap.size, 1, none⟩ = some (.int .i64 b) := by rw [hc _ _ (by first | omega | (simp; omega) | simp)]; simp [go_sem, *]
    have z1_0 : w.heap.size < w1.heap.size := by have := hb.size; (try simp at this); omega
    have k1_1a : w1.cell? ⟨(w.heap.size + 1), 0, none⟩ = some (.int .i64 c) := by rw [hc _ _ (by first | omega | (simp; omega) | simp)]; simp [go_sem, *]
    have k1_1b : w1.cell? ⟨(w.heap.size + 1), 1, none⟩ = some (.int .i64 d) := by rw [hc _ _ (by first | omega | (simp; omega) | simp)]; simp [go_sem, *]
    have z1_1 : (w.heap.size + 1) < w1.heap.size := by have := hb.size; (try simp at this); omega
    have hB1 : Below w.heap.size w w1 := by repeat (first | exact (Below.refl _ _) | refine Below.drew ?_ | refine below_drewN ?_ _ | refine Below.setCell ?_ (by first | omega | (simp; omega) | simp) _ | refine Below.alloc ?_ (by first | omega | (simp; omega) | simp) _ | refine chainB (by assumption) ?_)
    have hs1 : w.heap.size ≤ w1.heap.size := hB1.size
    clear hc hf hb 
    go_wp2_with fail
    refine (d1 _).mono ?_
    rintro e w2 ⟨rfl, hb⟩
    obtain ⟨hc, hf⟩ := bcell hb
    have k2_0a : w2.cell? ⟨w.heap.size, 0, none⟩ = some (.int .i64 a) := by rw [hc _ _ (by first | omega | (simp; omega) | simp)]; simp [go_sem, *]
    have k2_0b : w2.cell? ⟨w.heap.size, 1, none⟩ = some (.int .i64 b) := by rw [hc _ _ (by first | omega | (simp; omega) | simp)]; simp [go_sem, *]
    have z2_0 : w.heap.size < w2.heap.size := by have := hb.size; (try simp at this); omega
    have k2_1a : w2.cell? ⟨(w.heap.size + 1), 0, none⟩ = some (.int .i64 c) := by rw [hc _ _ (by first | omega | (simp; omega) | simp)]; simp [go_sem, *]
    have k2_1b : w2.cell? ⟨(w.heap.size + 1), 1, none⟩ = some (.int .i64 d) := by rw [hc _ _ (by first | omega | (simp; omega) | simp)]; simp [go_sem, *]
    have z2_1 : (w.heap.size + 1) < w2.heap.size := by have := hb.size; (try simp at this); omega
    have hB2 : Below w.heap.size w w2 := by repeat (first | exact hB1 | refine Below.drew ?_ | refine below_drewN ?_ _ | refine Below.setCell ?_ (by first | omega | (simp; omega) | simp) _ | refine Below.alloc ?_ (by first | omega | (simp; omega) | simp) _ | refine chainB (by assumption) ?_)
    have hs2 : w.heap.size ≤ w2.heap.size := hB2.size
    clear hc hf hb k1_0a k1_0b z1_0 k1_1a k1_1b z1_1 hB1 hs1
    go_wp2_with fail
    refine (c2 _).mono ?_
    rintro e w3 ⟨rfl, hb⟩
    obtain ⟨hc, hf⟩ := bcell hb
    have k3_0a : w3.cell? ⟨w.heap.size, 0, none⟩ = some (.int .i64 a) := by rw [hc _ _ (by first | omega | (simp; omega) | simp)]; simp [go_sem, *]
    have k3_0b : w3.cell? ⟨w.heap.size, 1, none⟩ = some (.int .i64 b) := by rw [hc _ _ (by first | omega | (simp; omega) | simp)]; simp [go_sem, *]
    have z3_0 : w.heap.size < w3.heap.size := by have := hb.size; (try simp at this); omega
    have k3_1a : w3.cell? ⟨(w.heap.size + 1), 0, none⟩ = some (.int .i64 c) := by rw [hc _ _ (by first | omega | (simp; omega) | simp)]; simp [go_sem, *]
    have k3_1b : w3.cell? ⟨(w.heap.size + 1), 1, none⟩ = some (.int .i64 d) := by rw [hc _ _ (by first | omega | (simp; omega) | simp)]; simp [go_sem, *]
    have z3_1 : (w.heap.size + 1) < w3.heap.size := by have := hb.size; (try simp at this); omega
    have hB3 : Below w.heap.size w w3 := by repeat (first | exact hB2 | refine Below.drew ?_ | refine below_drewN ?_ _ | refine Below.setCell ?_ (by first | omega | (simp; omega) | simp) _ | refine Below.alloc ?_ (by first | omega | (simp; omega) | simp) _ | refine chainB (by assumption) ?_)
    have hs3 : w.heap.size ≤ w3.heap.size := hB3.size
    clear hc hf hb k2_0a k2_0b z2_0 k2_1a k2_1b z2_1 hB2 hs2
    go_wp2_with fail
    refine (d2 _).mono ?_
    rintro e w4 ⟨rfl, hb⟩
    obtain ⟨hc, hf⟩ := bcell hb
    have k4_0a : w4.cell? ⟨w.heap.size, 0, none⟩ = some (.int .i64 a) := by rw [hc _ _ (by first | omega | (simp; omega) | simp)]; simp [go_sem, *]
    have k4_0b : w4.cell? ⟨w.heap.size, 1, none⟩ = some (.int .i64 b) := by rw [hc _ _ (by first | omega | (simp; omega) | simp)]; simp [go_sem, *]
    have z4_0 : w.heap.size < w4.heap.size := by have := hb.size; (try simp at this); omega
    have k4_1a : w4.cell? ⟨(w.heap.size + 1), 0, none⟩ = some (.int .i64 c) := by rw [hc _ _ (by first | omega | (simp; omega) | simp)]; simp [go_sem, *]
    have k4_1b : w4.cell? ⟨(w.heap.size + 1), 1, none⟩ = some (.int .i64 d) := by rw [hc _ _ (by first | omega | (simp; omega) | simp)]; simp [go_sem, *]
    have z4_1 : (w.heap.size + 1) < w4.heap.size := by have := hb.size; (try simp at this); omega
    have hB4 : Below w.heap.size w w4 := by repeat (first | exact hB3 | refine Below.drew ?_ | refine below_drewN ?_ _ | refine Below.setCell ?_ (by first | omega | (simp; omega) | simp) _ | refine Below.alloc ?_ (by first | omega | (simp; omega) | simp) _ | refine chainB (by assumption) ?_)
    have hs4 : w.heap.size ≤ w4.heap.size := hB4.size
    clear hc hf hb k3_0a k3_0b z3_0 k3_1a k3_1b z3_1 hB3 hs3
    go_wp2_with fail
    have ec3 := c3 _ hB4
    refine ec3.mono ?_
    rintro e we ⟨rfl, rfl⟩
    clear ec3
    go_wp2_with fail
    have ed3 := d3 _ hB4
    refine ed3.mono ?_
    rintro e we ⟨rfl, rfl⟩
    clear ed3
    go_wp2_with fail
    have ec4 := c4 _ hB4
    refine ec4.mono ?_
    rintro e we ⟨rfl, rfl⟩
    clear ec4
    go_wp2_with fail
    have ed4 := d4 _ hB4
    refine ed4.mono ?_
    rintro e we ⟨rfl, rfl⟩
    clear ed4
    go_wp2_with fail
    refine (c5 _).mono ?_
    rintro e w5 ⟨rfl, hb⟩
    obtain ⟨hc, hf⟩ := bcell hb
    have k5_0a : w5.cell? ⟨w.heap.size, 0, none⟩ = some (.int .i64 a) := by rw [hc _ _ (by first | omega | (simp; omega) | simp)]; simp [go_sem, *]
    have k5_0b : w5.cell? ⟨w.heap.size, 1, none⟩ = some (.int .i64 b) := by rw [hc _ _ (by first | omega | (simp; omega) | simp)]; simp [go_sem, *]
    have z5_0 : w.heap.size < w5.heap.size := by have := hb.size; (try simp at this); omega
    have k5_1a : w5.cell? ⟨(w.heap.size + 1), 0, none⟩ = some (.int .i64 c) := by rw [hc _ _ (by first | omega | (simp; omega) | simp)]; simp [go_sem, *]
    have k5_1b : w5.cell? ⟨(w.heap.size + 1), 1, none⟩ = some (.int .i64 d) := by rw [hc _ _ (by first | omega | (simp; omega) | simp)]; simp [go_sem, *]
    have z5_1 : (w.heap.size + 1) < w5.heap.size := by have := hb.size; (try simp at this); omega
    have hB5 : Below w.heap.size w w5 := by repeat (first | exact hB4 | refine Below.drew ?_ | refine below_drewN ?_ _ | refine Below.setCell ?_ (by first | omega | (simp; omega) | simp) _ | refine Below.alloc ?_ (by first | omega | (simp; omega) | simp) _ | refine chainB (by assumption) ?_)
    have hs5 : w.heap.size ≤ w5.heap.size := hB5.size
    clear hc hf hb k4_0a k4_0b z4_0 k4_1a k4_1b z4_1 hB4 hs4
    go_wp2_with fail
    refine (d5 _).mono ?_
    rintro e w6 ⟨rfl, hb⟩
    obtain ⟨hc, hf⟩ := bcell hb
    have k6_0a : w6.cell? ⟨w.heap.size, 0, none⟩ = some (.int .i64 a) := by rw [hc _ _ (by first | omega | (simp; omega) | simp)]; simp [go_sem, *]
    have k6_0b : w6.cell? ⟨w.heap.size, 1, none⟩ = some (.int .i64 b) := by rw [hc _ _ (by first | omega | (simp; omega) | simp)]; simp [go_sem, *]
    have z6_0 : w.heap.size < w6.heap.size := by have := hb.size; (try simp at this); omega
    have k6_1a : w6.cell? ⟨(w.heap.size + 1), 0, none⟩ = some (.int .i64 c) := by rw [hc _ _ (by first | omega | (simp; omega) | simp)]; simp [go_sem, *]
    have k6_1b : w6.cell? ⟨(w.heap.size + 1), 1, none⟩ = some (.int .i64 d) := by rw [hc _ _ (by first | omega | (simp; omega) | simp)]; simp [go_sem, *]
    have z6_1 : (w.heap.size + 1) < w6.heap.size := by have := hb.size; (try simp at this); omega
    have hB6 : Below w.heap.size w w6 := by repeat (first | exact hB5 | refine Below.drew ?_ | refine below_drewN ?_ _ | refine Below.setCell ?_ (by first | omega | (simp; omega) | simp) _ | refine Below.alloc ?_ (by first | omega | (simp; omega) | simp) _ | refine chainB (by assumption) ?_)
    have hs6 : w.heap.size ≤ w6.heap.size := hB6.size
    clear hc hf hb k5_0a k5_0b z5_0 k5_1a k5_1b z5_1 hB5 hs5
    go_wp2_with fail
    refine (cW _).mono ?_
    rintro e w7 ⟨rfl, hb⟩
    obtain ⟨hc, hf⟩ := bcell hb
    have k7_0a : w7.cell? ⟨w.heap.size, 0, none⟩ = some (.int .i64 a) := by rw [hc _ _ (by first | omega | (simp; omega) | simp)]; simp [go_sem, *]
    have k7_0b : w7.cell? ⟨w.heap.size, 1, none⟩ = some (.int .i64 b) := by rw [hc _ _ (by first | omega | (simp; omega) | simp)]; simp [go_sem, *]
    have z7_0 : w.heap.size < w7.heap.size := by have := hb.size; (try simp at this); omega
    have k7_1a : w7.cell? ⟨(w.heap.size + 1), 0, none⟩ = some (.int .i64 c) := by rw [hc _ _ (by first | omega | (simp; omega) | simp)]; simp [go_sem, *]
    have k7_1b : w7.cell? ⟨(w.heap.size + 1), 1, none⟩ = some (.int .i64 d) := by rw [hc _ _ (by first | omega | (simp; omega) | simp)]; simp [go_sem, *]
    have z7_1 : (w.heap.size + 1) < w7.heap.size := by have := hb.size; (try simp at this); omega
    have hB7 : Below w.heap.size w w7 := by repeat (first | exact hB6 | refine Below.drew ?_ | refine below_drewN ?_ _ | refine Below.setCell ?_ (by first | omega | (simp; omega) | simp) _ | refine Below.alloc ?_ (by first | omega | (simp; omega) | simp) _ | refine chainB (by assumption) ?_)
    have hs7 : w.heap.size ≤ w7.heap.size := hB7.size
    clear hc hf hb k6_0a k6_0b z6_0 k6_1a k6_1b z6_1 hB6 hs6
    go_wp2_with fail
    go_ret
    exact ⟨rfl, by repeat (first | exact hB7 | refine Below.drew ?_ | refine below_drewN ?_ _ | refine Below.setCell ?_ (by first | omega | (simp; omega) | simp) _ | refine Below.alloc ?_ (by first | omega | (simp; omega) | simp) _ | refine chainB (by assumption) ?_)⟩
end Go.Proofs.Ytamelpfhbnkggaa

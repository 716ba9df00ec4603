/-
  BoundTight: the walk.
-/
import Derived.Test.YtamelpfhbnkggaaTightA
import Derived.Test.YtamelpfhbnkggaaOps
import Derived.Test.YtamelpfhbnkggaaScale
import Derived.Test.YtamelpfhbnkggaaDiv
import Derived.Deep.RegionHeld3
import Derived.Deep.CutRange
namespace Go.Proofs.Ytamelpfhbnkggaa
open Go.RowKit Go.Shelf
set_option linter.unusedSimpArgs false
/-- the block of the ten answers -/
def FB (W : World) (F : Nat) (g : Nat → Bool) : Prop := W.heap[F]? = some (.cells #[.bool (g 0), .bool (g 1), .bool (g 2), .bool (g 3), .bool (g 4), .bool (g 5), .bool (g 6), .bool (g 7), .bool (g 8), .bool (g 9)] 71 (0, 0))
theorem FB.lt {W : World} {F : Nat} {g : Nat → Bool} (h : FB W F g) : F < W.heap.size := (Array.getElem?_eq_some_iff.1 h).1
theorem FB.below {W W' : World} {F : Nat} {g : Nat → Bool} (h : FB W F g) (hb : Below W.heap.size W W') : FB W' F g := (hb.block F h.lt).trans h
theorem FB.fz {W : World} {F : Nat} {g : Nat → Bool} (h : FB W F g) (j : Nat) : W.frozen? ⟨F, j, none⟩ = false := by simp [World.frozen?, show W.heap[F]? = _ from h]
theorem FB.cell {W : World} {F : Nat} {g : Nat → Bool} (h : FB W F g) (j : Nat) (hj : j < 10) : W.cell? ⟨F, j, none⟩ = some (.bool (g j)) := by
  match j, hj with
  | 0, _ => simp [World.cell?, show W.heap[F]? = _ from h]
  | 1, _ => simp [World.cell?, show W.heap[F]? = _ from h]
  | 2, _ => simp [World.cell?, show W.heap[F]? = _ from h]
  | 3, _ => simp [World.cell?, show W.heap[F]? = _ from h]
  | 4, _ => simp [World.cell?, show W.heap[F]? = _ from h]
  | 5, _ => simp [World.cell?, show W.heap[F]? = _ from h]
  | 6, _ => simp [World.cell?, show W.heap[F]? = _ from h]
  | 7, _ => simp [World.cell?, show W.heap[F]? = _ from h]
  | 8, _ => simp [World.cell?, show W.heap[F]? = _ from h]
  | 9, _ => simp [World.cell?, show W.heap[F]? = _ from h]
theorem FB.congr {W : World} {F : Nat} {g g' : Nat → Bool} (h : FB W F g) (e : ∀ j, j < 10 → g j = g' j) : FB W F g' := by
  unfold FB at *
  rw [h, e 0 (by decide), e 1 (by decide), e 2 (by decide), e 3 (by decide), e 4 (by decide), e 5 (by decide), e 6 (by decide), e 7 (by decide), e 8 (by decide), e 9 (by decide)]
theorem FB.set {W : World} {F : Nat} {g : Nat → Bool} (h : FB W F g) (j : Nat) (hj : j < 10) (b : Bool) : FB (W.setCell ⟨F, j, none⟩ (.bool b)) F (fun i => if i = j then b else g i) := by
  unfold FB at *
  match j, hj with
  | 0, _ => simp [World.setCell, Array.getElem?_modify, h]
  | 1, _ => simp [World.setCell, Array.getElem?_modify, h]
  | 2, _ => simp [World.setCell, Array.getElem?_modify, h]
  | 3, _ => simp [World.setCell, Array.getElem?_modify, h]
  | 4, _ => simp [World.setCell, Array.getElem?_modify, h]
  | 5, _ => simp [World.setCell, Array.getElem?_modify, h]
  | 6, _ => simp [World.setCell, Array.getElem?_modify, h]
  | 7, _ => simp [World.setCell, Array.getElem?_modify, h]
  | 8, _ => simp [World.setCell, Array.getElem?_modify, h]
  | 9, _ => simp [World.setCell, Array.getElem?_modify, h]
/-- the first J answers have been brought up to date -/
def stp (g P : Nat → Bool) (J : Nat) : Nat → Bool := fun i => if i < J then g i || P i else g i
theorem FB.at {W : World} {F : Nat} {g P : Nat → Bool} {J : Nat} (h : FB W F (stp g P J)) (hJ : J < 10) : W.cell? ⟨F, J, none⟩ = some (.bool (g J)) := by
  have := h.cell J hJ
  rw [this]; simp [stp]
theorem FB.step {W : World} {F : Nat} {g P : Nat → Bool} {J : Nat} {b : Bool} (h : FB W F (stp g P J)) (hJ : J < 10) (e : b = (g J || P J)) : FB (W.setCell ⟨F, J, none⟩ (.bool b)) F (stp g P (J + 1)) := by
  refine (h.set J hJ b).congr fun j _ => ?_
  unfold stp
  by_cases h1 : j = J
  · subst h1; simp [e]
  · rw [if_neg h1]
    by_cases h2 : j < J
    · rw [if_pos h2, if_pos (by omega)]
    · rw [if_neg h2, if_neg (by omega)]
theorem FB.skip {W : World} {F : Nat} {g P : Nat → Bool} {J : Nat} (h : FB W F (stp g P J)) (e : P J = false) : FB W F (stp g P (J + 1)) := by
  refine h.congr fun j _ => ?_
  unfold stp
  by_cases h2 : j < J
  · rw [if_pos h2, if_pos (by omega)]
  · by_cases h1 : j = J
    · subst h1; simp [e]
    · rw [if_neg h2, if_neg (by omega)]
theorem FB.start {W : World} {F : Nat} {g : Nat → Bool} (P : Nat → Bool) (h : FB W F g) : FB W F (stp g P 0) := h.congr fun j _ => by unfold stp; rw [if_neg (by omega)]
theorem FB.done {W : World} {F : Nat} {g P g' : Nat → Bool} (h : FB W F (stp g P 10)) (e : ∀ j, j < 10 → (g j || P j) = g' j) : FB W F g' := h.congr fun j hj => by unfold stp; rw [if_pos hj]; exact e j hj
theorem setB {W A : World} {F : Nat} (h : Below F A W) (j : Nat) (v : Value) : Below F A (W.setCell ⟨F, j, none⟩ v) := h.setCell (p := ⟨F, j, none⟩) (Nat.le_refl _) v
theorem tX_bd {a b : Int} (k : Nat) (h1 : -1073741824 ≤ a) (h2 : a ≤ b) (h3 : b ≤ 1073741824) : -1073741824 ≤ tX a b k ∧ tX a b k ≤ 1073741824 := by unfold tX; split <;> omega
theorem tY_bd {a b : Int} (k : Nat) (h1 : -1073741824 ≤ a) (h2 : a ≤ b) (h3 : b ≤ 1073741824) : -1073741824 ≤ tY a b k ∧ tY a b k ≤ 1073741824 := by unfold tY; split <;> omega
set_option maxRecDepth 100000 in
set_option maxHeartbeats 32000000 in
theorem law_tight (a b c d n m : Int) (w : World) :
    Calls Try.prog 9 #[.agg #[.int .i64 a, .int .i64 b], .agg #[.int .i64 c, .int .i64 d], .int .i64 n, .int .i64 m] w fun e w' => e = .returned (.bool true) ∧ Below w.heap.size w w' := by
  have cW := fun w => works_any w
  by_cases hv1 : vB a b = true
  rotate_left
  · have v1 := fun w => valid_no a b hv1 w
    clear hv1
    go_enter Try.func9, Try.ntmps9
    go_wp2_with fail
    refine (v1 _).mono ?_
    rintro e w1 ⟨rfl, hb⟩
    obtain ⟨hc, hf⟩ := bcell hb
    have k1_00 : w1.cell? ⟨w.heap.size, 0, none⟩ = some (.int .i64 a) := by rw [hc _ _ (by first | omega | (simp; omega) | simp)]; simp [go_sem, *]
    have k1_01 : w1.cell? ⟨w.heap.size, 1, none⟩ = some (.int .i64 b) := by rw [hc _ _ (by first | omega | (simp; omega) | simp)]; simp [go_sem, *]
    have z1_0 : w.heap.size < w1.heap.size := by have := hb.size; (try simp at this); omega
    have k1_10 : w1.cell? ⟨(w.heap.size + 1), 0, none⟩ = some (.int .i64 c) := by rw [hc _ _ (by first | omega | (simp; omega) | simp)]; simp [go_sem, *]
    have k1_11 : w1.cell? ⟨(w.heap.size + 1), 1, none⟩ = some (.int .i64 d) := by rw [hc _ _ (by first | omega | (simp; omega) | simp)]; simp [go_sem, *]
    have z1_1 : (w.heap.size + 1) < w1.heap.size := by have := hb.size; (try simp at this); omega
    have hB1 : Below w.heap.size w w1 := by repeat (first | exact (Below.refl _ _) | refine Below.drew ?_ | refine below_drewN ?_ _ | refine Below.setCell ?_ (by first | omega | (simp; omega) | simp) _ | refine Below.alloc ?_ (by first | omega | (simp; omega) | simp) _ | refine chainB (by assumption) ?_)
    have hs1 : w.heap.size ≤ w1.heap.size := hB1.size
    clear hc hf hb 
    go_wp2_with fail
    refine (cW _).mono ?_
    rintro e w2 ⟨rfl, hb⟩
    obtain ⟨hc, hf⟩ := bcell hb
    have k2_00 : w2.cell? ⟨w.heap.size, 0, none⟩ = some (.int .i64 a) := by rw [hc _ _ (by first | omega | (simp; omega) | simp)]; simp [go_sem, *]
    have k2_01 : w2.cell? ⟨w.heap.size, 1, none⟩ = some (.int .i64 b) := by rw [hc _ _ (by first | omega | (simp; omega) | simp)]; simp [go_sem, *]
    have z2_0 : w.heap.size < w2.heap.size := by have := hb.size; (try simp at this); omega
    have k2_10 : w2.cell? ⟨(w.heap.size + 1), 0, none⟩ = some (.int .i64 c) := by rw [hc _ _ (by first | omega | (simp; omega) | simp)]; simp [go_sem, *]
    have k2_11 : w2.cell? ⟨(w.heap.size + 1), 1, none⟩ = some (.int .i64 d) := by rw [hc _ _ (by first | omega | (simp; omega) | simp)]; simp [go_sem, *]
    have z2_1 : (w.heap.size + 1) < w2.heap.size := by have := hb.size; (try simp at this); omega
    have hB2 : Below w.heap.size w w2 := by repeat (first | exact hB1 | refine Below.drew ?_ | refine below_drewN ?_ _ | refine Below.setCell ?_ (by first | omega | (simp; omega) | simp) _ | refine Below.alloc ?_ (by first | omega | (simp; omega) | simp) _ | refine chainB (by assumption) ?_)
    have hs2 : w.heap.size ≤ w2.heap.size := hB2.size
    clear hc hf hb k1_00 k1_01 z1_0 k1_10 k1_11 z1_1 hB1 hs1
    go_wp2_with fail
    go_ret
    exact ⟨rfl, by repeat (first | exact hB2 | refine Below.drew ?_ | refine below_drewN ?_ _ | refine Below.setCell ?_ (by first | omega | (simp; omega) | simp) _ | refine Below.alloc ?_ (by first | omega | (simp; omega) | simp) _ | refine chainB (by assumption) ?_)⟩
  by_cases hv2 : vB c d = true
  rotate_left
  · have v1 := fun w => valid_yes a b hv1 w
    have v2 := fun w => valid_no c d hv2 w
    clear hv1 hv2
    go_enter Try.func9, Try.ntmps9
    go_wp2_with fail
    refine (v1 _).mono ?_
    rintro e w1 ⟨rfl, hb⟩
    obtain ⟨hc, hf⟩ := bcell hb
    have k1_00 : w1.cell? ⟨w.heap.size, 0, none⟩ = some (.int .i64 a) := by rw [hc _ _ (by first | omega | (simp; omega) | simp)]; simp [go_sem, *]
    have k1_01 : w1.cell? ⟨w.heap.size, 1, none⟩ = some (.int .i64 b) := by rw [hc _ _ (by first | omega | (simp; omega) | simp)]; simp [go_sem, *]
    have z1_0 : w.heap.size < w1.heap.size := by have := hb.size; (try simp at this); omega
    have k1_10 : w1.cell? ⟨(w.heap.size + 1), 0, none⟩ = some (.int .i64 c) := by rw [hc _ _ (by first | omega | (simp; omega) | simp)]; simp [go_sem, *]
    have k1_11 : w1.cell? ⟨(w.heap.size + 1), 1, none⟩ = some (.int .i64 d) := by rw [hc _ _ (by first | omega | (simp; omega) | simp)]; simp [go_sem, *]
    have z1_1 : (w.heap.size + 1) < w1.heap.size := by have := hb.size; (try simp at this); omega
    have hB1 : Below w.heap.size w w1 := by repeat (first | exact (Below.refl _ _) | refine Below.drew ?_ | refine below_drewN ?_ _ | refine Below.setCell ?_ (by first | omega | (simp; omega) | simp) _ | refine Below.alloc ?_ (by first | omega | (simp; omega) | simp) _ | refine chainB (by assumption) ?_)
    have hs1 : w.heap.size ≤ w1.heap.size := hB1.size
    clear hc hf hb 
    go_wp2_with fail
    refine (v2 _).mono ?_
    rintro e w2 ⟨rfl, hb⟩
    obtain ⟨hc, hf⟩ := bcell hb
    have k2_00 : w2.cell? ⟨w.heap.size, 0, none⟩ = some (.int .i64 a) := by rw [hc _ _ (by first | omega | (simp; omega) | simp)]; simp [go_sem, *]
    have k2_01 : w2.cell? ⟨w.heap.size, 1, none⟩ = some (.int .i64 b) := by rw [hc _ _ (by first | omega | (simp; omega) | simp)]; simp [go_sem, *]
    have z2_0 : w.heap.size < w2.heap.size := by have := hb.size; (try simp at this); omega
    have k2_10 : w2.cell? ⟨(w.heap.size + 1), 0, none⟩ = some (.int .i64 c) := by rw [hc _ _ (by first | omega | (simp; omega) | simp)]; simp [go_sem, *]
    have k2_11 : w2.cell? ⟨(w.heap.size + 1), 1, none⟩ = some (.int .i64 d) := by rw [hc _ _ (by first | omega | (simp; omega) | simp)]; simp [go_sem, *]
    have z2_1 : (w.heap.size + 1) < w2.heap.size := by have := hb.size; (try simp at this); omega
    have hB2 : Below w.heap.size w w2 := by repeat (first | exact hB1 | refine Below.drew ?_ | refine below_drewN ?_ _ | refine Below.setCell ?_ (by first | omega | (simp; omega) | simp) _ | refine Below.alloc ?_ (by first | omega | (simp; omega) | simp) _ | refine chainB (by assumption) ?_)
    have hs2 : w.heap.size ≤ w2.heap.size := hB2.size
    clear hc hf hb k1_00 k1_01 z1_0 k1_10 k1_11 z1_1 hB1 hs1
    go_wp2_with fail
    refine (cW _).mono ?_
    rintro e w3 ⟨rfl, hb⟩
    obtain ⟨hc, hf⟩ := bcell hb
    have k3_00 : w3.cell? ⟨w.heap.size, 0, none⟩ = some (.int .i64 a) := by rw [hc _ _ (by first | omega | (simp; omega) | simp)]; simp [go_sem, *]
    have k3_01 : w3.cell? ⟨w.heap.size, 1, none⟩ = some (.int .i64 b) := by rw [hc _ _ (by first | omega | (simp; omega) | simp)]; simp [go_sem, *]
    have z3_0 : w.heap.size < w3.heap.size := by have := hb.size; (try simp at this); omega
    have k3_10 : w3.cell? ⟨(w.heap.size + 1), 0, none⟩ = some (.int .i64 c) := by rw [hc _ _ (by first | omega | (simp; omega) | simp)]; simp [go_sem, *]
    have k3_11 : w3.cell? ⟨(w.heap.size + 1), 1, none⟩ = some (.int .i64 d) := by rw [hc _ _ (by first | omega | (simp; omega) | simp)]; simp [go_sem, *]
    have z3_1 : (w.heap.size + 1) < w3.heap.size := by have := hb.size; (try simp at this); omega
    have hB3 : Below w.heap.size w w3 := by repeat (first | exact hB2 | refine Below.drew ?_ | refine below_drewN ?_ _ | refine Below.setCell ?_ (by first | omega | (simp; omega) | simp) _ | refine Below.alloc ?_ (by first | omega | (simp; omega) | simp) _ | refine chainB (by assumption) ?_)
    have hs3 : w.heap.size ≤ w3.heap.size := hB3.size
    clear hc hf hb k2_00 k2_01 z2_0 k2_10 k2_11 z2_1 hB2 hs2
    go_wp2_with fail
    go_ret
    exact ⟨rfl, by repeat (first | exact hB3 | refine Below.drew ?_ | refine below_drewN ?_ _ | refine Below.setCell ?_ (by first | omega | (simp; omega) | simp) _ | refine Below.alloc ?_ (by first | omega | (simp; omega) | simp) _ | refine chainB (by assumption) ?_)⟩
  have v1 := fun w => valid_yes a b hv1 w
  have v2 := fun w => valid_yes c d hv2 w
  have c64 := fun w => add_any a b c d w
  have c66 := fun w => sub_any a b c d w
  have c67 := fun w => mul_any a b c d w
  have c68 := fun w => div_any a b c d w
  have c23 := fun w => scale_any a b n m w
  have c25 := fun w => root_any a b w
  have t1 := Lib.hid (fun (z : T5) => tight_add (z := z) ⟨hv1, hv2⟩)
  have t2 := Lib.hid (fun (z : T5) => tight_sub (z := z) ⟨hv1, hv2⟩)
  have t3 := Lib.hid (fun (z : T5) => tight_mul (z := z) ⟨hv1, hv2⟩)
  have t4 := Lib.hid (fun (z : T5) => tight_div (z := z) ⟨hv1, hv2⟩)
  have t5 := Lib.hid (fun (z : T5) => tight_scale (z := z) (a := a) (b := b) (c := c) (d := d) hv1)
  have t6 := Lib.hid (tight_root hv1)
  obtain ⟨ga1, ga2, ga3⟩ := (vB_iff a b).1 hv1
  obtain ⟨gc1, gc2, gc3⟩ := (vB_iff c d).1 hv2
  clear hv1 hv2
  generalize hRR : rootR a b = RR at *
  generalize hZ1 : addS a b c d = Z1 at *
  generalize hZ2 : subS a b c d = Z2 at *
  generalize hZ3 : mulS a b c d = Z3 at *
  generalize hZ4 : divS a b c d = Z4 at *
  generalize hZ5 : scaleS a b n m = Z5 at *
  have T1 := t1.out ⟨Z1, Z2, Z3, Z4, Z5, n, m⟩ rfl
  have T2 := t2.out ⟨Z1, Z2, Z3, Z4, Z5, n, m⟩ rfl
  have T3 := t3.out ⟨Z1, Z2, Z3, Z4, Z5, n, m⟩ rfl
  have T4 := t4.out ⟨Z1, Z2, Z3, Z4, Z5, n, m⟩ rfl
  have T5' := t5.out ⟨Z1, Z2, Z3, Z4, Z5, n, m⟩ hZ5.symm
  clear t1 t2 t3 t4 t5 hRR hZ1 hZ2 hZ3 hZ4 hZ5
  obtain ⟨z, hz⟩ : ∃ z : T5, z = ⟨Z1, Z2, Z3, Z4, Z5, n, m⟩ := ⟨_, rfl⟩
  rw [← hz] at T1 T2 T3 T4 T5'
  have H1 := Lib.hid T1
  have H2 := Lib.hid T2
  have H3 := Lib.hid T3
  have H4 := Lib.hid T4
  have H5 := Lib.hid T5'
  have e1 : Z1 = z.s := by rw [hz]
  have e2 : Z2 = z.t := by rw [hz]
  have e3 : Z3 = z.m := by rw [hz]
  have e4 : Z4 = z.q := by rw [hz]
  have e5 : Z5 = z.c := by rw [hz]
  have e6 : n = z.n := by rw [hz]
  have e7 : m = z.d := by rw [hz]
  clear hz T1 T2 T3 T4 T5'
  subst e1 e2 e3 e4 e5 e6 e7
  go_enter Try.func9, Try.ntmps9
  go_wp2_with fail
  refine (v1 _).mono ?_
  rintro e w1 ⟨rfl, hb⟩
  obtain ⟨hc, hf⟩ := bcell hb
  have k1_00 : w1.cell? ⟨w.heap.size, 0, none⟩ = some (.int .i64 a) := by rw [hc _ _ (by first | omega | (simp; omega) | simp)]; simp [go_sem, *]
  have k1_01 : w1.cell? ⟨w.heap.size, 1, none⟩ = some (.int .i64 b) := by rw [hc _ _ (by first | omega | (simp; omega) | simp)]; simp [go_sem, *]
  have z1_0 : w.heap.size < w1.heap.size := by have := hb.size; (try simp at this); omega
  have k1_10 : w1.cell? ⟨(w.heap.size + 1), 0, none⟩ = some (.int .i64 c) := by rw [hc _ _ (by first | omega | (simp; omega) | simp)]; simp [go_sem, *]
  have k1_11 : w1.cell? ⟨(w.heap.size + 1), 1, none⟩ = some (.int .i64 d) := by rw [hc _ _ (by first | omega | (simp; omega) | simp)]; simp [go_sem, *]
  have z1_1 : (w.heap.size + 1) < w1.heap.size := by have := hb.size; (try simp at this); omega
  have hB1 : Below w.heap.size w w1 := by repeat (first | exact (Below.refl _ _) | refine Below.drew ?_ | refine below_drewN ?_ _ | refine Below.setCell ?_ (by first | omega | (simp; omega) | simp) _ | refine Below.alloc ?_ (by first | omega | (simp; omega) | simp) _ | refine chainB (by assumption) ?_)
  have hs1 : w.heap.size ≤ w1.heap.size := hB1.size
  clear hc hf hb 
  go_wp2_with fail
  refine (v2 _).mono ?_
  rintro e w2 ⟨rfl, hb⟩
  obtain ⟨hc, hf⟩ := bcell hb
  have k2_00 : w2.cell? ⟨w.heap.size, 0, none⟩ = some (.int .i64 a) := by rw [hc _ _ (by first | omega | (simp; omega) | simp)]; simp [go_sem, *]
  have k2_01 : w2.cell? ⟨w.heap.size, 1, none⟩ = some (.int .i64 b) := by rw [hc _ _ (by first | omega | (simp; omega) | simp)]; simp [go_sem, *]
  have z2_0 : w.heap.size < w2.heap.size := by have := hb.size; (try simp at this); omega
  have k2_10 : w2.cell? ⟨(w.heap.size + 1), 0, none⟩ = some (.int .i64 c) := by rw [hc _ _ (by first | omega | (simp; omega) | simp)]; simp [go_sem, *]
  have k2_11 : w2.cell? ⟨(w.heap.size + 1), 1, none⟩ = some (.int .i64 d) := by rw [hc _ _ (by first | omega | (simp; omega) | simp)]; simp [go_sem, *]
  have z2_1 : (w.heap.size + 1) < w2.heap.size := by have := hb.size; (try simp at this); omega
  have hB2 : Below w.heap.size w w2 := by repeat (first | exact hB1 | refine Below.drew ?_ | refine below_drewN ?_ _ | refine Below.setCell ?_ (by first | omega | (simp; omega) | simp) _ | refine Below.alloc ?_ (by first | omega | (simp; omega) | simp) _ | refine chainB (by assumption) ?_)
  have hs2 : w.heap.size ≤ w2.heap.size := hB2.size
  clear hc hf hb k1_00 k1_01 z1_0 k1_10 k1_11 z1_1 hB1 hs1
  go_wp2_with fail
  refine (c64 _).mono ?_
  rintro e w3 ⟨rfl, hb⟩
  obtain ⟨hc, hf⟩ := bcell hb
  have k3_00 : w3.cell? ⟨w.heap.size, 0, none⟩ = some (.int .i64 a) := by rw [hc _ _ (by first | omega | (simp; omega) | simp)]; simp [go_sem, *]
  have k3_01 : w3.cell? ⟨w.heap.size, 1, none⟩ = some (.int .i64 b) := by rw [hc _ _ (by first | omega | (simp; omega) | simp)]; simp [go_sem, *]
  have z3_0 : w.heap.size < w3.heap.size := by have := hb.size; (try simp at this); omega
  have k3_10 : w3.cell? ⟨(w.heap.size + 1), 0, none⟩ = some (.int .i64 c) := by rw [hc _ _ (by first | omega | (simp; omega) | simp)]; simp [go_sem, *]
  have k3_11 : w3.cell? ⟨(w.heap.size + 1), 1, none⟩ = some (.int .i64 d) := by rw [hc _ _ (by first | omega | (simp; omega) | simp)]; simp [go_sem, *]
  have z3_1 : (w.heap.size + 1) < w3.heap.size := by have := hb.size; (try simp at this); omega
  have k3_20 : w3.cell? ⟨w2.heap.size, 0, none⟩ = some (.int .i64 a) := by rw [hc _ _ (by first | omega | (simp; omega) | simp)]; simp [go_sem, *]
  have k3_21 : w3.cell? ⟨w2.heap.size, 1, none⟩ = some (.int .i64 c) := by rw [hc _ _ (by first | omega | (simp; omega) | simp)]; simp [go_sem, *]
  have k3_22 : w3.cell? ⟨w2.heap.size, 2, none⟩ = some (.int .i64 a) := by rw [hc _ _ (by first | omega | (simp; omega) | simp)]; simp [go_sem, *]
  have k3_23 : w3.cell? ⟨w2.heap.size, 3, none⟩ = some (.int .i64 d) := by rw [hc _ _ (by first | omega | (simp; omega) | simp)]; simp [go_sem, *]
  have k3_24 : w3.cell? ⟨w2.heap.size, 4, none⟩ = some (.int .i64 b) := by rw [hc _ _ (by first | omega | (simp; omega) | simp)]; simp [go_sem, *]
  have k3_25 : w3.cell? ⟨w2.heap.size, 5, none⟩ = some (.int .i64 c) := by rw [hc _ _ (by first | omega | (simp; omega) | simp)]; simp [go_sem, *]
  have k3_26 : w3.cell? ⟨w2.heap.size, 6, none⟩ = some (.int .i64 b) := by rw [hc _ _ (by first | omega | (simp; omega) | simp)]; simp [go_sem, *]
  have k3_27 : w3.cell? ⟨w2.heap.size, 7, none⟩ = some (.int .i64 d) := by rw [hc _ _ (by first | omega | (simp; omega) | simp)]; simp [go_sem, *]
  have z3_2 : w2.heap.size < w3.heap.size := by have := hb.size; (try simp at this); omega
  have hB3 : Below w.heap.size w w3 := by repeat (first | exact hB2 | refine Below.drew ?_ | refine below_drewN ?_ _ | refine Below.setCell ?_ (by first | omega | (simp; omega) | simp) _ | refine Below.alloc ?_ (by first | omega | (simp; omega) | simp) _ | refine chainB (by assumption) ?_)
  have hs3 : w.heap.size ≤ w3.heap.size := hB3.size
  clear hc hf hb k2_00 k2_01 z2_0 k2_10 k2_11 z2_1 hB2 hs2
  go_wp2_with fail
  refine (c66 _).mono ?_
  rintro e w4 ⟨rfl, hb⟩
  obtain ⟨hc, hf⟩ := bcell hb
  have k4_00 : w4.cell? ⟨w.heap.size, 0, none⟩ = some (.int .i64 a) := by rw [hc _ _ (by first | omega | (simp; omega) | simp)]; simp [go_sem, *]
  have k4_01 : w4.cell? ⟨w.heap.size, 1, none⟩ = some (.int .i64 b) := by rw [hc _ _ (by first | omega | (simp; omega) | simp)]; simp [go_sem, *]
  have z4_0 : w.heap.size < w4.heap.size := by have := hb.size; (try simp at this); omega
  have k4_10 : w4.cell? ⟨(w.heap.size + 1), 0, none⟩ = some (.int .i64 c) := by rw [hc _ _ (by first | omega | (simp; omega) | simp)]; simp [go_sem, *]
  have k4_11 : w4.cell? ⟨(w.heap.size + 1), 1, none⟩ = some (.int .i64 d) := by rw [hc _ _ (by first | omega | (simp; omega) | simp)]; simp [go_sem, *]
  have z4_1 : (w.heap.size + 1) < w4.heap.size := by have := hb.size; (try simp at this); omega
  have k4_20 : w4.cell? ⟨w2.heap.size, 0, none⟩ = some (.int .i64 a) := by rw [hc _ _ (by first | omega | (simp; omega) | simp)]; simp [go_sem, *]
  have k4_21 : w4.cell? ⟨w2.heap.size, 1, none⟩ = some (.int .i64 c) := by rw [hc _ _ (by first | omega | (simp; omega) | simp)]; simp [go_sem, *]
  have k4_22 : w4.cell? ⟨w2.heap.size, 2, none⟩ = some (.int .i64 a) := by rw [hc _ _ (by first | omega | (simp; omega) | simp)]; simp [go_sem, *]
  have k4_23 : w4.cell? ⟨w2.heap.size, 3, none⟩ = some (.int .i64 d) := by rw [hc _ _ (by first | omega | (simp; omega) | simp)]; simp [go_sem, *]
  have k4_24 : w4.cell? ⟨w2.heap.size, 4, none⟩ = some (.int .i64 b) := by rw [hc _ _ (by first | omega | (simp; omega) | simp)]; simp [go_sem, *]
  have k4_25 : w4.cell? ⟨w2.heap.size, 5, none⟩ = some (.int .i64 c) := by rw [hc _ _ (by first | omega | (simp; omega) | simp)]; simp [go_sem, *]
  have k4_26 : w4.cell? ⟨w2.heap.size, 6, none⟩ = some (.int .i64 b) := by rw [hc _ _ (by first | omega | (simp; omega) | simp)]; simp [go_sem, *]
  have k4_27 : w4.cell? ⟨w2.heap.size, 7, none⟩ = some (.int .i64 d) := by rw [hc _ _ (by first | omega | (simp; omega) | simp)]; simp [go_sem, *]
  have z4_2 : w2.heap.size < w4.heap.size := by have := hb.size; (try simp at this); omega
  have k4_30 : w4.cell? ⟨w3.heap.size, 0, none⟩ = some (.int .i64 z.s.lo) := by rw [hc _ _ (by first | omega | (simp; omega) | simp)]; simp [go_sem, *]
  have k4_31 : w4.cell? ⟨w3.heap.size, 1, none⟩ = some (.int .i64 z.s.hi) := by rw [hc _ _ (by first | omega | (simp; omega) | simp)]; simp [go_sem, *]
  have z4_3 : w3.heap.size < w4.heap.size := by have := hb.size; (try simp at this); omega
  have hB4 : Below w.heap.size w w4 := by repeat (first | exact hB3 | refine Below.drew ?_ | refine below_drewN ?_ _ | refine Below.setCell ?_ (by first | omega | (simp; omega) | simp) _ | refine Below.alloc ?_ (by first | omega | (simp; omega) | simp) _ | refine chainB (by assumption) ?_)
  have hs4 : w.heap.size ≤ w4.heap.size := hB4.size
  clear hc hf hb k3_00 k3_01 z3_0 k3_10 k3_11 z3_1 k3_20 k3_21 k3_22 k3_23 k3_24 k3_25 k3_26 k3_27 z3_2 hB3 hs3
  go_wp2_with fail
  refine (c67 _).mono ?_
  rintro e w5 ⟨rfl, hb⟩
  obtain ⟨hc, hf⟩ := bcell hb
  have k5_00 : w5.cell? ⟨w.heap.size, 0, none⟩ = some (.int .i64 a) := by rw [hc _ _ (by first | omega | (simp; omega) | simp)]; simp [go_sem, *]
  have k5_01 : w5.cell? ⟨w.heap.size, 1, none⟩ = some (.int .i64 b) := by rw [hc _ _ (by first | omega | (simp; omega) | simp)]; simp [go_sem, *]
  have z5_0 : w.heap.size < w5.heap.size := by have := hb.size; (try simp at this); omega
  have k5_10 : w5.cell? ⟨(w.heap.size + 1), 0, none⟩ = some (.int .i64 c) := by rw [hc _ _ (by first | omega | (simp; omega) | simp)]; simp [go_sem, *]
  have k5_11 : w5.cell? ⟨(w.heap.size + 1), 1, none⟩ = some (.int .i64 d) := by rw [hc _ _ (by first | omega | (simp; omega) | simp)]; simp [go_sem, *]
  have z5_1 : (w.heap.size + 1) < w5.heap.size := by have := hb.size; (try simp at this); omega
  have k5_20 : w5.cell? ⟨w2.heap.size, 0, none⟩ = some (.int .i64 a) := by rw [hc _ _ (by first | omega | (simp; omega) | simp)]; simp [go_sem, *]
  have k5_21 : w5.cell? ⟨w2.heap.size, 1, none⟩ = some (.int .i64 c) := by rw [hc _ _ (by first | omega | (simp; omega) | simp)]; simp [go_sem, *]
  have k5_22 : w5.cell? ⟨w2.heap.size, 2, none⟩ = some (.int .i64 a) := by rw [hc _ _ (by first | omega | (simp; omega) | simp)]; simp [go_sem, *]
  have k5_23 : w5.cell? ⟨w2.heap.size, 3, none⟩ = some (.int .i64 d) := by rw [hc _ _ (by first | omega | (simp; omega) | simp)]; simp [go_sem, *]
  have k5_24 : w5.cell? ⟨w2.heap.size, 4, none⟩ = some (.int .i64 b) := by rw [hc _ _ (by first | omega | (simp; omega) | simp)]; simp [go_sem, *]
  have k5_25 : w5.cell? ⟨w2.heap.size, 5, none⟩ = some (.int .i64 c) := by rw [hc _ _ (by first | omega | (simp; omega) | simp)]; simp [go_sem, *]
  have k5_26 : w5.cell? ⟨w2.heap.size, 6, none⟩ = some (.int .i64 b) := by rw [hc _ _ (by first | omega | (simp; omega) | simp)]; simp [go_sem, *]
  have k5_27 : w5.cell? ⟨w2.heap.size, 7, none⟩ = some (.int .i64 d) := by rw [hc _ _ (by first | omega | (simp; omega) | simp)]; simp [go_sem, *]
  have z5_2 : w2.heap.size < w5.heap.size := by have := hb.size; (try simp at this); omega
  have k5_30 : w5.cell? ⟨w3.heap.size, 0, none⟩ = some (.int .i64 z.s.lo) := by rw [hc _ _ (by first | omega | (simp; omega) | simp)]; simp [go_sem, *]
  have k5_31 : w5.cell? ⟨w3.heap.size, 1, none⟩ = some (.int .i64 z.s.hi) := by rw [hc _ _ (by first | omega | (simp; omega) | simp)]; simp [go_sem, *]
  have z5_3 : w3.heap.size < w5.heap.size := by have := hb.size; (try simp at this); omega
  have k5_40 : w5.cell? ⟨w4.heap.size, 0, none⟩ = some (.int .i64 z.t.lo) := by rw [hc _ _ (by first | omega | (simp; omega) | simp)]; simp [go_sem, *]
  have k5_41 : w5.cell? ⟨w4.heap.size, 1, none⟩ = some (.int .i64 z.t.hi) := by rw [hc _ _ (by first | omega | (simp; omega) | simp)]; simp [go_sem, *]
  have z5_4 : w4.heap.size < w5.heap.size := by have := hb.size; (try simp at this); omega
  have hB5 : Below w.heap.size w w5 := by repeat (first | exact hB4 | refine Below.drew ?_ | refine below_drewN ?_ _ | refine Below.setCell ?_ (by first | omega | (simp; omega) | simp) _ | refine Below.alloc ?_ (by first | omega | (simp; omega) | simp) _ | refine chainB (by assumption) ?_)
  have hs5 : w.heap.size ≤ w5.heap.size := hB5.size
  clear hc hf hb k4_00 k4_01 z4_0 k4_10 k4_11 z4_1 k4_20 k4_21 k4_22 k4_23 k4_24 k4_25 k4_26 k4_27 z4_2 k4_30 k4_31 z4_3 hB4 hs4
  go_wp2_with fail
  refine (c68 _).mono ?_
  rintro e w6 ⟨rfl, hb⟩
  obtain ⟨hc, hf⟩ := bcell hb
  have k6_00 : w6.cell? ⟨w.heap.size, 0, none⟩ = some (.int .i64 a) := by rw [hc _ _ (by first | omega | (simp; omega) | simp)]; simp [go_sem, *]
  have k6_01 : w6.cell? ⟨w.heap.size, 1, none⟩ = some (.int .i64 b) := by rw [hc _ _ (by first | omega | (simp; omega) | simp)]; simp [go_sem, *]
  have z6_0 : w.heap.size < w6.heap.size := by have := hb.size; (try simp at this); omega
  have k6_10 : w6.cell? ⟨(w.heap.size + 1), 0, none⟩ = some (.int .i64 c) := by rw [hc _ _ (by first | omega | (simp; omega) | simp)]; simp [go_sem, *]
  have k6_11 : w6.cell? ⟨(w.heap.size + 1), 1, none⟩ = some (.int .i64 d) := by rw [hc _ _ (by first | omega | (simp; omega) | simp)]; simp [go_sem, *]
  have z6_1 : (w.heap.size + 1) < w6.heap.size := by have := hb.size; (try simp at this); omega
  have k6_20 : w6.cell? ⟨w2.heap.size, 0, none⟩ = some (.int .i64 a) := by rw [hc _ _ (by first | omega | (simp; omega) | simp)]; simp [go_sem, *]
  have k6_21 : w6.cell? ⟨w2.heap.size, 1, none⟩ = some (.int .i64 c) := by rw [hc _ _ (by first | omega | (simp; omega) | simp)]; simp [go_sem, *]
  have k6_22 : w6.cell? ⟨w2.heap.size, 2, none⟩ = some (.int .i64 a) := by rw [hc _ _ (by first | omega | (simp; omega) | simp)]; simp [go_sem, *]
  have k6_23 : w6.cell? ⟨w2.heap.size, 3, none⟩ = some (.int .i64 d) := by rw [hc _ _ (by first | omega | (simp; omega) | simp)]; simp [go_sem, *]
  have k6_24 : w6.cell? ⟨w2.heap.size, 4, none⟩ = some (.int .i64 b) := by rw [hc _ _ (by first | omega | (simp; omega) | simp)]; simp [go_sem, *]
  have k6_25 : w6.cell? ⟨w2.heap.size, 5, none⟩ = some (.int .i64 c) := by rw [hc _ _ (by first | omega | (simp; omega) | simp)]; simp [go_sem, *]
  have k6_26 : w6.cell? ⟨w2.heap.size, 6, none⟩ = some (.int .i64 b) := by rw [hc _ _ (by first | omega | (simp; omega) | simp)]; simp [go_sem, *]
  have k6_27 : w6.cell? ⟨w2.heap.size, 7, none⟩ = some (.int .i64 d) := by rw [hc _ _ (by first | omega | (simp; omega) | simp)]; simp [go_sem, *]
  have z6_2 : w2.heap.size < w6.heap.size := by have := hb.size; (try simp at this); omega
  have k6_30 : w6.cell? ⟨w3.heap.size, 0, none⟩ = some (.int .i64 z.s.lo) := by rw [hc _ _ (by first | omega | (simp; omega) | simp)]; simp [go_sem, *]
  have k6_31 : w6.cell? ⟨w3.heap.size, 1, none⟩ = some (.int .i64 z.s.hi) := by rw [hc _ _ (by first | omega | (simp; omega) | simp)]; simp [go_sem, *]
  have z6_3 : w3.heap.size < w6.heap.size := by have := hb.size; (try simp at this); omega
  have k6_40 : w6.cell? ⟨w4.heap.size, 0, none⟩ = some (.int .i64 z.t.lo) := by rw [hc _ _ (by first | omega | (simp; omega) | simp)]; simp [go_sem, *]
  have k6_41 : w6.cell? ⟨w4.heap.size, 1, none⟩ = some (.int .i64 z.t.hi) := by rw [hc _ _ (by first | omega | (simp; omega) | simp)]; simp [go_sem, *]
  have z6_4 : w4.heap.size < w6.heap.size := by have := hb.size; (try simp at this); omega
  have k6_50 : w6.cell? ⟨w5.heap.size, 0, none⟩ = some (.int .i64 z.m.lo) := by rw [hc _ _ (by first | omega | (simp; omega) | simp)]; simp [go_sem, *]
  have k6_51 : w6.cell? ⟨w5.heap.size, 1, none⟩ = some (.int .i64 z.m.hi) := by rw [hc _ _ (by first | omega | (simp; omega) | simp)]; simp [go_sem, *]
  have z6_5 : w5.heap.size < w6.heap.size := by have := hb.size; (try simp at this); omega
  have hB6 : Below w.heap.size w w6 := by repeat (first | exact hB5 | refine Below.drew ?_ | refine below_drewN ?_ _ | refine Below.setCell ?_ (by first | omega | (simp; omega) | simp) _ | refine Below.alloc ?_ (by first | omega | (simp; omega) | simp) _ | refine chainB (by assumption) ?_)
  have hs6 : w.heap.size ≤ w6.heap.size := hB6.size
  clear hc hf hb k5_00 k5_01 z5_0 k5_10 k5_11 z5_1 k5_20 k5_21 k5_22 k5_23 k5_24 k5_25 k5_26 k5_27 z5_2 k5_30 k5_31 z5_3 k5_40 k5_41 z5_4 hB5 hs5
  go_wp2_with fail
  refine (c23 _).mono ?_
  rintro e w7 ⟨rfl, hb⟩
  obtain ⟨hc, hf⟩ := bcell hb
  have k7_00 : w7.cell? ⟨w.heap.size, 0, none⟩ = some (.int .i64 a) := by rw [hc _ _ (by first | omega | (simp; omega) | simp)]; simp [go_sem, *]
  have k7_01 : w7.cell? ⟨w.heap.size, 1, none⟩ = some (.int .i64 b) := by rw [hc _ _ (by first | omega | (simp; omega) | simp)]; simp [go_sem, *]
  have z7_0 : w.heap.size < w7.heap.size := by have := hb.size; (try simp at this); omega
  have k7_10 : w7.cell? ⟨(w.heap.size + 1), 0, none⟩ = some (.int .i64 c) := by rw [hc _ _ (by first | omega | (simp; omega) | simp)]; simp [go_sem, *]
  have k7_11 : w7.cell? ⟨(w.heap.size + 1), 1, none⟩ = some (.int .i64 d) := by rw [hc _ _ (by first | omega | (simp; omega) | simp)]; simp [go_sem, *]
  have z7_1 : (w.heap.size + 1) < w7.heap.size := by have := hb.size; (try simp at this); omega
  have k7_20 : w7.cell? ⟨w2.heap.size, 0, none⟩ = some (.int .i64 a) := by rw [hc _ _ (by first | omega | (simp; omega) | simp)]; simp [go_sem, *]
  have k7_21 : w7.cell? ⟨w2.heap.size, 1, none⟩ = some (.int .i64 c) := by rw [hc _ _ (by first | omega | (simp; omega) | simp)]; simp [go_sem, *]
  have k7_22 : w7.cell? ⟨w2.heap.size, 2, none⟩ = some (.int .i64 a) := by rw [hc _ _ (by first | omega | (simp; omega) | simp)]; simp [go_sem, *]
  have k7_23 : w7.cell? ⟨w2.heap.size, 3, none⟩ = some (.int .i64 d) := by rw [hc _ _ (by first | omega | (simp; omega) | simp)]; simp [go_sem, *]
  have k7_24 : w7.cell? ⟨w2.heap.size, 4, none⟩ = some (.int .i64 b) := by rw [hc _ _ (by first | omega | (simp; omega) | simp)]; simp [go_sem, *]
  have k7_25 : w7.cell? ⟨w2.heap.size, 5, none⟩ = some (.int .i64 c) := by rw [hc _ _ (by first | omega | (simp; omega) | simp)]; simp [go_sem, *]
  have k7_26 : w7.cell? ⟨w2.heap.size, 6, none⟩ = some (.int .i64 b) := by rw [hc _ _ (by first | omega | (simp; omega) | simp)]; simp [go_sem, *]
  have k7_27 : w7.cell? ⟨w2.heap.size, 7, none⟩ = some (.int .i64 d) := by rw [hc _ _ (by first | omega | (simp; omega) | simp)]; simp [go_sem, *]
  have z7_2 : w2.heap.size < w7.heap.size := by have := hb.size; (try simp at this); omega
  have k7_30 : w7.cell? ⟨w3.heap.size, 0, none⟩ = some (.int .i64 z.s.lo) := by rw [hc _ _ (by first | omega | (simp; omega) | simp)]; simp [go_sem, *]
  have k7_31 : w7.cell? ⟨w3.heap.size, 1, none⟩ = some (.int .i64 z.s.hi) := by rw [hc _ _ (by first | omega | (simp; omega) | simp)]; simp [go_sem, *]
  have z7_3 : w3.heap.size < w7.heap.size := by have := hb.size; (try simp at this); omega
  have k7_40 : w7.cell? ⟨w4.heap.size, 0, none⟩ = some (.int .i64 z.t.lo) := by rw [hc _ _ (by first | omega | (simp; omega) | simp)]; simp [go_sem, *]
  have k7_41 : w7.cell? ⟨w4.heap.size, 1, none⟩ = some (.int .i64 z.t.hi) := by rw [hc _ _ (by first | omega | (simp; omega) | simp)]; simp [go_sem, *]
  have z7_4 : w4.heap.size < w7.heap.size := by have := hb.size; (try simp at this); omega
  have k7_50 : w7.cell? ⟨w5.heap.size, 0, none⟩ = some (.int .i64 z.m.lo) := by rw [hc _ _ (by first | omega | (simp; omega) | simp)]; simp [go_sem, *]
  have k7_51 : w7.cell? ⟨w5.heap.size, 1, none⟩ = some (.int .i64 z.m.hi) := by rw [hc _ _ (by first | omega | (simp; omega) | simp)]; simp [go_sem, *]
  have z7_5 : w5.heap.size < w7.heap.size := by have := hb.size; (try simp at this); omega
  have k7_60 : w7.cell? ⟨w6.heap.size, 0, none⟩ = some (.int .i64 z.q.lo) := by rw [hc _ _ (by first | omega | (simp; omega) | simp)]; simp [go_sem, *]
  have k7_61 : w7.cell? ⟨w6.heap.size, 1, none⟩ = some (.int .i64 z.q.hi) := by rw [hc _ _ (by first | omega | (simp; omega) | simp)]; simp [go_sem, *]
  have z7_6 : w6.heap.size < w7.heap.size := by have := hb.size; (try simp at this); omega
  have hB7 : Below w.heap.size w w7 := by repeat (first | exact hB6 | refine Below.drew ?_ | refine below_drewN ?_ _ | refine Below.setCell ?_ (by first | omega | (simp; omega) | simp) _ | refine Below.alloc ?_ (by first | omega | (simp; omega) | simp) _ | refine chainB (by assumption) ?_)
  have hs7 : w.heap.size ≤ w7.heap.size := hB7.size
  clear hc hf hb k6_00 k6_01 z6_0 k6_10 k6_11 z6_1 k6_20 k6_21 k6_22 k6_23 k6_24 k6_25 k6_26 k6_27 z6_2 k6_30 k6_31 z6_3 k6_40 k6_41 z6_4 k6_50 k6_51 z6_5 hB6 hs6
  clear v1 v2 c64 c66 c67 c68 c23
  obtain ⟨A, hA⟩ : ∃ A, A = w7.alloc (.cells #[.int .i64 z.c.lo, .int .i64 z.c.hi] 23) := ⟨_, rfl⟩
  have hA7 : Below w7.heap.size w7 A := by rw [hA]; exact (Below.refl _ _).alloc (Nat.le_refl _) _
  have hAF : A.heap.size = w7.heap.size + 1 := by rw [hA]; simp
  have kc0 : A.cell? ⟨w7.heap.size, 0, none⟩ = some (.int .i64 z.c.lo) := by rw [hA]; exact (Boxed2.new w7 23 _ _).c0
  have kc1 : A.cell? ⟨w7.heap.size, 1, none⟩ = some (.int .i64 z.c.hi) := by rw [hA]; exact (Boxed2.new w7 23 _ _).c1
  have hwA : Below w.heap.size w A := hB7.trans (hA7.mono hs7)
  have hfb0 : FB (A.alloc (.cells #[.bool false, .bool false, .bool false, .bool false, .bool false, .bool false, .bool false, .bool false, .bool false, .bool false] 71)) A.heap.size (tG z a b c d 0) := World.alloc_heap_new A _
  have hBA0 : Below A.heap.size A (A.alloc (.cells #[.bool false, .bool false, .bool false, .bool false, .bool false, .bool false, .bool false, .bool false, .bool false, .bool false] 71)) := (Below.refl _ _).alloc (Nat.le_refl _) _
  have ka0 : A.cell? ⟨w.heap.size, 0, none⟩ = some (.int .i64 a) := (hA7.cell (p := ⟨w.heap.size, 0, none⟩) (by show w.heap.size < _; omega)).trans k7_00
  have ka1 : A.cell? ⟨w.heap.size, 1, none⟩ = some (.int .i64 b) := (hA7.cell (p := ⟨w.heap.size, 1, none⟩) (by show w.heap.size < _; omega)).trans k7_01
  have ks0 : A.cell? ⟨w3.heap.size, 0, none⟩ = some (.int .i64 z.s.lo) := (hA7.cell (p := ⟨w3.heap.size, 0, none⟩) (by show w3.heap.size < _; omega)).trans k7_30
  have ks1 : A.cell? ⟨w3.heap.size, 1, none⟩ = some (.int .i64 z.s.hi) := (hA7.cell (p := ⟨w3.heap.size, 1, none⟩) (by show w3.heap.size < _; omega)).trans k7_31
  have kt0 : A.cell? ⟨w4.heap.size, 0, none⟩ = some (.int .i64 z.t.lo) := (hA7.cell (p := ⟨w4.heap.size, 0, none⟩) (by show w4.heap.size < _; omega)).trans k7_40
  have kt1 : A.cell? ⟨w4.heap.size, 1, none⟩ = some (.int .i64 z.t.hi) := (hA7.cell (p := ⟨w4.heap.size, 1, none⟩) (by show w4.heap.size < _; omega)).trans k7_41
  have km0 : A.cell? ⟨w5.heap.size, 0, none⟩ = some (.int .i64 z.m.lo) := (hA7.cell (p := ⟨w5.heap.size, 0, none⟩) (by show w5.heap.size < _; omega)).trans k7_50
  have km1 : A.cell? ⟨w5.heap.size, 1, none⟩ = some (.int .i64 z.m.hi) := (hA7.cell (p := ⟨w5.heap.size, 1, none⟩) (by show w5.heap.size < _; omega)).trans k7_51
  have kq0 : A.cell? ⟨w6.heap.size, 0, none⟩ = some (.int .i64 z.q.lo) := (hA7.cell (p := ⟨w6.heap.size, 0, none⟩) (by show w6.heap.size < _; omega)).trans k7_60
  have kq1 : A.cell? ⟨w6.heap.size, 1, none⟩ = some (.int .i64 z.q.hi) := (hA7.cell (p := ⟨w6.heap.size, 1, none⟩) (by show w6.heap.size < _; omega)).trans k7_61
  have ke0 := (hA7.cell (p := ⟨w2.heap.size, 0, none⟩) (by show w2.heap.size < _; omega)).trans k7_20
  have ke1 := (hA7.cell (p := ⟨w2.heap.size, 1, none⟩) (by show w2.heap.size < _; omega)).trans k7_21
  have ke2 := (hA7.cell (p := ⟨w2.heap.size, 2, none⟩) (by show w2.heap.size < _; omega)).trans k7_22
  have ke3 := (hA7.cell (p := ⟨w2.heap.size, 3, none⟩) (by show w2.heap.size < _; omega)).trans k7_23
  have ke4 := (hA7.cell (p := ⟨w2.heap.size, 4, none⟩) (by show w2.heap.size < _; omega)).trans k7_24
  have ke5 := (hA7.cell (p := ⟨w2.heap.size, 5, none⟩) (by show w2.heap.size < _; omega)).trans k7_25
  have ke6 := (hA7.cell (p := ⟨w2.heap.size, 6, none⟩) (by show w2.heap.size < _; omega)).trans k7_26
  have ke7 := (hA7.cell (p := ⟨w2.heap.size, 7, none⟩) (by show w2.heap.size < _; omega)).trans k7_27
  have HE : ∀ k, k < 4 → A.cell? ⟨w2.heap.size, k * 2, none⟩ = some (.int .i64 (tX a b k)) ∧ A.cell? ⟨w2.heap.size, k * 2 + 1, none⟩ = some (.int .i64 (tY c d k)) := fun k hk => by
    match k, hk with
    | 0, _ => exact ⟨ke0, ke1⟩
    | 1, _ => exact ⟨ke2, ke3⟩
    | 2, _ => exact ⟨ke4, ke5⟩
    | 3, _ => exact ⟨ke6, ke7⟩
  go_wp2_with fail
  rw [← hA, ← hAF]
  have lb0 : w.heap.size < A.heap.size := by omega
  have lb2 : w2.heap.size < A.heap.size := by omega
  have lb3 : w3.heap.size < A.heap.size := by omega
  have lb4 : w4.heap.size < A.heap.size := by omega
  have lb5 : w5.heap.size < A.heap.size := by omega
  have lb6 : w6.heap.size < A.heap.size := by omega
  have lb7 : w7.heap.size < A.heap.size := by omega
  clear hA hA7 hAF hB7 hs7 ke0 ke1 ke2 ke3 ke4 ke5 ke6 ke7
  clear k7_00 k7_01 z7_0 k7_10 k7_11 z7_1 k7_20 k7_21 k7_22 k7_23 k7_24 k7_25 k7_26 k7_27 z7_2 k7_30 k7_31 z7_3 k7_40 k7_41 z7_4 k7_50 k7_51 z7_5 k7_60 k7_61 z7_6
  generalize hB0e : w.heap.size = B0 at ka0 ka1 lb0 ⊢
  have HB0 := Lib.hid hB0e
  clear hB0e
  generalize w2.heap.size = Eb at *
  generalize w3.heap.size = Sb at *
  generalize w4.heap.size = Tb at *
  generalize w5.heap.size = Mb at *
  generalize w6.heap.size = Qb at *
  generalize w7.heap.size = Cb at *
  generalize hFF : A.heap.size = F at *
  have HFF := Lib.hid hFF
  clear hFF
  go_loopw [21] (fun i wr => ∃ k : Nat, k ≤ 4 ∧ i = .int .i64 k ∧ FB wr F (tG z a b c d k) ∧ Below F A wr) (fun i _ => 4 - (intOf i).toNat)
  case atStart => exact ⟨0, by decide, rfl, hfb0, hBA0⟩
  case round =>
    clear hfb0 hBA0
    obtain ⟨k, hk, rfl, hfb, hB⟩ := hrel
    by_cases hlt : k < 4
    · obtain ⟨x0, y0⟩ := HE k hlt
      have hx := tX_bd k ga2 ga1 ga3
      have hy := tY_bd k gc2 gc1 gc3
      have HN := Lib.hid (show ∀ j, (tG z a b c d k j || tP z (tX a b k) (tY c d k) j) = tG z a b c d (k + 1) j from fun _ => rfl)
      generalize tX a b k = x at x0 hx HN
      generalize tY c d k = y at y0 hy HN
      generalize tG z a b c d k = g at hfb HN
      generalize hPP : tP z x y = P at HN
      have p0 : P 0 = (z.s.lo == x + y) := by rw [← hPP]; rfl
      have p1 : P 1 = (z.s.hi == x + y) := by rw [← hPP]; rfl
      have p2 : P 2 = (z.t.lo == x - y) := by rw [← hPP]; rfl
      have p3 : P 3 = (z.t.hi == x - y) := by rw [← hPP]; rfl
      have p4 : P 4 = (z.m.lo == x * y) := by rw [← hPP]; rfl
      have p5 : P 5 = (z.m.hi == x * y) := by rw [← hPP]; rfl
      have p6 : P 6 = ((z.q.e == 0 && y != 0) && !betB (z.q.lo + 1) (z.q.hi + 1) x y) := by rw [← hPP]; rfl
      have p7 : P 7 = ((z.q.e == 0 && y != 0) && !betB (z.q.lo - 1) (z.q.hi - 1) x y) := by rw [← hPP]; rfl
      have p8 : P 8 = ((z.c.e == 0 && decide (0 < z.d)) && decide (x * z.n < (z.c.lo + 1) * z.d)) := by rw [← hPP]; rfl
      have p9 : P 9 = ((z.c.e == 0 && decide (0 < z.d)) && decide (x * z.n > (z.c.hi - 1) * z.d)) := by rw [← hPP]; rfl
      clear hPP
      have P0 := Lib.hid p0
      have P1 := Lib.hid p1
      have P2 := Lib.hid p2
      have P3 := Lib.hid p3
      have P4 := Lib.hid p4
      have P5 := Lib.hid p5
      have P6 := Lib.hid p6
      have P7 := Lib.hid p7
      have P8 := Lib.hid p8
      have P9 := Lib.hid p9
      clear p0 p1 p2 p3 p4 p5 p6 p7 p8 p9
      have hf0 := hfb.start P
      obtain ⟨pm1, pm2⟩ := prod_bd x y hx.1 hx.2 hy.1 hy.2
      have hwa : IntKind.i64.wrap (x + y) = x + y := by rw [IntKind.wrap_i64]; omega
      have hws : IntKind.i64.wrap (x - y) = x - y := by rw [IntKind.wrap_i64]; omega
      have hwm : IntKind.i64.wrap (x * y) = x * y := by rw [IntKind.wrap_i64]; omega
      clear hfb HE
      have x0' := (hB.cell (p := ⟨Eb, k * 2, none⟩) lb2).trans x0
      have y0' := (hB.cell (p := ⟨Eb, k * 2 + 1, none⟩) lb2).trans y0
      go_upto_region 13 with fail
      go_cut [22, 23] from 90 to 97 (fun sx sy wc => sx = Value.int .i64 x ∧ sy = Value.int .i64 y ∧ FB wc F (stp g P 0) ∧ Below F A wc)
      case first => as_aux_lemma =>
        go_wp2_with fail
        refine wp_region_held_drew (S := fun w' => w'.cell? ⟨Eb, k * 2, none⟩ = some (.int .i64 x) ∧ w'.cell? ⟨Eb, k * 2 + 1, none⟩ = some (.int .i64 y)) (by kernel_rfl) ⟨x0', y0'⟩ (fun hHeld => ?_)
        refine wpAnyH_take (i := 0) (oi := _) (v := .int .i64 k) rfl (by kernel_rfl) (by kernel_rfl) (by kernel_rfl) (fun _ _ _ h => h) (Or.inl ⟨by rfl, fun w' hSw => ?_⟩) hHeld ?_
        · obtain ⟨s1, s2⟩ := hSw
          go_simp
          try (intro hh; exfalso; omega)
          try omega
        try simp only [Act.put, List.setIfInBounds_toArray, List.set_cons_zero, List.set_cons_succ, List.getElem_toArray, List.getElem_cons_succ, List.getElem_cons_zero]
        refine wpAnyH_take (i := 1) (oi := _) (v := .pointer (some ⟨Eb, k * 2, none⟩)) rfl (by kernel_rfl) (by kernel_rfl) (by kernel_rfl) (fun _ _ _ h => h) (Or.inl ⟨by rfl, fun w' hSw => ?_⟩) hHeld ?_
        · obtain ⟨s1, s2⟩ := hSw
          go_simp
          try (intro hh; exfalso; omega)
          try omega
        try simp only [Act.put, List.setIfInBounds_toArray, List.set_cons_zero, List.set_cons_succ, List.getElem_toArray, List.getElem_cons_succ, List.getElem_cons_zero]
        refine wpAnyH_take (i := 2) (oi := _) (v := .pointer (some ⟨Eb, k * 2, none⟩)) rfl (by kernel_rfl) (by kernel_rfl) (by kernel_rfl) (fun _ _ _ h => h) (Or.inl ⟨by rfl, fun w' hSw => ?_⟩) hHeld ?_
        · obtain ⟨s1, s2⟩ := hSw
          go_simp
          try (intro hh; exfalso; omega)
          try omega
        try simp only [Act.put, List.setIfInBounds_toArray, List.set_cons_zero, List.set_cons_succ, List.getElem_toArray, List.getElem_cons_succ, List.getElem_cons_zero]
        refine wpAnyH_take (i := 3) (oi := _) (v := .int .i64 x) rfl (by kernel_rfl) (by kernel_rfl) (by kernel_rfl) (fun _ _ _ h => h) (Or.inl ⟨by rfl, fun w' hSw => ?_⟩) hHeld ?_
        · obtain ⟨s1, s2⟩ := hSw
          go_simp
          try (intro hh; exfalso; omega)
          try omega
        try simp only [Act.put, List.setIfInBounds_toArray, List.set_cons_zero, List.set_cons_succ, List.getElem_toArray, List.getElem_cons_succ, List.getElem_cons_zero]
        refine wpAnyH_take (i := 4) (oi := _) (v := .int .i64 k) rfl (by kernel_rfl) (by kernel_rfl) (by kernel_rfl) (fun _ _ _ h => h) (Or.inl ⟨by rfl, fun w' hSw => ?_⟩) hHeld ?_
        · obtain ⟨s1, s2⟩ := hSw
          go_simp
          try (intro hh; exfalso; omega)
          try omega
        try simp only [Act.put, List.setIfInBounds_toArray, List.set_cons_zero, List.set_cons_succ, List.getElem_toArray, List.getElem_cons_succ, List.getElem_cons_zero]
        refine wpAnyH_take (i := 5) (oi := _) (v := .pointer (some ⟨Eb, k * 2, none⟩)) rfl (by kernel_rfl) (by kernel_rfl) (by kernel_rfl) (fun _ _ _ h => h) (Or.inl ⟨by rfl, fun w' hSw => ?_⟩) hHeld ?_
        · obtain ⟨s1, s2⟩ := hSw
          go_simp
          try (intro hh; exfalso; omega)
          try omega
        try simp only [Act.put, List.setIfInBounds_toArray, List.set_cons_zero, List.set_cons_succ, List.getElem_toArray, List.getElem_cons_succ, List.getElem_cons_zero]
        refine wpAnyH_take (i := 6) (oi := _) (v := .pointer (some ⟨Eb, k * 2 + 1, none⟩)) rfl (by kernel_rfl) (by kernel_rfl) (by kernel_rfl) (fun _ _ _ h => h) (Or.inl ⟨by rfl, fun w' hSw => ?_⟩) hHeld ?_
        · obtain ⟨s1, s2⟩ := hSw
          go_simp
          try (intro hh; exfalso; omega)
          try omega
        try simp only [Act.put, List.setIfInBounds_toArray, List.set_cons_zero, List.set_cons_succ, List.getElem_toArray, List.getElem_cons_succ, List.getElem_cons_zero]
        refine wpAnyH_take (i := 7) (oi := _) (v := .int .i64 y) rfl (by kernel_rfl) (by kernel_rfl) (by kernel_rfl) (fun _ _ _ h => h) (Or.inl ⟨by rfl, fun w' hSw => ?_⟩) hHeld ?_
        · obtain ⟨s1, s2⟩ := hSw
          go_simp
          try (intro hh; exfalso; omega)
          try omega
        try simp only [Act.put, List.setIfInBounds_toArray, List.set_cons_zero, List.set_cons_succ, List.getElem_toArray, List.getElem_cons_succ, List.getElem_cons_zero]
        refine wpAnyH_take (i := 8) (oi := _) (v := .int .i64 x) rfl (by kernel_rfl) (by kernel_rfl) (by kernel_rfl) (fun _ _ _ h => h) (Or.inl ⟨by rfl, fun w' hSw => ?_⟩) hHeld ?_
        · obtain ⟨s1, s2⟩ := hSw
          go_simp
          try (intro hh; exfalso; omega)
          try omega
        try simp only [Act.put, List.setIfInBounds_toArray, List.set_cons_zero, List.set_cons_succ, List.getElem_toArray, List.getElem_cons_succ, List.getElem_cons_zero]
        refine wpAnyH_take (i := 9) (oi := _) (v := .int .i64 y) rfl (by kernel_rfl) (by kernel_rfl) (by kernel_rfl) (fun _ _ _ h => h) (Or.inl ⟨by rfl, fun w' hSw => ?_⟩) hHeld ?_
        · obtain ⟨s1, s2⟩ := hSw
          go_simp
          try (intro hh; exfalso; omega)
          try omega
        try simp only [Act.put, List.setIfInBounds_toArray, List.set_cons_zero, List.set_cons_succ, List.getElem_toArray, List.getElem_cons_succ, List.getElem_cons_zero]
        refine wpAnyH_done (by kernel_rfl) ?_ _
        clear hHeld
        go_wp2_with fail
        go_meet
        case rel => exact ⟨rfl, rfl, hf0.below ((Below.refl _ _).drew), hB.drew⟩
      case rest => as_aux_lemma =>
        obtain ⟨rfl, rfl, hf0', hBc⟩ := hcut
        clear x0' y0' x0 y0 hB hf0
        go_upto_region 14 with fail
        go_cut [] from 98 to 108 (fun wc => FB wc F (stp g P 1) ∧ Below F A wc)
        case first => as_aux_lemma =>
          have fc := hf0'.at (by decide)
          have ff := hf0'.fz 0
          have kk := (hBc.cell (p := ⟨Sb, 0, none⟩) lb3).trans ks0
          cases hg : g 0
          · rw [hg] at fc
            go_wp2_with fail
            go_meet
            case rel => exact ⟨hf0'.step (by decide) (by rw [hg, P0.out]; first | rfl | simp), setB hBc _ _⟩
          · rw [hg] at fc
            go_wp2_with fail
            go_meet
            case rel => exact ⟨hf0'.step (by decide) (by rw [hg]; rfl), setB hBc _ _⟩
        case rest => as_aux_lemma =>
          obtain ⟨hf1', hBc1⟩ := hcut
          clear hf0' hBc
          have hBc := hBc1
          clear hBc1
          go_upto_region 15 with fail
          go_cut [] from 109 to 119 (fun wc => FB wc F (stp g P 2) ∧ Below F A wc)
          case first => as_aux_lemma =>
            have fc := hf1'.at (by decide)
            have ff := hf1'.fz 1
            have kk := (hBc.cell (p := ⟨Sb, 1, none⟩) lb3).trans ks1
            cases hg : g 1
            · rw [hg] at fc
              go_wp2_with fail
              go_meet
              case rel => exact ⟨hf1'.step (by decide) (by rw [hg, P1.out]; first | rfl | simp), setB hBc _ _⟩
            · rw [hg] at fc
              go_wp2_with fail
              go_meet
              case rel => exact ⟨hf1'.step (by decide) (by rw [hg]; rfl), setB hBc _ _⟩
          case rest => as_aux_lemma =>
            obtain ⟨hf2', hBc2⟩ := hcut
            clear hf1' hBc
            have hBc := hBc2
            clear hBc2
            go_upto_region 16 with fail
            go_cut [] from 120 to 130 (fun wc => FB wc F (stp g P 3) ∧ Below F A wc)
            case first => as_aux_lemma =>
              have fc := hf2'.at (by decide)
              have ff := hf2'.fz 2
              have kk := (hBc.cell (p := ⟨Tb, 0, none⟩) lb4).trans kt0
              cases hg : g 2
              · rw [hg] at fc
                go_wp2_with fail
                go_meet
                case rel => exact ⟨hf2'.step (by decide) (by rw [hg, P2.out]; first | rfl | simp), setB hBc _ _⟩
              · rw [hg] at fc
                go_wp2_with fail
                go_meet
                case rel => exact ⟨hf2'.step (by decide) (by rw [hg]; rfl), setB hBc _ _⟩
            case rest => as_aux_lemma =>
              obtain ⟨hf3', hBc3⟩ := hcut
              clear hf2' hBc
              have hBc := hBc3
              clear hBc3
              go_upto_region 17 with fail
              go_cut [] from 131 to 141 (fun wc => FB wc F (stp g P 4) ∧ Below F A wc)
              case first => as_aux_lemma =>
                have fc := hf3'.at (by decide)
                have ff := hf3'.fz 3
                have kk := (hBc.cell (p := ⟨Tb, 1, none⟩) lb4).trans kt1
                cases hg : g 3
                · rw [hg] at fc
                  go_wp2_with fail
                  go_meet
                  case rel => exact ⟨hf3'.step (by decide) (by rw [hg, P3.out]; first | rfl | simp), setB hBc _ _⟩
                · rw [hg] at fc
                  go_wp2_with fail
                  go_meet
                  case rel => exact ⟨hf3'.step (by decide) (by rw [hg]; rfl), setB hBc _ _⟩
              case rest => as_aux_lemma =>
                obtain ⟨hf4', hBc4⟩ := hcut
                clear hf3' hBc
                have hBc := hBc4
                clear hBc4
                go_upto_region 18 with fail
                go_cut [] from 142 to 152 (fun wc => FB wc F (stp g P 5) ∧ Below F A wc)
                case first => as_aux_lemma =>
                  have fc := hf4'.at (by decide)
                  have ff := hf4'.fz 4
                  have kk := (hBc.cell (p := ⟨Mb, 0, none⟩) lb5).trans km0
                  cases hg : g 4
                  · rw [hg] at fc
                    go_wp2_with fail
                    go_meet
                    case rel => exact ⟨hf4'.step (by decide) (by rw [hg, P4.out]; first | rfl | simp), setB hBc _ _⟩
                  · rw [hg] at fc
                    go_wp2_with fail
                    go_meet
                    case rel => exact ⟨hf4'.step (by decide) (by rw [hg]; rfl), setB hBc _ _⟩
                case rest => as_aux_lemma =>
                  obtain ⟨hf5', hBc5⟩ := hcut
                  clear hf4' hBc
                  have hBc := hBc5
                  clear hBc5
                  go_upto_region 19 with fail
                  go_cut [] from 153 to 163 (fun wc => FB wc F (stp g P 6) ∧ Below F A wc)
                  case first => as_aux_lemma =>
                    have fc := hf5'.at (by decide)
                    have ff := hf5'.fz 5
                    have kk := (hBc.cell (p := ⟨Mb, 1, none⟩) lb5).trans km1
                    cases hg : g 5
                    · rw [hg] at fc
                      go_wp2_with fail
                      go_meet
                      case rel => exact ⟨hf5'.step (by decide) (by rw [hg, P5.out]; first | rfl | simp), setB hBc _ _⟩
                    · rw [hg] at fc
                      go_wp2_with fail
                      go_meet
                      case rel => exact ⟨hf5'.step (by decide) (by rw [hg]; rfl), setB hBc _ _⟩
                  case rest => as_aux_lemma =>
                    obtain ⟨hf6', hBc6⟩ := hcut
                    clear hf5' hBc
                    have hBc := hBc6
                    clear hBc6
                    obtain ⟨cb, hcb⟩ : ∃ cb : Bool, cb = (z.q.e == 0 && y != 0) := ⟨_, rfl⟩
                    have HCB := Lib.hid hcb
                    clear hcb
                    go_upto_region 20 with fail
                    go_cut [169] from 164 to 169 (fun sc wc => sc = Value.bool cb ∧ FB wc F (stp g P 6) ∧ Below F A wc)
                    case first => as_aux_lemma =>
                      by_cases hq : z.q.e = 0
                      · by_cases hy0 : y = 0
                        · go_wp2_with fail
                          go_meet
                          case rel => exact ⟨by rw [HCB.out, hq, hy0]; rfl, hf6', hBc⟩
                        · have hyb : (y != 0) = true := by simpa using hy0
                          go_wp2_with fail
                          go_meet
                          case rel => exact ⟨by rw [HCB.out, hq, hyb]; rfl, hf6', hBc⟩
                      · have hqb : (z.q.e == 0) = false := by simpa using hq
                        go_wp2_with fail
                        go_meet
                        case rel => exact ⟨by rw [HCB.out, hqb]; rfl, hf6', hBc⟩
                    case rest => as_aux_lemma =>
                      obtain ⟨rfl, hf6', hBc⟩ := hcut
                      go_upto_if 169 with fail
                      go_cut [] from 86 to 235 (fun wc => FB wc F (stp g P 8) ∧ Below F A wc)
                      case first => as_aux_lemma =>
                        cases cb
                        · go_wp2_with fail
                          go_meet
                          case rel => exact ⟨(hf6'.skip (by rw [P6.out, ← HCB.out, Bool.false_and])).skip (by rw [P7.out, ← HCB.out, Bool.false_and]), hBc⟩
                        · have hq : z.q.e = 0 := by
                            have := (Bool.and_eq_true _ _).mp HCB.out.symm
                            simpa using this.1
                          obtain ⟨hvq, -⟩ := H4.out hq
                          clear hq
                          obtain ⟨gq1, gq2, gq3⟩ := (vB_iff _ _).1 hvq
                          have b6 := fun w => between_any (z.q.lo + 1) (z.q.hi + 1) x y (by omega) (by omega) (by omega) (by omega) hy.1 hy.2 (by omega) (by omega) w
                          have b7 := fun w => between_any (z.q.lo - 1) (z.q.hi - 1) x y (by omega) (by omega) (by omega) (by omega) hy.1 hy.2 (by omega) (by omega) w
                          have p6 := P6.out
                          have p7 := P7.out
                          rw [← HCB.out, Bool.true_and] at p6 p7
                          clear P6 P7 HCB
                          have P6 := Lib.hid p6
                          have P7 := Lib.hid p7
                          clear p6 p7
                          generalize betB (z.q.lo + 1) (z.q.hi + 1) x y = r6 at b6 P6
                          generalize betB (z.q.lo - 1) (z.q.hi - 1) x y = r7 at b7 P7
                          go_upto_region 21 with fail
                          go_cut [] from 86 to 235 (fun wc => FB wc F (stp g P 7) ∧ Below F A wc)
                          case first => as_aux_lemma =>
                            have fc := hf6'.at (by decide)
                            have ff := hf6'.fz 6
                            have kk := (hBc.cell (p := ⟨Qb, 0, none⟩) lb6).trans kq0
                            have kl := (hBc.cell (p := ⟨Qb, 1, none⟩) lb6).trans kq1
                            cases hg : g 6
                            · rw [hg] at fc
                              go_wp2_with fail
                              refine (b6 _).mono ?_
                              rintro e v6 ⟨rfl, hbel⟩
                              have hfn := hf6'.below hbel
                              have hBn := hBc.trans (hbel.mono (by have := hBc.size; have := HFF.out; omega))
                              have hfz := hfn.fz 6
                              have hfc := hfn.at (by decide)
                              rw [hg] at hfc
                              go_wp2_with fail
                              go_meet
                              case rel => exact ⟨hfn.step (by decide) (by rw [hg, P6.out]; first | rfl | simp), setB hBn _ _⟩
                            · rw [hg] at fc
                              go_wp2_with fail
                              go_meet
                              case rel => exact ⟨hf6'.step (by decide) (by rw [hg]; rfl), setB hBc _ _⟩
                          case rest => as_aux_lemma =>
                            obtain ⟨hf7', hBd⟩ := hcut
                            clear hf6' hBc
                            have hBc := hBd
                            clear hBd
                            have fc := hf7'.at (by decide)
                            have ff := hf7'.fz 7
                            have kk := (hBc.cell (p := ⟨Qb, 0, none⟩) lb6).trans kq0
                            have kl := (hBc.cell (p := ⟨Qb, 1, none⟩) lb6).trans kq1
                            cases hg : g 7
                            · rw [hg] at fc
                              go_wp2_with fail
                              refine (b7 _).mono ?_
                              rintro e v6 ⟨rfl, hbel⟩
                              have hfn := hf7'.below hbel
                              have hBn := hBc.trans (hbel.mono (by have := hBc.size; have := HFF.out; omega))
                              have hfz := hfn.fz 7
                              have hfc := hfn.at (by decide)
                              rw [hg] at hfc
                              go_wp2_with fail
                              go_meet
                              case rel => exact ⟨hfn.step (by decide) (by rw [hg, P7.out]; first | rfl | simp), setB hBn _ _⟩
                            · rw [hg] at fc
                              go_wp2_with fail
                              go_meet
                              case rel => exact ⟨hf7'.step (by decide) (by rw [hg]; rfl), setB hBc _ _⟩
                      case rest => as_aux_lemma =>
                        obtain ⟨hf8', hBd⟩ := hcut
                        clear hf6' hBc HCB
                        have hBc := hBd
                        clear hBd
                        obtain ⟨cb, hcb⟩ : ∃ cb : Bool, cb = (z.c.e == 0 && decide (0 < z.d)) := ⟨_, rfl⟩
                        have HCB := Lib.hid hcb
                        clear hcb
                        go_upto_region 23 with fail
                        go_cut [207] from 86 to 207 (fun sc wc => sc = Value.bool cb ∧ FB wc F (stp g P 8) ∧ Below F A wc)
                        case first => as_aux_lemma =>
                          by_cases hq : z.c.e = 0
                          · have hqb : (z.c.e == 0) = true := by simpa using hq
                            clear hq
                            by_cases hy0 : 0 < z.d
                            · go_wp2_with fail
                              go_meet
                              case rel => exact ⟨by rw [HCB.out, hqb, decide_eq_true hy0]; rfl, hf8', hBc⟩
                            · go_wp2_with fail
                              go_meet
                              case rel => exact ⟨by rw [HCB.out, hqb, decide_eq_false (show ¬ 0 < z.d by omega)]; rfl, hf8', hBc⟩
                          · have hqb : (z.c.e == 0) = false := by simpa using hq
                            go_wp2_with fail
                            go_meet
                            case rel => exact ⟨by rw [HCB.out, hqb]; rfl, hf8', hBc⟩
                        case rest => as_aux_lemma =>
                          obtain ⟨rfl, hf8', hBc⟩ := hcut
                          cases cb
                          · have hf10 := (hf8'.skip (by rw [P8.out, ← HCB.out, Bool.false_and])).skip (by rw [P9.out, ← HCB.out, Bool.false_and])
                            have hfd := hf10.done (g' := tG z a b c d (k + 1)) (fun j _ => HN.out j)
                            go_wp2_with fail
                            go_roundw
                            case rel => exact ⟨k + 1, by omega, by go_num, hfd, hBc⟩
                            case measure => simp [intOf]; omega
                          · have hq : z.c.e = 0 := by
                              have := (Bool.and_eq_true _ _).mp HCB.out.symm
                              simpa using this.1
                            obtain ⟨⟨n1, n2, n3, n4, hvq⟩, -⟩ := H5.out hq
                            clear hq
                            obtain ⟨gq1, gq2, gq3⟩ := (vB_iff _ _).1 hvq
                            have p8 := P8.out
                            have p9 := P9.out
                            rw [← HCB.out, Bool.true_and] at p8 p9
                            clear P8 P9 HCB hvq
                            have P8 := Lib.hid p8
                            have P9 := Lib.hid p9
                            clear p8 p9
                            obtain ⟨u1, u2⟩ := prod_bd2 x z.n (by omega) (by omega) n1 n2
                            obtain ⟨u3, u4⟩ := prod_bd2 (z.c.lo + 1) z.d (by omega) (by omega) (by omega) n4
                            obtain ⟨u5, u6⟩ := prod_bd2 (z.c.hi - 1) z.d (by omega) (by omega) (by omega) n4
                            have w1' : IntKind.i64.wrap (z.c.lo + 1) = z.c.lo + 1 := by rw [IntKind.wrap_i64]; omega
                            have w2' : IntKind.i64.wrap (z.c.hi - 1) = z.c.hi - 1 := by rw [IntKind.wrap_i64]; omega
                            have w3' : IntKind.i64.wrap (x * z.n) = x * z.n := by rw [IntKind.wrap_i64]; omega
                            have w4' : IntKind.i64.wrap ((z.c.lo + 1) * z.d) = (z.c.lo + 1) * z.d := by rw [IntKind.wrap_i64]; omega
                            have w5' : IntKind.i64.wrap ((z.c.hi - 1) * z.d) = (z.c.hi - 1) * z.d := by rw [IntKind.wrap_i64]; omega
                            go_upto_region 24 with fail
                            go_cut [] from 86 to 235 (fun wc => FB wc F (stp g P 9) ∧ Below F A wc)
                            case first => as_aux_lemma =>
                              have fc := hf8'.at (by decide)
                              have ff := hf8'.fz 8
                              have kk := (hBc.cell (p := ⟨Cb, 0, none⟩) lb7).trans kc0
                              cases hg : g 8
                              · rw [hg] at fc
                                go_wp2_with fail
                                go_meet
                                case rel => exact ⟨hf8'.step (by decide) (by rw [hg, P8.out]; first | rfl | simp), setB hBc _ _⟩
                              · rw [hg] at fc
                                go_wp2_with fail
                                go_meet
                                case rel => exact ⟨hf8'.step (by decide) (by rw [hg]; rfl), setB hBc _ _⟩
                            case rest => as_aux_lemma =>
                              obtain ⟨hf9', hBd⟩ := hcut
                              clear hf8' hBc
                              have hBc := hBd
                              clear hBd
                              have fc := hf9'.at (by decide)
                              have ff := hf9'.fz 9
                              have kk := (hBc.cell (p := ⟨Cb, 1, none⟩) lb7).trans kc1
                              cases hg : g 9
                              · rw [hg] at fc
                                go_wp2_with fail
                                go_roundw
                                case rel => exact ⟨k + 1, by omega, by go_num, (hf9'.step (by decide) (by rw [hg, P9.out]; first | rfl | simp)).done (g' := tG z a b c d (k + 1)) (fun j _ => HN.out j), setB hBc _ _⟩
                                case measure => simp [intOf]; omega
                              · rw [hg] at fc
                                go_wp2_with fail
                                go_roundw
                                case rel => exact ⟨k + 1, by omega, by go_num, (hf9'.step (by decide) (by rw [hg]; rfl)).done (g' := tG z a b c d (k + 1)) (fun j _ => HN.out j), setB hBc _ _⟩
                                case measure => simp [intOf]; omega
    · obtain rfl : k = 4 := by omega
      clear HE hlt hk
      generalize tG z a b c d 4 = G at hfb H1 H2 H3 H4 H5
      have f0 := hfb.cell 0 (by decide)
      have f1 := hfb.cell 1 (by decide)
      have f2 := hfb.cell 2 (by decide)
      have f3 := hfb.cell 3 (by decide)
      have f4 := hfb.cell 4 (by decide)
      have f5 := hfb.cell 5 (by decide)
      have f6 := hfb.cell 6 (by decide)
      have f7 := hfb.cell 7 (by decide)
      have f8 := hfb.cell 8 (by decide)
      have f9 := hfb.cell 9 (by decide)
      go_upto_region 26 with fail
      go_cut [275] from 236 to 275 (fun sc wc => sc = Value.bool false ∧ wc = wr)
      case first => as_aux_lemma =>
        clear f6 f7 f8 f9
        by_cases q1 : z.s.e = 0
        · have q1b : (z.s.e == 0) = true := by simpa using q1
          obtain ⟨q1x, q1y⟩ := H1.out q1
          rw [q1x] at f0
          rw [q1y] at f1
          clear q1 q1x q1y
          by_cases q2 : z.t.e = 0
          · have q2b : (z.t.e == 0) = true := by simpa using q2
            obtain ⟨q2x, q2y⟩ := H2.out q2
            rw [q2x] at f2
            rw [q2y] at f3
            clear q2 q2x q2y
            by_cases q3 : z.m.e = 0
            · have q3b : (z.m.e == 0) = true := by simpa using q3
              obtain ⟨q3x, q3y⟩ := H3.out q3
              rw [q3x] at f4
              rw [q3y] at f5
              clear q3 q3x q3y
              go_wp2_with fail
              go_meet
              case rel => exact ⟨rfl, rfl⟩
            · have q3b : (z.m.e == 0) = false := by simpa using q3
              clear q3
              go_wp2_with fail
              go_meet
              case rel => exact ⟨rfl, rfl⟩
          · have q2b : (z.t.e == 0) = false := by simpa using q2
            clear q2
            by_cases q3 : z.m.e = 0
            · have q3b : (z.m.e == 0) = true := by simpa using q3
              obtain ⟨q3x, q3y⟩ := H3.out q3
              rw [q3x] at f4
              rw [q3y] at f5
              clear q3 q3x q3y
              go_wp2_with fail
              go_meet
              case rel => exact ⟨rfl, rfl⟩
            · have q3b : (z.m.e == 0) = false := by simpa using q3
              clear q3
              go_wp2_with fail
              go_meet
              case rel => exact ⟨rfl, rfl⟩
        · have q1b : (z.s.e == 0) = false := by simpa using q1
          clear q1
          by_cases q2 : z.t.e = 0
          · have q2b : (z.t.e == 0) = true := by simpa using q2
            obtain ⟨q2x, q2y⟩ := H2.out q2
            rw [q2x] at f2
            rw [q2y] at f3
            clear q2 q2x q2y
            by_cases q3 : z.m.e = 0
            · have q3b : (z.m.e == 0) = true := by simpa using q3
              obtain ⟨q3x, q3y⟩ := H3.out q3
              rw [q3x] at f4
              rw [q3y] at f5
              clear q3 q3x q3y
              go_wp2_with fail
              go_meet
              case rel => exact ⟨rfl, rfl⟩
            · have q3b : (z.m.e == 0) = false := by simpa using q3
              clear q3
              go_wp2_with fail
              go_meet
              case rel => exact ⟨rfl, rfl⟩
          · have q2b : (z.t.e == 0) = false := by simpa using q2
            clear q2
            by_cases q3 : z.m.e = 0
            · have q3b : (z.m.e == 0) = true := by simpa using q3
              obtain ⟨q3x, q3y⟩ := H3.out q3
              rw [q3x] at f4
              rw [q3y] at f5
              clear q3 q3x q3y
              go_wp2_with fail
              go_meet
              case rel => exact ⟨rfl, rfl⟩
            · have q3b : (z.m.e == 0) = false := by simpa using q3
              clear q3
              go_wp2_with fail
              go_meet
              case rel => exact ⟨rfl, rfl⟩
      case rest => as_aux_lemma =>
        obtain ⟨rfl, rfl⟩ := hcut
        clear f0 f1 f2 f3 f4 f5
        go_upto_region 28 with fail
        go_cut [301] from 236 to 301 (fun sc wc => sc = Value.bool false ∧ Below F A wc)
        case first => as_aux_lemma =>
          by_cases q4 : z.q.e = 0
          · have q4b : (z.q.e == 0) = true := by simpa using q4
            obtain ⟨-, q4x, q4y⟩ := H4.out q4
            rw [q4x] at f6
            rw [q4y] at f7
            clear q4 q4x q4y
            by_cases q5 : z.c.e = 0
            · have q5b : (z.c.e == 0) = true := by simpa using q5
              obtain ⟨-, q5x, q5y⟩ := H5.out q5
              rw [q5x] at f8
              rw [q5y] at f9
              clear q5 q5x q5y
              go_wp2_with fail
              go_meet
              case rel => exact ⟨rfl, hB⟩
            · have q5b : (z.c.e == 0) = false := by simpa using q5
              clear q5
              go_wp2_with fail
              go_meet
              case rel => exact ⟨rfl, hB⟩
          · have q4b : (z.q.e == 0) = false := by simpa using q4
            clear q4
            by_cases q5 : z.c.e = 0
            · have q5b : (z.c.e == 0) = true := by simpa using q5
              obtain ⟨-, q5x, q5y⟩ := H5.out q5
              rw [q5x] at f8
              rw [q5y] at f9
              clear q5 q5x q5y
              go_wp2_with fail
              go_meet
              case rel => exact ⟨rfl, hB⟩
            · have q5b : (z.c.e == 0) = false := by simpa using q5
              clear q5
              go_wp2_with fail
              go_meet
              case rel => exact ⟨rfl, hB⟩
        case rest => as_aux_lemma =>
          obtain ⟨rfl, hBc⟩ := hcut
          clear f6 f7 f8 f9 hB hfb H1 H2 H3 H4 H5
          have a0 := (hBc.cell (p := ⟨B0, 0, none⟩) lb0).trans ka0
          have a1 := (hBc.cell (p := ⟨B0, 1, none⟩) lb0).trans ka1
          go_wp2_with fail
          refine (c25 _).mono ?_
          rintro e v7 ⟨rfl, hbel⟩
          have hBr : Below F A v7 := hBc.trans (hbel.mono (by have := hBc.size; have := HFF.out; omega))
          have a0' := (hBr.cell (p := ⟨B0, 0, none⟩) lb0).trans ka0
          have a1' := (hBr.cell (p := ⟨B0, 1, none⟩) lb0).trans ka1
          have hlb : B0 < v7.heap.size := by have := hBr.size; have := HFF.out; omega
          have hFv : F ≤ v7.heap.size := by have := hBr.size; have := HFF.out; omega
          clear a0 a1 hBc hbel c25
          generalize RR.lo = rl at *
          generalize RR.hi = ru at *
          generalize RR.e = re at *
          go_upto_region 31 with fail
          go_cut [342] from 307 to 342 (fun sc wc => sc = Value.bool false ∧ Below F A wc)
          case first => as_aux_lemma =>
            have hBn := hBr.alloc hFv (.cells #[.int .i64 rl, .int .i64 ru] 23)
            by_cases hr : re = 0
            · obtain ⟨r1, r2, r3, r4, r5, r6⟩ := t6.out hr
              have hrb : (re == 0) = true := by simpa using hr
              clear hr t6
              obtain ⟨s1, s2⟩ := prod_bd2 (rl + 1) (rl + 1 - 1) (by omega) (by omega) (by omega) (by omega)
              have e1 : (rl + 1) * (rl + 1) = (rl + 1) * (rl + 1 - 1) + (rl + 1) := by rw [Int.mul_sub]; omega
              obtain ⟨s3, s4⟩ := prod_bd2 (ru - 1) (ru - 1) (by omega) (by omega) (by omega) (by omega)
              have w1' : IntKind.i64.wrap (rl + 1) = rl + 1 := by rw [IntKind.wrap_i64]; omega
              have w2' : IntKind.i64.wrap (ru - 1) = ru - 1 := by rw [IntKind.wrap_i64]; omega
              have w3' : IntKind.i64.wrap ((rl + 1) * (rl + 1)) = (rl + 1) * (rl + 1) := by rw [IntKind.wrap_i64]; omega
              have w4' : IntKind.i64.wrap ((ru - 1) * (ru - 1)) = (ru - 1) * (ru - 1) := by rw [IntKind.wrap_i64]; omega
              generalize (rl + 1) * (rl + 1 - 1) = pz at *
              clear e1 s1 s2
              by_cases hu : 0 < ru
              · by_cases hb0 : 0 < b
                · have r7 := r6 hu hb0
                  clear r6
                  go_wp2_with fail
                  go_meet
                  case rel => exact ⟨by first | rfl | (rw [decide_eq_false (by omega)]), hBn⟩
                · clear r6
                  by_cases hbb : (ru - 1) * (ru - 1) ≥ b
                  · go_wp2_with fail
                    go_meet
                    case rel => exact ⟨by first | rfl | (rw [decide_eq_false (by omega)]), hBn⟩
                  · go_wp2_with fail
                    go_meet
                    case rel => exact ⟨by first | rfl | (rw [decide_eq_false (by omega)]), hBn⟩
              · clear r6
                go_wp2_with fail
                go_meet
                case rel => exact ⟨by first | rfl | (rw [decide_eq_false (by omega)]), hBn⟩
            · have hrb : (re == 0) = false := by simpa using hr
              clear hr t6
              go_wp2_with fail
              go_meet
              case rel => exact ⟨rfl, hBn⟩
          case rest => as_aux_lemma =>
            obtain ⟨rfl, hBz⟩ := hcut
            go_wp2_with fail
            refine (cW _).mono ?_
            rintro e v8 ⟨rfl, hbel⟩
            have hBy : Below F A v8 := hBz.trans (hbel.mono (by have := hBz.size; have := HFF.out; omega))
            have hend : Below w.heap.size w v8 := hwA.trans (hBy.mono (by have := HB0.out; omega))
            go_wp2_with fail
            go_ret
            exact ⟨rfl, by first | exact hend | (rw [← HB0.out]; exact hend)⟩
end Go.Proofs.Ytamelpfhbnkggaa

/-
  fine: the examples of the chapter.
-/
import Derived.Test.YthogahdnidjelaaTop
import Derived.Test.YthogahdnidjelaaSpacing
namespace Go.Proofs.Ythogahdnidjelaa
open Go.RowKit Go.Shelf
set_option linter.unusedSimpArgs false
def exZ : List El := [⟨0, 1000, 400, 5000⟩, ⟨8000, -200, 100, 2000⟩]
def exC : List Pr := [⟨0, 1000⟩, ⟨500, 500⟩]
theorem sta_ex : staE 10000 exZ 3000 500 exC = 0 := by decide
theorem isqUp_eq {x r : Int} (h : isq x = r) : isqUp x = if r * r < x then r + 1 else r := by unfold isqUp; rw [h]
theorem top_ex : topS 10000 exZ 3000 500 exC false = ⟨2000, 2936⟩ := by
  have m1 : moG exZ exC 1 = 1160000 := by decide
  have m2 : moG exZ exC 2 = 820625 := by decide
  have l1 : leG false exZ exC 1 = 1000000 := by decide
  have l2 : leG false exZ exC 2 = 640625 := by decide
  have a1 : isq 1160000 = 1077 := isq_eq ⟨by decide, by decide, by decide⟩
  have a2 : isq 820625 = 905 := isq_eq ⟨by decide, by decide, by decide⟩
  have b1 : isq 1000000 = 1000 := isq_eq ⟨by decide, by decide, by decide⟩
  have b2 : isq 640625 = 800 := isq_eq ⟨by decide, by decide, by decide⟩
  have r1 : risG false exZ exC 1 = ⟨0, 0⟩ := by
    simp only [risG]
    rw [m1, l1, isqUp_eq a1, b1]
    rfl
  have r2 : risG false exZ exC 2 = ⟨7064, 8000⟩ := by
    simp only [risG]
    rw [m2, l2, isqUp_eq a2, b2]
    rfl
  have e : rises false exZ exC = [⟨0, 0⟩, ⟨7064, 8000⟩] := by
    show rowL (risG false exZ exC) 2 = _
    simp only [rowL]
    rw [r1, r2]
    rfl
  unfold topS
  rw [if_pos sta_ex, e]
  rfl
theorem els_two {W : World} {b : Nat} (x y : El) (hb : b < W.heap.size) (c0 : W.cell? ⟨b, 0, none⟩ = some (.int .i64 x.len)) (c1 : W.cell? ⟨b, 1, none⟩ = some (.int .i64 x.lift)) (c2 : W.cell? ⟨b, 2, none⟩ = some (.int .i64 x.drag)) (c3 : W.cell? ⟨b, 3, none⟩ = some (.int .i64 x.str))
    (c4 : W.cell? ⟨b, 4, none⟩ = some (.int .i64 y.len)) (c5 : W.cell? ⟨b, 5, none⟩ = some (.int .i64 y.lift)) (c6 : W.cell? ⟨b, 6, none⟩ = some (.int .i64 y.drag)) (c7 : W.cell? ⟨b, 7, none⟩ = some (.int .i64 y.str)) : Els W.heap.size W (.slice (some ⟨b, 0, none⟩) 2 2) [x, y] := by
  refine ⟨_, _, rfl, Nat.le_refl _, fun k hk => ⟨b, 0, rfl, hb, ?_⟩⟩
  match k, hk with
  | 0, _ => exact ⟨c0, c1, c2, c3⟩
  | 1, _ => exact ⟨c4, c5, c6, c7⟩
theorem prs_two {W : World} {b : Nat} (x y : Pr) (hb : b < W.heap.size) (c0 : W.cell? ⟨b, 0, none⟩ = some (.int .i64 x.lo)) (c1 : W.cell? ⟨b, 1, none⟩ = some (.int .i64 x.hi)) (c2 : W.cell? ⟨b, 2, none⟩ = some (.int .i64 y.lo)) (c3 : W.cell? ⟨b, 3, none⟩ = some (.int .i64 y.hi)) : Prs W.heap.size W (.slice (some ⟨b, 0, none⟩) 2 2) [x, y] := by
  refine ⟨_, _, rfl, Nat.le_refl _, fun k hk => ⟨b, 0, rfl, hb, ?_⟩⟩
  match k, hk with
  | 0, _ => exact ⟨c0, c1⟩
  | 1, _ => exact ⟨c2, c3⟩
theorem nums_three {W : World} {b : Nat} (x y z : Int) (hb : b < W.heap.size) (c0 : W.cell? ⟨b, 0, none⟩ = some (.int .i64 x)) (c1 : W.cell? ⟨b, 1, none⟩ = some (.int .i64 y)) (c2 : W.cell? ⟨b, 2, none⟩ = some (.int .i64 z)) : Nums W.heap.size W (.slice (some ⟨b, 0, none⟩) 3 3) [x, y, z] := by
  refine ⟨_, _, rfl, Nat.le_refl _, fun k hk => ⟨b, 0, rfl, hb, ?_⟩⟩
  match k, hk with
  | 0, _ => exact c0
  | 1, _ => exact c1
  | 2, _ => exact c2
theorem spc_ex : spcV [0, 7, 56] = 3 ∧ spcE [0, 7, 56] = 0 := by decide
set_option maxRecDepth 10000 in
set_option maxHeartbeats 2000000 in
theorem example_any (w : World) : Calls Try.prog 51 #[] w fun e w' => ∃ sv cv, e = .returned (.tuple #[.agg #[.int .i64 10000, sv, .int .i64 3000, .int .i64 500], cv]) ∧ Els w'.heap.size w' sv exZ ∧ Prs w'.heap.size w' cv exC ∧ Below w.heap.size w w' := by
  go_enter Try.func51, Try.ntmps51
  go_wp2_with fail
  refine bodyPost_ret (v := .tuple #[.agg #[.int .i64 10000, .slice (some ⟨w.heap.size + 1, 0, none⟩) 2 2, .int .i64 3000, .int .i64 500], .slice (some ⟨w.heap.size + 1 + 1 + 1, 0, none⟩) 2 2]) (by simp [results, Try.results51, go_sem]) rfl ⟨_, _, rfl, els_two _ _ (by first | (simp; done) | (simp; omega)) (by simp [go_sem]) (by simp [go_sem]) (by simp [go_sem]) (by simp [go_sem]) (by simp [go_sem]) (by simp [go_sem]) (by simp [go_sem]) (by simp [go_sem]), prs_two _ _ (by simp) (by simp [go_sem]) (by simp [go_sem]) (by simp [go_sem]) (by simp [go_sem]), ?_⟩
  repeat (first | exact Below.refl _ _ | refine Below.alloc ?_ (by first | omega | (simp; done) | (simp; omega)) _)
set_option maxRecDepth 10000 in
set_option maxHeartbeats 4000000 in
theorem fine_any (w : World) : Calls Try.prog 15 #[] w fun e w' => e = .returned (.bool true) ∧ Below w.heap.size w w' := by
  have cT := Lib.hid (fun sv cv W hI hC => top_any 10000 3000 500 sv cv exZ exC false W hI hC)
  rw [top_ex, sta_ex] at cT
  unfold prv at cT
  have cN := Lib.hid (fun sv W hI => spacing_any sv [0, 7, 56] W hI)
  rw [spc_ex.1, spc_ex.2] at cN
  go_enter Try.func15, Try.ntmps15
  go_wp2_with fail
  refine (example_any _).mono ?_
  rintro e w1 ⟨sv, cv, rfl, hE, hC, hb⟩
  have HE := Lib.hid (fun W (h : Below w1.heap.size w1 W) => hE.at h)
  have HC := Lib.hid (fun W (h : Below w1.heap.size w1 W) => hC.at h)
  have HB := Lib.hid hb
  obtain ⟨a, cap, rfl, -, -⟩ := hE
  obtain ⟨c, cap2, rfl, -, -⟩ := hC
  clear hb
  go_wp2_with fail
  refine (cT.out _ _ _ (HE.out _ ((Below.refl _ _).alloc (Nat.le_refl _) _)) (HC.out _ ((Below.refl _ _).alloc (Nat.le_refl _) _))).mono ?_
  rintro e w2 ⟨rfl, hb⟩
  have hB2 : Below w.heap.size w w2 := (HB.out.alloc HB.out.size _).trans (hb.mono (by have := HB.out.size; simp; omega))
  have HB2 := Lib.hid hB2
  clear hb hB2
  go_wp2_with fail
  refine (cN.out _ _ (nums_three _ _ _ (by simp) (by simp [go_sem]) (by simp [go_sem]) (by simp [go_sem]))).mono ?_
  rintro e w3 ⟨rfl, rfl⟩
  go_wp2_with fail
  go_ret
  exact ⟨rfl, (HB2.out.alloc HB2.out.size _).alloc (by have := HB2.out.size; simp; omega) _⟩
end Go.Proofs.Ythogahdnidjelaa

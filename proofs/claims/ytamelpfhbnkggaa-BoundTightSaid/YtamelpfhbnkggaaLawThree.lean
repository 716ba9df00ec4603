/-
  The walk of BoundThree.
-/
import Derived.Test.YtamelpfhbnkggaaWorks
import Derived.Deep.RegionHeld3
namespace Go.Proofs.Ytamelpfhbnkggaa
open Go.RowKit Go.Shelf

theorem holds_yes (a b x : Int) (h1 : a ≤ x) (h2 : x ≤ b) (w : World) :
    Calls Try.prog 65 #[.agg #[.int .i64 a, .int .i64 b], .int .i64 x] w fun e w' => e = .returned (.bool true) ∧ Below w.heap.size w w' :=
  (holds_any a b x w).mono fun _ _ ⟨he, hb⟩ => ⟨he.trans (ret_bool (by simp [h1, h2])), hb⟩
theorem holds_no (a b x : Int) (h : ¬ (a ≤ x ∧ x ≤ b)) (w : World) :
    Calls Try.prog 65 #[.agg #[.int .i64 a, .int .i64 b], .int .i64 x] w fun e w' => e = .returned (.bool false) ∧ Below w.heap.size w w' :=
  (holds_any a b x w).mono fun _ _ ⟨he, hb⟩ => ⟨he.trans (ret_bool (by simp; omega)), hb⟩
theorem less_cases (a b c d : Int) (h1 : vB a b = true) (h2 : vB c d = true) : (lessS a b c d = ⟨2, 0⟩ ∧ b < c) ∨ (lessS a b c d = ⟨0, 0⟩ ∧ d ≤ a) ∨ (lessS a b c d = ⟨1, 0⟩ ∧ c ≤ b ∧ a < d) := by
  have k : lessS a b c d = (if b < c then ⟨2, 0⟩ else if d ≤ a then ⟨0, 0⟩ else ⟨1, 0⟩) := if_pos ⟨h1, h2⟩
  rw [k]
  by_cases g1 : b < c
  · exact .inl ⟨if_pos g1, g1⟩
  · rw [if_neg g1]
    by_cases g2 : d ≤ a
    · exact .inr (.inl ⟨if_pos g2, g2⟩)
    · exact .inr (.inr ⟨if_neg g2, by omega, by omega⟩)
theorem in_cases (a b c d : Int) (h1 : vB a b = true) (h2 : vB c d = true) : (inS a b c d = ⟨2, 0⟩ ∧ c ≤ a ∧ b ≤ d) ∨ (inS a b c d = ⟨0, 0⟩ ∧ (b < c ∨ d < a)) ∨ (inS a b c d = ⟨1, 0⟩ ∧ ¬ (c ≤ a ∧ b ≤ d) ∧ c ≤ b ∧ a ≤ d ∧ ((c ≤ a ∧ a ≤ d) ∨ ¬ (c ≤ a ∧ a ≤ d))) := by
  have k : inS a b c d = (if c ≤ a ∧ b ≤ d then ⟨2, 0⟩ else if b < c ∨ d < a then ⟨0, 0⟩ else ⟨1, 0⟩) := if_pos ⟨h1, h2⟩
  rw [k]
  by_cases g1 : c ≤ a ∧ b ≤ d
  · exact .inl ⟨if_pos g1, g1⟩
  · rw [if_neg g1]
    by_cases g2 : b < c ∨ d < a
    · exact .inr (.inl ⟨if_pos g2, g2⟩)
    · exact .inr (.inr ⟨if_neg g2, g1, by omega, by omega, Classical.em _⟩)

set_option maxRecDepth 100000 in
set_option maxHeartbeats 4000000 in
theorem law_three (a b c d p q : Int) (hp0 : 0 ≤ p) (hp1 : p ≤ 65535) (hq0 : 0 ≤ q) (hq1 : q ≤ 65535) (w : World) :
    Calls Try.prog 11 #[.agg #[.int .i64 a, .int .i64 b], .agg #[.int .i64 c, .int .i64 d], .int .u16 p, .int .u16 q] w fun e w' => e = .returned (.bool true) ∧ Below w.heap.size w w' := by
  have cW := fun w => works_any w
  by_cases h1 : vB a b = true
  · by_cases h2 : vB c d = true
    · have v1 := fun w => valid_yes a b h1 w
      have v2 := fun w => valid_yes c d h2 w
      have p1 := fun w => part_any a b p h1 hp0 hp1 w
      have p2 := fun w => part_any c d q h2 hq0 hq1 w
      obtain ⟨g1, g2, g3⟩ := (vB_iff a b).1 h1
      obtain ⟨g4, g5, g6⟩ := (vB_iff c d).1 h2
      obtain ⟨x1, x2⟩ := prt_in a b p g1 hp0 hp1
      obtain ⟨y1, y2⟩ := prt_in c d q g4 hq0 hq1
      generalize prt a b p = x at p1 x1 x2
      generalize prt c d q = y at p2 y1 y2
      have cl := fun w => less_any a b c d w
      have ci := fun w => in_any a b c d w
      have hl := less_cases a b c d h1 h2
      have hi := in_cases a b c d h1 h2
      generalize lessS a b c d = lv at cl hl
      generalize inS a b c d = iv at ci hi
      clear h1 h2
      have HL := Lib.hid hl
      have HI := Lib.hid hi
      clear hl hi
      go_enter Try.func11, Try.ntmps11
      go_wp2_with fail
      refine (v1 _).mono ?_
      rintro e w1 ⟨rfl, hb⟩
      obtain ⟨hc, hf⟩ := bcell hb
      go_wp2_with fail
      refine (v2 _).mono ?_
      rintro e w2 ⟨rfl, hb2⟩
      replace hb := hb.trans (hb2.mono hb.size)
      clear hc hf hb2
      obtain ⟨hc, hf⟩ := bcell hb
      have k0 : w2.cell? ⟨w.heap.size, 0, none⟩ = some (.int .i64 a) := by rw [hc _ _ (by simp; omega)]; simp [go_sem]
      have k1 : w2.cell? ⟨w.heap.size, 1, none⟩ = some (.int .i64 b) := by rw [hc _ _ (by simp; omega)]; simp [go_sem]
      have k2 : w2.cell? ⟨w.heap.size + 1, 0, none⟩ = some (.int .i64 c) := by rw [hc _ _ (by simp)]; simp [go_sem]
      have k3 : w2.cell? ⟨w.heap.size + 1, 1, none⟩ = some (.int .i64 d) := by rw [hc _ _ (by simp)]; simp [go_sem]
      have hz0 : w.heap.size + 2 ≤ w2.heap.size := by have := hb.size; simp at this; omega
      have hB1 : Below w.heap.size w w2 := (((Below.refl _ _).alloc (Nat.le_refl _) _).alloc (by simp) _).trans (hb.mono (by simp; omega))
      clear hc hf hb
      go_wp2_with fail
      go_region_held3 (fun w' => w'.cell? ⟨w.heap.size, 0, none⟩ = some (.int .i64 a) ∧ w'.cell? ⟨w.heap.size, 1, none⟩ = some (.int .i64 b) ∧ w'.cell? ⟨w.heap.size + 1, 0, none⟩ = some (.int .i64 c) ∧ w'.cell? ⟨w.heap.size + 1, 1, none⟩ = some (.int .i64 d)) (simp [go_sem, *])
        (first
          | (go_at_call 63; refine (p1 _).mono ?_; clear p1; rintro e w' ⟨rfl, hb⟩; have hcc := (fun b o (h : b < w.heap.size + 2) => hb.cell (p := ⟨b, o, none⟩) (Nat.lt_of_lt_of_le h (by assumption))); have hz1 : w.heap.size + 2 ≤ w'.heap.size := (Nat.le_trans (by assumption) hb.size))
          | (go_at_call 63; refine (p2 _).mono ?_; clear p2; rintro e w' ⟨rfl, hb⟩; have hcc := (fun b o (h : b < w.heap.size + 2) => hb.cell (p := ⟨b, o, none⟩) (Nat.lt_of_lt_of_le h (by assumption))); have hz1 : w.heap.size + 2 ≤ w'.heap.size := (Nat.le_trans (by assumption) hb.size)))
      have hB2 : Below w.heap.size w w' := by repeat (first | exact hB1 | refine Below.drew ?_ | refine chainB (by assumption) ?_)
      rcases HL.out with ⟨rfl, hx⟩ | ⟨rfl, hx⟩ | ⟨rfl, hx, hx'⟩ <;> rcases HI.out with ⟨rfl, hy, hy'⟩ | ⟨rfl, hy⟩ | ⟨rfl, hy, hy', hy'', hq | hq⟩
      all_goals try (exfalso; omega)
      all_goals
        dsimp only at cl ci
        go_wp2_with (first
          | (go_at_call 31; refine (cl _).mono ?_; rintro e w' ⟨rfl, hb⟩; have hcc := (fun b o (h : b < w.heap.size + 2) => hb.cell (p := ⟨b, o, none⟩) (Nat.lt_of_lt_of_le h (by assumption))); have hz1 : w.heap.size + 2 ≤ w'.heap.size := (Nat.le_trans (by assumption) hb.size))
          | (go_at_call 33; refine (ci _).mono ?_; rintro e w' ⟨rfl, hb⟩; have hcc := (fun b o (h : b < w.heap.size + 2) => hb.cell (p := ⟨b, o, none⟩) (Nat.lt_of_lt_of_le h (by assumption))); have hz1 : w.heap.size + 2 ≤ w'.heap.size := (Nat.le_trans (by assumption) hb.size))
          | (go_at_call 65; refine (holds_yes _ _ _ ?_ ?_ _).mono ?_; omega; omega; rintro e w' ⟨rfl, hb⟩; have hcc := (fun b o (h : b < w.heap.size + 2) => hb.cell (p := ⟨b, o, none⟩) (Nat.lt_of_lt_of_le h (by assumption))); have hz1 : w.heap.size + 2 ≤ w'.heap.size := (Nat.le_trans (by assumption) hb.size))
          | (go_at_call 65; refine (holds_no _ _ _ ?_ _).mono ?_; omega; rintro e w' ⟨rfl, hb⟩; have hcc := (fun b o (h : b < w.heap.size + 2) => hb.cell (p := ⟨b, o, none⟩) (Nat.lt_of_lt_of_le h (by assumption))); have hz1 : w.heap.size + 2 ≤ w'.heap.size := (Nat.le_trans (by assumption) hb.size))
          | (go_at_call 22; refine (cW _).mono ?_; rintro e w' ⟨rfl, hb⟩))
      all_goals
        go_ret
        exact ⟨rfl, by repeat (first | exact hB2 | refine Below.drew ?_ | refine chainB (by assumption) ?_)⟩
    · have v1 := fun w => valid_yes a b h1 w
      have v2 := fun w => valid_no c d h2 w
      clear h1 h2
      go_enter Try.func11, Try.ntmps11
      go_wp2_with fail
      refine (v1 _).mono ?_
      rintro e w1 ⟨rfl, hb⟩
      obtain ⟨hc, hf⟩ := bcell hb
      go_wp2_with fail
      refine (v2 _).mono ?_
      rintro e w2 ⟨rfl, hb2⟩
      go_wp2_with fail
      refine (cW _).mono ?_
      rintro e w3 ⟨rfl, hb3⟩
      go_wp2_with fail
      go_ret
      exact ⟨rfl, chainB hb3 (chainB hb2 (chainB hb (((Below.refl _ _).alloc (Nat.le_refl _) _).alloc (by simp) _)))⟩
  · have v1 := fun w => valid_no a b h1 w
    clear h1
    go_enter Try.func11, Try.ntmps11
    go_wp2_with fail
    refine (v1 _).mono ?_
    rintro e w1 ⟨rfl, hb⟩
    go_wp2_with fail
    refine (cW _).mono ?_
    rintro e w3 ⟨rfl, hb3⟩
    go_wp2_with fail
    go_ret
    exact ⟨rfl, chainB hb3 (chainB hb (((Below.refl _ _).alloc (Nat.le_refl _) _).alloc (by simp) _))⟩

end Go.Proofs.Ytamelpfhbnkggaa

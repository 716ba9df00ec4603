/-
  The walk of BoundIsotone.
-/
import Derived.Test.YtamelpfhbnkggaaIso
import Derived.Test.YtamelpfhbnkggaaLawAlgebra
import Derived.Laws.BitsAllLaws
namespace Go.Proofs.Ytamelpfhbnkggaa
open Go.RowKit Go.Shelf
theorem mask8 (p : Int) (h0 : 0 ≤ p) (h1 : p ≤ 65535) : bits BinOp.and IntKind.u16 p 255 = p % 256 := by
  obtain ⟨x, rfl⟩ := Int.eq_ofNat_of_zero_le h0
  have := u16_and_nat x 255 (by omega) (by decide)
  rw [nat_mask8] at this
  exact this.trans (by omega)
set_option maxHeartbeats 1000000 in
theorem wider_at (a b p : Int) (h : vB a b = true) (h0 : 0 ≤ p) (h1 : p ≤ 65535) (w : World) :
    Calls Try.prog 70 #[.agg #[.int .i64 a, .int .i64 b], .int .u16 p] w fun e w' => e = .returned (.agg #[.int .i64 (max (-1073741824) (a - p / 256)), .int .i64 (min 1073741824 (b + p % 256))]) ∧ Below w.heap.size w w' := by
  obtain ⟨g1, g2, g3⟩ := (vB_iff a b).1 h
  have hm := mask8 p h0 h1
  clear h
  go_enter Try.func70, Try.ntmps70
  go_wp2
  refine bodyPost_ret (v := .agg #[.int .i64 (max (-1073741824) (a - p / 256)), .int .i64 (min 1073741824 (b + p % 256))]) (by simp [results, Try.results70, go_sem]) rfl ⟨rfl, ?_⟩
  exact ((Below.refl _ _).alloc (Nat.le_refl _) _).alloc (by simp) _
theorem wider_any (a b p : Int) (h : vB a b = true) (h0 : 0 ≤ p) (h1 : p ≤ 65535) :
    ∃ a' b' : Int, vB a' b' = true ∧ a' ≤ a ∧ b ≤ b' ∧ ∀ w, Calls Try.prog 70 #[.agg #[.int .i64 a, .int .i64 b], .int .u16 p] w fun e w' => e = .returned (.agg #[.int .i64 a', .int .i64 b']) ∧ Below w.heap.size w w' := by
  obtain ⟨g1, g2, g3⟩ := (vB_iff a b).1 h
  exact ⟨max (-1073741824) (a - p / 256), min 1073741824 (b + p % 256), (vB_iff _ _).2 (by omega), by omega, by omega, fun w => wider_at a b p h h0 h1 w⟩
theorem operate9 (k : Nat) (hk : k < 9) (a b c d n m t0 t1 t : Int) (w : World) :
    Calls Try.prog 18 #[.int .i64 k, .agg #[.int .i64 a, .int .i64 b], .agg #[.int .i64 c, .int .i64 d], .int .i64 n, .int .i64 m, .int .i64 t0, .int .i64 t1, .int .i64 t] w fun e w' => e = .returned (.tuple #[.agg #[.int .i64 (opS k a b c d n m t0 t1 t).lo, .int .i64 (opS k a b c d n m t0 t1 t).hi], .int .i64 (opS k a b c d n m t0 t1 t).e]) ∧ Below w.heap.size w w' := by
  match k, hk with
  | 0, _ => exact operate0 a b c d n m t0 t1 t w
  | 1, _ => exact operate1 a b c d n m t0 t1 t w
  | 2, _ => exact operate2 a b c d n m t0 t1 t w
  | 3, _ => exact operate3 a b c d n m t0 t1 t w
  | 4, _ => exact operate4 a b c d n m t0 t1 t w
  | 5, _ => exact operate5 a b c d n m t0 t1 t w
  | 6, _ => exact operate6 a b c d n m t0 t1 t w
  | 7, _ => exact operate7 a b c d n m t0 t1 t w
  | 8, _ => exact operate8 a b c d n m t0 t1 t w
theorem less_wide (a b a' b' c d : Int) (h1 : vB a b = true) (h2 : vB c d = true) (h3 : vB a' b' = true) (l1 : a' ≤ a) (l2 : b ≤ b') :
    ∃ x y : Int, lessS a b c d = ⟨x, 0⟩ ∧ lessS a' b' c d = ⟨y, 0⟩ ∧ (y = x ∨ (¬ y = x ∧ y = 1)) := by
  obtain ⟨g1, g2, g3⟩ := (vB_iff a b).1 h1
  obtain ⟨g4, g5, g6⟩ := (vB_iff c d).1 h2
  rcases less_cases a b c d h1 h2 with ⟨e1, k1⟩ | ⟨e1, k1⟩ | ⟨e1, k1, k1'⟩ <;> rcases less_cases a' b' c d h3 h2 with ⟨e2, k2⟩ | ⟨e2, k2⟩ | ⟨e2, k2, k2'⟩ <;>
    first
      | (exfalso; omega)
      | exact ⟨_, _, e1, e2, .inl rfl⟩
      | exact ⟨_, _, e1, e2, .inr ⟨by decide, rfl⟩⟩
theorem in_wide (a b a' b' c d : Int) (h1 : vB a b = true) (h2 : vB c d = true) (h3 : vB a' b' = true) (l1 : a' ≤ a) (l2 : b ≤ b') :
    ∃ x y : Int, inS a b c d = ⟨x, 0⟩ ∧ inS a' b' c d = ⟨y, 0⟩ ∧ (y = x ∨ (¬ y = x ∧ y = 1)) := by
  obtain ⟨g1, g2, g3⟩ := (vB_iff a b).1 h1
  obtain ⟨g4, g5, g6⟩ := (vB_iff c d).1 h2
  rcases in_cases a b c d h1 h2 with ⟨e1, k1, k1'⟩ | ⟨e1, k1⟩ | ⟨e1, k1, k1', k1''⟩ <;> rcases in_cases a' b' c d h3 h2 with ⟨e2, k2, k2'⟩ | ⟨e2, k2⟩ | ⟨e2, k2, k2', k2''⟩ <;>
    first
      | (exfalso; omega)
      | exact ⟨_, _, e1, e2, .inl rfl⟩
      | exact ⟨_, _, e1, e2, .inr ⟨by decide, rfl⟩⟩

set_option maxRecDepth 100000 in
set_option maxHeartbeats 8000000 in
theorem law_isotone (a b c d p n m t0 t1 t : Int) (hp0 : 0 ≤ p) (hp1 : p ≤ 65535) (w : World) :
    Calls Try.prog 10 #[.agg #[.int .i64 a, .int .i64 b], .agg #[.int .i64 c, .int .i64 d], .int .u16 p, .int .i64 n, .int .i64 m, .int .i64 t0, .int .i64 t1, .int .i64 t] w fun e w' => e = .returned (.bool true) ∧ Below w.heap.size w w' := by
  have cW := fun w => works_any w
  by_cases h1 : vB a b = true
  · by_cases h2 : vB c d = true
    · have v1 := fun w => valid_yes a b h1 w
      have v2 := fun w => valid_yes c d h2 w
      obtain ⟨a', b', h3, l1, l2, v3⟩ := wider_any a b p h1 hp0 hp1
      have H1 := Lib.hid h1
      have H2 := Lib.hid h2
      have H3 := Lib.hid h3
      obtain ⟨x, y, ex, ey, hxy⟩ := less_wide a b a' b' c d h1 h2 h3 l1 l2
      obtain ⟨x', y', ex', ey', hxy'⟩ := in_wide a b a' b' c d h1 h2 h3 l1 l2
      have c1 := fun w => less_any a b c d w
      have c2 := fun w => less_any a' b' c d w
      have c3 := fun w => in_any a b c d w
      have c4 := fun w => in_any a' b' c d w
      rw [ex] at c1; rw [ey] at c2; rw [ex'] at c3; rw [ey'] at c4
      dsimp only at c1 c2 c3 c4
      have HX := Lib.hid hxy
      have HY := Lib.hid hxy'
      clear h1 h2 h3 ex ey ex' ey' hxy hxy'
      go_enter Try.func10, Try.ntmps10
      go_wp2_with fail
      refine (v1 _).mono ?_
      rintro e w1 ⟨rfl, hb⟩
      obtain ⟨hc, hf⟩ := bcell hb
      have k1_0a : w1.cell? ⟨w.heap.size, 0, none⟩ = some (.int .i64 a) := by rw [hc _ _ (by first | omega | (simp; omega) | simp)]; simp [go_sem, *]
      have k1_0b : w1.cell? ⟨w.heap.size, 1, none⟩ = some (.int .i64 b) := by rw [hc _ _ (by first | omega | (simp; omega) | simp)]; simp [go_sem, *]
      have z1_0 : w.heap.size < w1.heap.size := by have := hb.size; (try simp at this); omega
      have k1_1a : w1.cell? ⟨(w.heap.size + 1), 0, none⟩ = some (.int .i64 c) := by rw [hc _ _ (by first | omega | (simp; omega) | simp)]; simp [go_sem, *]
      have k1_1b : w1.cell? ⟨(w.heap.size + 1), 1, none⟩ = some (.int .i64 d) := by rw [hc _ _ (by first | omega | (simp; omega) | simp)]; simp [go_sem, *]
      have z1_1 : (w.heap.size + 1) < w1.heap.size := by have := hb.size; (try simp at this); omega
      have hB1 : Below w.heap.size w w1 := by repeat (first | exact (Below.refl _ _) | refine Below.drew ?_ | refine below_drewN ?_ _ | refine Below.setCell ?_ (by first | omega | (simp; omega) | simp) _ | refine Below.alloc ?_ (by first | omega | (simp; omega) | simp) _ | refine chainB (by assumption) ?_)
      have hs1 : w.heap.size ≤ w1.heap.size := hB1.size
      clear hc hf hb 
      go_wp2_with fail
      refine (v2 _).mono ?_
      rintro e w2 ⟨rfl, hb⟩
      obtain ⟨hc, hf⟩ := bcell hb
      have k2_0a : w2.cell? ⟨w.heap.size, 0, none⟩ = some (.int .i64 a) := by rw [hc _ _ (by first | omega | (simp; omega) | simp)]; simp [go_sem, *]
      have k2_0b : w2.cell? ⟨w.heap.size, 1, none⟩ = some (.int .i64 b) := by rw [hc _ _ (by first | omega | (simp; omega) | simp)]; simp [go_sem, *]
      have z2_0 : w.heap.size < w2.heap.size := by have := hb.size; (try simp at this); omega
      have k2_1a : w2.cell? ⟨(w.heap.size + 1), 0, none⟩ = some (.int .i64 c) := by rw [hc _ _ (by first | omega | (simp; omega) | simp)]; simp [go_sem, *]
      have k2_1b : w2.cell? ⟨(w.heap.size + 1), 1, none⟩ = some (.int .i64 d) := by rw [hc _ _ (by first | omega | (simp; omega) | simp)]; simp [go_sem, *]
      have z2_1 : (w.heap.size + 1) < w2.heap.size := by have := hb.size; (try simp at this); omega
      have hB2 : Below w.heap.size w w2 := by repeat (first | exact hB1 | refine Below.drew ?_ | refine below_drewN ?_ _ | refine Below.setCell ?_ (by first | omega | (simp; omega) | simp) _ | refine Below.alloc ?_ (by first | omega | (simp; omega) | simp) _ | refine chainB (by assumption) ?_)
      have hs2 : w.heap.size ≤ w2.heap.size := hB2.size
      clear hc hf hb k1_0a k1_0b z1_0 k1_1a k1_1b z1_1 hB1 hs1
      go_wp2_with fail
      refine (v3 _).mono ?_
      rintro e w3 ⟨rfl, hb⟩
      obtain ⟨hc, hf⟩ := bcell hb
      have k3_0a : w3.cell? ⟨w.heap.size, 0, none⟩ = some (.int .i64 a) := by rw [hc _ _ (by first | omega | (simp; omega) | simp)]; simp [go_sem, *]
      have k3_0b : w3.cell? ⟨w.heap.size, 1, none⟩ = some (.int .i64 b) := by rw [hc _ _ (by first | omega | (simp; omega) | simp)]; simp [go_sem, *]
      have z3_0 : w.heap.size < w3.heap.size := by have := hb.size; (try simp at this); omega
      have k3_1a : w3.cell? ⟨(w.heap.size + 1), 0, none⟩ = some (.int .i64 c) := by rw [hc _ _ (by first | omega | (simp; omega) | simp)]; simp [go_sem, *]
      have k3_1b : w3.cell? ⟨(w.heap.size + 1), 1, none⟩ = some (.int .i64 d) := by rw [hc _ _ (by first | omega | (simp; omega) | simp)]; simp [go_sem, *]
      have z3_1 : (w.heap.size + 1) < w3.heap.size := by have := hb.size; (try simp at this); omega
      have hB3 : Below w.heap.size w w3 := by repeat (first | exact hB2 | refine Below.drew ?_ | refine below_drewN ?_ _ | refine Below.setCell ?_ (by first | omega | (simp; omega) | simp) _ | refine Below.alloc ?_ (by first | omega | (simp; omega) | simp) _ | refine chainB (by assumption) ?_)
      have hs3 : w.heap.size ≤ w3.heap.size := hB3.size
      clear hc hf hb k2_0a k2_0b z2_0 k2_1a k2_1b z2_1 hB2 hs2
      go_wp2_with fail
      have n0 : w.heap.size + 2 ≤ w3.heap.size := by omega
      go_loopw [18] (fun i wr => ∃ k : Nat, k ≤ 9 ∧ i = .int .i64 k ∧ wr.cell? ⟨w.heap.size, 0, none⟩ = some (.int .i64 a) ∧ wr.cell? ⟨w.heap.size, 1, none⟩ = some (.int .i64 b) ∧ wr.cell? ⟨(w.heap.size + 1), 0, none⟩ = some (.int .i64 c) ∧ wr.cell? ⟨(w.heap.size + 1), 1, none⟩ = some (.int .i64 d) ∧ wr.cell? ⟨w3.heap.size, 0, none⟩ = some (.int .i64 a') ∧ wr.cell? ⟨w3.heap.size, 1, none⟩ = some (.int .i64 b') ∧ w3.heap.size + 1 ≤ wr.heap.size ∧ Below w.heap.size w wr) (fun i _ => 9 - (intOf i).toNat)
      case atStart => exact ⟨0, by omega, rfl, by simp [go_sem, *], by simp [go_sem, *], by simp [go_sem, *], by simp [go_sem, *], by simp [go_sem, *], by simp [go_sem, *], by simp, hB3.alloc (by omega) _⟩
      case round =>
        obtain ⟨k, hk, rfl, q0, q1, q2, q3, q4, q5, hz, hB0⟩ := hrel
        clear k3_0a k3_0b z3_0 k3_1a k3_1b z3_1 hB3 hs3
        have y0 : w.heap.size < wr.heap.size := by omega
        have y1 : w.heap.size + 1 < wr.heap.size := by omega
        have y2 : w3.heap.size < wr.heap.size := by omega
        by_cases hlt : k < 9
        · have o1 := fun w => operate9 k hlt a b c d n m t0 t1 t w
          have o2 := fun w => operate9 k hlt a' b' c d n m t0 t1 t w
          have hop := op_mono k a b a' b' c d n m t0 t1 t H1.out H2.out H3.out l1 l2
          generalize opS k a b c d n m t0 t1 t = r at o1 hop
          generalize opS k a' b' c d n m t0 t1 t = s at o2 hop
          have hcase : (r.e = 0 ∧ s.e = 0 ∧ s.lo ≤ r.lo ∧ r.hi ≤ s.hi) ∨ (¬ r.e = 0) ∨ (r.e = 0 ∧ ¬ s.e = 0) := by
            by_cases e1 : r.e = 0
            · by_cases e2 : s.e = 0
              · exact .inl ⟨e1, e2, hop e1 e2⟩
              · exact .inr (.inr ⟨e1, e2⟩)
            · exact .inr (.inl e1)
          have HC := Lib.hid hcase
          clear hop hcase v1 v2 v3 c1 c2 c3 c4 cW
          have hB3 := hB0
          have hs3 := hB3.size
          go_wp2_with fail
          refine (o1 _).mono ?_
          rintro e w4 ⟨rfl, hb⟩
          obtain ⟨hc, hf⟩ := bcell hb
          have k4_0a : w4.cell? ⟨w.heap.size, 0, none⟩ = some (.int .i64 a) := by rw [hc _ _ (by first | omega | (simp; omega) | simp)]; simp [go_sem, *]
          have k4_0b : w4.cell? ⟨w.heap.size, 1, none⟩ = some (.int .i64 b) := by rw [hc _ _ (by first | omega | (simp; omega) | simp)]; simp [go_sem, *]
          have z4_0 : w.heap.size < w4.heap.size := by have := hb.size; (try simp at this); omega
          have k4_1a : w4.cell? ⟨(w.heap.size + 1), 0, none⟩ = some (.int .i64 c) := by rw [hc _ _ (by first | omega | (simp; omega) | simp)]; simp [go_sem, *]
          have k4_1b : w4.cell? ⟨(w.heap.size + 1), 1, none⟩ = some (.int .i64 d) := by rw [hc _ _ (by first | omega | (simp; omega) | simp)]; simp [go_sem, *]
          have z4_1 : (w.heap.size + 1) < w4.heap.size := by have := hb.size; (try simp at this); omega
          have k4_2a : w4.cell? ⟨w3.heap.size, 0, none⟩ = some (.int .i64 a') := by rw [hc _ _ (by first | omega | (simp; omega) | simp)]; simp [go_sem, *]
          have k4_2b : w4.cell? ⟨w3.heap.size, 1, none⟩ = some (.int .i64 b') := by rw [hc _ _ (by first | omega | (simp; omega) | simp)]; simp [go_sem, *]
          have z4_2 : w3.heap.size < w4.heap.size := by have := hb.size; (try simp at this); omega
          have hB4 : Below w.heap.size w w4 := by repeat (first | exact hB3 | refine Below.drew ?_ | refine below_drewN ?_ _ | refine Below.setCell ?_ (by first | omega | (simp; omega) | simp) _ | refine Below.alloc ?_ (by first | omega | (simp; omega) | simp) _ | refine chainB (by assumption) ?_)
          have hs4 : w.heap.size ≤ w4.heap.size := hB4.size
          clear hc hf hb q0 q1 q2 q3 q4 q5 hB3 hs3
          go_wp2_with fail
          refine (o2 _).mono ?_
          rintro e w5 ⟨rfl, hb⟩
          obtain ⟨hc, hf⟩ := bcell hb
          have dr1909 : ¬ w.heap.size = w4.heap.size := by omega
          have dr1909s : ¬ w4.heap.size = w.heap.size := by omega
          have dr2040 : ¬ (w.heap.size + 1) = w4.heap.size := by omega
          have dr2040s : ¬ w4.heap.size = (w.heap.size + 1) := by omega
          have dr2183 : ¬ w3.heap.size = w4.heap.size := by omega
          have dr2183s : ¬ w4.heap.size = w3.heap.size := by omega
          have dr2316l : w.heap.size ≤ w4.heap.size := by omega
          have k5_0a : w5.cell? ⟨w.heap.size, 0, none⟩ = some (.int .i64 a) := by rw [hc _ _ (by first | omega | (simp; omega) | simp)]; simp [go_sem, *]
          have k5_0b : w5.cell? ⟨w.heap.size, 1, none⟩ = some (.int .i64 b) := by rw [hc _ _ (by first | omega | (simp; omega) | simp)]; simp [go_sem, *]
          have z5_0 : w.heap.size < w5.heap.size := by have := hb.size; (try simp at this); omega
          have k5_1a : w5.cell? ⟨(w.heap.size + 1), 0, none⟩ = some (.int .i64 c) := by rw [hc _ _ (by first | omega | (simp; omega) | simp)]; simp [go_sem, *]
          have k5_1b : w5.cell? ⟨(w.heap.size + 1), 1, none⟩ = some (.int .i64 d) := by rw [hc _ _ (by first | omega | (simp; omega) | simp)]; simp [go_sem, *]
          have z5_1 : (w.heap.size + 1) < w5.heap.size := by have := hb.size; (try simp at this); omega
          have k5_2a : w5.cell? ⟨w3.heap.size, 0, none⟩ = some (.int .i64 a') := by rw [hc _ _ (by first | omega | (simp; omega) | simp)]; simp [go_sem, *]
          have k5_2b : w5.cell? ⟨w3.heap.size, 1, none⟩ = some (.int .i64 b') := by rw [hc _ _ (by first | omega | (simp; omega) | simp)]; simp [go_sem, *]
          have z5_2 : w3.heap.size < w5.heap.size := by have := hb.size; (try simp at this); omega
          have k5_3a : w5.cell? ⟨w4.heap.size, 0, none⟩ = some (.int .i64 r.lo) := by rw [hc _ _ (by first | omega | (simp; omega) | simp)]; simp [go_sem, *]
          have k5_3b : w5.cell? ⟨w4.heap.size, 1, none⟩ = some (.int .i64 r.hi) := by rw [hc _ _ (by first | omega | (simp; omega) | simp)]; simp [go_sem, *]
          have z5_3 : w4.heap.size < w5.heap.size := by have := hb.size; (try simp at this); omega
          have hB5 : Below w.heap.size w w5 := by repeat (first | exact hB4 | refine Below.drew ?_ | refine below_drewN ?_ _ | refine Below.setCell ?_ (by first | omega | (simp; omega) | simp) _ | refine Below.alloc ?_ (by first | omega | (simp; omega) | simp) _ | refine chainB (by assumption) ?_)
          have hs5 : w.heap.size ≤ w5.heap.size := hB5.size
          clear hc hf hb k4_0a k4_0b z4_0 k4_1a k4_1b z4_1 k4_2a k4_2b z4_2 hB4 hs4
          rcases HC.out with ⟨hc1, hc2, hc3, hc4⟩ | hc1 | ⟨hc1, hc2⟩
          · go_wp2_with fail
            refine (inside_yes r.lo r.hi s.lo s.hi hc3 hc4 _).mono ?_
            rintro e w6 ⟨rfl, hb⟩
            obtain ⟨hc, hf⟩ := bcell hb
            have dr173 : ¬ w.heap.size = w5.heap.size := by omega
            have dr173s : ¬ w5.heap.size = w.heap.size := by omega
            have dr306 : ¬ (w.heap.size + 1) = w5.heap.size := by omega
            have dr306s : ¬ w5.heap.size = (w.heap.size + 1) := by omega
            have dr451 : ¬ w3.heap.size = w5.heap.size := by omega
            have dr451s : ¬ w5.heap.size = w3.heap.size := by omega
            have dr586 : ¬ w4.heap.size = w5.heap.size := by omega
            have dr586s : ¬ w5.heap.size = w4.heap.size := by omega
            have dr721l : w.heap.size ≤ w5.heap.size := by omega
            have k6_0a : w6.cell? ⟨w.heap.size, 0, none⟩ = some (.int .i64 a) := by rw [hc _ _ (by first | omega | (simp; omega) | simp)]; simp [go_sem, *]
            have k6_0b : w6.cell? ⟨w.heap.size, 1, none⟩ = some (.int .i64 b) := by rw [hc _ _ (by first | omega | (simp; omega) | simp)]; simp [go_sem, *]
            have z6_0 : w.heap.size < w6.heap.size := by have := hb.size; (try simp at this); omega
            have k6_1a : w6.cell? ⟨(w.heap.size + 1), 0, none⟩ = some (.int .i64 c) := by rw [hc _ _ (by first | omega | (simp; omega) | simp)]; simp [go_sem, *]
            have k6_1b : w6.cell? ⟨(w.heap.size + 1), 1, none⟩ = some (.int .i64 d) := by rw [hc _ _ (by first | omega | (simp; omega) | simp)]; simp [go_sem, *]
            have z6_1 : (w.heap.size + 1) < w6.heap.size := by have := hb.size; (try simp at this); omega
            have k6_2a : w6.cell? ⟨w3.heap.size, 0, none⟩ = some (.int .i64 a') := by rw [hc _ _ (by first | omega | (simp; omega) | simp)]; simp [go_sem, *]
            have k6_2b : w6.cell? ⟨w3.heap.size, 1, none⟩ = some (.int .i64 b') := by rw [hc _ _ (by first | omega | (simp; omega) | simp)]; simp [go_sem, *]
            have z6_2 : w3.heap.size < w6.heap.size := by have := hb.size; (try simp at this); omega
            have k6_3a : w6.cell? ⟨w4.heap.size, 0, none⟩ = some (.int .i64 r.lo) := by rw [hc _ _ (by first | omega | (simp; omega) | simp)]; simp [go_sem, *]
            have k6_3b : w6.cell? ⟨w4.heap.size, 1, none⟩ = some (.int .i64 r.hi) := by rw [hc _ _ (by first | omega | (simp; omega) | simp)]; simp [go_sem, *]
            have z6_3 : w4.heap.size < w6.heap.size := by have := hb.size; (try simp at this); omega
            have k6_4a : w6.cell? ⟨w5.heap.size, 0, none⟩ = some (.int .i64 s.lo) := by rw [hc _ _ (by first | omega | (simp; omega) | simp)]; simp [go_sem, *]
            have k6_4b : w6.cell? ⟨w5.heap.size, 1, none⟩ = some (.int .i64 s.hi) := by rw [hc _ _ (by first | omega | (simp; omega) | simp)]; simp [go_sem, *]
            have z6_4 : w5.heap.size < w6.heap.size := by have := hb.size; (try simp at this); omega
            have hB6 : Below w.heap.size w w6 := by repeat (first | exact hB5 | refine Below.drew ?_ | refine below_drewN ?_ _ | refine Below.setCell ?_ (by first | omega | (simp; omega) | simp) _ | refine Below.alloc ?_ (by first | omega | (simp; omega) | simp) _ | refine chainB (by assumption) ?_)
            have hs6 : w.heap.size ≤ w6.heap.size := hB6.size
            clear hc hf hb k5_0a k5_0b z5_0 k5_1a k5_1b z5_1 k5_2a k5_2b z5_2 k5_3a k5_3b z5_3 hB5 hs5
            go_wp2_with fail
            refine ⟨⟨k + 1, by omega, rfl, by simp [go_sem, *], by simp [go_sem, *], by simp [go_sem, *], by simp [go_sem, *], by simp [go_sem, *], by simp [go_sem, *], by (try simp); omega, by repeat (first | exact hB6 | refine Below.alloc ?_ (by first | omega | (simp; omega) | simp) _)⟩, by simp [intOf]; omega⟩
          · go_wp2_with fail
            refine ⟨⟨k + 1, by omega, rfl, by simp [go_sem, *], by simp [go_sem, *], by simp [go_sem, *], by simp [go_sem, *], by simp [go_sem, *], by simp [go_sem, *], by (try simp); omega, by repeat (first | exact hB5 | refine Below.alloc ?_ (by first | omega | (simp; omega) | simp) _)⟩, by simp [intOf]; omega⟩
          · go_wp2_with fail
            refine ⟨⟨k + 1, by omega, rfl, by simp [go_sem, *], by simp [go_sem, *], by simp [go_sem, *], by simp [go_sem, *], by simp [go_sem, *], by simp [go_sem, *], by (try simp); omega, by repeat (first | exact hB5 | refine Below.alloc ?_ (by first | omega | (simp; omega) | simp) _)⟩, by simp [intOf]; omega⟩
        · obtain rfl : k = 9 := by omega
          clear v1 v2 v3
          have hB3 := hB0
          have hs3 := hB3.size
          go_wp2_with fail
          refine (c1 _).mono ?_
          rintro e w4 ⟨rfl, hb⟩
          obtain ⟨hc, hf⟩ := bcell hb
          have k4_0a : w4.cell? ⟨w.heap.size, 0, none⟩ = some (.int .i64 a) := by rw [hc _ _ (by first | omega | (simp; omega) | simp)]; simp [go_sem, *]
          have k4_0b : w4.cell? ⟨w.heap.size, 1, none⟩ = some (.int .i64 b) := by rw [hc _ _ (by first | omega | (simp; omega) | simp)]; simp [go_sem, *]
          have z4_0 : w.heap.size < w4.heap.size := by have := hb.size; (try simp at this); omega
          have k4_1a : w4.cell? ⟨(w.heap.size + 1), 0, none⟩ = some (.int .i64 c) := by rw [hc _ _ (by first | omega | (simp; omega) | simp)]; simp [go_sem, *]
          have k4_1b : w4.cell? ⟨(w.heap.size + 1), 1, none⟩ = some (.int .i64 d) := by rw [hc _ _ (by first | omega | (simp; omega) | simp)]; simp [go_sem, *]
          have z4_1 : (w.heap.size + 1) < w4.heap.size := by have := hb.size; (try simp at this); omega
          have k4_2a : w4.cell? ⟨w3.heap.size, 0, none⟩ = some (.int .i64 a') := by rw [hc _ _ (by first | omega | (simp; omega) | simp)]; simp [go_sem, *]
          have k4_2b : w4.cell? ⟨w3.heap.size, 1, none⟩ = some (.int .i64 b') := by rw [hc _ _ (by first | omega | (simp; omega) | simp)]; simp [go_sem, *]
          have z4_2 : w3.heap.size < w4.heap.size := by have := hb.size; (try simp at this); omega
          have hB4 : Below w.heap.size w w4 := by repeat (first | exact hB3 | refine Below.drew ?_ | refine below_drewN ?_ _ | refine Below.setCell ?_ (by first | omega | (simp; omega) | simp) _ | refine Below.alloc ?_ (by first | omega | (simp; omega) | simp) _ | refine chainB (by assumption) ?_)
          have hs4 : w.heap.size ≤ w4.heap.size := hB4.size
          clear hc hf hb q0 q1 q2 q3 q4 q5 hB3 hs3
          go_wp2_with fail
          refine (c2 _).mono ?_
          rintro e w5 ⟨rfl, hb⟩
          obtain ⟨hc, hf⟩ := bcell hb
          have k5_0a : w5.cell? ⟨w.heap.size, 0, none⟩ = some (.int .i64 a) := by rw [hc _ _ (by first | omega | (simp; omega) | simp)]; simp [go_sem, *]
          have k5_0b : w5.cell? ⟨w.heap.size, 1, none⟩ = some (.int .i64 b) := by rw [hc _ _ (by first | omega | (simp; omega) | simp)]; simp [go_sem, *]
          have z5_0 : w.heap.size < w5.heap.size := by have := hb.size; (try simp at this); omega
          have k5_1a : w5.cell? ⟨(w.heap.size + 1), 0, none⟩ = some (.int .i64 c) := by rw [hc _ _ (by first | omega | (simp; omega) | simp)]; simp [go_sem, *]
          have k5_1b : w5.cell? ⟨(w.heap.size + 1), 1, none⟩ = some (.int .i64 d) := by rw [hc _ _ (by first | omega | (simp; omega) | simp)]; simp [go_sem, *]
          have z5_1 : (w.heap.size + 1) < w5.heap.size := by have := hb.size; (try simp at this); omega
          have k5_2a : w5.cell? ⟨w3.heap.size, 0, none⟩ = some (.int .i64 a') := by rw [hc _ _ (by first | omega | (simp; omega) | simp)]; simp [go_sem, *]
          have k5_2b : w5.cell? ⟨w3.heap.size, 1, none⟩ = some (.int .i64 b') := by rw [hc _ _ (by first | omega | (simp; omega) | simp)]; simp [go_sem, *]
          have z5_2 : w3.heap.size < w5.heap.size := by have := hb.size; (try simp at this); omega
          have hB5 : Below w.heap.size w w5 := by repeat (first | exact hB4 | refine Below.drew ?_ | refine below_drewN ?_ _ | refine Below.setCell ?_ (by first | omega | (simp; omega) | simp) _ | refine Below.alloc ?_ (by first | omega | (simp; omega) | simp) _ | refine chainB (by assumption) ?_)
          have hs5 : w.heap.size ≤ w5.heap.size := hB5.size
          clear hc hf hb k4_0a k4_0b z4_0 k4_1a k4_1b z4_1 k4_2a k4_2b z4_2 hB4 hs4
          go_wp2_with fail
          refine (c3 _).mono ?_
          rintro e w6 ⟨rfl, hb⟩
          obtain ⟨hc, hf⟩ := bcell hb
          have k6_0a : w6.cell? ⟨w.heap.size, 0, none⟩ = some (.int .i64 a) := by rw [hc _ _ (by first | omega | (simp; omega) | simp)]; simp [go_sem, *]
          have k6_0b : w6.cell? ⟨w.heap.size, 1, none⟩ = some (.int .i64 b) := by rw [hc _ _ (by first | omega | (simp; omega) | simp)]; simp [go_sem, *]
          have z6_0 : w.heap.size < w6.heap.size := by have := hb.size; (try simp at this); omega
          have k6_1a : w6.cell? ⟨(w.heap.size + 1), 0, none⟩ = some (.int .i64 c) := by rw [hc _ _ (by first | omega | (simp; omega) | simp)]; simp [go_sem, *]
          have k6_1b : w6.cell? ⟨(w.heap.size + 1), 1, none⟩ = some (.int .i64 d) := by rw [hc _ _ (by first | omega | (simp; omega) | simp)]; simp [go_sem, *]
          have z6_1 : (w.heap.size + 1) < w6.heap.size := by have := hb.size; (try simp at this); omega
          have k6_2a : w6.cell? ⟨w3.heap.size, 0, none⟩ = some (.int .i64 a') := by rw [hc _ _ (by first | omega | (simp; omega) | simp)]; simp [go_sem, *]
          have k6_2b : w6.cell? ⟨w3.heap.size, 1, none⟩ = some (.int .i64 b') := by rw [hc _ _ (by first | omega | (simp; omega) | simp)]; simp [go_sem, *]
          have z6_2 : w3.heap.size < w6.heap.size := by have := hb.size; (try simp at this); omega
          have hB6 : Below w.heap.size w w6 := by repeat (first | exact hB5 | refine Below.drew ?_ | refine below_drewN ?_ _ | refine Below.setCell ?_ (by first | omega | (simp; omega) | simp) _ | refine Below.alloc ?_ (by first | omega | (simp; omega) | simp) _ | refine chainB (by assumption) ?_)
          have hs6 : w.heap.size ≤ w6.heap.size := hB6.size
          clear hc hf hb k5_0a k5_0b z5_0 k5_1a k5_1b z5_1 k5_2a k5_2b z5_2 hB5 hs5
          go_wp2_with fail
          refine (c4 _).mono ?_
          rintro e w7 ⟨rfl, hb⟩
          obtain ⟨hc, hf⟩ := bcell hb
          have k7_0a : w7.cell? ⟨w.heap.size, 0, none⟩ = some (.int .i64 a) := by rw [hc _ _ (by first | omega | (simp; omega) | simp)]; simp [go_sem, *]
          have k7_0b : w7.cell? ⟨w.heap.size, 1, none⟩ = some (.int .i64 b) := by rw [hc _ _ (by first | omega | (simp; omega) | simp)]; simp [go_sem, *]
          have z7_0 : w.heap.size < w7.heap.size := by have := hb.size; (try simp at this); omega
          have k7_1a : w7.cell? ⟨(w.heap.size + 1), 0, none⟩ = some (.int .i64 c) := by rw [hc _ _ (by first | omega | (simp; omega) | simp)]; simp [go_sem, *]
          have k7_1b : w7.cell? ⟨(w.heap.size + 1), 1, none⟩ = some (.int .i64 d) := by rw [hc _ _ (by first | omega | (simp; omega) | simp)]; simp [go_sem, *]
          have z7_1 : (w.heap.size + 1) < w7.heap.size := by have := hb.size; (try simp at this); omega
          have k7_2a : w7.cell? ⟨w3.heap.size, 0, none⟩ = some (.int .i64 a') := by rw [hc _ _ (by first | omega | (simp; omega) | simp)]; simp [go_sem, *]
          have k7_2b : w7.cell? ⟨w3.heap.size, 1, none⟩ = some (.int .i64 b') := by rw [hc _ _ (by first | omega | (simp; omega) | simp)]; simp [go_sem, *]
          have z7_2 : w3.heap.size < w7.heap.size := by have := hb.size; (try simp at this); omega
          have hB7 : Below w.heap.size w w7 := by repeat (first | exact hB6 | refine Below.drew ?_ | refine below_drewN ?_ _ | refine Below.setCell ?_ (by first | omega | (simp; omega) | simp) _ | refine Below.alloc ?_ (by first | omega | (simp; omega) | simp) _ | refine chainB (by assumption) ?_)
          have hs7 : w.heap.size ≤ w7.heap.size := hB7.size
          clear hc hf hb k6_0a k6_0b z6_0 k6_1a k6_1b z6_1 k6_2a k6_2b z6_2 hB6 hs6
          rcases HX.out with rfl | ⟨hx1, rfl⟩ <;> rcases HY.out with rfl | ⟨hy1, rfl⟩
          all_goals
            go_wp2_with fail
            refine (cW _).mono ?_
            rintro e wz ⟨rfl, hbz⟩
            go_wp2_with fail
            go_ret
            exact ⟨rfl, chainB hbz hB7⟩
    · have v1 := fun w => valid_yes a b h1 w
      have v2 := fun w => valid_no c d h2 w
      clear h1 h2
      go_enter Try.func10, Try.ntmps10
      go_wp2_with fail
      refine (v1 _).mono ?_
      rintro e w1 ⟨rfl, hb⟩
      obtain ⟨hc, hf⟩ := bcell hb
      go_wp2_with fail
      refine (v2 _).mono ?_
      rintro e w2 ⟨rfl, hb2⟩
      go_wp2_with fail
      refine (cW _).mono ?_
      rintro e w3 ⟨rfl, hb3⟩
      go_wp2_with fail
      go_ret
      exact ⟨rfl, chainB hb3 (chainB hb2 (chainB hb (((Below.refl _ _).alloc (Nat.le_refl _) _).alloc (by simp) _)))⟩
  · have v1 := fun w => valid_no a b h1 w
    clear h1
    go_enter Try.func10, Try.ntmps10
    go_wp2_with fail
    refine (v1 _).mono ?_
    rintro e w1 ⟨rfl, hb⟩
    go_wp2_with fail
    refine (cW _).mono ?_
    rintro e w3 ⟨rfl, hb3⟩
    go_wp2_with fail
    go_ret
    exact ⟨rfl, chainB hb3 (chainB hb (((Below.refl _ _).alloc (Nat.le_refl _) _).alloc (by simp) _))⟩
end Go.Proofs.Ytamelpfhbnkggaa

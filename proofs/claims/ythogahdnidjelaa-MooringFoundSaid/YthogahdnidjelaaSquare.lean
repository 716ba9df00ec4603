/-
  bound.Square.
-/
import Derived.Test.YthogahdnidjelaaBoxes
import Derived.Lib.Hide
import Derived.Deep.CutRange
namespace Go.Proofs.Ythogahdnidjelaa
open Go.RowKit Go.Shelf
set_option linter.unusedSimpArgs false
set_option maxRecDepth 100000 in
set_option maxHeartbeats 8000000 in
theorem square_any (a b c d p q r s : Int) (w : World) :
    Calls Try.prog 116 #[.agg #[.int .i64 a, .int .i64 b, .int .i64 c, .int .i64 d], .agg #[.int .i64 p, .int .i64 q, .int .i64 r, .int .i64 s]] w fun e w' => e = .returned (.tuple #[.int .i64 (squareS a b c d p q r s).l, .int .i64 (squareS a b c d p q r s).h, .int .i64 (squareS a b c d p q r s).e]) ∧ Below w.heap.size w w' := by
  have c1 := fun w => checkBoxes_any a b c d p q r s w
  by_cases h : vX a b c d = true ∧ vX p q r s = true
  · have k : squareS a b c d p q r s = ⟨sqLo a b c d p q r s, sqHi a b c d p q r s, 0⟩ := if_pos h
    obtain ⟨⟨gA1, gA2⟩, ⟨gB1, gB2⟩⟩ := And.intro ((vX_iff a b c d).1 h.1) ((vX_iff p q r s).1 h.2)
    obtain ⟨x1, x2, x3, x4, x5⟩ := g_bd a b p q gA1 gB1
    obtain ⟨y1, y2, y3, y4, y5⟩ := g_bd c d r s gA2 gB2
    have d1 : ∀ u v, u = Value.agg #[.int .i64 a, .int .i64 b] → v = Value.agg #[.int .i64 p, .int .i64 q] → ∀ w, Calls Try.prog 119 #[u, v] w fun e w' => e = .returned (.agg #[.int .i64 (gLo a b p q), .int .i64 (gHi a b p q)]) ∧ Below w.heap.size w w' := by
      rintro u v rfl rfl w
      exact apart_any a b p q gA1.1 gB1.1 w
    have d2 : ∀ u v, u = Value.agg #[.int .i64 c, .int .i64 d] → v = Value.agg #[.int .i64 r, .int .i64 s] → ∀ w, Calls Try.prog 119 #[u, v] w fun e w' => e = .returned (.agg #[.int .i64 (gLo c d r s), .int .i64 (gHi c d r s)]) ∧ Below w.heap.size w w' := by
      rintro u v rfl rfl w
      exact apart_any c d r s gA2.1 gB2.1 w
    rw [k] at c1 ⊢
    obtain ⟨b1, b2⟩ := sq_bd _ x1 x2
    obtain ⟨b3, b4⟩ := sq_bd _ x3 x4
    obtain ⟨b5, b6⟩ := sq_bd _ y1 y2
    obtain ⟨b7, b8⟩ := sq_bd _ y3 y4
    unfold sqLo sqHi at c1 ⊢
    generalize gLo a b p q = xl at d1 b1 b2 x1 x2 x5 c1 ⊢
    generalize gHi a b p q = xh at d1 b3 b4 x3 x4 x5 c1 ⊢
    generalize gLo c d r s = yl at d2 b5 b6 y1 y2 y5 c1 ⊢
    generalize gHi c d r s = yh at d2 b7 b8 y3 y4 y5 c1 ⊢
    have W1 : IntKind.i64.wrap (xl * xl) = xl * xl := by rw [IntKind.wrap_i64]; omega
    have W2 : IntKind.i64.wrap (xh * xh) = xh * xh := by rw [IntKind.wrap_i64]; omega
    have W3 : IntKind.i64.wrap (yl * yl) = yl * yl := by rw [IntKind.wrap_i64]; omega
    have W4 : IntKind.i64.wrap (yh * yh) = yh * yh := by rw [IntKind.wrap_i64]; omega
    have W5 : IntKind.i64.wrap (xl * xl + yl * yl) = xl * xl + yl * yl := by rw [IntKind.wrap_i64]; omega
    have W6 : IntKind.i64.wrap (xh * xh + yh * yh) = xh * xh + yh * yh := by rw [IntKind.wrap_i64]; omega
    clear b1 b2 b3 b4 b5 b6 b7 b8 x1 x2 x3 x4 x5 y1 y2 y3 y4 y5 gA1 gA2 gB1 gB2 h k
    dsimp only at c1
    go_enter Try.func116, Try.ntmps116
    go_wp2_with fail
    refine (c1 _).mono ?_
    rintro e w1 ⟨rfl, hb⟩
    obtain ⟨hc, hf⟩ := bcell hb
    have k1_00 : w1.cell? ⟨w.heap.size, 0, none⟩ = some (.int .i64 a) := by rw [hc _ _ (by first | omega | (simp; omega) | simp)]; simp [go_sem, *]
    have k1_01 : w1.cell? ⟨w.heap.size, 1, none⟩ = some (.int .i64 b) := by rw [hc _ _ (by first | omega | (simp; omega) | simp)]; simp [go_sem, *]
    have k1_02 : w1.cell? ⟨w.heap.size, 2, none⟩ = some (.int .i64 c) := by rw [hc _ _ (by first | omega | (simp; omega) | simp)]; simp [go_sem, *]
    have k1_03 : w1.cell? ⟨w.heap.size, 3, none⟩ = some (.int .i64 d) := by rw [hc _ _ (by first | omega | (simp; omega) | simp)]; simp [go_sem, *]
    have z1_0 : w.heap.size < w1.heap.size := by have := hb.size; (try simp at this); omega
    have k1_10 : w1.cell? ⟨(w.heap.size + 1), 0, none⟩ = some (.int .i64 p) := by rw [hc _ _ (by first | omega | (simp; omega) | simp)]; simp [go_sem, *]
    have k1_11 : w1.cell? ⟨(w.heap.size + 1), 1, none⟩ = some (.int .i64 q) := by rw [hc _ _ (by first | omega | (simp; omega) | simp)]; simp [go_sem, *]
    have k1_12 : w1.cell? ⟨(w.heap.size + 1), 2, none⟩ = some (.int .i64 r) := by rw [hc _ _ (by first | omega | (simp; omega) | simp)]; simp [go_sem, *]
    have k1_13 : w1.cell? ⟨(w.heap.size + 1), 3, none⟩ = some (.int .i64 s) := by rw [hc _ _ (by first | omega | (simp; omega) | simp)]; simp [go_sem, *]
    have z1_1 : (w.heap.size + 1) < w1.heap.size := by have := hb.size; (try simp at this); omega
    have hB1 : Below w.heap.size w w1 := by repeat (first | exact (Below.refl _ _) | refine Below.drew ?_ | refine below_drewN ?_ _ | refine Below.setCell ?_ (by first | omega | (simp; omega) | simp) _ | refine Below.alloc ?_ (by first | omega | (simp; omega) | simp) _ | refine chainB (by assumption) ?_)
    have hs1 : w.heap.size ≤ w1.heap.size := hB1.size
    clear hc hf hb 
    go_upto_region 4 with fail
    have e1 : ¬ w.heap.size = w1.heap.size := by omega
    have e2 : ¬ w1.heap.size = w.heap.size := by omega
    have e3 : ¬ w.heap.size = w1.heap.size + 1 := by omega
    have e4 : ¬ w1.heap.size + 1 = w.heap.size := by omega
    have e5 : ¬ w.heap.size + 1 = w1.heap.size := by omega
    have e6 : ¬ w1.heap.size = w.heap.size + 1 := by omega
    go_cut [8, 9] from 10 (fun s8 s9 wc => ∃ B C, s8 = Value.pointer (some ⟨B, 0, none⟩) ∧ s9 = Value.pointer (some ⟨C, 0, none⟩) ∧ wc.cell? ⟨B, 0, none⟩ = some (.int .i64 xl) ∧ wc.cell? ⟨B, 1, none⟩ = some (.int .i64 xh) ∧ wc.cell? ⟨C, 0, none⟩ = some (.int .i64 yl) ∧ wc.cell? ⟨C, 1, none⟩ = some (.int .i64 yh) ∧ Below w.heap.size w wc)
    case first => as_aux_lemma =>
      go_region_held3 (fun w' => w'.cell? ⟨w.heap.size, 0, none⟩ = some (.int .i64 a) ∧ w'.cell? ⟨w.heap.size, 1, none⟩ = some (.int .i64 b) ∧ w'.cell? ⟨w.heap.size, 2, none⟩ = some (.int .i64 c) ∧ w'.cell? ⟨w.heap.size, 3, none⟩ = some (.int .i64 d) ∧ w'.cell? ⟨(w.heap.size + 1), 0, none⟩ = some (.int .i64 p) ∧ w'.cell? ⟨(w.heap.size + 1), 1, none⟩ = some (.int .i64 q) ∧ w'.cell? ⟨(w.heap.size + 1), 2, none⟩ = some (.int .i64 r) ∧ w'.cell? ⟨(w.heap.size + 1), 3, none⟩ = some (.int .i64 s)) ((first | (refine ⟨?_, ?_, ?_, ?_, ?_, ?_, ?_, ?_⟩ <;> (rw [hcc.out _ _ (by first | omega | (simp; omega) | simp)]; simp [go_sem, *])) | (simp [go_sem, *]; done) | (go_keep; done) | (trace_state; simp [go_sem, *]; trace_state; fail)))
        (first | (go_at_call 119; refine (d1 _ _ ?_ ?_ _).mono ?_; with_reducible rfl; with_reducible rfl; clear d1; rintro e w2 ⟨rfl, hb⟩; have hcc := Lib.hid (fun b o (h : b < _) => hb.cell (p := ⟨b, o, none⟩) h); have hff := Lib.hid (fun b o (h : b < _) => hb.frozen (p := ⟨b, o, none⟩) h); have hzw2 : w.heap.size + 2 ≤ w2.heap.size := Nat.le_trans (by first | assumption | (simp; omega)) hb.size; have hyw2 := hb.size; (try simp at hyw2); have k1w2 : w2.cell? ⟨w.heap.size, 0, none⟩ = some (.int .i64 a) := (hcc.out _ _ (by first | omega | (simp; omega))).trans (by first | (simp [go_sem, *]; done) | (go_keep; done)); have k2w2 : w2.cell? ⟨w.heap.size, 1, none⟩ = some (.int .i64 b) := (hcc.out _ _ (by first | omega | (simp; omega))).trans (by first | (simp [go_sem, *]; done) | (go_keep; done)); have k3w2 : w2.cell? ⟨w.heap.size, 2, none⟩ = some (.int .i64 c) := (hcc.out _ _ (by first | omega | (simp; omega))).trans (by first | (simp [go_sem, *]; done) | (go_keep; done)); have k4w2 : w2.cell? ⟨w.heap.size, 3, none⟩ = some (.int .i64 d) := (hcc.out _ _ (by first | omega | (simp; omega))).trans (by first | (simp [go_sem, *]; done) | (go_keep; done)); have k5w2 : w2.cell? ⟨(w.heap.size + 1), 0, none⟩ = some (.int .i64 p) := (hcc.out _ _ (by first | omega | (simp; omega))).trans (by first | (simp [go_sem, *]; done) | (go_keep; done)); have k6w2 : w2.cell? ⟨(w.heap.size + 1), 1, none⟩ = some (.int .i64 q) := (hcc.out _ _ (by first | omega | (simp; omega))).trans (by first | (simp [go_sem, *]; done) | (go_keep; done)); have k7w2 : w2.cell? ⟨(w.heap.size + 1), 2, none⟩ = some (.int .i64 r) := (hcc.out _ _ (by first | omega | (simp; omega))).trans (by first | (simp [go_sem, *]; done) | (go_keep; done)); have k8w2 : w2.cell? ⟨(w.heap.size + 1), 3, none⟩ = some (.int .i64 s) := (hcc.out _ _ (by first | omega | (simp; omega))).trans (by first | (simp [go_sem, *]; done) | (go_keep; done)); (try have g1w2 : ¬ w.heap.size = w2.heap.size := by omega); (try have g2w2 : ¬ w2.heap.size = w.heap.size := by omega); (try have g3w2 : ¬ w.heap.size + 1 = w2.heap.size := by omega); (try have g4w2 : ¬ w2.heap.size = w.heap.size + 1 := by omega); (try have g5w2 : ¬ w.heap.size = w2.heap.size + 1 := by omega); (try have g6w2 : ¬ w2.heap.size + 1 = w.heap.size := by omega); (try have l7w2 : w.heap.size < w2.heap.size := by omega); (try have l8w2 : w.heap.size + 1 < w2.heap.size := by omega); (try have l9w2 : w.heap.size < w2.heap.size + 1 := by omega); (try have l10w2 : w.heap.size + 1 < w2.heap.size + 1 := by omega); (try have g11w2 : ¬ w1.heap.size = w2.heap.size := by omega); (try have g12w2 : ¬ w2.heap.size = w1.heap.size := by omega); (try have g13w2 : ¬ w1.heap.size + 1 = w2.heap.size := by omega); (try have g14w2 : ¬ w2.heap.size = w1.heap.size + 1 := by omega); (try have g15w2 : ¬ w1.heap.size = w2.heap.size + 1 := by omega); (try have g16w2 : ¬ w2.heap.size + 1 = w1.heap.size := by omega); (try have l17w2 : w1.heap.size < w2.heap.size := by omega); (try have l18w2 : w1.heap.size + 1 < w2.heap.size := by omega); (try have l19w2 : w1.heap.size < w2.heap.size + 1 := by omega); (try have l20w2 : w1.heap.size + 1 < w2.heap.size + 1 := by omega); have u1w2 := hcc.out w1.heap.size 0; (try simp [go_sem] at u1w2); have v1w2 := hff.out w1.heap.size 0; (try simp [go_sem] at v1w2); have u2w2 := hcc.out w1.heap.size 1; (try simp [go_sem] at u2w2); have v2w2 := hff.out w1.heap.size 1; (try simp [go_sem] at v2w2); have u3w2 := hcc.out (w1.heap.size + 1) 0; (try simp [go_sem] at u3w2); have v3w2 := hff.out (w1.heap.size + 1) 0; (try simp [go_sem] at v3w2); have u4w2 := hcc.out (w1.heap.size + 1) 1; (try simp [go_sem] at u4w2); have v4w2 := hff.out (w1.heap.size + 1) 1; (try simp [go_sem] at v4w2)) | (go_at_call 119; refine (d2 _ _ ?_ ?_ _).mono ?_; with_reducible rfl; with_reducible rfl; clear d2; rintro e w3 ⟨rfl, hb⟩; have hcc := Lib.hid (fun b o (h : b < _) => hb.cell (p := ⟨b, o, none⟩) h); have hff := Lib.hid (fun b o (h : b < _) => hb.frozen (p := ⟨b, o, none⟩) h); have hzw3 : w.heap.size + 2 ≤ w3.heap.size := Nat.le_trans (by first | assumption | (simp; omega)) hb.size; have hyw3 := hb.size; (try simp at hyw3); have k1w3 : w3.cell? ⟨w.heap.size, 0, none⟩ = some (.int .i64 a) := (hcc.out _ _ (by first | omega | (simp; omega))).trans (by first | (simp [go_sem, *]; done) | (go_keep; done)); have k2w3 : w3.cell? ⟨w.heap.size, 1, none⟩ = some (.int .i64 b) := (hcc.out _ _ (by first | omega | (simp; omega))).trans (by first | (simp [go_sem, *]; done) | (go_keep; done)); have k3w3 : w3.cell? ⟨w.heap.size, 2, none⟩ = some (.int .i64 c) := (hcc.out _ _ (by first | omega | (simp; omega))).trans (by first | (simp [go_sem, *]; done) | (go_keep; done)); have k4w3 : w3.cell? ⟨w.heap.size, 3, none⟩ = some (.int .i64 d) := (hcc.out _ _ (by first | omega | (simp; omega))).trans (by first | (simp [go_sem, *]; done) | (go_keep; done)); have k5w3 : w3.cell? ⟨(w.heap.size + 1), 0, none⟩ = some (.int .i64 p) := (hcc.out _ _ (by first | omega | (simp; omega))).trans (by first | (simp [go_sem, *]; done) | (go_keep; done)); have k6w3 : w3.cell? ⟨(w.heap.size + 1), 1, none⟩ = some (.int .i64 q) := (hcc.out _ _ (by first | omega | (simp; omega))).trans (by first | (simp [go_sem, *]; done) | (go_keep; done)); have k7w3 : w3.cell? ⟨(w.heap.size + 1), 2, none⟩ = some (.int .i64 r) := (hcc.out _ _ (by first | omega | (simp; omega))).trans (by first | (simp [go_sem, *]; done) | (go_keep; done)); have k8w3 : w3.cell? ⟨(w.heap.size + 1), 3, none⟩ = some (.int .i64 s) := (hcc.out _ _ (by first | omega | (simp; omega))).trans (by first | (simp [go_sem, *]; done) | (go_keep; done)); (try have g1w3 : ¬ w.heap.size = w3.heap.size := by omega); (try have g2w3 : ¬ w3.heap.size = w.heap.size := by omega); (try have g3w3 : ¬ w.heap.size + 1 = w3.heap.size := by omega); (try have g4w3 : ¬ w3.heap.size = w.heap.size + 1 := by omega); (try have g5w3 : ¬ w.heap.size = w3.heap.size + 1 := by omega); (try have g6w3 : ¬ w3.heap.size + 1 = w.heap.size := by omega); (try have l7w3 : w.heap.size < w3.heap.size := by omega); (try have l8w3 : w.heap.size + 1 < w3.heap.size := by omega); (try have l9w3 : w.heap.size < w3.heap.size + 1 := by omega); (try have l10w3 : w.heap.size + 1 < w3.heap.size + 1 := by omega); (try have g11w3 : ¬ w1.heap.size = w3.heap.size := by omega); (try have g12w3 : ¬ w3.heap.size = w1.heap.size := by omega); (try have g13w3 : ¬ w1.heap.size + 1 = w3.heap.size := by omega); (try have g14w3 : ¬ w3.heap.size = w1.heap.size + 1 := by omega); (try have g15w3 : ¬ w1.heap.size = w3.heap.size + 1 := by omega); (try have g16w3 : ¬ w3.heap.size + 1 = w1.heap.size := by omega); (try have l17w3 : w1.heap.size < w3.heap.size := by omega); (try have l18w3 : w1.heap.size + 1 < w3.heap.size := by omega); (try have l19w3 : w1.heap.size < w3.heap.size + 1 := by omega); (try have l20w3 : w1.heap.size + 1 < w3.heap.size + 1 := by omega); (try have g21w3 : ¬ w2.heap.size = w3.heap.size := by omega); (try have g22w3 : ¬ w3.heap.size = w2.heap.size := by omega); (try have g23w3 : ¬ w2.heap.size + 1 = w3.heap.size := by omega); (try have g24w3 : ¬ w3.heap.size = w2.heap.size + 1 := by omega); (try have g25w3 : ¬ w2.heap.size = w3.heap.size + 1 := by omega); (try have g26w3 : ¬ w3.heap.size + 1 = w2.heap.size := by omega); (try have l27w3 : w2.heap.size < w3.heap.size := by omega); (try have l28w3 : w2.heap.size + 1 < w3.heap.size := by omega); (try have l29w3 : w2.heap.size < w3.heap.size + 1 := by omega); (try have l30w3 : w2.heap.size + 1 < w3.heap.size + 1 := by omega); have u1w3 := hcc.out w1.heap.size 0; (try simp [go_sem] at u1w3); have v1w3 := hff.out w1.heap.size 0; (try simp [go_sem] at v1w3); have u2w3 := hcc.out w1.heap.size 1; (try simp [go_sem] at u2w3); have v2w3 := hff.out w1.heap.size 1; (try simp [go_sem] at v2w3); have u3w3 := hcc.out (w1.heap.size + 1) 0; (try simp [go_sem] at u3w3); have v3w3 := hff.out (w1.heap.size + 1) 0; (try simp [go_sem] at v3w3); have u4w3 := hcc.out (w1.heap.size + 1) 1; (try simp [go_sem] at u4w3); have v4w3 := hff.out (w1.heap.size + 1) 1; (try simp [go_sem] at v4w3); have u5w3 := hcc.out w2.heap.size 0; (try simp [go_sem] at u5w3); have v5w3 := hff.out w2.heap.size 0; (try simp [go_sem] at v5w3); have u6w3 := hcc.out w2.heap.size 1; (try simp [go_sem] at u6w3); have v6w3 := hff.out w2.heap.size 1; (try simp [go_sem] at v6w3); have u7w3 := hcc.out (w2.heap.size + 1) 0; (try simp [go_sem] at u7w3); have v7w3 := hff.out (w2.heap.size + 1) 0; (try simp [go_sem] at v7w3); have u8w3 := hcc.out (w2.heap.size + 1) 1; (try simp [go_sem] at u8w3); have v8w3 := hff.out (w2.heap.size + 1) 1; (try simp [go_sem] at v8w3)))
      all_goals
        go_wp2_with fail
        go_meet
        case rel => exact ⟨_, _, rfl, rfl, by simp [go_sem, *], by simp [go_sem, *], by simp [go_sem, *], by simp [go_sem, *], by repeat (first | exact hB1 | refine Below.drew ?_ | refine below_drewN ?_ _ | refine Below.setCell ?_ (by first | omega | (simp; omega) | simp) _ | refine Below.alloc ?_ (by first | omega | (simp; omega) | simp) _ | refine chainB (by assumption) ?_)⟩
    case rest => as_aux_lemma =>
      obtain ⟨B, C, rfl, rfl, m1, m2, m3, m4, hB2⟩ := hcut
      go_wp2_with fail
      go_quiet (fail)
      go_wp2_with fail
      go_ret3
      exact ⟨rfl, by repeat (first | exact hB2 | refine Below.drew ?_ | refine below_drewN ?_ _ | refine Below.setCell ?_ (by first | omega | (simp; omega) | simp) _ | refine Below.alloc ?_ (by first | omega | (simp; omega) | simp) _ | refine chainB (by assumption) ?_)⟩
  · rw [show squareS a b c d p q r s = ⟨0, 0, 2⟩ from if_neg h] at c1 ⊢
    dsimp only at c1
    clear h
    go_enter Try.func116, Try.ntmps116
    go_wp2_with fail
    refine (c1 _).mono ?_
    rintro e w1 ⟨rfl, hb⟩
    obtain ⟨hc, hf⟩ := bcell hb
    have k1_00 : w1.cell? ⟨w.heap.size, 0, none⟩ = some (.int .i64 a) := by rw [hc _ _ (by first | omega | (simp; omega) | simp)]; simp [go_sem, *]
    have k1_01 : w1.cell? ⟨w.heap.size, 1, none⟩ = some (.int .i64 b) := by rw [hc _ _ (by first | omega | (simp; omega) | simp)]; simp [go_sem, *]
    have k1_02 : w1.cell? ⟨w.heap.size, 2, none⟩ = some (.int .i64 c) := by rw [hc _ _ (by first | omega | (simp; omega) | simp)]; simp [go_sem, *]
    have k1_03 : w1.cell? ⟨w.heap.size, 3, none⟩ = some (.int .i64 d) := by rw [hc _ _ (by first | omega | (simp; omega) | simp)]; simp [go_sem, *]
    have z1_0 : w.heap.size < w1.heap.size := by have := hb.size; (try simp at this); omega
    have k1_10 : w1.cell? ⟨(w.heap.size + 1), 0, none⟩ = some (.int .i64 p) := by rw [hc _ _ (by first | omega | (simp; omega) | simp)]; simp [go_sem, *]
    have k1_11 : w1.cell? ⟨(w.heap.size + 1), 1, none⟩ = some (.int .i64 q) := by rw [hc _ _ (by first | omega | (simp; omega) | simp)]; simp [go_sem, *]
    have k1_12 : w1.cell? ⟨(w.heap.size + 1), 2, none⟩ = some (.int .i64 r) := by rw [hc _ _ (by first | omega | (simp; omega) | simp)]; simp [go_sem, *]
    have k1_13 : w1.cell? ⟨(w.heap.size + 1), 3, none⟩ = some (.int .i64 s) := by rw [hc _ _ (by first | omega | (simp; omega) | simp)]; simp [go_sem, *]
    have z1_1 : (w.heap.size + 1) < w1.heap.size := by have := hb.size; (try simp at this); omega
    have hB1 : Below w.heap.size w w1 := by repeat (first | exact (Below.refl _ _) | refine Below.drew ?_ | refine below_drewN ?_ _ | refine Below.setCell ?_ (by first | omega | (simp; omega) | simp) _ | refine Below.alloc ?_ (by first | omega | (simp; omega) | simp) _ | refine chainB (by assumption) ?_)
    have hs1 : w.heap.size ≤ w1.heap.size := hB1.size
    clear hc hf hb 
    go_wp2_with fail
    go_ret3
    exact ⟨rfl, by repeat (first | exact hB1 | refine Below.drew ?_ | refine below_drewN ?_ _ | refine Below.setCell ?_ (by first | omega | (simp; omega) | simp) _ | refine Below.alloc ?_ (by first | omega | (simp; omega) | simp) _ | refine chainB (by assumption) ?_)⟩
end Go.Proofs.Ythogahdnidjelaa

/-
  tension.
-/
import Derived.Test.YthogahdnidjelaaSlant
namespace Go.Proofs.Ythogahdnidjelaa
open Go.RowKit Go.Shelf
set_option linter.unusedSimpArgs false
set_option maxRecDepth 100000 in
set_option maxHeartbeats 4000000 in
theorem tension_any (B : Nat) (free : Bool) (lift lo hi wd : Int) (l0 : -268435456 ≤ lift ∧ lift ≤ 268435456) (h0 : 0 ≤ plo free lo hi wd) (h1 : plo free lo hi wd ≤ hi) (h2 : hi ≤ 268435456) (w0 : 0 ≤ wd ∧ wd ≤ 1073741824) (w : World) (hS : SumsAt w B free lift lo hi wd) :
    Calls Try.prog 65 #[.pointer (some ⟨B, 0, none⟩)] w fun e w' => e = .returned (.agg #[.int .i64 (isq (plo free lo hi wd * plo free lo hi wd + lift * lift)), .int .i64 (isqUp (hi * hi + lift * lift))]) ∧ Below w.heap.size w w' := by
  have c1 := fun w h => pull_any B free lift lo hi wd (by omega) (by omega) (by omega) (by omega) w h
  have c2 := fun w => slant_any (plo free lo hi wd) hi lift h0 h1 h2 l0.1 l0.2 w
  generalize isq (plo free lo hi wd * plo free lo hi wd + lift * lift) = x at c2 ⊢
  generalize isqUp (hi * hi + lift * lift) = y at c2 ⊢
  generalize plo free lo hi wd = p at *
  have HS := Lib.hid (fun (W : World) (h : Below w.heap.size w W) => hS.at h)
  obtain ⟨z, -, k1, -, -, -, -, -, -, -⟩ := hS
  clear h0 h1 h2 l0 w0
  have g1 : ¬ w.heap.size = B := by omega
  have g2 : ¬ B = w.heap.size := by omega
  go_enter Try.func65, Try.ntmps65
  go_wp2_with fail
  go_region_held3 (fun w' => w'.cell? ⟨B, 1, none⟩ = some (.int .i64 lift)) ((first | (simp [go_sem, *]; done) | (rw [hcc.out _ _ (by first | omega | (simp; omega) | simp)]; simp [go_sem, *])))
    (first | (go_at_call 62; refine (c1 _ (HS.out _ (by repeat (first | exact Below.refl _ _ | refine Below.drew ?_ | refine Below.alloc ?_ (by first | omega | (simp; done) | (simp; omega)) _)))).mono ?_; rintro e w1 ⟨rfl, hb⟩; have hcc := Lib.hid (fun b o (h : b < _) => hb.cell (p := ⟨b, o, none⟩) h); have hff := Lib.hid (fun b o (h : b < _) => hb.frozen (p := ⟨b, o, none⟩) h); have hszw1 := hb.size; (try simp at hszw1); have kw10 : w1.cell? ⟨B, 1, none⟩ = some (.int .i64 lift) := (hcc.out _ _ (by first | omega | (simp; omega) | (simp; done))).trans (by first | (simp [go_sem, *]; done) | (go_keep; done)); have zw10 : B < w1.heap.size := (by first | omega | (simp at hszw1; omega)); have uw100 := hcc.out (w.heap.size) 0; (try simp [go_sem] at uw100); have vw100 := hff.out (w.heap.size) 0; (try simp [go_sem] at vw100); have uw101 := hcc.out (w.heap.size) 1; (try simp [go_sem] at uw101); have vw101 := hff.out (w.heap.size) 1; (try simp [go_sem] at vw101); (try have gw10a : ¬ w.heap.size = w1.heap.size := by omega); (try have gw10b : ¬ w1.heap.size = w.heap.size := by omega); (try have lw10 : w.heap.size < w1.heap.size := by omega); (try have gew1791 : ¬ B = w1.heap.size := by omega); (try have gfw1791 : ¬ w1.heap.size = B := by omega)) | (go_at_call 99; refine (c2 _).mono ?_; rintro e w2 ⟨rfl, hb⟩; have hcc := Lib.hid (fun b o (h : b < _) => hb.cell (p := ⟨b, o, none⟩) h); have hff := Lib.hid (fun b o (h : b < _) => hb.frozen (p := ⟨b, o, none⟩) h); have hszw2 := hb.size; (try simp at hszw2); have kw20 : w2.cell? ⟨B, 1, none⟩ = some (.int .i64 lift) := (hcc.out _ _ (by first | omega | (simp; omega) | (simp; done))).trans (by first | (simp [go_sem, *]; done) | (go_keep; done)); have zw20 : B < w2.heap.size := (by first | omega | (simp at hszw2; omega)); have uw200 := hcc.out (w.heap.size) 0; (try simp [go_sem] at uw200); have vw200 := hff.out (w.heap.size) 0; (try simp [go_sem] at vw200); have uw201 := hcc.out (w.heap.size) 1; (try simp [go_sem] at uw201); have vw201 := hff.out (w.heap.size) 1; (try simp [go_sem] at vw201); (try have gw20a : ¬ w.heap.size = w2.heap.size := by omega); (try have gw20b : ¬ w2.heap.size = w.heap.size := by omega); (try have lw20 : w.heap.size < w2.heap.size := by omega); (try have gew2791 : ¬ B = w2.heap.size := by omega); (try have gfw2791 : ¬ w2.heap.size = B := by omega)))
  all_goals
    go_wp2_with fail
    refine bodyPost_ret (v := .agg #[.int .i64 x, .int .i64 y]) (by simp [results, Try.results65, go_sem, *]) rfl ⟨rfl, ?_⟩
    repeat (first | exact Below.refl _ _ | refine Below.drew ?_ | refine Below.setCell ?_ (by first | omega | (simp; omega) | simp) _ | refine Below.alloc ?_ (by first | omega | (simp; omega) | simp) _ | refine chainB (by assumption) ?_)
end Go.Proofs.Ythogahdnidjelaa

/-
  Top.
-/
import Derived.Test.YthogahdnidjelaaShapeOf
import Derived.Test.YthogahdnidjelaaShapeMath
import Derived.Test.YthogahdnidjelaaSub
namespace Go.Proofs.Ythogahdnidjelaa
open Go.RowKit Go.Shelf
set_option linter.unusedSimpArgs false
/-- the depth of the top -/
noncomputable def topS (d : Int) (zs : List El) (an fr : Int) (cs : List Pr) (free : Bool) : Pr :=
  if staE d zs an fr cs = 0 then ⟨d - totHi (rises free zs cs) zs.length, d - totLo (rises free zs cs) zs.length⟩ else ⟨0, 0⟩
theorem sub_top {d lo hi : Int} (h0 : 1 ≤ d) (h1 : d ≤ 1048576) (h2 : 0 ≤ lo) (h3 : lo ≤ hi) (h4 : hi ≤ 41943040) : subS d d lo hi = ⟨d - hi, d - lo, 0⟩ := by
  unfold subS
  rw [if_pos ⟨(vB_iff _ _).2 ⟨by omega, by omega, by omega⟩, (vB_iff _ _).2 ⟨by omega, by omega, by omega⟩⟩]
  unfold fit
  rw [if_pos ((vB_iff _ _).2 ⟨by omega, by omega, by omega⟩)]
set_option maxRecDepth 100000 in
set_option maxHeartbeats 8000000 in
theorem top_any (d an fr : Int) (sv cv : Value) (zs : List El) (cs : List Pr) (free : Bool) (w : World) (hI : Els w.heap.size w sv zs) (hC : Prs w.heap.size w cv cs) :
    Calls Try.prog 29 #[.agg #[.int .i64 d, sv, .int .i64 an, .int .i64 fr], cv, .bool free] w fun e w' => e = .returned (.tuple #[prv (topS d zs an fr cs free), .int .i64 (staE d zs an fr cs)]) ∧ Below w.heap.size w w' := by
  have c1 := fun w' (hb : Below w.heap.size w w') => shapeOf_any d an fr sv cv zs cs free w' (hI.at hb) (hC.at hb)
  have HOK := Lib.hid (fun (h : staE d zs an fr cs = 0) => staE_ok h)
  have HT := Lib.hid (show topS d zs an fr cs free = if staE d zs an fr cs = 0 then ⟨d - totHi (rises free zs cs) zs.length, d - totLo (rises free zs cs) zs.length⟩ else ⟨0, 0⟩ from rfl)
  obtain ⟨a, cap, rfl, -, -⟩ := hI
  obtain ⟨c, cap2, rfl, -, -⟩ := hC
  unfold prv
  generalize topS d zs an fr cs free = T at *
  generalize staE d zs an fr cs = E at *
  by_cases hE : E = 0
  rotate_left
  · have hT : T = ⟨0, 0⟩ := by rw [HT.out, if_neg hE]
    subst hT
    clear HOK HT
    generalize zs.length = len at *
    generalize cs.length = len2 at *
    have HE := Lib.hid hE
    have hbq : (E != 0) = true := by simpa using hE
    clear hE
    go_enter Try.func29, Try.ntmps29
    go_wp2_with fail
    refine (c1 _ (by repeat (first | exact Below.refl _ _ | refine Below.alloc ?_ (by first | omega | (simp; done) | (simp; omega)) _))).mono ?_
    rintro e w1 ⟨v, rfl, -, hv, hb⟩
    obtain rfl := hv HE.out
    obtain ⟨hc, hf⟩ := bcell hb
    have hz := hb.size
    simp only [World.size_alloc] at hz
    have k0 : w1.cell? ⟨w.heap.size + 1, 0, none⟩ = some (.int .i64 0) := by rw [hc _ _ (by first | omega | (simp; done) | (simp; omega))]; simp [go_sem]
    have k1 : w1.cell? ⟨w.heap.size + 1, 1, none⟩ = some (.int .i64 0) := by rw [hc _ _ (by first | omega | (simp; done) | (simp; omega))]; simp [go_sem]
    have f0 : w1.frozen? ⟨w.heap.size + 1, 0, none⟩ = false := by rw [hf _ _ (by first | omega | (simp; done) | (simp; omega))]; simp [go_sem]
    have f1 : w1.frozen? ⟨w.heap.size + 1, 1, none⟩ = false := by rw [hf _ _ (by first | omega | (simp; done) | (simp; omega))]; simp [go_sem]
    have hB1 : Below w.heap.size w w1 := by repeat (first | exact Below.refl _ _ | refine Below.alloc ?_ (by first | omega | (simp; done) | (simp; omega)) _ | refine chainB (by assumption) ?_)
    have HB := Lib.hid hB1
    have z1 : w.heap.size + 1 < w1.heap.size := by omega
    clear hc hf hb hB1 c1 hv
    unfold shape0
    go_wp2_with fail
    refine bodyPost_ret (v := .tuple #[.agg #[.int .i64 0, .int .i64 0], .int .i64 E]) (by simp [results, Try.results29, go_sem, *]) rfl ⟨rfl, ?_⟩
    repeat (first | refine Below.setCell ?_ (by first | omega | (simp; done) | (simp; omega)) _ | refine Below.alloc ?_ (by first | omega | (simp; done) | (simp; omega)) _ | exact HB.out)
  subst hE
  obtain ⟨hrig, hsta, hmoo, -⟩ := HOK.out rfl
  have hst := (standB_iff hrig.pos).1 hsta
  have hd : 1 ≤ d ∧ d ≤ 1048576 := by
    have := (mooE_ok hmoo).2.2.2
    unfold mooOk at this
    rw [Bool.and_eq_true, btw_iff] at this
    exact this.1
  have hT : T = ⟨d - totHi (rises free zs cs) zs.length, d - totLo (rises free zs cs) zs.length⟩ := by rw [HT.out, if_pos rfl]
  have htot := rises_tot hrig hst free
  have CT := Lib.hid (fun v W (hP : Prs W.heap.size W v (rises free zs cs)) => total_any v (rises free zs cs) (by unfold rises; rw [rowL_len]; exact hrig.most) (rises_bd hrig hst free) W hP)
  rw [show (rises free zs cs).length = zs.length by unfold rises; rw [rowL_len]] at CT
  have cS := fun W => sub_any d d (totLo (rises free zs cs) zs.length) (totHi (rises free zs cs) zs.length) W
  rw [sub_top hd.1 hd.2 htot.1 htot.2.1 htot.2.2] at cS
  dsimp only at cS
  have cE := fun W => exactly_any d W
  have HP := Lib.hid (show ∀ W v, IsShape W v free zs cs → ∃ lift lo hi wd L ao no co ar nr cr, v = .agg #[.bool free, .int .i64 lift, .int .i64 lo, .int .i64 hi, .int .i64 wd, .int .i64 L, .slice ao no co, .slice ar nr cr] ∧ Prs W.heap.size W (.slice ar nr cr) (rises free zs cs) from fun W v h => by
    obtain ⟨lift, lo, hi, wd, vo, vr, rfl, h1, h2⟩ := h
    have h2' := h2
    obtain ⟨a1, q1, rfl, -, -⟩ := h1
    obtain ⟨a2, q2, rfl, -, -⟩ := h2
    exact ⟨lift, lo, hi, wd, lenTo zs zs.length, a1, (rowL (offG free zs cs) zs.length).length, q1, a2, (rowL (risG free zs cs) zs.length).length, q2, rfl, h2'⟩)
  subst hT
  dsimp only
  clear HOK HT hrig hsta hst hmoo htot hd
  generalize totLo (rises free zs cs) zs.length = tl at *
  generalize totHi (rises free zs cs) zs.length = th at *
  generalize rises free zs cs = R at *
  generalize zs.length = len at *
  generalize cs.length = len2 at *
  go_enter Try.func29, Try.ntmps29
  go_wp2_with fail
  refine (c1 _ (by repeat (first | exact Below.refl _ _ | refine Below.alloc ?_ (by first | omega | (simp; done) | (simp; omega)) _))).mono ?_
  rintro e w1 ⟨v, rfl, hs, -, hb⟩
  obtain ⟨lift, lo, hi, wd, L, ao, no, co, ar, nr, cr, rfl, hP⟩ := HP.out _ _ (hs trivial)
  obtain ⟨hc, hf⟩ := bcell hb
  have hz := hb.size
  simp only [World.size_alloc] at hz
  have k0 : w1.cell? ⟨w.heap.size + 1, 0, none⟩ = some (.int .i64 0) := by rw [hc _ _ (by first | omega | (simp; done) | (simp; omega))]; simp [go_sem]
  have k1 : w1.cell? ⟨w.heap.size + 1, 1, none⟩ = some (.int .i64 0) := by rw [hc _ _ (by first | omega | (simp; done) | (simp; omega))]; simp [go_sem]
  have f0 : w1.frozen? ⟨w.heap.size + 1, 0, none⟩ = false := by rw [hf _ _ (by first | omega | (simp; done) | (simp; omega))]; simp [go_sem]
  have f1 : w1.frozen? ⟨w.heap.size + 1, 1, none⟩ = false := by rw [hf _ _ (by first | omega | (simp; done) | (simp; omega))]; simp [go_sem]
  have kd : w1.cell? ⟨w.heap.size, 0, none⟩ = some (.int .i64 d) := by rw [hc _ _ (by first | omega | (simp; done) | (simp; omega))]; simp [go_sem]
  have hB1 : Below w.heap.size w w1 := by repeat (first | exact Below.refl _ _ | refine Below.alloc ?_ (by first | omega | (simp; done) | (simp; omega)) _ | refine chainB (by assumption) ?_)
  have HB := Lib.hid hB1
  have HPr := Lib.hid (fun W (hbb : Below w1.heap.size w1 W) => hP.at hbb)
  have z0 : w.heap.size < w1.heap.size := by omega
  have z1 : w.heap.size + 1 < w1.heap.size := by omega
  clear hc hf hb hB1 c1 hs hP HP
  go_wp2_with fail
  obtain ⟨W0, hW0⟩ : ∃ W0, W0 = w1.alloc (.cells #[.bool free, .int .i64 lift, .int .i64 lo, .int .i64 hi, .int .i64 wd, .int .i64 L, .slice ao no co, .slice ar nr cr] 102) := ⟨_, rfl⟩
  rw [← hW0]
  have hb0 : Below w1.heap.size w1 W0 := by rw [hW0]; exact (Below.refl _ _).alloc (Nat.le_refl _) _
  have t0 : W0.cell? ⟨w.heap.size, 0, none⟩ = some (.int .i64 d) := (hb0.cell (p := ⟨w.heap.size, 0, none⟩) z0).trans kd
  have t1 : W0.cell? ⟨w1.heap.size, 7, none⟩ = some (.slice ar nr cr) := by rw [hW0]; simp [go_sem]
  have r0 : W0.cell? ⟨w.heap.size + 1, 0, none⟩ = some (.int .i64 0) := (hb0.cell (p := ⟨w.heap.size + 1, 0, none⟩) z1).trans k0
  have r1 : W0.cell? ⟨w.heap.size + 1, 1, none⟩ = some (.int .i64 0) := (hb0.cell (p := ⟨w.heap.size + 1, 1, none⟩) z1).trans k1
  have s0 : W0.frozen? ⟨w.heap.size + 1, 0, none⟩ = false := (hb0.frozen (p := ⟨w.heap.size + 1, 0, none⟩) z1).trans f0
  have s1 : W0.frozen? ⟨w.heap.size + 1, 1, none⟩ = false := (hb0.frozen (p := ⟨w.heap.size + 1, 1, none⟩) z1).trans f1
  have zW : w1.heap.size + 1 ≤ W0.heap.size := by rw [hW0]; simp
  have hB0 := HB.out.trans (hb0.mono (by omega))
  have HPw := Lib.hid (fun W (hbb : Below W0.heap.size W0 W) => HPr.out W (hb0.trans (hbb.mono (by omega))))
  have HB0 := Lib.hid hB0
  have y0 : w.heap.size < W0.heap.size := by omega
  have y1 : w.heap.size + 1 < W0.heap.size := by omega
  have y2 : w1.heap.size < W0.heap.size := by omega
  have y3 : ¬ w.heap.size + 1 = w1.heap.size := by omega
  have y4 : ¬ w1.heap.size = w.heap.size + 1 := by omega
  clear hW0 hb0 kd k0 k1 f0 f1 hB0 HB HPr
  go_region_held3 (fun w' => w'.cell? ⟨w.heap.size, 0, none⟩ = some (.int .i64 d) ∧ w'.cell? ⟨w1.heap.size, 7, none⟩ = some (.slice ar nr cr)) ((first | (simp [go_sem, *]; done) | (refine ⟨?_, ?_⟩ <;> (rw [hcc.out _ _ (by first | omega | (simp; done) | (simp; omega))]; simp [go_sem, *]))))
    (first | (go_at_call 74; refine Calls.mono (CT.out _ _ (HPw.out _ (by repeat (first | exact Below.refl _ _ | refine Below.drew ?_ | refine chainB (by assumption) ?_)))) ?_; rintro e wb ⟨rfl, hb⟩; have hcc := Lib.hid (fun b o (h : b < _) => hb.cell (p := ⟨b, o, none⟩) h); have hff := Lib.hid (fun b o (h : b < _) => hb.frozen (p := ⟨b, o, none⟩) h); have hswb := hb.size; (try simp only [World.size_drew] at hswb); have kwb0 : wb.cell? ⟨w.heap.size, 0, none⟩ = some (.int .i64 d) := (hcc.out _ _ (by first | omega | (simp; done) | (simp; omega))).trans (by simp [go_sem, *]); have kwb1 : wb.cell? ⟨w1.heap.size, 7, none⟩ = some (.slice ar nr cr) := (hcc.out _ _ (by first | omega | (simp; done) | (simp; omega))).trans (by simp [go_sem, *]); have kwb2 : wb.cell? ⟨w.heap.size + 1, 0, none⟩ = some (.int .i64 0) := (hcc.out _ _ (by first | omega | (simp; done) | (simp; omega))).trans (by simp [go_sem, *]); have kwb3 : wb.cell? ⟨w.heap.size + 1, 1, none⟩ = some (.int .i64 0) := (hcc.out _ _ (by first | omega | (simp; done) | (simp; omega))).trans (by simp [go_sem, *]); have fwb0 : wb.frozen? ⟨w.heap.size + 1, 0, none⟩ = false := (hff.out _ _ (by first | omega | (simp; done) | (simp; omega))).trans (by simp [go_sem, *]); have fwb1 : wb.frozen? ⟨w.heap.size + 1, 1, none⟩ = false := (hff.out _ _ (by first | omega | (simp; done) | (simp; omega))).trans (by simp [go_sem, *]); have zwb0 : w.heap.size < wb.heap.size := Nat.lt_of_lt_of_le zwa0 hb.size; have zwb1 : w.heap.size + 1 < wb.heap.size := Nat.lt_of_lt_of_le zwa1 hb.size; have zwb2 : w1.heap.size < wb.heap.size := Nat.lt_of_lt_of_le zwa2 hb.size) | (go_at_call 72; refine Calls.mono (cS _) ?_; rintro e wd2 ⟨rfl, hb⟩; have hcc := Lib.hid (fun b o (h : b < _) => hb.cell (p := ⟨b, o, none⟩) h); have hff := Lib.hid (fun b o (h : b < _) => hb.frozen (p := ⟨b, o, none⟩) h); have hswd2 := hb.size; (try simp only [World.size_drew] at hswd2); have kwd20 : wd2.cell? ⟨w.heap.size, 0, none⟩ = some (.int .i64 d) := (hcc.out _ _ (by first | omega | (simp; done) | (simp; omega))).trans (by simp [go_sem, *]); have kwd21 : wd2.cell? ⟨w1.heap.size, 7, none⟩ = some (.slice ar nr cr) := (hcc.out _ _ (by first | omega | (simp; done) | (simp; omega))).trans (by simp [go_sem, *]); have kwd22 : wd2.cell? ⟨w.heap.size + 1, 0, none⟩ = some (.int .i64 0) := (hcc.out _ _ (by first | omega | (simp; done) | (simp; omega))).trans (by simp [go_sem, *]); have kwd23 : wd2.cell? ⟨w.heap.size + 1, 1, none⟩ = some (.int .i64 0) := (hcc.out _ _ (by first | omega | (simp; done) | (simp; omega))).trans (by simp [go_sem, *]); have fwd20 : wd2.frozen? ⟨w.heap.size + 1, 0, none⟩ = false := (hff.out _ _ (by first | omega | (simp; done) | (simp; omega))).trans (by simp [go_sem, *]); have fwd21 : wd2.frozen? ⟨w.heap.size + 1, 1, none⟩ = false := (hff.out _ _ (by first | omega | (simp; done) | (simp; omega))).trans (by simp [go_sem, *]); have zwd20 : w.heap.size < wd2.heap.size := Nat.lt_of_lt_of_le zwb0 hb.size; have zwd21 : w.heap.size + 1 < wd2.heap.size := Nat.lt_of_lt_of_le zwb1 hb.size; have zwd22 : w1.heap.size < wd2.heap.size := Nat.lt_of_lt_of_le zwb2 hb.size) | (go_at_call 73; refine Calls.mono (cE _) ?_; rintro e wa ⟨rfl, hb⟩; have hcc := Lib.hid (fun b o (h : b < _) => hb.cell (p := ⟨b, o, none⟩) h); have hff := Lib.hid (fun b o (h : b < _) => hb.frozen (p := ⟨b, o, none⟩) h); have hswa := hb.size; (try simp only [World.size_drew] at hswa); have kwa0 : wa.cell? ⟨w.heap.size, 0, none⟩ = some (.int .i64 d) := (hcc.out _ _ (by first | omega | (simp; done) | (simp; omega))).trans (by simp [go_sem, *]); have kwa1 : wa.cell? ⟨w1.heap.size, 7, none⟩ = some (.slice ar nr cr) := (hcc.out _ _ (by first | omega | (simp; done) | (simp; omega))).trans (by simp [go_sem, *]); have kwa2 : wa.cell? ⟨w.heap.size + 1, 0, none⟩ = some (.int .i64 0) := (hcc.out _ _ (by first | omega | (simp; done) | (simp; omega))).trans (by simp [go_sem, *]); have kwa3 : wa.cell? ⟨w.heap.size + 1, 1, none⟩ = some (.int .i64 0) := (hcc.out _ _ (by first | omega | (simp; done) | (simp; omega))).trans (by simp [go_sem, *]); have fwa0 : wa.frozen? ⟨w.heap.size + 1, 0, none⟩ = false := (hff.out _ _ (by first | omega | (simp; done) | (simp; omega))).trans (by simp [go_sem, *]); have fwa1 : wa.frozen? ⟨w.heap.size + 1, 1, none⟩ = false := (hff.out _ _ (by first | omega | (simp; done) | (simp; omega))).trans (by simp [go_sem, *]); have zwa0 : w.heap.size < wa.heap.size := Nat.lt_of_lt_of_le y0 hb.size; have zwa1 : w.heap.size + 1 < wa.heap.size := Nat.lt_of_lt_of_le y1 hb.size; have zwa2 : w1.heap.size < wa.heap.size := Nat.lt_of_lt_of_le y2 hb.size))
  all_goals
    go_wp2_with fail
    refine bodyPost_ret (v := .tuple #[.agg #[.int .i64 (d - th), .int .i64 (d - tl)], .int .i64 0]) (by simp [results, Try.results29, go_sem, *]) rfl ⟨rfl, ?_⟩
    repeat (first | refine Below.setCell ?_ (by first | omega | (simp; done) | (simp; omega)) _ | refine Below.drew ?_ | exact HB0.out | refine chainB (by assumption) ?_ | exact Below.refl _ _)
end Go.Proofs.Ythogahdnidjelaa

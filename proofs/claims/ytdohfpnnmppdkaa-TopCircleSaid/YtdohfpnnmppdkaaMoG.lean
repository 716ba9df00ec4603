/-
  MoG: what Shape and Circle need beyond Top, in the cable seat.
-/
import Derived.Test.YtdohfpnnmppdkaaMoF
namespace Go.Proofs.Ytdohfpnnmppdkaa.Moo
open Go.RowKit Go.Shelf
set_option linter.unusedSimpArgs false
attribute [local go_sem] Oper.semAt_some
theorem off_bd {zs : List El} {cs : List Pr} (h : Rig zs cs) (hst : ∀ k, k < zs.length → 1 ≤ lifTo zs (k + 1)) (free : Bool) {k : Nat} (hk : k < zs.length) :
    0 ≤ (offG free zs cs (k + 1)).lo ∧ (offG free zs cs (k + 1)).lo ≤ (el zs k).len ∧ 0 ≤ (offG free zs cs (k + 1)).hi ∧ (offG free zs cs (k + 1)).hi ≤ (el zs k).len ∧ (el zs k).len ≤ 1048576 := by
  have hx := ((vE_iff _).1 (h.els k hk)).1
  obtain ⟨a, b, c, d⟩ := le_pos h hst free hk
  have p := pull_bd h free (k := k + 1) (by omega)
  have s1 := isq_pos c
  have s0 : 1 ≤ isqUp (leG free zs cs (k + 1)) := Int.le_trans s1 (isqUp_ge (by omega)).1
  have s3 : hLo free zs cs (k + 1) ≤ isqUp (leG free zs cs (k + 1)) := le_isqUp p.1 d
  have m1 := isq_pos (show 1 ≤ moG zs cs (k + 1) by omega)
  obtain ⟨t1, t2⟩ := div_le_len hx.1 p.1 s3 s0
  have t3 : 0 ≤ ((el zs k).len * sHi zs cs (k + 1) + isq (moG zs cs (k + 1)) - 1) / isq (moG zs cs (k + 1)) := Int.ediv_nonneg (by have := Int.mul_nonneg hx.1 (show 0 ≤ sHi zs cs (k + 1) by omega); omega) (by omega)
  simp only [offG]
  omega
theorem prs_nil (n₀ : Nat) (W : World) : Prs n₀ W (.slice none 0 0) [] := ⟨none, 0, rfl, Nat.le_refl _, fun k hk => by simp at hk⟩
noncomputable def offV (d : Int) (zs : List El) (an fr : Int) (cs : List Pr) (free : Bool) : List Pr := if staE d zs an fr cs = 0 then offsets free zs cs else []
noncomputable def risV (d : Int) (zs : List El) (an fr : Int) (cs : List Pr) (free : Bool) : List Pr := if staE d zs an fr cs = 0 then rises free zs cs else []
/-- what shapeOf returns, read: offsets and rises, empty if there is an error -/
theorem shapeOf_read (d an fr : Int) (sv cv : Value) (zs : List El) (cs : List Pr) (free : Bool) (w : World) (hI : Els w.heap.size w sv zs) (hC : Prs w.heap.size w cv cs) :
    Calls Try.prog 132 #[.agg #[.int .i64 d, sv, .int .i64 an, .int .i64 fr], cv, .bool free] w fun e w' => ∃ (b : Bool) (lift lo hi wd L : Int) (ao : Option Addr) (co : Nat) (ar : Option Addr) (cr : Nat),
      e = .returned (.tuple #[.agg #[.bool b, .int .i64 lift, .int .i64 lo, .int .i64 hi, .int .i64 wd, .int .i64 L, .slice ao (offV d zs an fr cs free).length co, .slice ar (risV d zs an fr cs free).length cr], .int .i64 (staE d zs an fr cs)]) ∧
      (staE d zs an fr cs = 0 → L = lenTo zs zs.length) ∧ Prs w'.heap.size w' (.slice ao (offV d zs an fr cs free).length co) (offV d zs an fr cs free) ∧ Prs w'.heap.size w' (.slice ar (risV d zs an fr cs free).length cr) (risV d zs an fr cs free) ∧ Below w.heap.size w w' := by
  refine (shapeOf_any d an fr sv cv zs cs free w hI hC).mono ?_
  rintro e w' ⟨v, rfl, h1, h2, hb⟩
  by_cases hE : staE d zs an fr cs = 0
  · obtain ⟨lift, lo, hi, wd, vo, vr, rfl, p1, p2⟩ := h1 hE
    have e1 : offV d zs an fr cs free = rowL (offG free zs cs) zs.length := if_pos hE
    have e2 : risV d zs an fr cs free = rowL (risG free zs cs) zs.length := if_pos hE
    rw [← e1] at p1
    rw [← e2] at p2
    have p1' := p1
    have p2' := p2
    obtain ⟨ao, co, rfl, -, -⟩ := p1
    obtain ⟨ar, cr, rfl, -, -⟩ := p2
    exact ⟨free, lift, lo, hi, wd, _, ao, co, ar, cr, rfl, fun _ => rfl, p1', p2', hb⟩
  · have e1 : offV d zs an fr cs free = [] := if_neg hE
    have e2 : risV d zs an fr cs free = [] := if_neg hE
    obtain rfl := h2 hE
    rw [e1, e2]
    exact ⟨false, 0, 0, 0, 0, 0, none, 0, none, 0, rfl, fun h => absurd h hE, prs_nil _ _, prs_nil _ _, hb⟩
set_option maxRecDepth 100000 in
set_option maxHeartbeats 8000000 in
theorem shape_any (d an fr : Int) (sv cv : Value) (zs : List El) (cs : List Pr) (free : Bool) (w : World) (hI : Els w.heap.size w sv zs) (hC : Prs w.heap.size w cv cs) :
    Calls Try.prog 71 #[.agg #[.int .i64 d, sv, .int .i64 an, .int .i64 fr], cv, .bool free] w fun e w' => ∃ v1 v2, e = .returned (.tuple #[v1, v2, .int .i64 (staE d zs an fr cs)]) ∧ Prs w'.heap.size w' v1 (offV d zs an fr cs free) ∧ Prs w'.heap.size w' v2 (risV d zs an fr cs free) ∧ Below w.heap.size w w' := by
  have c1 := fun w' (hb : Below w.heap.size w w') => shapeOf_read d an fr sv cv zs cs free w' (hI.at hb) (hC.at hb)
  obtain ⟨a, cap, rfl, -, -⟩ := hI
  obtain ⟨c, cap2, rfl, -, -⟩ := hC
  generalize offV d zs an fr cs free = O at *
  generalize risV d zs an fr cs free = R at *
  generalize staE d zs an fr cs = E at *
  generalize lenTo zs zs.length = LL at *
  generalize zs.length = len at *
  generalize cs.length = len2 at *
  go_enter Try.func71, Try.ntmps71
  go_wp2_with fail
  refine (c1 _ (by repeat (first | exact Below.refl _ _ | refine Below.alloc ?_ (by first | omega | (simp; done) | (simp; omega)) _))).mono ?_
  rintro e w1 ⟨b, lift, lo, hi, wd, L, ao, co, ar, cr, rfl, -, hO, hR, hb⟩
  have HB := Lib.hid (show Below w.heap.size w w1 by repeat (first | exact Below.refl _ _ | refine Below.alloc ?_ (by first | omega | (simp; done) | (simp; omega)) _ | refine chainB (by assumption) ?_))
  have HO := Lib.hid (fun W (h : Below w1.heap.size w1 W) => hO.at h)
  have HR := Lib.hid (fun W (h : Below w1.heap.size w1 W) => hR.at h)
  clear hb hO hR c1
  go_wp2_with fail
  obtain ⟨W0, hW0⟩ : ∃ W0, W0 = w1.alloc (.cells #[.bool b, .int .i64 lift, .int .i64 lo, .int .i64 hi, .int .i64 wd, .int .i64 L, .slice ao O.length co, .slice ar R.length cr] 178) := ⟨_, rfl⟩
  rw [← hW0]
  have t6 : W0.cell? ⟨w1.heap.size, 6, none⟩ = some (.slice ao O.length co) := by rw [hW0]; simp [go_sem]
  have t7 : W0.cell? ⟨w1.heap.size, 7, none⟩ = some (.slice ar R.length cr) := by rw [hW0]; simp [go_sem]
  have HB0 := Lib.hid (show Below w1.heap.size w1 W0 by rw [hW0]; exact (Below.refl _ _).alloc (Nat.le_refl _) _)
  clear hW0
  go_quiet (fail)
  go_wp2_with fail
  go_ret3
  exact ⟨_, _, rfl, HO.out _ (below_drewN HB0.out _), HR.out _ (below_drewN HB0.out _), HB.out.trans ((below_drewN HB0.out _).mono HB.out.size)⟩
theorem offV_bd (d : Int) (zs : List El) (an fr : Int) (cs : List Pr) (free : Bool) : (offV d zs an fr cs free).length ≤ 40 ∧ ∀ k, k < (offV d zs an fr cs free).length → 0 ≤ (pr (offV d zs an fr cs free) k).lo ∧ (pr (offV d zs an fr cs free) k).lo ≤ 1048576 ∧ 0 ≤ (pr (offV d zs an fr cs free) k).hi ∧ (pr (offV d zs an fr cs free) k).hi ≤ 1048576 := by
  by_cases hE : staE d zs an fr cs = 0
  · rw [show offV d zs an fr cs free = rowL (offG free zs cs) zs.length from if_pos hE]
    obtain ⟨hr, hs, -, -⟩ := staE_ok hE
    rw [rowL_len]
    refine ⟨hr.most, fun k hk => ?_⟩
    rw [rowL_get _ _ _ hk]
    have := off_bd hr ((standB_iff hr.pos).1 hs) free hk
    omega
  · rw [show offV d zs an fr cs free = [] from if_neg hE]
    exact ⟨by simp, fun k hk => by simp at hk⟩
theorem field_hi (a b : Int) (w : World) : (Instr.field 23 (.agg #[.int .i64 a, .int .i64 b]) 1).run Try.prog w = .ok (.int .i64 b) w := by
  kernel_rfl
set_option maxRecDepth 100000 in
set_option maxHeartbeats 8000000 in
theorem circle_any (d an fr : Int) (sv cv : Value) (zs : List El) (cs : List Pr) (free : Bool) (w : World) (hI : Els w.heap.size w sv zs) (hC : Prs w.heap.size w cv cs) :
    Calls Try.prog 72 #[.agg #[.int .i64 d, sv, .int .i64 an, .int .i64 fr], cv, .bool free] w fun e w' => e = .returned (.tuple #[.int .i64 (totHi (offV d zs an fr cs free) (offV d zs an fr cs free).length), .int .i64 (staE d zs an fr cs)]) ∧ Below w.heap.size w w' := by
  have c1 := fun w' (hb : Below w.heap.size w w') => shapeOf_read d an fr sv cv zs cs free w' (hI.at hb) (hC.at hb)
  have hbd := offV_bd d zs an fr cs free
  have c2 := Lib.hid (fun v W hP => total_any v (offV d zs an fr cs free) hbd.1 hbd.2 W hP)
  obtain ⟨a, cap, rfl, -, -⟩ := hI
  obtain ⟨c, cap2, rfl, -, -⟩ := hC
  clear hbd
  generalize totHi (offV d zs an fr cs free) (offV d zs an fr cs free).length = th at *
  generalize totLo (offV d zs an fr cs free) (offV d zs an fr cs free).length = tl at *
  generalize offV d zs an fr cs free = O at *
  generalize risV d zs an fr cs free = R at *
  generalize staE d zs an fr cs = E at *
  generalize lenTo zs zs.length = LL at *
  generalize zs.length = len at *
  generalize cs.length = len2 at *
  go_enter Try.func72, Try.ntmps72
  go_wp2_with fail
  refine (c1 _ (by repeat (first | exact Below.refl _ _ | refine Below.alloc ?_ (by first | omega | (simp; done) | (simp; omega)) _))).mono ?_
  rintro e w1 ⟨b, lift, lo, hi, wd, L, ao, co, ar, cr, rfl, -, hO, hR, hb⟩
  have HB := Lib.hid (show Below w.heap.size w w1 by repeat (first | exact Below.refl _ _ | refine Below.alloc ?_ (by first | omega | (simp; done) | (simp; omega)) _ | refine chainB (by assumption) ?_))
  have HO := Lib.hid (fun W (h : Below w1.heap.size w1 W) => hO.at h)
  clear hb hO hR c1
  have hfld := field_hi tl th
  go_wp2_with fail
  refine (c2.out _ _ (HO.out _ ((Below.refl _ _).alloc (Nat.le_refl _) _))).mono ?_
  rintro e w2 ⟨rfl, hb⟩
  have HB2 := Lib.hid ((HB.out.alloc HB.out.size _).trans (hb.mono (by have := HB.out.size; simp; omega)))
  clear hb
  go_wp2_with fail
  go_ret2
  exact ⟨rfl, HB2.out⟩
end Go.Proofs.Ytdohfpnnmppdkaa.Moo

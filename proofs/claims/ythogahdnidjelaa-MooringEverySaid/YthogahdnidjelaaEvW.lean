/-
  MooringEvery: no number of the law leaves its range.
-/
import Derived.Test.YthogahdnidjelaaEvMath
namespace Go.Proofs.Ythogahdnidjelaa
open Go.RowKit Go.Shelf
set_option linter.unusedSimpArgs false
theorem mul_bd {a b A B : Int} (ha : -A ≤ a ∧ a ≤ A) (hb : -B ≤ b ∧ b ≤ B) : -(A * B) ≤ a * b ∧ a * b ≤ A * B := by
  have h1 : 0 ≤ (A - a) * (B + b) := Int.mul_nonneg (by omega) (by omega)
  have h2 : 0 ≤ (A + a) * (B - b) := Int.mul_nonneg (by omega) (by omega)
  have h3 : 0 ≤ (A - a) * (B - b) := Int.mul_nonneg (by omega) (by omega)
  have h4 : 0 ≤ (A + a) * (B + b) := Int.mul_nonneg (by omega) (by omega)
  have e1 : (A - a) * (B + b) = A * B + A * b - a * B - a * b := by grind
  have e2 : (A + a) * (B - b) = A * B - A * b + a * B - a * b := by grind
  have e3 : (A - a) * (B - b) = A * B - A * b - a * B + a * b := by grind
  have e4 : (A + a) * (B + b) = A * B + A * b + a * B + a * b := by grind
  omega
theorem w64 {x : Int} (h : -9223372036854775808 ≤ x ∧ x ≤ 9223372036854775807) : wrap64 x = x := by unfold wrap64; omega
structure EvN (X Y v L : Int) (h t o r : Pr) (xx yy S v25 vv P ha hb hc hd ta tb tc td oa ob LL ls oc od ra rb l25 l25L q1 q2 rc rd : Int) : Prop where
  a1 : wrap64 (X * X) = xx
  a2 : wrap64 (Y * Y) = yy
  a3 : wrap64 (xx + yy) = S
  a4 : wrap64 (25 * v) = v25
  a5 : wrap64 (v25 * v) = vv
  a6 : wrap64 (S + vv) = P
  b1 : wrap64 (25 * h.lo) = ha
  b2 : wrap64 (ha * h.lo) = hb
  b3 : wrap64 (25 * h.hi) = hc
  b4 : wrap64 (hc * h.hi) = hd
  c1 : wrap64 (25 * t.lo) = ta
  c2 : wrap64 (ta * t.lo) = tb
  c3 : wrap64 (25 * t.hi) = tc
  c4 : wrap64 (tc * t.hi) = td
  d1 : wrap64 (o.lo * o.lo) = oa
  d2 : wrap64 (oa * P) = ob
  d3 : wrap64 (L * L) = LL
  d4 : wrap64 (LL * S) = ls
  d5 : wrap64 (o.hi * o.hi) = oc
  d6 : wrap64 (oc * P) = od
  e1 : wrap64 (r.lo * r.lo) = ra
  e2 : wrap64 (ra * P) = rb
  e3 : wrap64 (25 * L) = l25
  e4 : wrap64 (l25 * L) = l25L
  e5 : wrap64 (l25L * v) = q1
  e6 : wrap64 (q1 * v) = q2
  e7 : wrap64 (r.hi * r.hi) = rc
  e8 : wrap64 (rc * P) = rd
  k1 : ¬ S < hb
  k2 : ¬ hd < S
  k3 : ¬ P < tb
  k4 : ¬ td < P
  k5 : ¬ ls < ob
  k6 : ¬ od < ls
  k7 : ¬ q2 < rb
  k8 : ¬ rd < q2
theorem ev_wraps {X Y v L : Int} {h t o r : Pr} (hX : -91800 ≤ X ∧ X ≤ 91800) (hY : -91800 ≤ Y ∧ Y ≤ 91800) (hv : 1 ≤ v ∧ v ≤ 65537) (hL : 0 ≤ L ∧ L ≤ 4095)
    (h0 : 0 ≤ h.lo ∧ h.lo ≤ 30000000) (h1 : 0 ≤ h.hi ∧ h.hi ≤ 30000000) (t0 : 0 ≤ t.lo ∧ t.lo ≤ 30000000) (t1 : 0 ≤ t.hi ∧ t.hi ≤ 30000000)
    (o0 : 0 ≤ o.lo ∧ o.lo ≤ 4095) (o1 : 0 ≤ o.hi ∧ o.hi ≤ 4095) (r0 : 0 ≤ r.lo ∧ r.lo ≤ 4095) (r1 : 0 ≤ r.hi ∧ r.hi ≤ 4095) (c : EvChk (X * X + Y * Y) v L h t o r) :
    ∃ xx yy S v25 vv P ha hb hc hd ta tb tc td oa ob LL ls oc od ra rb l25 l25L q1 q2 rc rd, EvN X Y v L h t o r xx yy S v25 vv P ha hb hc hd ta tb tc td oa ob LL ls oc od ra rb l25 l25L q1 q2 rc rd := by
  obtain ⟨hl, hh⟩ := h
  obtain ⟨tl, th⟩ := t
  obtain ⟨ol, oh⟩ := o
  obtain ⟨rl, rh⟩ := r
  dsimp only at *
  obtain ⟨g1, g2, g3, g4, g5, g6, g7, g8⟩ := c
  dsimp only at *
  have mX := mul_bd (A := 91800) (B := 91800) hX hX
  have mY := mul_bd (A := 91800) (B := 91800) hY hY
  have nX := sq_nn X
  have nY := sq_nn Y
  have mv := mul_bd (a := 25 * v) (b := v) (A := 1638425) (B := 65537) (by omega) (by omega)
  have nv : 0 ≤ 25 * v * v := Int.mul_nonneg (by omega) (by omega)
  have mh0 := mul_bd (a := 25 * hl) (b := hl) (A := 750000000) (B := 30000000) (by omega) (by omega)
  have mh1 := mul_bd (a := 25 * hh) (b := hh) (A := 750000000) (B := 30000000) (by omega) (by omega)
  have mt0 := mul_bd (a := 25 * tl) (b := tl) (A := 750000000) (B := 30000000) (by omega) (by omega)
  have mt1 := mul_bd (a := 25 * th) (b := th) (A := 750000000) (B := 30000000) (by omega) (by omega)
  have mo0 := mul_bd (a := ol) (b := ol) (A := 4095) (B := 4095) (by omega) (by omega)
  have mo1 := mul_bd (a := oh) (b := oh) (A := 4095) (B := 4095) (by omega) (by omega)
  have mr0 := mul_bd (a := rl) (b := rl) (A := 4095) (B := 4095) (by omega) (by omega)
  have mr1 := mul_bd (a := rh) (b := rh) (A := 4095) (B := 4095) (by omega) (by omega)
  have mL := mul_bd (a := L) (b := L) (A := 4095) (B := 4095) (by omega) (by omega)
  have mL2 := mul_bd (a := 25 * L) (b := L) (A := 102375) (B := 4095) (by omega) (by omega)
  have mL3 := mul_bd (a := 25 * L * L) (b := v) (A := 419225625) (B := 65537) (by omega) (by omega)
  have mL4 := mul_bd (a := 25 * L * L * v) (b := v) (A := 27474789785625) (B := 65537) (by omega) (by omega)
  have mLs := mul_bd (a := L * L) (b := X * X + Y * Y) (A := 16769025) (B := 16854480000) (by omega) (by omega)
  have mo0P := mul_bd (a := ol * ol) (b := X * X + Y * Y + 25 * v * v) (A := 16769025) (B := 124231939225) (by omega) (by omega)
  have mo1P := mul_bd (a := oh * oh) (b := X * X + Y * Y + 25 * v * v) (A := 16769025) (B := 124231939225) (by omega) (by omega)
  have mr0P := mul_bd (a := rl * rl) (b := X * X + Y * Y + 25 * v * v) (A := 16769025) (B := 124231939225) (by omega) (by omega)
  have mr1P := mul_bd (a := rh * rh) (b := X * X + Y * Y + 25 * v * v) (A := 16769025) (B := 124231939225) (by omega) (by omega)
  refine ⟨X * X, Y * Y, X * X + Y * Y, 25 * v, 25 * v * v, X * X + Y * Y + 25 * v * v, 25 * hl, 25 * hl * hl, 25 * hh, 25 * hh * hh, 25 * tl, 25 * tl * tl, 25 * th, 25 * th * th, ol * ol, ol * ol * (X * X + Y * Y + 25 * v * v), L * L, L * L * (X * X + Y * Y), oh * oh, oh * oh * (X * X + Y * Y + 25 * v * v), rl * rl, rl * rl * (X * X + Y * Y + 25 * v * v), 25 * L, 25 * L * L, 25 * L * L * v, 25 * L * L * v * v, rh * rh, rh * rh * (X * X + Y * Y + 25 * v * v), ?_⟩
  constructor
  all_goals first | (exact w64 (by omega)) | (exact w64 (by dsimp only; omega)) | omega | (dsimp only; omega)
theorem ev_bounds (free : Bool) {ps : List Pc} {n : Nat} (hr : Rig (evZ ps n) (evC ps n)) (hn : n ≤ 8) (ho : ∀ j, j < n → OkPc (pc ps j)) {k : Nat} (hk : k < n) :
    ∃ xx yy S v25 vv P ha hb hc hd ta tb tc td oa ob LL ls oc od ra rb l25 l25L q1 q2 rc rd, EvN (evX free ps (k + 1)) (evY free ps (k + 1)) (lifTo (evZ ps n) (k + 1)) (el (evZ ps n) k).len
      (pulG free (evZ ps n) (evC ps n) (k + 1)) (tenG free (evZ ps n) (evC ps n) (k + 1)) (offG free (evZ ps n) (evC ps n) (k + 1)) (risG free (evZ ps n) (evC ps n) (k + 1)) xx yy S v25 vv P ha hb hc hd ta tb tc td oa ob LL ls oc od ra rb l25 l25L q1 q2 rc rd := by
  have lz : (evZ ps n).length = n := rowM_len _ _
  have hst : ∀ k, k < (evZ ps n).length → 1 ≤ lifTo (evZ ps n) (k + 1) := fun k hk => (evZ_lift hn ho (by omega)).1
  have hxy := evXY_bd free ps (k + 1) (fun j hj => ho j (by omega))
  have hv := evZ_lift hn ho hk
  have hL : 0 ≤ (el (evZ ps n) k).len ∧ (el (evZ ps n) k).len ≤ 4095 := by rw [evZ_len ps hk]; omega
  obtain ⟨p0, -, p1, p2⟩ := pull_bd hr free (k := k + 1) (by omega)
  have ob := off_bd hr hst free (k := k) (by omega)
  have rb := ris_bd hr hst free (k := k) (by omega)
  have q2 : ∀ a, 0 ≤ a → a ≤ 23592960 → 0 ≤ isq (a * a + lifTo (evZ ps n) (k + 1) * lifTo (evZ ps n) (k + 1)) ∧ isq (a * a + lifTo (evZ ps n) (k + 1) * lifTo (evZ ps n) (k + 1)) ≤ isqUp (a * a + lifTo (evZ ps n) (k + 1) * lifTo (evZ ps n) (k + 1)) ∧ isqUp (a * a + lifTo (evZ ps n) (k + 1) * lifTo (evZ ps n) (k + 1)) ≤ 30000000 := by
    intro a a0 a1
    generalize lifTo (evZ ps n) (k + 1) = v at *
    have haa := sq_nn a
    have hvv := sq_nn v
    have hav : 0 ≤ a * v := Int.mul_nonneg a0 (by omega)
    have i := isq_spec (x := a * a + v * v) (by omega)
    have u := isqUp_ge (x := a * a + v * v) (by omega)
    have l := isqUp_least (x := a * a + v * v) (t := a + v) (by omega) (by omega) (by
      have e : (a + v) * (a + v) = a * a + v * v + 2 * (a * v) := by grind
      omega)
    exact ⟨i.1, u.1, by omega⟩
  have qa := q2 _ p0 (by omega)
  have qb := q2 _ (Int.le_trans p0 p1) p2
  refine ev_wraps ?_ ?_ hv hL ?_ ?_ ?_ ?_ ?_ ?_ ?_ ?_ (ev_chk free hr hn ho hk)
  · omega
  · omega
  · simp only [pulG]; omega
  · simp only [pulG]; omega
  · simp only [tenG]; omega
  · simp only [tenG]; omega
  · omega
  · omega
  · omega
  · omega
end Go.Proofs.Ythogahdnidjelaa

/-
  Narrower currents; whether elements are strong enough and the anchor holds; the walk of MooringNarrower; what the laid table gives.
-/
import Derived.Test.YtmodplodnimmkaaDoorBalMath
import Derived.Test.YtmodplodnimmkaaDoorForceMath
import Derived.Test.YtmodplodnimmkaaDoorRoot
import Derived.Test.YtmodplodnimmkaaDoorPullsP
import Derived.Test.YtmodplodnimmkaaDoorForms
import Derived.Deep.AppendLies
import Derived.Test.YtmodplodnimmkaaDoorBelowP
import Derived.Test.YtmodplodnimmkaaDoorMinMax
import Derived.Lib.MinMax
import Derived.Test.YtmodplodnimmkaaDoorValid
import Derived.Test.YtmodplodnimmkaaDoorShape3
import Derived.Test.YtmodplodnimmkaaDoorFrame
import Derived.Test.YtmodplodnimmkaaDoorOpenM
import Derived.ProofKit
import Derived.LaidMore
import Derived.OpenShut
import Derived.Stop.Joined
import Derived.Lib.LaidTab
namespace Go.Proofs.YtmodplodnimmkaaDoor
open Go.RowKit Go.Shelf
set_option linter.unusedSimpArgs false
/-- each current lies in the other one -/
def NarB (ds cs : List Pr) : Prop := ∀ k, k < cs.length → (pr cs k).lo ≤ (pr ds k).lo ∧ (pr ds k).hi ≤ (pr cs k).hi ∧ (pr ds k).lo ≤ (pr ds k).hi
theorem nar_rig {zs : List El} {cs ds : List Pr} (h : Rig zs cs) (hl : ds.length = cs.length) (hn : NarB ds cs) : Rig zs ds := by
  refine { h with same := by rw [hl]; exact h.same, cur := fun k hk => ?_ }
  have a := (okC_iff _).1 (h.cur k hk)
  have b := hn k (by rw [h.same]; exact hk)
  exact (okC_iff _).2 ⟨by omega, by omega, by omega⟩
theorem nar_sums {zs : List El} {cs ds : List Pr} (h : Rig zs cs) (hl : ds.length = cs.length) (hn : NarB ds cs) : ∀ k, k ≤ zs.length →
    sLo zs cs k ≤ sLo zs ds k ∧ sHi zs ds k ≤ sHi zs cs k ∧ wid zs cs k - sHi zs cs k ≤ wid zs ds k - sHi zs ds k
  | 0, _ => by simp [sLo, sHi, wid]
  | k + 1, hk => by
    obtain ⟨a, b, c⟩ := nar_sums h hl hn k (by omega)
    have hd := nar_rig h hl hn
    obtain ⟨n1, n2, n3⟩ := hn k (by rw [h.same]; omega)
    obtain ⟨-, -, ⟨g0, g1⟩, -⟩ := (vE_iff _).1 (h.els k (by omega))
    have x := (okC_iff _).1 (h.cur k (by omega))
    have m1 := drag_mono g0 x.1 n1
    have m2 := drag_mono g0 (show 0 ≤ (pr ds k).hi by omega) n2
    have f1 : fLo (el zs k) (pr cs k) ≤ fLo (el zs k) (pr ds k) := by unfold fLo; omega
    have f2 : fHi (el zs k) (pr ds k) ≤ fHi (el zs k) (pr cs k) := by unfold fHi; omega
    simp only [sLo, sHi, wid]
    omega
theorem nar_pull {zs : List El} {cs ds : List Pr} (h : Rig zs cs) (hl : ds.length = cs.length) (hn : NarB ds cs) (free : Bool) {k : Nat} (hk : k ≤ zs.length) :
    hLo free zs cs k ≤ hLo free zs ds k ∧ sHi zs ds k ≤ sHi zs cs k := by
  obtain ⟨a, b, c⟩ := nar_sums h hl hn k hk
  refine ⟨?_, b⟩
  unfold hLo
  split <;> omega
theorem isq_step {p q v : Int} (hp : 0 ≤ p) (h : p ≤ q) : isq (q * q + v * v) ≤ isq (p * p + v * v) + (q - p) := by
  have hv : 0 ≤ v * v := by rcases Int.le_total 0 v with g | g; · exact Int.mul_nonneg g g
                            · have := Int.mul_nonneg_of_nonpos_of_nonpos g g; omega
  have hpp := Int.mul_nonneg hp hp
  have hqq := Int.mul_nonneg (show 0 ≤ q by omega) (show 0 ≤ q by omega)
  obtain ⟨a1, a2, a3⟩ := isq_spec (x := p * p + v * v) (by omega)
  obtain ⟨b1, b2, b3⟩ := isq_spec (x := q * q + v * v) (by omega)
  have hs : p ≤ isq (p * p + v * v) := by
    rcases Int.lt_or_le (isq (p * p + v * v)) p with g | g
    · have := sq_mono (a := isq (p * p + v * v) + 1) (b := p) (by omega) (by omega); omega
    · exact g
  generalize isq (p * p + v * v) = s at *
  generalize isq (q * q + v * v) = t at *
  obtain ⟨d, rfl⟩ : ∃ d, q = p + d := ⟨q - p, by omega⟩
  have hd : 0 ≤ d := by omega
  rcases Int.lt_or_le (s + (p + d - p)) t with g | g
  · exfalso
    have m1 := sq_mono (a := s + 1 + d) (b := t) (by omega) (by omega)
    have m2 := Int.mul_le_mul_of_nonneg_left hs hd
    have x1 : (s + 1 + d) * (s + 1 + d) = (s + 1) * (s + 1) + (d * s + d) + (d * s + d) + d * d := by
      rw [Int.mul_add, Int.add_mul (s + 1) d (s + 1), Int.add_mul (s + 1) d d, Int.mul_comm (s + 1) d, Int.mul_add d s 1]; omega
    have x2 : (p + d) * (p + d) = p * p + d * p + d * p + d * d := by rw [Int.mul_add, Int.add_mul, Int.add_mul, Int.mul_comm p d]; omega
    omega
  · exact g
theorem off_hi_mono {L p q v : Int} (hL : 0 ≤ L) (hp : 0 ≤ p) (h : p ≤ q) (hv : 1 ≤ v) : (L * p + isq (p * p + v * v) - 1) / isq (p * p + v * v) ≤ (L * q + isq (q * q + v * v) - 1) / isq (q * q + v * v) ∨ L ≤ (L * q + isq (q * q + v * v) - 1) / isq (q * q + v * v) := by
  have hst := isq_step (v := v) hp h
  have hvv : 1 ≤ v * v := by have := Int.mul_le_mul hv hv (by decide) (by omega); simpa using this
  have hpp := Int.mul_nonneg hp hp
  have hqq := Int.mul_nonneg (show 0 ≤ q by omega) (show 0 ≤ q by omega)
  have s1 := isq_pos (show 1 ≤ p * p + v * v by omega)
  have t1 := isq_pos (show 1 ≤ q * q + v * v by omega)
  obtain ⟨a1, a2, a3⟩ := isq_spec (x := p * p + v * v) (by omega)
  have hs : p ≤ isq (p * p + v * v) := by
    rcases Int.lt_or_le (isq (p * p + v * v)) p with g | g
    · have := sq_mono (a := isq (p * p + v * v) + 1) (b := p) (by omega) (by omega); omega
    · exact g
  generalize isq (p * p + v * v) = s at *
  generalize isq (q * q + v * v) = t at *
  generalize hk : (L * q + t - 1) / t = k
  rcases Int.lt_or_le k L with g | g
  · left
    have k0 : 0 ≤ k := by rw [← hk]; exact Int.ediv_nonneg (by have := Int.mul_nonneg hL (show 0 ≤ q by omega); omega) (by omega)
    have kb : L * q ≤ k * t := by
      have := Int.lt_ediv_add_one_mul_self (L * q + t - 1) (show 0 < t by omega)
      rw [hk, Int.add_mul] at this
      omega
    have c : (L * p + s - 1) / s < k + 1 := by
      refine Int.ediv_lt_of_lt_mul (by omega) ?_
      obtain ⟨d, rfl⟩ : ∃ d, q = p + d := ⟨q - p, by omega⟩
      have m1 : k * t ≤ k * (s + d) := Int.mul_le_mul_of_nonneg_left (by omega) k0
      have m2 : k * d ≤ L * d := Int.mul_le_mul_of_nonneg_right (by omega) (by omega)
      rw [Int.mul_add] at m1
      rw [Int.mul_add] at kb
      rw [Int.add_mul]
      omega
    omega
  · right; exact g
/-- each span lies in the former one -/
theorem nar_ten {zs : List El} {cs ds : List Pr} (h : Rig zs cs) (hl : ds.length = cs.length) (hn : NarB ds cs) (free : Bool) {k : Nat} (hk : k ≤ zs.length) :
    (tenG free zs cs k).lo ≤ (tenG free zs ds k).lo ∧ (tenG free zs ds k).hi ≤ (tenG free zs cs k).hi ∧ (tenG free zs ds k).lo ≤ (tenG free zs ds k).hi := by
  obtain ⟨a, b⟩ := nar_pull h hl hn free hk
  have p := pull_bd h free hk
  have q := pull_bd (nar_rig h hl hn) free hk
  have hv : 0 ≤ lifTo zs k * lifTo zs k := by rcases Int.le_total 0 (lifTo zs k) with g | g; · exact Int.mul_nonneg g g
                                              · have := Int.mul_nonneg_of_nonpos_of_nonpos g g; omega
  have m1 := sq_mono p.1 a
  have m2 := sq_mono (a := sHi zs ds k) (by omega) b
  have m3 := sq_mono q.1 q.2.2.1
  have n0 := Int.mul_nonneg p.1 p.1
  have n1 := Int.mul_nonneg (show 0 ≤ sHi zs ds k by omega) (show 0 ≤ sHi zs ds k by omega)
  simp only [tenG]
  refine ⟨isq_mono (by omega) (by omega), ?_, ?_⟩
  · have e := isqUp_ge (x := sHi zs cs k * sHi zs cs k + lifTo zs k * lifTo zs k) (by omega)
    have e0 := (isq_spec (x := sHi zs cs k * sHi zs cs k + lifTo zs k * lifTo zs k) (by omega)).1
    exact isqUp_least (by omega) (by omega) (by omega)
  · exact Int.le_trans (isq_mono (by omega) (show _ ≤ sHi zs ds k * sHi zs ds k + lifTo zs k * lifTo zs k by omega)) (isqUp_ge (by omega)).1
theorem up_up {n s t : Int} (hs : 1 ≤ s) (h : s ≤ t) (hn : 0 ≤ n) : n / t ≤ n / s := by
  have a : n / t * s ≤ n / t * t := Int.mul_le_mul_of_nonneg_left h (Int.ediv_nonneg hn (by omega))
  have b : n / t * t ≤ n := Int.ediv_mul_le _ (by omega)
  exact Int.le_ediv_of_mul_le (by omega) (by omega)
theorem isqUp_mono {x y : Int} (h0 : 0 ≤ x) (h : x ≤ y) : isqUp x ≤ isqUp y := by
  have e := isqUp_ge (x := y) (by omega)
  have e0 := (isq_spec (x := y) (by omega)).1
  exact isqUp_least h0 (by omega) (by omega)
theorem nar_off {zs : List El} {cs ds : List Pr} (h : Rig zs cs) (hst : ∀ k, k < zs.length → 1 ≤ lifTo zs (k + 1)) (hl : ds.length = cs.length) (hn : NarB ds cs) (free : Bool) {k : Nat} (hk : k < zs.length) :
    (offG free zs cs (k + 1)).lo ≤ (offG free zs ds (k + 1)).lo ∧ (offG free zs ds (k + 1)).hi ≤ (offG free zs cs (k + 1)).hi ∧ (offG free zs ds (k + 1)).lo ≤ (offG free zs ds (k + 1)).hi := by
  obtain ⟨a, b⟩ := nar_pull h hl hn free (k := k + 1) (by omega)
  have hd := nar_rig h hl hn
  have p := pull_bd h free (k := k + 1) (by omega)
  have q := pull_bd hd free (k := k + 1) (by omega)
  have hx := ((vE_iff _).1 (h.els k hk)).1
  have v1 := hst k hk
  have m1 := off_lo_mono (v := lifTo zs (k + 1)) hx.1 p.1 a v1
  have m2 := off_hi_mono (v := lifTo zs (k + 1)) hx.1 (show 0 ≤ sHi zs ds (k + 1) by omega) b v1
  have m3 := off_lo_mono (v := lifTo zs (k + 1)) hx.1 q.1 q.2.2.1 v1
  have ob := off_bd hd hst free hk
  obtain ⟨pa, pb, pc, pd⟩ := le_pos hd hst free hk
  have s1 := isq_pos (show 1 ≤ moG zs ds (k + 1) by omega)
  have m4 := div_le_up (n := (el zs k).len * sHi zs ds (k + 1)) (s := isq (moG zs ds (k + 1))) (m := isqUp (moG zs ds (k + 1))) (Int.mul_nonneg hx.1 (by omega)) s1 (isqUp_ge (by omega)).1
  unfold moG at m4
  simp only [offG, leG, moG] at *
  omega
theorem nar_ris {zs : List El} {cs ds : List Pr} (h : Rig zs cs) (hst : ∀ k, k < zs.length → 1 ≤ lifTo zs (k + 1)) (hl : ds.length = cs.length) (hn : NarB ds cs) (free : Bool) {k : Nat} (hk : k < zs.length) :
    (risG free zs cs (k + 1)).lo ≤ (risG free zs ds (k + 1)).lo ∧ (risG free zs ds (k + 1)).hi ≤ (risG free zs cs (k + 1)).hi ∧ (risG free zs ds (k + 1)).lo ≤ (risG free zs ds (k + 1)).hi := by
  obtain ⟨a, b⟩ := nar_pull h hl hn free (k := k + 1) (by omega)
  have hd := nar_rig h hl hn
  have p := pull_bd h free (k := k + 1) (by omega)
  have q := pull_bd hd free (k := k + 1) (by omega)
  have hx := ((vE_iff _).1 (h.els k hk)).1
  have v1 := hst k hk
  have rb := ris_bd hd hst free hk
  obtain ⟨pa, pb, pc, pd⟩ := le_pos h hst free hk
  obtain ⟨qa, qb, qc, qd⟩ := le_pos hd hst free hk
  have e1 : leG free zs cs (k + 1) ≤ leG free zs ds (k + 1) := by unfold leG; have := sq_mono p.1 a; omega
  have e2 : moG zs ds (k + 1) ≤ moG zs cs (k + 1) := by unfold moG; have := sq_mono (a := sHi zs ds (k + 1)) (by omega) b; omega
  have n0 : 0 ≤ (el zs k).len * lifTo zs (k + 1) := Int.mul_nonneg hx.1 (by omega)
  have u1 := up_mono n0 (isq_pos pc) (isq_mono (by omega) e1)
  have u2 := up_up (Int.le_trans (isq_pos (show 1 ≤ moG zs ds (k + 1) by omega)) (isqUp_ge (by omega)).1) (isqUp_mono (by omega) e2) n0
  refine ⟨?_, ?_, rb.2.1⟩
  · simp only [risG]; exact u2
  · simp only [risG]; omega
end Go.Proofs.YtmodplodnimmkaaDoor
namespace Go.Proofs.YtmodplodnimmkaaDoor
open Go.RowKit Go.Shelf
set_option linter.unusedSimpArgs false
/-- the table of answers in memory -/
structure TabAt (W : World) : Prop where
  lt : 0 < W.heap.size
  c0 : W.cell? ⟨0, 0, none⟩ = some (.int .i64 2)
  c1 : W.cell? ⟨0, 1, none⟩ = some (.int .i64 1)
  c2 : W.cell? ⟨0, 2, none⟩ = some (.int .i64 0)
theorem TabAt.at {W W' : World} (h : TabAt W) {n : Nat} (hb : Below n W W') (hn : 0 < n) : TabAt W' :=
  ⟨Nat.lt_of_lt_of_le h.lt hb.size, (hb.cell (p := ⟨0, 0, none⟩) hn).trans h.c0, (hb.cell (p := ⟨0, 1, none⟩) hn).trans h.c1, (hb.cell (p := ⟨0, 2, none⟩) hn).trans h.c2⟩
/-- the answer, as a number -/
def alwV (l : Int) (a : Pr) : Int := (if l < a.hi then (if l < a.lo then 0 else 1) else (if l < a.lo then 1 else 2))
def abv (l lo hi : Int) : Nat → Int
  | 0 => 0
  | 1 => if l < lo then 1 else 0
  | _ => (if l < lo then 1 else 0) + (if l < hi then 1 else 0)
theorem ends0 (lo hi : Int) (W : World) : Sem.run Tryd.prog (Instr.index 94 (.agg #[.int .i64 lo, .int .i64 hi]) (.int .i64 0)) W = .ok (.int .i64 lo) W := by kernel_rfl
theorem ends1 (lo hi : Int) (W : World) : Sem.run Tryd.prog (Instr.index 94 (.agg #[.int .i64 lo, .int .i64 hi]) (.int .i64 1)) W = .ok (.int .i64 hi) W := by kernel_rfl
set_option maxRecDepth 100000 in
set_option maxHeartbeats 4000000 in
theorem allows_any (l lo hi : Int) (w : World) (hT : TabAt w) :
    Calls Tryd.prog 30 #[.int .i64 l, .agg #[.int .i64 lo, .int .i64 hi]] w fun e w' => e = .returned (.int .i64 (alwV l ⟨lo, hi⟩)) ∧ Below w.heap.size w w' := by
  have hz := hT.lt
  have t0 : (w.alloc (.cells #[.int .i64 lo, .int .i64 hi] 52)).cell? ⟨0, 0, none⟩ = some (.int .i64 2) := (((Below.refl w.heap.size w).alloc (Nat.le_refl _) _).cell (p := ⟨0, 0, none⟩) hz).trans hT.c0
  have t1 : (w.alloc (.cells #[.int .i64 lo, .int .i64 hi] 52)).cell? ⟨0, 1, none⟩ = some (.int .i64 1) := (((Below.refl w.heap.size w).alloc (Nat.le_refl _) _).cell (p := ⟨0, 1, none⟩) hz).trans hT.c1
  have t2 : (w.alloc (.cells #[.int .i64 lo, .int .i64 hi] 52)).cell? ⟨0, 2, none⟩ = some (.int .i64 0) := (((Below.refl w.heap.size w).alloc (Nat.le_refl _) _).cell (p := ⟨0, 2, none⟩) hz).trans hT.c2
  have i0 := fun W => ends0 lo hi W
  have i1 := fun W => ends1 lo hi W
  unfold alwV
  dsimp only
  by_cases h1 : l < lo
  all_goals by_cases h2 : l < hi
  all_goals
    go_enter Tryd.func30, Tryd.ntmps30
    go_wp2_with fail
    go_loopw [5, 13] (fun x i wr => ∃ k : Nat, k ≤ 2 ∧ i = .int .i64 k ∧ x = .int .i64 (abv l lo hi k) ∧ Below (w.heap.size + 1) (w.alloc (.cells #[.int .i64 lo, .int .i64 hi] 52)) wr) (fun _ i _ => 2 - (intOf i).toNat)
    case atStart => exact ⟨0, by omega, rfl, rfl, Below.refl _ _⟩
    case round =>
      obtain ⟨k, hk, rfl, rfl, hB⟩ := hrel
      have y0 := (hB.cell (p := ⟨0, 0, none⟩) (by show 0 < _; omega)).trans t0
      have y1 := (hB.cell (p := ⟨0, 1, none⟩) (by show 0 < _; omega)).trans t1
      have y2 := (hB.cell (p := ⟨0, 2, none⟩) (by show 0 < _; omega)).trans t2
      have HB := Lib.hid hB
      clear hB
      obtain rfl | rfl | rfl : k = 0 ∨ k = 1 ∨ k = 2 := by omega
      · simp only [abv, h1, h2, if_true, if_false]
        go_wp2_with fail
        go_roundw
        case rel => exact ⟨1, by omega, by go_num, by simp only [abv, Value.int.injEq, true_and] <;> (repeat' split) <;> omega, (by repeat (first | exact HB.out | refine Below.drew ?_ | refine below_drewN ?_ _))⟩
        case measure => simp [intOf]
      · simp only [abv, h1, h2, if_true, if_false]
        go_wp2_with fail
        go_roundw
        case rel => exact ⟨2, by omega, by go_num, by simp only [abv, Value.int.injEq, true_and] <;> (repeat' split) <;> omega, (by repeat (first | exact HB.out | refine Below.drew ?_ | refine below_drewN ?_ _))⟩
        case measure => simp [intOf]
      · simp only [abv, h1, h2, if_true, if_false]
        go_wp2_with fail
        go_ret
        exact ⟨by simp only [h1, h2, if_true, if_false] <;> rfl, ((Below.refl _ _).alloc (Nat.le_refl _) _).trans (HB.out.mono (by omega))⟩
end Go.Proofs.YtmodplodnimmkaaDoor
namespace Go.Proofs.YtmodplodnimmkaaDoor
open Go.RowKit Go.Shelf
set_option linter.unusedSimpArgs false
theorem infoA : (Tryd.prog.info? 32).map (fun i => (i.zero, i.size, i.bytes)) = some (some (.int .i64 0), 1, 8) := by kernel_rfl
theorem one_newA (W : World) (x : Value) : ∀ (j : Nat) (u : Value), [x][j]? = some u → (W.alloc (.cells #[x] 32)).cell? ((⟨W.heap.size, 0, none⟩ : Addr).add j) = some u := by
  intro j u hj
  match j, hj with
  | 0, hj => simp at hj; subst hj; simp [Addr.add]
theorem nums_of_ownsA {W : World} {base : Nat} {v : Value} {xs : List Int} (h : W.ownsRow base 32 1 v xs.length (numv xs)) : Nums W.heap.size W v xs := by
  rcases h.2 with ⟨rfl, h0⟩ | ⟨g, cap, cur, rfl, hb, hg, r1, r2, r3, r4⟩
  · exact ⟨none, 0, by rw [h0], by omega, fun j hj => by omega⟩
  · refine ⟨_, cap, rfl, r1, fun j hj => ⟨g, 0, rfl, (Array.getElem?_eq_some_iff.1 hg).1, ?_⟩⟩
    have e : cur.toList[j]? = some (.int .i64 (xs[j]?.getD 0)) := by
      have h4 : (cur.toList.take (xs.length * 1))[j]? = (numv xs)[j]? := by rw [r4]
      rw [List.getElem?_take_of_lt (by omega)] at h4
      rw [h4]
      simp [numv, hj]
    rw [Nat.zero_add]
    simp only [World.cell?, hg]
    simpa using e
/-- the answers for the first k elements -/
noncomputable def strL (free : Bool) (zs : List El) (cs : List Pr) : Nat → List Int
  | 0 => []
  | k + 1 => strL free zs cs k ++ [alwV (el zs k).str (tenG free zs cs (k + 1))]
theorem strL_len (free : Bool) (zs : List El) (cs : List Pr) : ∀ k, (strL free zs cs k).length = k
  | 0 => rfl
  | k + 1 => by simp [strL, strL_len free zs cs k]
theorem strL_get (free : Bool) (zs : List El) (cs : List Pr) : ∀ n k, k < n → (strL free zs cs n)[k]?.getD 0 = alwV (el zs k).str (tenG free zs cs (k + 1))
  | 0, k, h => by omega
  | n + 1, k, h => by
    simp only [strL]
    rcases Nat.lt_or_ge k n with g | g
    · rw [List.getElem?_append_left (by rw [strL_len]; exact g)]
      exact strL_get free zs cs n k g
    · obtain rfl : k = n := by omega
      rw [List.getElem?_append_right (by rw [strL_len]; exact Nat.le_refl _), strL_len]
      simp
noncomputable def strV (d : Int) (zs : List El) (an fr : Int) (cs : List Pr) (free : Bool) : List Int := if staE d zs an fr cs = 0 then strL free zs cs zs.length else []
set_option maxRecDepth 100000 in
set_option maxHeartbeats 8000000 in
theorem strong_any (d an fr : Int) (sv cv : Value) (zs : List El) (cs : List Pr) (free : Bool) (w : World) (hTb : TabAt w) (hI : Els w.heap.size w sv zs) (hC : Prs w.heap.size w cv cs) :
    Calls Tryd.prog 8 #[.agg #[.int .i64 d, sv, .int .i64 an, .int .i64 fr], cv, .bool free] w fun e w' => ∃ v, e = .returned (.tuple #[v, .int .i64 (staE d zs an fr cs)]) ∧ Nums w'.heap.size w' v (strV d zs an fr cs free) ∧ Below w.heap.size w w' := by
  have c1 := fun w' (hb : Below w.heap.size w w') => tensions_any d an fr sv cv zs cs free w' (hI.at hb) (hC.at hb)
  have HV := Lib.hid (show strV d zs an fr cs free = if staE d zs an fr cs = 0 then strL free zs cs zs.length else [] from rfl)
  have HT := Lib.hid (fun (h : staE d zs an fr cs = 0) => show tenV d zs an fr cs free = rowL (tenG free zs cs) zs.length from if_pos h)
  have HOK := Lib.hid (fun (h : staE d zs an fr cs = 0) => (staE_ok h).1.most)
  have HTB := Lib.hid hTb
  have hz0w := hTb.lt
  clear hTb
  obtain ⟨a, cap, rfl, -, hcell⟩ := hI
  obtain ⟨c, cap2, rfl, -, hcur⟩ := hC
  have HC := Lib.hid hcell
  clear hcell hcur
  generalize strV d zs an fr cs free = V at *
  generalize tenV d zs an fr cs free = T at *
  generalize staE d zs an fr cs = E at *
  have HA := Lib.hid (show Below w.heap.size w (w.alloc (.cells #[.int .i64 d, .slice a zs.length cap, .int .i64 an, .int .i64 fr] 24)) from (Below.refl _ _).alloc (Nat.le_refl _) _)
  by_cases hE : E = 0
  rotate_left
  · have hV : V = [] := by rw [HV.out, if_neg hE]
    subst hV
    have hb : (E != 0) = true := by simpa using hE
    clear HV HOK HC hE HT HTB
    generalize zs.length = len at *
    generalize cs.length = len2 at *
    go_enter Tryd.func8, Tryd.ntmps8
    go_wp2_with fail
    refine (c1 _ HA.out).mono ?_
    rintro e w1 ⟨v, rfl, -, hb1⟩
    have hB1 := Lib.hid (HA.out.trans (hb1.mono (by simp)))
    clear hb1 c1
    go_wp2_with fail
    go_ret2
    exact ⟨_, rfl, nums_nil _ _, hB1.out⟩
  subst hE
  have hV : V = strL free zs cs zs.length := by rw [HV.out, if_pos rfl]
  subst hV
  have hl := HOK.out rfl
  obtain rfl := HT.out rfl
  have HG := Lib.hid (fun k (hk : k < zs.length) => rowL_get (tenG free zs cs) zs.length k hk)
  have HFL := rowL_len (tenG free zs cs) zs.length
  generalize rowL (tenG free zs cs) zs.length = F at *
  clear HV HOK HT
  obtain ⟨i0, hi0, hz0, hz1, hz2⟩ := info_parts infoA
  generalize zs.length = len at *
  generalize cs.length = len2 at *
  have hb16 : i0.bytes * len ≤ 281474976710656 := by rw [hz2]; omega
  go_enter Tryd.func8, Tryd.ntmps8
  go_wp2_with fail
  refine (c1 _ HA.out).mono ?_
  rintro e w1 ⟨v, rfl, hP, hb1⟩
  have hB1 := HA.out.trans (hb1.mono (by simp))
  have hsl : w1.cell? ⟨w.heap.size, 1, none⟩ = some (.slice a len cap) := (hb1.cell (p := ⟨w.heap.size, 1, none⟩) (by simp)).trans (by simp [go_sem])
  have z1 : w.heap.size < w1.heap.size := by have := hb1.size; simp at this; omega
  have HB1 := Lib.hid hB1
  have HP := Lib.hid hP
  obtain ⟨at_, ct, rfl⟩ := hP.form
  rw [HFL] at HP
  clear hb1 c1 hB1 hP
  simp only [HFL]
  go_wp2_with (at_make; (refine wpList_make_own _ rfl _ _ 28 rfl w1.heap.size 32 i0 (.int .i64 0) 1 Tryd.underlying28 hi0 hz0 hz1 _ _ _ len rfl rfl rfl hb16 (by unfold maxLen; omega) (by simp) ?_); intro w2 hown1 hgrow1; have hB2 := Lib.hid (HB1.out.trans (((Below.refl _ _).grown hgrow1 (Nat.le_refl _) (fun j hj => by cases hj)).mono (Nat.le_of_lt z1))); have hsl2 : w2.cell? ⟨w.heap.size, 1, none⟩ = some (.slice a len cap) := hgrow1.cell hsl (by simp))
  have HG12 := Lib.hid (show Below w1.heap.size w1 w2 from (Below.refl _ _).grown hgrow1 (Nat.le_refl _) (fun j hj => by cases hj))
  go_loopw [10, 29] (fun v i wr => ∃ k : Nat, k ≤ len ∧ i = .int .i64 k ∧ wr.ownsRow w1.heap.size 32 1 v k (numv (strL free zs cs k)) ∧ w1.heap.size ≤ wr.heap.size ∧ Below w.heap.size w wr ∧ Below w1.heap.size w1 wr) (fun _ i _ => len - (intOf i).toNat)
  case atStart => exact ⟨0, Nat.zero_le _, rfl, by simpa [strL, numv] using hown1, hgrow1.size, hB2.out, HG12.out⟩
  case round =>
    obtain ⟨k, hk, rfl, hrow, hw1, hB, hg⟩ := hrel
    have hsz := hB.size
    by_cases hlt : k < len
    · obtain ⟨b, off, rfl, hb, e0, e1, e2, e3⟩ := HC.out k hlt
      obtain ⟨b2, off2, rfl, hb2, u0, u1⟩ := HP.out.get k (by rw [HFL]; exact hlt)
      rw [HG.out k hlt] at u0 u1
      have HTb := Lib.hid (show TabAt wr from HTB.out.at hB hz0w)
      have HT := Lib.hid (show strL free zs cs (k + 1) = strL free zs cs k ++ [alwV (el zs k).str (tenG free zs cs (k + 1))] from rfl)
      have cF := fun W hT => allows_any (el zs k).str (tenG free zs cs (k + 1)).lo (tenG free zs cs (k + 1)).hi W hT
      generalize hz : tenG free zs cs (k + 1) = z at *
      obtain ⟨y0, y1⟩ := z
      generalize alwV (el zs k).str ⟨y0, y1⟩ = g0 at *
      generalize el zs k = x at *
      obtain ⟨x0, x1, x2, x3⟩ := x
      dsimp only at *
      have m0 := (hB.cell (p := ⟨b, off + k * 4, none⟩) hb).trans e0
      have m1 := (hB.cell (p := ⟨b, off + k * 4 + 1, none⟩) hb).trans e1
      have m2 := (hB.cell (p := ⟨b, off + k * 4 + 2, none⟩) hb).trans e2
      have m3 := (hB.cell (p := ⟨b, off + k * 4 + 3, none⟩) hb).trans e3
      have n0 := (hg.cell (p := ⟨b2, off2 + k * 2, none⟩) hb2).trans u0
      have n1 := (hg.cell (p := ⟨b2, off2 + k * 2 + 1, none⟩) hb2).trans u1
      clear e0 e1 e2 e3 u0 u1 hz
      have q3 : b2 < wr.heap.size := by omega
      have HRow := Lib.hid hrow
      have HBr := Lib.hid hB
      have HGr := Lib.hid hg
      generalize hnl : numv (strL free zs cs k) = nl at HRow
      have HNL := Lib.hid hnl
      clear hrow hB hnl hg
      go_wp2_with fail
      obtain ⟨W0, hW0⟩ : ∃ W0, W0 = wr.alloc (.cells #[.int .i64 x0, .int .i64 x1, .int .i64 x2, .int .i64 x3] 56) := ⟨_, rfl⟩
      rw [← hW0]
      have t3 : W0.cell? ⟨wr.heap.size, 3, none⟩ = some (.int .i64 x3) := by rw [hW0]; simp [go_sem]
      have t4 : W0.cell? ⟨b2, off2 + k * 2, none⟩ = some (.int .i64 y0) := by rw [hW0]; simp [go_sem, *]
      have t5 : W0.cell? ⟨b2, off2 + k * 2 + 1, none⟩ = some (.int .i64 y1) := by rw [hW0]; simp [go_sem, *]
      have zW : W0.heap.size = wr.heap.size + 1 := by rw [hW0]; simp
      have HRw := Lib.hid (show W0.ownsRow w1.heap.size 32 1 u10 k nl by rw [hW0]; exact HRow.out.alloc _)
      have hBa : Below wr.heap.size wr W0 := by rw [hW0]; exact (Below.refl _ _).alloc (Nat.le_refl _) _
      have HBw := Lib.hid (show Below w.heap.size w W0 from HBr.out.trans (hBa.mono hsz))
      have HGw := Lib.hid (show Below w1.heap.size w1 W0 from HGr.out.trans (hBa.mono hw1))
      have HTw := Lib.hid (show TabAt W0 from HTb.out.at hBa (by omega))
      have NO := Lib.hid (fun j (hj : u10.ownBlock = some j) => HRow.out.lt j hj)
      clear hW0 hBa m0 m1 m2 m3 n0 n1 HRow HBr HGr HTb
      refine wp_region_held_drew (S := fun w' => w'.cell? ⟨wr.heap.size, 3, none⟩ = some (.int .i64 x3) ∧ w'.cell? ⟨b2, off2 + k * 2, none⟩ = some (.int .i64 y0) ∧ w'.cell? ⟨b2, off2 + k * 2 + 1, none⟩ = some (.int .i64 y1)) (by kernel_rfl) ⟨by simpa [go_sem] using t3, by simpa [go_sem] using t4, by simpa [go_sem] using t5⟩ (fun hHeld => ?_)
      refine wpAnyH_take (i := 0) (oi := _) (v := u10) rfl (by kernel_rfl) (by kernel_rfl) (by kernel_rfl) (fun _ _ _ h => h) (Or.inl ⟨by rfl, fun w' hSw => ?_⟩) hHeld ?_
      · obtain ⟨t0, t1, t2⟩ := hSw
        go_simp
        try simp [*]
        try (intro hh; exfalso; omega)
        try omega
      try simp only [Act.put, List.setIfInBounds_toArray, List.set_cons_zero, List.set_cons_succ, List.getElem_toArray, List.getElem_cons_succ, List.getElem_cons_zero]
      refine wpAnyH_take (i := 1) (oi := _) (v := Value.pointer (some ⟨wr.heap.size, 3, none⟩)) rfl (by kernel_rfl) (by kernel_rfl) (by kernel_rfl) (fun _ _ _ h => h) (Or.inl ⟨by rfl, fun w' hSw => ?_⟩) hHeld ?_
      · obtain ⟨t0, t1, t2⟩ := hSw
        go_simp
        try simp [*]
        try (intro hh; exfalso; omega)
        try omega
      try simp only [Act.put, List.setIfInBounds_toArray, List.set_cons_zero, List.set_cons_succ, List.getElem_toArray, List.getElem_cons_succ, List.getElem_cons_zero]
      refine wpAnyH_take (i := 2) (oi := _) (v := Value.int .i64 x3) rfl (by kernel_rfl) (by kernel_rfl) (by kernel_rfl) (fun _ _ _ h => h) (Or.inl ⟨by rfl, fun w' hSw => ?_⟩) hHeld ?_
      · obtain ⟨t0, t1, t2⟩ := hSw
        go_simp
        try simp [*]
        try (intro hh; exfalso; omega)
        try omega
      try simp only [Act.put, List.setIfInBounds_toArray, List.set_cons_zero, List.set_cons_succ, List.getElem_toArray, List.getElem_cons_succ, List.getElem_cons_zero]
      refine wpAnyH_take (i := 3) (oi := _) (v := Value.slice (some ⟨b2, off2, none⟩) len ct) rfl (by kernel_rfl) (by kernel_rfl) (by kernel_rfl) (fun _ _ _ h => h) (Or.inl ⟨by rfl, fun w' hSw => ?_⟩) hHeld ?_
      · obtain ⟨t0, t1, t2⟩ := hSw
        go_simp
        try simp [*]
        try (intro hh; exfalso; omega)
        try omega
      try simp only [Act.put, List.setIfInBounds_toArray, List.set_cons_zero, List.set_cons_succ, List.getElem_toArray, List.getElem_cons_succ, List.getElem_cons_zero]
      refine wpAnyH_take (i := 4) (oi := _) (v := Value.int .i64 k) rfl (by kernel_rfl) (by kernel_rfl) (by kernel_rfl) (fun _ _ _ h => h) (Or.inl ⟨by rfl, fun w' hSw => ?_⟩) hHeld ?_
      · obtain ⟨t0, t1, t2⟩ := hSw
        go_simp
        try simp [*]
        try (intro hh; exfalso; omega)
        try omega
      try simp only [Act.put, List.setIfInBounds_toArray, List.set_cons_zero, List.set_cons_succ, List.getElem_toArray, List.getElem_cons_succ, List.getElem_cons_zero]
      refine wpAnyH_take (i := 5) (oi := _) (v := Value.pointer (some ⟨b2, off2 + k * 2, none⟩)) rfl (by kernel_rfl) (by kernel_rfl) (by kernel_rfl) (fun _ _ _ h => h) (Or.inl ⟨by rfl, fun w' hSw => ?_⟩) hHeld ?_
      · obtain ⟨t0, t1, t2⟩ := hSw
        go_simp
        try simp [*]
        try (intro hh; exfalso; omega)
        try omega
      try simp only [Act.put, List.setIfInBounds_toArray, List.set_cons_zero, List.set_cons_succ, List.getElem_toArray, List.getElem_cons_succ, List.getElem_cons_zero]
      refine wpAnyH_take (i := 6) (oi := _) (v := Value.agg #[Value.int .i64 y0, Value.int .i64 y1]) rfl (by kernel_rfl) (by kernel_rfl) (by kernel_rfl) (fun _ _ _ h => h) (Or.inl ⟨by rfl, fun w' hSw => ?_⟩) hHeld ?_
      · obtain ⟨t0, t1, t2⟩ := hSw
        go_simp
        try simp [*]
        try (intro hh; exfalso; omega)
        try omega
      try simp only [Act.put, List.setIfInBounds_toArray, List.set_cons_zero, List.set_cons_succ, List.getElem_toArray, List.getElem_cons_succ, List.getElem_cons_zero]
      refine wpAnyH_ready (rs := [7]) (by kernel_rfl) (by simp) ?_
      refine AllReadyH.cons (o := _) rfl (fun K hK => ?_) AllReadyH.nil
      go_simp
      go_at_call 30
      refine Calls.mono (cF _ (HTw.out.at (n := W0.heap.size) ((Below.refl _ _).drew) (by omega))) ?_
      rintro e wa ⟨rfl, hba⟩
      have hsa := hba.size
      simp only [World.size_drew] at hsa
      have hba0 : Below W0.heap.size W0 wa := (Below.refl _ _).drew.trans hba
      have ea0 := (hba0.cell (p := ⟨wr.heap.size, 3, none⟩) (by show wr.heap.size < _; omega)).trans t3
      have ea1 := (hba0.cell (p := ⟨b2, off2 + k * 2, none⟩) (by show b2 < _; omega)).trans t4
      have ea2 := (hba0.cell (p := ⟨b2, off2 + k * 2 + 1, none⟩) (by show b2 < _; omega)).trans t5
      have HRa := Lib.hid (own_below HRw.out hba0)
      have HBa := Lib.hid (HBw.out.trans (hba0.mono HBw.out.size))
      have HGa := Lib.hid (HGw.out.trans (hba0.mono HGw.out.size))
      have zb1 : wr.heap.size < wa.heap.size := by omega
      have zb2 : b2 < wa.heap.size := by omega
      clear hba hba0 t3 t4 t5
      clear hHeld
      refine hK.out _ _ ⟨ea0, ea1, ea2⟩ (fun hHeld => ?_)
      clear hK K
      try simp only [Act.put, List.setIfInBounds_toArray, List.set_cons_zero, List.set_cons_succ, List.getElem_toArray, List.getElem_cons_succ, List.getElem_cons_zero]
      refine wpAnyH_ready (rs := [8]) (by kernel_rfl) (by simp) ?_
      refine AllReadyH.cons (o := _) rfl (fun K hK => ?_) AllReadyH.nil
      go_simp
      clear hHeld
      refine hK.out _ _ ⟨by simp [go_sem, *], by simp [go_sem, *], by simp [go_sem, *]⟩ (fun hHeld => ?_)
      clear hK K
      try simp only [Act.put, List.setIfInBounds_toArray, List.set_cons_zero, List.set_cons_succ, List.getElem_toArray, List.getElem_cons_succ, List.getElem_cons_zero]
      refine wpAnyH_ready (rs := [9]) (by kernel_rfl) (by simp) ?_
      refine AllReadyH.cons (o := _) rfl (fun K hK => ?_) AllReadyH.nil
      refine step_append_lies _ rfl (.tmp 34) (.tmp 42) 28 rfl w1.heap.size 32 i0 (.int .i64 0) 1 8 Tryd.underlying28 hi0 hz0 hz1 hz2 rfl (by decide) u10 k _ (by simp [Act.eval, Act.put]) (HRa.out.alloc _) ⟨wa.heap.size, 0, none⟩ 1 1 [.int .i64 g0] (by simp [Act.eval, Act.put]) rfl (one_newA _ _) (by simp [Value.oneCell']) (by decide) (by unfold maxLen; omega) (by omega) (by simp; omega) _ rfl ?_
      intro g cap3 w3 hown hgrow hat hgl
      have hx1 : w3.heap[wr.heap.size]? = wa.heap[wr.heap.size]? := (hgrow.block wr.heap.size (by first | omega | (simp; omega)) (fun e => by have := (NO.out wr.heap.size e.symm).2; omega)).trans (Below.heap_alloc _ _ _ (by first | omega | (simp; omega)))
      have hx2 : w3.heap[b2]? = wa.heap[b2]? := (hgrow.block b2 (by first | omega | (simp; omega)) (fun e => by have := (NO.out b2 e.symm).1; omega)).trans (Below.heap_alloc _ _ _ (by first | omega | (simp; omega)))
      have ew0 := (show w3.cell? ⟨wr.heap.size, 3, none⟩ = wa.cell? ⟨wr.heap.size, 3, none⟩ by simp only [World.cell?, hx1]).trans ea0
      have ew1 := (show w3.cell? ⟨b2, off2 + k * 2, none⟩ = wa.cell? ⟨b2, off2 + k * 2, none⟩ by simp only [World.cell?, hx2]).trans ea1
      have ew2 := (show w3.cell? ⟨b2, off2 + k * 2 + 1, none⟩ = wa.cell? ⟨b2, off2 + k * 2 + 1, none⟩ by simp only [World.cell?, hx2]).trans ea2
      have HO3 := Lib.hid hown
      have hz3 : wa.heap.size ≤ w3.heap.size := by have := hgrow.size; simp at this; omega
      have HB3 := Lib.hid ((HBa.out.alloc (by omega) _).grown hgrow (by simp; omega) (fun j hj => by have := (NO.out j hj).1; omega))
      have HG3 := Lib.hid ((HGa.out.alloc (by omega) _).grown hgrow (by simp; omega) (fun j hj => by have := (NO.out j hj).1; omega))
      clear hown hgrow
      clear hHeld
      refine hK.out _ _ ⟨ew0, ew1, ew2⟩ (fun hHeld => ?_)
      clear hK K
      try simp only [Act.put, List.setIfInBounds_toArray, List.set_cons_zero, List.set_cons_succ, List.getElem_toArray, List.getElem_cons_succ, List.getElem_cons_zero]
      refine wpAnyH_take (i := 10) (oi := _) (v := Value.slice (some ⟨g, 0, none⟩) (k + 1) cap3) rfl (by kernel_rfl) (by kernel_rfl) (by kernel_rfl) (fun _ _ _ h => h) (Or.inl ⟨by rfl, fun w' hSw => ?_⟩) hHeld ?_
      · obtain ⟨t0, t1, t2⟩ := hSw
        go_simp
        try simp [*]
        try (intro hh; exfalso; omega)
        try omega
      try simp only [Act.put, List.setIfInBounds_toArray, List.set_cons_zero, List.set_cons_succ, List.getElem_toArray, List.getElem_cons_succ, List.getElem_cons_zero]
      refine wpAnyH_done (by kernel_rfl) ?_ _
      clear hHeld
      go_wp2_with fail
      go_roundw
      case rel => exact ⟨k + 1, by omega, by go_num, by rw [HT.out, numv_snoc, HNL.out]; exact HO3.out, by omega, HB3.out, HG3.out⟩
      case measure => simp [intOf]; omega
    · obtain rfl : k = len := by omega
      have HNf := Lib.hid (nums_of_ownsA (xs := strL free zs cs k) (by rw [strL_len]; exact hrow))
      have HBf := Lib.hid hB
      clear hrow hB hg
      go_wp2_with fail
      go_ret2
      exact ⟨_, rfl, HNf.out, HBf.out⟩
end Go.Proofs.YtmodplodnimmkaaDoor
namespace Go.Proofs.YtmodplodnimmkaaDoor
open Go.RowKit Go.Shelf
set_option linter.unusedSimpArgs false
/-- whether the anchor holds -/
def holA (zs : List El) (an fr : Int) (cs : List Pr) (free : Bool) : Int :=
  if an - lifTo zs zs.length ≤ 0 then 0 else alwV (fr * (an - lifTo zs zs.length)) ⟨1000 * hLo free zs cs zs.length, 1000 * sHi zs cs zs.length⟩
def holV (d : Int) (zs : List El) (an fr : Int) (cs : List Pr) (free : Bool) : Int := if staE d zs an fr cs = 0 then holA zs an fr cs free else 0
theorem moo_ends {d : Int} {zs : List El} {an fr : Int} (h : mooE d zs an fr = 0) : (0 ≤ an ∧ an ≤ 1048576) ∧ (0 ≤ fr ∧ fr ≤ 1000) := by
  have := (mooE_ok h).2.2.2
  simp only [mooOk, btw, Bool.and_eq_true, decide_eq_true_eq] at this
  omega
theorem heap_keep {W W' : World} {B : Nat} {a b c d : Int} (hb : Below W.heap.size (setS W B a b c d) W') {k : Nat} (hk : k < W.heap.size) (hne : k ≠ B) : W'.heap[k]? = W.heap[k]? :=
  (hb.block k hk).trans (setS_other W B a b c d hne)
set_option maxRecDepth 100000 in
set_option maxHeartbeats 8000000 in
theorem holds_any (d an fr : Int) (sv cv : Value) (zs : List El) (cs : List Pr) (free : Bool) (w : World) (hTb : TabAt w) (hI : Els w.heap.size w sv zs) (hC : Prs w.heap.size w cv cs) :
    Calls Tryd.prog 10 #[.agg #[.int .i64 d, sv, .int .i64 an, .int .i64 fr], cv, .bool free] w fun e w' => e = .returned (.tuple #[.int .i64 (holV d zs an fr cs free), .int .i64 (staE d zs an fr cs)]) ∧ Below w.heap.size w w' := by
  have c1 := fun w' (hb : Below w.heap.size w w') => checkStanding_any d an fr sv cv zs cs w' (hI.at hb) (hC.at hb)
  have HV := Lib.hid (show holV d zs an fr cs free = if staE d zs an fr cs = 0 then holA zs an fr cs free else 0 from rfl)
  have HOK := Lib.hid (fun (h : staE d zs an fr cs = 0) => staE_ok h)
  have HTB := Lib.hid hTb
  have hz0w := hTb.lt
  clear hTb
  obtain ⟨a, cap, rfl, -, hcell⟩ := hI
  obtain ⟨c, cap2, rfl, -, hcur⟩ := hC
  have HC := Lib.hid hcell
  have HU := Lib.hid hcur
  clear hcell hcur
  generalize holV d zs an fr cs free = V at *
  generalize staE d zs an fr cs = E at *
  have HA := Lib.hid (show Below w.heap.size w (w.alloc (.cells #[.int .i64 d, .slice a zs.length cap, .int .i64 an, .int .i64 fr] 24)) from (Below.refl _ _).alloc (Nat.le_refl _) _)
  by_cases hE : E = 0
  rotate_left
  · have hV : V = 0 := by rw [HV.out, if_neg hE]
    subst hV
    have hb : (E != 0) = true := by simpa using hE
    clear HV HOK HC HU hE HTB
    generalize zs.length = len at *
    generalize cs.length = len2 at *
    go_enter Tryd.func10, Tryd.ntmps10
    go_wp2_with fail
    refine (c1 _ HA.out).mono ?_
    rintro e w1 ⟨rfl, hb1⟩
    have hB1 := Lib.hid (HA.out.trans (hb1.mono (by simp)))
    clear hb1 c1
    go_wp2_with fail
    go_ret2
    exact ⟨rfl, hB1.out⟩
  subst hE
  obtain ⟨hrig, -, hmo, -⟩ := HOK.out rfl
  have hV : V = holA zs an fr cs free := by rw [HV.out, if_pos rfl]
  subst hV
  have HVA := Lib.hid (show holA zs an fr cs free = if an - lifTo zs zs.length ≤ 0 then 0 else alwV (fr * (an - lifTo zs zs.length)) ⟨1000 * hLo free zs cs zs.length, 1000 * sHi zs cs zs.length⟩ from rfl)
  have hl := hrig.most
  have hcl := hrig.same
  obtain ⟨⟨an0, an1⟩, fr0, fr1⟩ := moo_ends hmo
  have pb := pull_bd hrig free (k := zs.length) (Nat.le_refl _)
  have lb := lif_bd hrig (k := zs.length) (Nat.le_refl _)
  have CA := Lib.hid (fun B k (hk : k < zs.length) W (hS : RigAt W B free zs cs k) => rig_add hrig free B hk W hS)
  have CP := Lib.hid (fun B W (hS : RigAt W B free zs cs zs.length) => find_pull hrig free B (Nat.le_refl _) W hS)
  generalize holA zs an fr cs free = V at *
  clear HV HOK hrig hmo
  generalize cs.length = len2 at *
  generalize zs.length = len at *
  subst hcl
  go_enter Tryd.func10, Tryd.ntmps10
  go_wp2_with fail
  refine (c1 _ HA.out).mono ?_
  rintro e w1 ⟨rfl, hb1⟩
  have hB1 := HA.out.trans (hb1.mono (by simp))
  have j0 : w1.cell? ⟨w.heap.size, 0, none⟩ = some (.int .i64 d) := (hb1.cell (p := ⟨w.heap.size, 0, none⟩) (by simp)).trans (by simp [go_sem])
  have hsl : w1.cell? ⟨w.heap.size, 1, none⟩ = some (.slice a len2 cap) := (hb1.cell (p := ⟨w.heap.size, 1, none⟩) (by simp)).trans (by simp [go_sem])
  have j2 : w1.cell? ⟨w.heap.size, 2, none⟩ = some (.int .i64 an) := (hb1.cell (p := ⟨w.heap.size, 2, none⟩) (by simp)).trans (by simp [go_sem])
  have j3 : w1.cell? ⟨w.heap.size, 3, none⟩ = some (.int .i64 fr) := (hb1.cell (p := ⟨w.heap.size, 3, none⟩) (by simp)).trans (by simp [go_sem])
  have z1 : w.heap.size < w1.heap.size := by have := hb1.size; simp at this; omega
  have y1 : ¬ w.heap.size = w1.heap.size := by omega
  have HB1 := Lib.hid hB1
  clear hb1 c1 hB1
  obtain ⟨C, hC⟩ : ∃ C, C = w1.alloc (.cells #[.bool free, .int .i64 0, .int .i64 0, .int .i64 0, .int .i64 0] 68) := ⟨_, rfl⟩
  have hR0 : RigAt C w1.heap.size free zs cs 0 := by rw [hC]; constructor <;> simp [go_sem, lifTo, sLo, sHi, wid]
  have hzC : C.heap.size = w1.heap.size + 1 := by rw [hC]; simp
  have hC1 : Below w1.heap.size w1 C := by rw [hC]; exact (Below.refl _ _).alloc (Nat.le_refl _) _
  have HR0 := Lib.hid hR0
  have HC1 := Lib.hid hC1
  have i2 : C.cell? ⟨w.heap.size, 2, none⟩ = some (.int .i64 an) := (hC1.cell (p := ⟨w.heap.size, 2, none⟩) z1).trans j2
  have i3 : C.cell? ⟨w.heap.size, 3, none⟩ = some (.int .i64 fr) := (hC1.cell (p := ⟨w.heap.size, 3, none⟩) z1).trans j3
  have J2 := Lib.hid j2
  have J3 := Lib.hid j3
  clear hR0 hC1 i2 i3
  go_wp2_with fail
  rw [← hC]
  clear hC j0 hsl j2 j3
  go_loopw [25] (fun i wr => ∃ k : Nat, k ≤ len2 ∧ i = .int .i64 k ∧ RigAt wr w1.heap.size free zs cs k ∧ Below w1.heap.size w1 wr) (fun i _ => len2 - (intOf i).toNat)
  case atStart => exact ⟨0, Nat.zero_le _, rfl, HR0.out, HC1.out⟩
  case round =>
    obtain ⟨k, hk, rfl, hR, hg⟩ := hrel
    have hsz := hg.size
    have hlt0 := hR.lt
    by_cases hlt : k < len2
    · obtain ⟨b, off, rfl, hb, e0, e1, e2, e3⟩ := HC.out k hlt
      obtain ⟨b2, off2, rfl, hb2, u0, u1⟩ := HU.out k hlt
      have hB : Below w.heap.size w wr := HB1.out.trans (hg.mono (by omega))
      have ca := fun W hS => CA.out w1.heap.size k hlt W hS
      generalize hx : el zs k = x at *
      generalize hy : pr cs k = y at *
      obtain ⟨x0, x1, x2, x3⟩ := x
      obtain ⟨y0, y1'⟩ := y
      unfold elv prv at ca
      dsimp only at *
      have m0 := (hB.cell (p := ⟨b, off + k * 4, none⟩) hb).trans e0
      have m1 := (hB.cell (p := ⟨b, off + k * 4 + 1, none⟩) hb).trans e1
      have m2 := (hB.cell (p := ⟨b, off + k * 4 + 2, none⟩) hb).trans e2
      have m3 := (hB.cell (p := ⟨b, off + k * 4 + 3, none⟩) hb).trans e3
      have n0 := (hB.cell (p := ⟨b2, off2 + k * 2, none⟩) hb2).trans u0
      have n1 := (hB.cell (p := ⟨b2, off2 + k * 2 + 1, none⟩) hb2).trans u1
      clear e0 e1 e2 e3 u0 u1 hx hy
      have q1 : ¬ wr.heap.size = b2 := by omega
      have q2 : ¬ b2 = wr.heap.size := by omega
      have q3 : b2 < wr.heap.size := by omega
      have HR := Lib.hid hR
      have HG := Lib.hid hg
      clear hR hg hB
      go_wp2_with fail
      obtain ⟨W0, hW0⟩ : ∃ W0, W0 = wr.alloc (.cells #[.int .i64 x0, .int .i64 x1, .int .i64 x2, .int .i64 x3] 56) := ⟨_, rfl⟩
      rw [← hW0]
      have t0 : W0.cell? ⟨wr.heap.size, 0, none⟩ = some (.int .i64 x0) := by rw [hW0]; simp [go_sem]
      have t1 : W0.cell? ⟨wr.heap.size, 1, none⟩ = some (.int .i64 x1) := by rw [hW0]; simp [go_sem]
      have t2 : W0.cell? ⟨wr.heap.size, 2, none⟩ = some (.int .i64 x2) := by rw [hW0]; simp [go_sem]
      have t3 : W0.cell? ⟨wr.heap.size, 3, none⟩ = some (.int .i64 x3) := by rw [hW0]; simp [go_sem]
      have t4 : W0.cell? ⟨b2, off2 + k * 2, none⟩ = some (.int .i64 y0) := by rw [hW0]; simp [go_sem, *]
      have t5 : W0.cell? ⟨b2, off2 + k * 2 + 1, none⟩ = some (.int .i64 y1') := by rw [hW0]; simp [go_sem, *]
      have zW : W0.heap.size = wr.heap.size + 1 := by rw [hW0]; simp
      have hBa : Below wr.heap.size wr W0 := by rw [hW0]; exact (Below.refl _ _).alloc (Nat.le_refl _) _
      have HRw := Lib.hid (HR.out.at hBa)
      have HGw := Lib.hid (HG.out.trans (hBa.mono hsz))
      clear hW0 hBa m0 m1 m2 m3 n0 n1 HR HG
      refine wp_region_held_drew (S := fun w' => w'.cell? ⟨wr.heap.size, 0, none⟩ = some (.int .i64 x0) ∧ w'.cell? ⟨wr.heap.size, 1, none⟩ = some (.int .i64 x1) ∧ w'.cell? ⟨wr.heap.size, 2, none⟩ = some (.int .i64 x2) ∧ w'.cell? ⟨wr.heap.size, 3, none⟩ = some (.int .i64 x3) ∧ w'.cell? ⟨b2, off2 + k * 2, none⟩ = some (.int .i64 y0) ∧ w'.cell? ⟨b2, off2 + k * 2 + 1, none⟩ = some (.int .i64 y1')) (by kernel_rfl) ⟨by simpa [go_sem] using t0, by simpa [go_sem] using t1, by simpa [go_sem] using t2, by simpa [go_sem] using t3, by simpa [go_sem] using t4, by simpa [go_sem] using t5⟩ (fun hHeld => ?_)
      refine wpAnyH_take (i := 0) (oi := _) (v := Value.agg #[Value.int .i64 x0, Value.int .i64 x1, Value.int .i64 x2, Value.int .i64 x3]) rfl (by kernel_rfl) (by kernel_rfl) (by kernel_rfl) (fun _ _ _ h => h) (Or.inl ⟨by rfl, fun w' hSw => ?_⟩) hHeld ?_
      · obtain ⟨t0, t1, t2, t3, t4, t5⟩ := hSw
        go_simp
        try simp [*]
        try (intro hh; exfalso; omega)
        try omega
      try simp only [Act.put, List.setIfInBounds_toArray, List.set_cons_zero, List.set_cons_succ, List.getElem_toArray, List.getElem_cons_succ, List.getElem_cons_zero]
      refine wpAnyH_take (i := 1) (oi := _) (v := Value.slice (some ⟨b2, off2, none⟩) len2 cap2) rfl (by kernel_rfl) (by kernel_rfl) (by kernel_rfl) (fun _ _ _ h => h) (Or.inl ⟨by rfl, fun w' hSw => ?_⟩) hHeld ?_
      · obtain ⟨t0, t1, t2, t3, t4, t5⟩ := hSw
        go_simp
        try simp [*]
        try (intro hh; exfalso; omega)
        try omega
      try simp only [Act.put, List.setIfInBounds_toArray, List.set_cons_zero, List.set_cons_succ, List.getElem_toArray, List.getElem_cons_succ, List.getElem_cons_zero]
      refine wpAnyH_take (i := 2) (oi := _) (v := Value.int .i64 k) rfl (by kernel_rfl) (by kernel_rfl) (by kernel_rfl) (fun _ _ _ h => h) (Or.inl ⟨by rfl, fun w' hSw => ?_⟩) hHeld ?_
      · obtain ⟨t0, t1, t2, t3, t4, t5⟩ := hSw
        go_simp
        try simp [*]
        try (intro hh; exfalso; omega)
        try omega
      try simp only [Act.put, List.setIfInBounds_toArray, List.set_cons_zero, List.set_cons_succ, List.getElem_toArray, List.getElem_cons_succ, List.getElem_cons_zero]
      refine wpAnyH_take (i := 3) (oi := _) (v := Value.pointer (some ⟨b2, off2 + k * 2, none⟩)) rfl (by kernel_rfl) (by kernel_rfl) (by kernel_rfl) (fun _ _ _ h => h) (Or.inl ⟨by rfl, fun w' hSw => ?_⟩) hHeld ?_
      · obtain ⟨t0, t1, t2, t3, t4, t5⟩ := hSw
        go_simp
        try simp [*]
        try (intro hh; exfalso; omega)
        try omega
      try simp only [Act.put, List.setIfInBounds_toArray, List.set_cons_zero, List.set_cons_succ, List.getElem_toArray, List.getElem_cons_succ, List.getElem_cons_zero]
      refine wpAnyH_take (i := 4) (oi := _) (v := Value.agg #[Value.int .i64 y0, Value.int .i64 y1']) rfl (by kernel_rfl) (by kernel_rfl) (by kernel_rfl) (fun _ _ _ h => h) (Or.inl ⟨by rfl, fun w' hSw => ?_⟩) hHeld ?_
      · obtain ⟨t0, t1, t2, t3, t4, t5⟩ := hSw
        go_simp
        try simp [*]
        try (intro hh; exfalso; omega)
        try omega
      try simp only [Act.put, List.setIfInBounds_toArray, List.set_cons_zero, List.set_cons_succ, List.getElem_toArray, List.getElem_cons_succ, List.getElem_cons_zero]
      refine wpAnyH_ready (rs := [5]) (by kernel_rfl) (by simp) ?_
      refine AllReadyH.cons (o := _) rfl (fun K hK => ?_) AllReadyH.nil
      go_simp
      go_at_call 33
      refine Calls.mono (ca _ (HRw.out.at ((Below.refl _ _).drew))) ?_
      rintro e wn ⟨rfl, hRn, hbn⟩
      have hsn := hbn.size
      rw [setS_size] at hsn
      simp only [World.size_drew] at hsn
      have ea0 : wn.cell? ⟨wr.heap.size, 0, none⟩ = _ := (show wn.cell? ⟨wr.heap.size, 0, none⟩ = W0.cell? ⟨wr.heap.size, 0, none⟩ by simp only [World.cell?, heap_keep hbn (k := wr.heap.size) (by simp only [World.size_drew]; omega) (by omega)]; rfl).trans t0
      have ea1 : wn.cell? ⟨wr.heap.size, 1, none⟩ = _ := (show wn.cell? ⟨wr.heap.size, 1, none⟩ = W0.cell? ⟨wr.heap.size, 1, none⟩ by simp only [World.cell?, heap_keep hbn (k := wr.heap.size) (by simp only [World.size_drew]; omega) (by omega)]; rfl).trans t1
      have ea2 : wn.cell? ⟨wr.heap.size, 2, none⟩ = _ := (show wn.cell? ⟨wr.heap.size, 2, none⟩ = W0.cell? ⟨wr.heap.size, 2, none⟩ by simp only [World.cell?, heap_keep hbn (k := wr.heap.size) (by simp only [World.size_drew]; omega) (by omega)]; rfl).trans t2
      have ea3 : wn.cell? ⟨wr.heap.size, 3, none⟩ = _ := (show wn.cell? ⟨wr.heap.size, 3, none⟩ = W0.cell? ⟨wr.heap.size, 3, none⟩ by simp only [World.cell?, heap_keep hbn (k := wr.heap.size) (by simp only [World.size_drew]; omega) (by omega)]; rfl).trans t3
      have ea4 : wn.cell? ⟨b2, off2 + k * 2, none⟩ = _ := (show wn.cell? ⟨b2, off2 + k * 2, none⟩ = W0.cell? ⟨b2, off2 + k * 2, none⟩ by simp only [World.cell?, heap_keep hbn (k := b2) (by simp only [World.size_drew]; omega) (by omega)]; rfl).trans t4
      have ea5 : wn.cell? ⟨b2, off2 + k * 2 + 1, none⟩ = _ := (show wn.cell? ⟨b2, off2 + k * 2 + 1, none⟩ = W0.cell? ⟨b2, off2 + k * 2 + 1, none⟩ by simp only [World.cell?, heap_keep hbn (k := b2) (by simp only [World.size_drew]; omega) (by omega)]; rfl).trans t5
      have HRn := Lib.hid hRn
      have HGn := Lib.hid (setS_step (HGw.out.drew) (Nat.le_refl _) (by simp only [World.size_drew]; omega) hbn)
      clear hRn hbn
      clear hHeld
      refine hK.out _ _ ⟨ea0, ea1, ea2, ea3, ea4, ea5⟩ (fun hHeld => ?_)
      clear hK K
      try simp only [Act.put, List.setIfInBounds_toArray, List.set_cons_zero, List.set_cons_succ, List.getElem_toArray, List.getElem_cons_succ, List.getElem_cons_zero]
      refine wpAnyH_done (by kernel_rfl) ?_ _
      clear hHeld
      go_wp2_with fail
      go_roundw
      case rel => exact ⟨k + 1, by omega, by go_num, HRn.out, HGn.out⟩
      case measure => simp [intOf]; omega
    · obtain rfl : k = len2 := by omega
      have HR := Lib.hid hR
      have hB : Below w.heap.size w wr := HB1.out.trans (hg.mono (by omega))
      have HBr := Lib.hid hB
      obtain ⟨zl, s0, s1, s2, s3, s4, -, -, -, -⟩ := hR
      have j2 := (hg.cell (p := ⟨w.heap.size, 2, none⟩) z1).trans J2.out
      have j3 := (hg.cell (p := ⟨w.heap.size, 3, none⟩) z1).trans J3.out
      have HTr := Lib.hid (HTB.out.at hB hz0w)
      have cp := fun W hS => CP.out w1.heap.size W hS
      unfold prv pulG at cp
      dsimp only at cp
      generalize lifTo zs k = v at *
      generalize hLo free zs cs k = p at *
      generalize sHi zs cs k = q at *
      obtain ⟨we, hwe⟩ : ∃ we, we = an - v := ⟨_, rfl⟩
      have W1 : IntKind.i64.wrap (an - v) = we := by rw [hwe, IntKind.wrap_i64]; omega
      rw [← hwe] at HVA
      clear hB HC HU hg CP
      by_cases hw0 : we ≤ 0
      · have hv : V = 0 := by rw [HVA.out, if_pos hw0]
        subst hv
        clear HVA hwe cp
        go_wp2_with fail
        go_ret2
        exact ⟨rfl, HBr.out⟩
      have hwd : decide (we ≤ 0) = false := decide_eq_false hw0
      have hv : V = alwV (fr * we) ⟨1000 * p, 1000 * q⟩ := by rw [HVA.out, if_neg hw0]
      have bw : 0 ≤ fr * we ∧ fr * we ≤ 1000 * 50000000 := ⟨Int.mul_nonneg fr0 (by omega), Int.mul_le_mul fr1 (by omega) (by omega) (by decide)⟩
      obtain ⟨fw, hfw⟩ : ∃ fw, fw = fr * we := ⟨_, rfl⟩
      obtain ⟨p1, hp1⟩ : ∃ p1, p1 = 1000 * p := ⟨_, rfl⟩
      obtain ⟨q1, hq1⟩ : ∃ q1, q1 = 1000 * q := ⟨_, rfl⟩
      have W2 : IntKind.i64.wrap (fr * we) = fw := by rw [hfw, IntKind.wrap_i64]; omega
      have W3 : IntKind.i64.wrap (1000 * p) = p1 := by rw [hp1, IntKind.wrap_i64]; omega
      have W4 : IntKind.i64.wrap (1000 * q) = q1 := by rw [hq1, IntKind.wrap_i64]; omega
      have cA := fun W hT => allows_any fw p1 q1 W hT
      rw [← hfw, ← hp1, ← hq1] at hv
      rw [← hv] at cA
      clear HVA hwe hfw hp1 hq1 bw hv
      go_wp2_with fail
      refine (cp _ HR.out).mono ?_
      rintro e w3 ⟨rfl, hb3⟩
      have j3' := (hb3.cell (p := ⟨w.heap.size, 3, none⟩) (by show w.heap.size < _; omega)).trans j3
      have hz3 := hb3.size
      have z3 : w.heap.size < w3.heap.size := by omega
      have y3 : ¬ w.heap.size = w3.heap.size := by omega
      have HB3 := Lib.hid (HBr.out.trans (hb3.mono (by omega)))
      have HT3 := Lib.hid (HTr.out.at hb3 (by omega))
      clear hb3 s0 s1 s2 s3 s4 j2 j3
      go_wp2_with fail
      refine Calls.mono (cA _ ?_) ?_
      · exact HT3.out.at (n := w3.heap.size) (by repeat (first | exact Below.refl _ _ | refine Below.setCell ?_ (by first | omega | (simp; done) | (simp; omega)) _ | refine Below.alloc ?_ (by first | omega | (simp; done) | (simp; omega)) _)) (by omega)
      rintro e w4 ⟨rfl, hb4⟩
      have HB4 := Lib.hid (show Below w.heap.size w w4 from (HB3.out.alloc (by omega) _).trans (hb4.mono (by simp; omega)))
      clear hb4
      go_wp2_with fail
      go_ret2
      exact ⟨rfl, HB4.out⟩
end Go.Proofs.YtmodplodnimmkaaDoor
namespace Go.Proofs.YtmodplodnimmkaaDoor
open Go.RowKit Go.Shelf
set_option linter.unusedSimpArgs false
/-- a list of bytes in memory -/
def Bys (n₀ : Nat) (W : World) (sv : Value) (zs : List Int) : Prop :=
  (∃ a cap, sv = .slice a zs.length cap ∧ ∀ k, k < zs.length → ∃ b off, a = some ⟨b, off, none⟩ ∧ b < n₀ ∧ W.cell? ⟨b, off + k, none⟩ = some (.int .u8 (zs[k]?.getD 0))) ∧ ∀ k, k < zs.length → 0 ≤ zs[k]?.getD 0 ∧ zs[k]?.getD 0 ≤ 255
/-- a narrower current -/
def narP (cs : List Pr) (ps : List Int) (k : Nat) : Pr :=
  if 2 * k + 1 < ps.length then
    ⟨(pr cs k).lo + min (((pr cs k).hi - (pr cs k).lo) * ps[2 * k]?.getD 0 / 255) (((pr cs k).hi - (pr cs k).lo) * ps[2 * k + 1]?.getD 0 / 255),
      (pr cs k).lo + max (((pr cs k).hi - (pr cs k).lo) * ps[2 * k]?.getD 0 / 255) (((pr cs k).hi - (pr cs k).lo) * ps[2 * k + 1]?.getD 0 / 255)⟩
  else pr cs k
def narG (cs : List Pr) (ps : List Int) : Nat → Pr
  | 0 => ⟨0, 0⟩
  | k + 1 => narP cs ps k
def narL (cs : List Pr) (ps : List Int) : List Pr := rowL (narG cs ps) cs.length
theorem part_bd {w p : Int} (h0 : 0 ≤ w) (h1 : w ≤ 3000) (p0 : 0 ≤ p) (p1 : p ≤ 255) : 0 ≤ w * p ∧ w * p ≤ 765000 ∧ 0 ≤ w * p / 255 ∧ w * p / 255 ≤ w := by
  have a := Int.mul_nonneg h0 p0
  have b : w * p ≤ w * 255 := Int.mul_le_mul_of_nonneg_left p1 h0
  omega
theorem nar_nar {zs : List El} {cs : List Pr} (h : Rig zs cs) (ps : List Int) (hp : ∀ k, k < ps.length → 0 ≤ ps[k]?.getD 0 ∧ ps[k]?.getD 0 ≤ 255) : (narL cs ps).length = cs.length ∧ NarB (narL cs ps) cs := by
  refine ⟨by unfold narL; rw [rowL_len], fun k hk => ?_⟩
  have hx := (okC_iff _).1 (h.cur k (by rw [← h.same]; exact hk))
  unfold narL
  rw [rowL_get _ _ _ hk]
  simp only [narG, narP]
  split
  · rename_i hl
    have a := part_bd (w := (pr cs k).hi - (pr cs k).lo) (by omega) (by omega) (hp (2 * k) (by omega)).1 (hp (2 * k) (by omega)).2
    have b := part_bd (w := (pr cs k).hi - (pr cs k).lo) (by omega) (by omega) (hp (2 * k + 1) hl).1 (hp (2 * k + 1) hl).2
    dsimp only
    omega
  · omega
set_option maxRecDepth 100000 in
set_option maxHeartbeats 8000000 in
theorem narrow_any (cv pv : Value) (cs : List Pr) (ps : List Int) (hl : cs.length ≤ 40) (hr : ∀ k, k < cs.length → 0 ≤ (pr cs k).lo ∧ (pr cs k).lo ≤ (pr cs k).hi ∧ (pr cs k).hi ≤ 3000) (w : World) (hC : Prs w.heap.size w cv cs) (hP : Bys w.heap.size w pv ps) :
    Calls Tryd.prog 17 #[cv, pv] w fun e w' => ∃ v, e = .returned v ∧ Prs w'.heap.size w' v (narL cs ps) ∧ Below w.heap.size w w' := by
  obtain ⟨c, cap, rfl, -, hcc⟩ := hC
  obtain ⟨⟨q, cap2, rfl, hpc⟩, hpb⟩ := hP
  have HC := Lib.hid hcc
  have HP := Lib.hid hpc
  have HB := Lib.hid hpb
  have HR := Lib.hid hr
  have HL := Lib.hid (show narL cs ps = rowL (narG cs ps) cs.length from rfl)
  have HN := Lib.hid (fun k => show narP cs ps k = if 2 * k + 1 < ps.length then _ else _ from rfl)
  clear hcc hpc hpb hr
  obtain ⟨i0, hi0, hz0, hz1, hz2⟩ := info_parts infoSp
  generalize narL cs ps = NL at *
  generalize hlen : cs.length = len at *
  generalize hm : ps.length = m at *
  have Hm := Lib.hid hm
  clear hlen hm
  go_enter Tryd.func17, Tryd.ntmps17
  go_wp2_with fail
  go_loopw [5, 6, 7, 8, 9, 10] (fun v i _ _ _ _ wr => ∃ k : Nat, k ≤ len ∧ i = .int .i64 k ∧ wr.ownsRow w.heap.size 52 2 v k (flatP (rowL (narG cs ps) k)) ∧ Below w.heap.size w wr) (fun _ i _ _ _ _ _ => len - (intOf i).toNat)
  case atStart => exact ⟨0, Nat.zero_le _, rfl, World.ownsRow_nil _ _ _ _, Below.refl _ _⟩
  case round =>
    obtain ⟨k, hk, rfl, hrow, hB⟩ := hrel
    have hsz := hB.size
    by_cases hlt : k < len
    · obtain ⟨b, off, rfl, hb, e0, e1⟩ := HC.out k hlt
      have bd := HR.out k hlt
      have hnp := HN.out k
      have HT := Lib.hid (show rowL (narG cs ps) (k + 1) = rowL (narG cs ps) k ++ [narP cs ps k] from rfl)
      generalize narP cs ps k = np at *
      generalize pr cs k = y at *
      obtain ⟨y0, y1⟩ := y
      dsimp only at *
      have n0 := (hB.cell (p := ⟨b, off + k * 2, none⟩) hb).trans e0
      have n1 := (hB.cell (p := ⟨b, off + k * 2 + 1, none⟩) hb).trans e1
      clear e0 e1
      have q1 : ¬ wr.heap.size = b := by omega
      have q2 : ¬ b = wr.heap.size := by omega
      have q3 : b < wr.heap.size := by omega
      have hki : (k : Int) < (len : Int) := by omega
      have W1 : IntKind.i64.wrap (2 * (k : Int)) = 2 * (k : Int) := by rw [IntKind.wrap_i64]; omega
      have W2 : IntKind.i64.wrap (2 * (k : Int) + 1) = 2 * (k : Int) + 1 := by rw [IntKind.wrap_i64]; omega
      have HRow := Lib.hid hrow
      have HBr := Lib.hid hB
      generalize hnl : flatP (rowL (narG cs ps) k) = nl at HRow
      have HNL := Lib.hid hnl
      clear hrow hB hnl
      by_cases hin : 2 * k + 1 < m
      · have hii : 2 * (k : Int) + 1 < (m : Int) := by omega
        rw [if_pos hin] at hnp
        obtain ⟨bp, op, rfl, hbp, p0⟩ := HP.out (2 * k) (by omega)
        have p1 : w.cell? ⟨bp, op + (2 * k + 1), none⟩ = some (.int .u8 (ps[2 * k + 1]?.getD 0)) := by
          obtain ⟨b', o', e, -, x⟩ := HP.out (2 * k + 1) hin
          simp only [Option.some.injEq, Addr.mk.injEq] at e
          obtain ⟨rfl, rfl, -⟩ := e
          exact x
        have g0 := HB.out (2 * k) (by omega)
        have g1 := HB.out (2 * k + 1) hin
        generalize ps[2 * k]?.getD 0 = r0 at *
        generalize ps[2 * k + 1]?.getD 0 = r1 at *
        have bA := part_bd (w := y1 - y0) (by omega) (by omega) g0.1 g0.2
        have bC := part_bd (w := y1 - y0) (by omega) (by omega) g1.1 g1.2
        obtain ⟨j0, hj0⟩ : ∃ j0 : Nat, j0 = 2 * k := ⟨_, rfl⟩
        obtain ⟨j1, hj1⟩ : ∃ j1 : Nat, j1 = 2 * k + 1 := ⟨_, rfl⟩
        rw [← hj0] at p0
        rw [← hj1] at p1
        have V1 : IntKind.i64.wrap (2 * (k : Int)) = (j0 : Int) := by rw [IntKind.wrap_i64]; omega
        have V2 : IntKind.i64.wrap ((j0 : Int) + 1) = (j1 : Int) := by rw [IntKind.wrap_i64]; omega
        have hjm : (j1 : Int) < (m : Int) := by omega
        have hjm0 : (j0 : Int) < (m : Int) := by omega
        have m0 := (HBr.out.cell (p := ⟨bp, op + j0, none⟩) hbp).trans p0
        have m1 := (HBr.out.cell (p := ⟨bp, op + j1, none⟩) hbp).trans p1
        obtain ⟨wd, hwd⟩ : ∃ wd, wd = y1 - y0 := ⟨_, rfl⟩
        rw [← hwd] at hnp bA bC
        have X1 : IntKind.i64.wrap (y1 - y0) = wd := by rw [hwd, IntKind.wrap_i64]; omega
        obtain ⟨xa, hxa⟩ : ∃ xa, xa = wd * r0 := ⟨_, rfl⟩
        obtain ⟨xb, hxb⟩ : ∃ xb, xb = wd * r1 := ⟨_, rfl⟩
        rw [← hxa] at hnp bA
        rw [← hxb] at hnp bC
        have X2 : IntKind.i64.wrap (wd * r0) = xa := by rw [hxa, IntKind.wrap_i64]; omega
        have X3 : IntKind.i64.wrap (wd * r1) = xb := by rw [hxb, IntKind.wrap_i64]; omega
        obtain ⟨A, hA⟩ : ∃ A, A = xa / 255 := ⟨_, rfl⟩
        obtain ⟨D, hD⟩ : ∃ D, D = xb / 255 := ⟨_, rfl⟩
        rw [← hA] at hnp bA
        rw [← hD] at hnp bC
        have X4 : xa.tdiv 255 = A := by rw [hA, Int.tdiv_eq_ediv_of_nonneg (by omega)]
        have X5 : xb.tdiv 255 = D := by rw [hD, Int.tdiv_eq_ediv_of_nonneg (by omega)]
        have X6 : IntKind.i64.wrap A = A := by rw [IntKind.wrap_i64]; omega
        have X7 : IntKind.i64.wrap D = D := by rw [IntKind.wrap_i64]; omega
        obtain ⟨L0, hL0⟩ : ∃ L0, L0 = y0 + min A D := ⟨_, rfl⟩
        obtain ⟨L1, hL1⟩ : ∃ L1, L1 = y0 + max A D := ⟨_, rfl⟩
        rw [← hL0, ← hL1] at hnp
        have X8 : IntKind.i64.wrap (y0 + min A D) = L0 := by rw [hL0, IntKind.wrap_i64]; omega
        have X9 : IntKind.i64.wrap (y0 + max A D) = L1 := by rw [hL1, IntKind.wrap_i64]; omega
        have X10 : IntKind.i64.wrap r0 = r0 := by rw [IntKind.wrap_i64]; omega
        have X11 : IntKind.i64.wrap r1 = r1 := by rw [IntKind.wrap_i64]; omega
        have g0' := g0.1
        have g0'' := g0.2
        have g1' := g1.1
        have g1'' := g1.2
        subst hnp
        clear hwd hxa hxb hA hD hL0 hL1 p0 p1 bA bC W1 W2 hj0 hj1 g0 g1 bd hin
        have hii2 : (j1 : Int) < (m : Int) := hjm
        have qp : ¬ wr.heap.size = bp := by omega
        have qp2 : ¬ bp = wr.heap.size := by omega
        have qp3 : bp < wr.heap.size := by omega
        go_wp2_with fail
        obtain ⟨W0, hW0⟩ : ∃ W0, W0 = wr.alloc (.cells #[.int .i64 y0, .int .i64 y1] 52) := ⟨_, rfl⟩
        rw [← hW0]
        have t0 : W0.cell? ⟨b, off + k * 2, none⟩ = some (.int .i64 y0) := by rw [hW0]; simp [go_sem, *]
        have t1 : W0.cell? ⟨bp, op + j0, none⟩ = some (.int .u8 r0) := by rw [hW0]; simp [go_sem, *]
        have t2 : W0.cell? ⟨bp, op + j1, none⟩ = some (.int .u8 r1) := by rw [hW0]; simp [go_sem, *]
        have t3 : W0.cell? ⟨wr.heap.size, 0, none⟩ = some (.int .i64 y0) := by rw [hW0]; simp [go_sem]
        have t4 : W0.cell? ⟨wr.heap.size, 1, none⟩ = some (.int .i64 y1) := by rw [hW0]; simp [go_sem]
        have f3 : W0.frozen? ⟨wr.heap.size, 0, none⟩ = false := by rw [hW0]; simp [go_sem]
        have f4 : W0.frozen? ⟨wr.heap.size, 1, none⟩ = false := by rw [hW0]; simp [go_sem]
        have zW : W0.heap.size = wr.heap.size + 1 := by rw [hW0]; simp
        have HRw := Lib.hid (show W0.ownsRow w.heap.size 52 2 u5 k nl by rw [hW0]; exact HRow.out.alloc _)
        have HBw := Lib.hid (show Below w.heap.size w W0 by rw [hW0]; exact HBr.out.alloc hsz _)
        have NO := Lib.hid (fun j (hj : u5.ownBlock = some j) => HRow.out.lt j hj)
        clear hW0 n0 n1 m0 m1 HRow HBr
        refine wp_region_held_drew (S := fun w' => w'.cell? ⟨b, off + k * 2, none⟩ = some (.int .i64 y0) ∧ w'.cell? ⟨bp, op + j0, none⟩ = some (.int .u8 r0) ∧ w'.cell? ⟨bp, op + j1, none⟩ = some (.int .u8 r1)) (by kernel_rfl) ⟨by simpa [go_sem] using t0, by simpa [go_sem] using t1, by simpa [go_sem] using t2⟩ (fun hHeld => ?_)
        refine wpAnyH_take (i := 0) (oi := _) (v := Value.int .i64 wd) rfl (by kernel_rfl) (by kernel_rfl) (by kernel_rfl) (fun _ _ _ h => h) (Or.inl ⟨by rfl, fun w' hSw => ?_⟩) hHeld ?_
        · obtain ⟨t0, t1, t2⟩ := hSw
          go_simp
          try simp [*]
          try (intro hh; exfalso; omega)
          try omega
        try simp only [Act.put, List.setIfInBounds_toArray, List.set_cons_zero, List.set_cons_succ, List.getElem_toArray, List.getElem_cons_succ, List.getElem_cons_zero]
        refine wpAnyH_take (i := 1) (oi := _) (v := Value.slice (some ⟨bp, op, none⟩) m cap2) rfl (by kernel_rfl) (by kernel_rfl) (by kernel_rfl) (fun _ _ _ h => h) (Or.inl ⟨by rfl, fun w' hSw => ?_⟩) hHeld ?_
        · obtain ⟨t0, t1, t2⟩ := hSw
          go_simp
          try simp [*]
          try (intro hh; exfalso; omega)
          try omega
        try simp only [Act.put, List.setIfInBounds_toArray, List.set_cons_zero, List.set_cons_succ, List.getElem_toArray, List.getElem_cons_succ, List.getElem_cons_zero]
        refine wpAnyH_take (i := 2) (oi := _) (v := Value.int .i64 k) rfl (by kernel_rfl) (by kernel_rfl) (by kernel_rfl) (fun _ _ _ h => h) (Or.inl ⟨by rfl, fun w' hSw => ?_⟩) hHeld ?_
        · obtain ⟨t0, t1, t2⟩ := hSw
          go_simp
          try simp [*]
          try (intro hh; exfalso; omega)
          try omega
        try simp only [Act.put, List.setIfInBounds_toArray, List.set_cons_zero, List.set_cons_succ, List.getElem_toArray, List.getElem_cons_succ, List.getElem_cons_zero]
        refine wpAnyH_take (i := 3) (oi := _) (v := Value.int .i64 j0) rfl (by kernel_rfl) (by kernel_rfl) (by kernel_rfl) (fun _ _ _ h => h) (Or.inl ⟨by rfl, fun w' hSw => ?_⟩) hHeld ?_
        · obtain ⟨t0, t1, t2⟩ := hSw
          go_simp
          try simp [*]
          try (intro hh; exfalso; omega)
          try omega
        try simp only [Act.put, List.setIfInBounds_toArray, List.set_cons_zero, List.set_cons_succ, List.getElem_toArray, List.getElem_cons_succ, List.getElem_cons_zero]
        refine wpAnyH_take (i := 4) (oi := _) (v := Value.pointer (some ⟨bp, op + j0, none⟩)) rfl (by kernel_rfl) (by kernel_rfl) (by kernel_rfl) (fun _ _ _ h => h) (Or.inl ⟨by rfl, fun w' hSw => ?_⟩) hHeld ?_
        · obtain ⟨t0, t1, t2⟩ := hSw
          go_simp
          try simp [*]
          try (intro hh; exfalso; omega)
          try omega
        try simp only [Act.put, List.setIfInBounds_toArray, List.set_cons_zero, List.set_cons_succ, List.getElem_toArray, List.getElem_cons_succ, List.getElem_cons_zero]
        refine wpAnyH_take (i := 5) (oi := _) (v := Value.int .u8 r0) rfl (by kernel_rfl) (by kernel_rfl) (by kernel_rfl) (fun _ _ _ h => h) (Or.inl ⟨by rfl, fun w' hSw => ?_⟩) hHeld ?_
        · obtain ⟨t0, t1, t2⟩ := hSw
          go_simp
          try simp [*]
          try (intro hh; exfalso; omega)
          try omega
        try simp only [Act.put, List.setIfInBounds_toArray, List.set_cons_zero, List.set_cons_succ, List.getElem_toArray, List.getElem_cons_succ, List.getElem_cons_zero]
        refine wpAnyH_take (i := 6) (oi := _) (v := Value.int .i64 r0) rfl (by kernel_rfl) (by kernel_rfl) (by kernel_rfl) (fun _ _ _ h => h) (Or.inl ⟨by rfl, fun w' hSw => ?_⟩) hHeld ?_
        · obtain ⟨t0, t1, t2⟩ := hSw
          go_simp
          try simp [*]
          try (intro hh; exfalso; omega)
          try omega
        try simp only [Act.put, List.setIfInBounds_toArray, List.set_cons_zero, List.set_cons_succ, List.getElem_toArray, List.getElem_cons_succ, List.getElem_cons_zero]
        refine wpAnyH_take (i := 7) (oi := _) (v := Value.int .i64 xa) rfl (by kernel_rfl) (by kernel_rfl) (by kernel_rfl) (fun _ _ _ h => h) (Or.inl ⟨by rfl, fun w' hSw => ?_⟩) hHeld ?_
        · obtain ⟨t0, t1, t2⟩ := hSw
          go_simp
          try simp [*]
          try (intro hh; exfalso; omega)
          try omega
        try simp only [Act.put, List.setIfInBounds_toArray, List.set_cons_zero, List.set_cons_succ, List.getElem_toArray, List.getElem_cons_succ, List.getElem_cons_zero]
        refine wpAnyH_take (i := 8) (oi := _) (v := Value.int .i64 A) rfl (by kernel_rfl) (by kernel_rfl) (by kernel_rfl) (fun _ _ _ h => h) (Or.inl ⟨by rfl, fun w' hSw => ?_⟩) hHeld ?_
        · obtain ⟨t0, t1, t2⟩ := hSw
          go_simp
          try simp [*]
          try (intro hh; exfalso; omega)
          try omega
        try simp only [Act.put, List.setIfInBounds_toArray, List.set_cons_zero, List.set_cons_succ, List.getElem_toArray, List.getElem_cons_succ, List.getElem_cons_zero]
        refine wpAnyH_take (i := 9) (oi := _) (v := Value.int .i64 wd) rfl (by kernel_rfl) (by kernel_rfl) (by kernel_rfl) (fun _ _ _ h => h) (Or.inl ⟨by rfl, fun w' hSw => ?_⟩) hHeld ?_
        · obtain ⟨t0, t1, t2⟩ := hSw
          go_simp
          try simp [*]
          try (intro hh; exfalso; omega)
          try omega
        try simp only [Act.put, List.setIfInBounds_toArray, List.set_cons_zero, List.set_cons_succ, List.getElem_toArray, List.getElem_cons_succ, List.getElem_cons_zero]
        refine wpAnyH_take (i := 10) (oi := _) (v := Value.slice (some ⟨bp, op, none⟩) m cap2) rfl (by kernel_rfl) (by kernel_rfl) (by kernel_rfl) (fun _ _ _ h => h) (Or.inl ⟨by rfl, fun w' hSw => ?_⟩) hHeld ?_
        · obtain ⟨t0, t1, t2⟩ := hSw
          go_simp
          try simp [*]
          try (intro hh; exfalso; omega)
          try omega
        try simp only [Act.put, List.setIfInBounds_toArray, List.set_cons_zero, List.set_cons_succ, List.getElem_toArray, List.getElem_cons_succ, List.getElem_cons_zero]
        refine wpAnyH_take (i := 11) (oi := _) (v := Value.int .i64 k) rfl (by kernel_rfl) (by kernel_rfl) (by kernel_rfl) (fun _ _ _ h => h) (Or.inl ⟨by rfl, fun w' hSw => ?_⟩) hHeld ?_
        · obtain ⟨t0, t1, t2⟩ := hSw
          go_simp
          try simp [*]
          try (intro hh; exfalso; omega)
          try omega
        try simp only [Act.put, List.setIfInBounds_toArray, List.set_cons_zero, List.set_cons_succ, List.getElem_toArray, List.getElem_cons_succ, List.getElem_cons_zero]
        refine wpAnyH_take (i := 12) (oi := _) (v := Value.int .i64 j0) rfl (by kernel_rfl) (by kernel_rfl) (by kernel_rfl) (fun _ _ _ h => h) (Or.inl ⟨by rfl, fun w' hSw => ?_⟩) hHeld ?_
        · obtain ⟨t0, t1, t2⟩ := hSw
          go_simp
          try simp [*]
          try (intro hh; exfalso; omega)
          try omega
        try simp only [Act.put, List.setIfInBounds_toArray, List.set_cons_zero, List.set_cons_succ, List.getElem_toArray, List.getElem_cons_succ, List.getElem_cons_zero]
        refine wpAnyH_take (i := 13) (oi := _) (v := Value.int .i64 j1) rfl (by kernel_rfl) (by kernel_rfl) (by kernel_rfl) (fun _ _ _ h => h) (Or.inl ⟨by rfl, fun w' hSw => ?_⟩) hHeld ?_
        · obtain ⟨t0, t1, t2⟩ := hSw
          go_simp
          try simp [*]
          try (intro hh; exfalso; omega)
          try omega
        try simp only [Act.put, List.setIfInBounds_toArray, List.set_cons_zero, List.set_cons_succ, List.getElem_toArray, List.getElem_cons_succ, List.getElem_cons_zero]
        refine wpAnyH_take (i := 14) (oi := _) (v := Value.pointer (some ⟨bp, op + j1, none⟩)) rfl (by kernel_rfl) (by kernel_rfl) (by kernel_rfl) (fun _ _ _ h => h) (Or.inl ⟨by rfl, fun w' hSw => ?_⟩) hHeld ?_
        · obtain ⟨t0, t1, t2⟩ := hSw
          go_simp
          try simp [*]
          try (intro hh; exfalso; omega)
          try omega
        try simp only [Act.put, List.setIfInBounds_toArray, List.set_cons_zero, List.set_cons_succ, List.getElem_toArray, List.getElem_cons_succ, List.getElem_cons_zero]
        refine wpAnyH_take (i := 15) (oi := _) (v := Value.int .u8 r1) rfl (by kernel_rfl) (by kernel_rfl) (by kernel_rfl) (fun _ _ _ h => h) (Or.inl ⟨by rfl, fun w' hSw => ?_⟩) hHeld ?_
        · obtain ⟨t0, t1, t2⟩ := hSw
          go_simp
          try simp [*]
          try (intro hh; exfalso; omega)
          try omega
        try simp only [Act.put, List.setIfInBounds_toArray, List.set_cons_zero, List.set_cons_succ, List.getElem_toArray, List.getElem_cons_succ, List.getElem_cons_zero]
        refine wpAnyH_take (i := 16) (oi := _) (v := Value.int .i64 r1) rfl (by kernel_rfl) (by kernel_rfl) (by kernel_rfl) (fun _ _ _ h => h) (Or.inl ⟨by rfl, fun w' hSw => ?_⟩) hHeld ?_
        · obtain ⟨t0, t1, t2⟩ := hSw
          go_simp
          try simp [*]
          try (intro hh; exfalso; omega)
          try omega
        try simp only [Act.put, List.setIfInBounds_toArray, List.set_cons_zero, List.set_cons_succ, List.getElem_toArray, List.getElem_cons_succ, List.getElem_cons_zero]
        refine wpAnyH_take (i := 17) (oi := _) (v := Value.int .i64 xb) rfl (by kernel_rfl) (by kernel_rfl) (by kernel_rfl) (fun _ _ _ h => h) (Or.inl ⟨by rfl, fun w' hSw => ?_⟩) hHeld ?_
        · obtain ⟨t0, t1, t2⟩ := hSw
          go_simp
          try simp [*]
          try (intro hh; exfalso; omega)
          try omega
        try simp only [Act.put, List.setIfInBounds_toArray, List.set_cons_zero, List.set_cons_succ, List.getElem_toArray, List.getElem_cons_succ, List.getElem_cons_zero]
        refine wpAnyH_take (i := 18) (oi := _) (v := Value.int .i64 D) rfl (by kernel_rfl) (by kernel_rfl) (by kernel_rfl) (fun _ _ _ h => h) (Or.inl ⟨by rfl, fun w' hSw => ?_⟩) hHeld ?_
        · obtain ⟨t0, t1, t2⟩ := hSw
          go_simp
          try simp [*]
          try (intro hh; exfalso; omega)
          try omega
        try simp only [Act.put, List.setIfInBounds_toArray, List.set_cons_zero, List.set_cons_succ, List.getElem_toArray, List.getElem_cons_succ, List.getElem_cons_zero]
        refine wpAnyH_take (i := 19) (oi := _) (v := Value.int .i64 A) rfl (by kernel_rfl) (by kernel_rfl) (by kernel_rfl) (fun _ _ _ h => h) (Or.inl ⟨by rfl, fun w' hSw => ?_⟩) hHeld ?_
        · obtain ⟨t0, t1, t2⟩ := hSw
          go_simp
          try simp [*]
          try (intro hh; exfalso; omega)
          try omega
        try simp only [Act.put, List.setIfInBounds_toArray, List.set_cons_zero, List.set_cons_succ, List.getElem_toArray, List.getElem_cons_succ, List.getElem_cons_zero]
        refine wpAnyH_take (i := 20) (oi := _) (v := Value.int .i64 D) rfl (by kernel_rfl) (by kernel_rfl) (by kernel_rfl) (fun _ _ _ h => h) (Or.inl ⟨by rfl, fun w' hSw => ?_⟩) hHeld ?_
        · obtain ⟨t0, t1, t2⟩ := hSw
          go_simp
          try simp [*]
          try (intro hh; exfalso; omega)
          try omega
        try simp only [Act.put, List.setIfInBounds_toArray, List.set_cons_zero, List.set_cons_succ, List.getElem_toArray, List.getElem_cons_succ, List.getElem_cons_zero]
        refine wpAnyH_done (by kernel_rfl) ?_ _
        clear hHeld
        go_wp2_with fail
        refine wp_region_held_drew (S := fun w' => w'.cell? ⟨b, off + k * 2, none⟩ = some (.int .i64 y0)) (by kernel_rfl) (by simpa [go_sem] using t0) (fun hHeld => ?_)
        refine wpAnyH_take (i := 0) (oi := _) (v := Value.slice (some ⟨b, off, none⟩) len cap) rfl (by kernel_rfl) (by kernel_rfl) (by kernel_rfl) (fun _ _ _ h => h) (Or.inl ⟨by rfl, fun w' hSw => ?_⟩) hHeld ?_
        · have t0 := hSw
          go_simp
          try simp [*]
          try (intro hh; exfalso; omega)
          try omega
        try simp only [Act.put, List.setIfInBounds_toArray, List.set_cons_zero, List.set_cons_succ, List.getElem_toArray, List.getElem_cons_succ, List.getElem_cons_zero]
        refine wpAnyH_take (i := 1) (oi := _) (v := Value.int .i64 k) rfl (by kernel_rfl) (by kernel_rfl) (by kernel_rfl) (fun _ _ _ h => h) (Or.inl ⟨by rfl, fun w' hSw => ?_⟩) hHeld ?_
        · have t0 := hSw
          go_simp
          try simp [*]
          try (intro hh; exfalso; omega)
          try omega
        try simp only [Act.put, List.setIfInBounds_toArray, List.set_cons_zero, List.set_cons_succ, List.getElem_toArray, List.getElem_cons_succ, List.getElem_cons_zero]
        refine wpAnyH_take (i := 2) (oi := _) (v := Value.pointer (some ⟨b, off + k * 2, none⟩)) rfl (by kernel_rfl) (by kernel_rfl) (by kernel_rfl) (fun _ _ _ h => h) (Or.inl ⟨by rfl, fun w' hSw => ?_⟩) hHeld ?_
        · have t0 := hSw
          go_simp
          try simp [*]
          try (intro hh; exfalso; omega)
          try omega
        try simp only [Act.put, List.setIfInBounds_toArray, List.set_cons_zero, List.set_cons_succ, List.getElem_toArray, List.getElem_cons_succ, List.getElem_cons_zero]
        refine wpAnyH_take (i := 3) (oi := _) (v := Value.pointer (some ⟨b, off + k * 2, none⟩)) rfl (by kernel_rfl) (by kernel_rfl) (by kernel_rfl) (fun _ _ _ h => h) (Or.inl ⟨by rfl, fun w' hSw => ?_⟩) hHeld ?_
        · have t0 := hSw
          go_simp
          try simp [*]
          try (intro hh; exfalso; omega)
          try omega
        try simp only [Act.put, List.setIfInBounds_toArray, List.set_cons_zero, List.set_cons_succ, List.getElem_toArray, List.getElem_cons_succ, List.getElem_cons_zero]
        refine wpAnyH_take (i := 4) (oi := _) (v := Value.int .i64 y0) rfl (by kernel_rfl) (by kernel_rfl) (by kernel_rfl) (fun _ _ _ h => h) (Or.inl ⟨by rfl, fun w' hSw => ?_⟩) hHeld ?_
        · have t0 := hSw
          go_simp
          try simp [*]
          try (intro hh; exfalso; omega)
          try omega
        try simp only [Act.put, List.setIfInBounds_toArray, List.set_cons_zero, List.set_cons_succ, List.getElem_toArray, List.getElem_cons_succ, List.getElem_cons_zero]
        refine wpAnyH_take (i := 5) (oi := _) (v := Value.int .i64 A) rfl (by kernel_rfl) (by kernel_rfl) (by kernel_rfl) (fun _ _ _ h => h) (Or.inl ⟨by rfl, fun w' hSw => ?_⟩) hHeld ?_
        · have t0 := hSw
          go_simp
          try simp [*]
          try (intro hh; exfalso; omega)
          try omega
        try simp only [Act.put, List.setIfInBounds_toArray, List.set_cons_zero, List.set_cons_succ, List.getElem_toArray, List.getElem_cons_succ, List.getElem_cons_zero]
        refine wpAnyH_take (i := 6) (oi := _) (v := Value.int .i64 D) rfl (by kernel_rfl) (by kernel_rfl) (by kernel_rfl) (fun _ _ _ h => h) (Or.inl ⟨by rfl, fun w' hSw => ?_⟩) hHeld ?_
        · have t0 := hSw
          go_simp
          try simp [*]
          try (intro hh; exfalso; omega)
          try omega
        try simp only [Act.put, List.setIfInBounds_toArray, List.set_cons_zero, List.set_cons_succ, List.getElem_toArray, List.getElem_cons_succ, List.getElem_cons_zero]
        refine wpAnyH_take (i := 7) (oi := _) (v := Value.int .i64 (min A D)) rfl (by kernel_rfl) (by kernel_rfl) (by kernel_rfl) (fun _ _ _ h => h) (Or.inl ⟨by rfl, fun w' hSw => ?_⟩) hHeld ?_
        · have t0 := hSw
          go_simp
          try simp [*]
          try (intro hh; exfalso; omega)
          try omega
        try simp only [Act.put, List.setIfInBounds_toArray, List.set_cons_zero, List.set_cons_succ, List.getElem_toArray, List.getElem_cons_succ, List.getElem_cons_zero]
        refine wpAnyH_take (i := 8) (oi := _) (v := Value.int .i64 L0) rfl (by kernel_rfl) (by kernel_rfl) (by kernel_rfl) (fun _ _ _ h => h) (Or.inl ⟨by rfl, fun w' hSw => ?_⟩) hHeld ?_
        · have t0 := hSw
          go_simp
          try simp [*]
          try (intro hh; exfalso; omega)
          try omega
        try simp only [Act.put, List.setIfInBounds_toArray, List.set_cons_zero, List.set_cons_succ, List.getElem_toArray, List.getElem_cons_succ, List.getElem_cons_zero]
        refine wpAnyH_take (i := 9) (oi := _) (v := Value.slice (some ⟨b, off, none⟩) len cap) rfl (by kernel_rfl) (by kernel_rfl) (by kernel_rfl) (fun _ _ _ h => h) (Or.inl ⟨by rfl, fun w' hSw => ?_⟩) hHeld ?_
        · have t0 := hSw
          go_simp
          try simp [*]
          try (intro hh; exfalso; omega)
          try omega
        try simp only [Act.put, List.setIfInBounds_toArray, List.set_cons_zero, List.set_cons_succ, List.getElem_toArray, List.getElem_cons_succ, List.getElem_cons_zero]
        refine wpAnyH_take (i := 10) (oi := _) (v := Value.int .i64 k) rfl (by kernel_rfl) (by kernel_rfl) (by kernel_rfl) (fun _ _ _ h => h) (Or.inl ⟨by rfl, fun w' hSw => ?_⟩) hHeld ?_
        · have t0 := hSw
          go_simp
          try simp [*]
          try (intro hh; exfalso; omega)
          try omega
        try simp only [Act.put, List.setIfInBounds_toArray, List.set_cons_zero, List.set_cons_succ, List.getElem_toArray, List.getElem_cons_succ, List.getElem_cons_zero]
        refine wpAnyH_take (i := 11) (oi := _) (v := Value.pointer (some ⟨b, off + k * 2, none⟩)) rfl (by kernel_rfl) (by kernel_rfl) (by kernel_rfl) (fun _ _ _ h => h) (Or.inl ⟨by rfl, fun w' hSw => ?_⟩) hHeld ?_
        · have t0 := hSw
          go_simp
          try simp [*]
          try (intro hh; exfalso; omega)
          try omega
        try simp only [Act.put, List.setIfInBounds_toArray, List.set_cons_zero, List.set_cons_succ, List.getElem_toArray, List.getElem_cons_succ, List.getElem_cons_zero]
        refine wpAnyH_take (i := 12) (oi := _) (v := Value.pointer (some ⟨b, off + k * 2, none⟩)) rfl (by kernel_rfl) (by kernel_rfl) (by kernel_rfl) (fun _ _ _ h => h) (Or.inl ⟨by rfl, fun w' hSw => ?_⟩) hHeld ?_
        · have t0 := hSw
          go_simp
          try simp [*]
          try (intro hh; exfalso; omega)
          try omega
        try simp only [Act.put, List.setIfInBounds_toArray, List.set_cons_zero, List.set_cons_succ, List.getElem_toArray, List.getElem_cons_succ, List.getElem_cons_zero]
        refine wpAnyH_take (i := 13) (oi := _) (v := Value.int .i64 y0) rfl (by kernel_rfl) (by kernel_rfl) (by kernel_rfl) (fun _ _ _ h => h) (Or.inl ⟨by rfl, fun w' hSw => ?_⟩) hHeld ?_
        · have t0 := hSw
          go_simp
          try simp [*]
          try (intro hh; exfalso; omega)
          try omega
        try simp only [Act.put, List.setIfInBounds_toArray, List.set_cons_zero, List.set_cons_succ, List.getElem_toArray, List.getElem_cons_succ, List.getElem_cons_zero]
        refine wpAnyH_take (i := 14) (oi := _) (v := Value.int .i64 A) rfl (by kernel_rfl) (by kernel_rfl) (by kernel_rfl) (fun _ _ _ h => h) (Or.inl ⟨by rfl, fun w' hSw => ?_⟩) hHeld ?_
        · have t0 := hSw
          go_simp
          try simp [*]
          try (intro hh; exfalso; omega)
          try omega
        try simp only [Act.put, List.setIfInBounds_toArray, List.set_cons_zero, List.set_cons_succ, List.getElem_toArray, List.getElem_cons_succ, List.getElem_cons_zero]
        refine wpAnyH_take (i := 15) (oi := _) (v := Value.int .i64 D) rfl (by kernel_rfl) (by kernel_rfl) (by kernel_rfl) (fun _ _ _ h => h) (Or.inl ⟨by rfl, fun w' hSw => ?_⟩) hHeld ?_
        · have t0 := hSw
          go_simp
          try simp [*]
          try (intro hh; exfalso; omega)
          try omega
        try simp only [Act.put, List.setIfInBounds_toArray, List.set_cons_zero, List.set_cons_succ, List.getElem_toArray, List.getElem_cons_succ, List.getElem_cons_zero]
        refine wpAnyH_take (i := 16) (oi := _) (v := Value.int .i64 (max A D)) rfl (by kernel_rfl) (by kernel_rfl) (by kernel_rfl) (fun _ _ _ h => h) (Or.inl ⟨by rfl, fun w' hSw => ?_⟩) hHeld ?_
        · have t0 := hSw
          go_simp
          try simp [*]
          try (intro hh; exfalso; omega)
          try omega
        try simp only [Act.put, List.setIfInBounds_toArray, List.set_cons_zero, List.set_cons_succ, List.getElem_toArray, List.getElem_cons_succ, List.getElem_cons_zero]
        refine wpAnyH_take (i := 17) (oi := _) (v := Value.int .i64 L1) rfl (by kernel_rfl) (by kernel_rfl) (by kernel_rfl) (fun _ _ _ h => h) (Or.inl ⟨by rfl, fun w' hSw => ?_⟩) hHeld ?_
        · have t0 := hSw
          go_simp
          try simp [*]
          try (intro hh; exfalso; omega)
          try omega
        try simp only [Act.put, List.setIfInBounds_toArray, List.set_cons_zero, List.set_cons_succ, List.getElem_toArray, List.getElem_cons_succ, List.getElem_cons_zero]
        refine wpAnyH_take (i := 18) (oi := _) (v := Value.agg #[Value.int .i64 L0, Value.int .i64 L1]) rfl (by kernel_rfl) (by kernel_rfl) (by kernel_rfl) (fun _ _ _ h => h) (Or.inl ⟨by rfl, fun w' hSw => ?_⟩) hHeld ?_
        · have t0 := hSw
          go_simp
          try simp [*]
          try (intro hh; exfalso; omega)
          try omega
        try simp only [Act.put, List.setIfInBounds_toArray, List.set_cons_zero, List.set_cons_succ, List.getElem_toArray, List.getElem_cons_succ, List.getElem_cons_zero]
        refine wpAnyH_ready (rs := [19]) (by kernel_rfl) (by simp) ?_
        refine AllReadyH.cons (o := _) rfl (fun K hK => ?_) AllReadyH.nil
        go_simp
        clear hHeld
        refine hK.out _ _ (by simp [go_sem, *]) (fun hHeld => ?_)
        clear hK K
        try simp only [Act.put, List.setIfInBounds_toArray, List.set_cons_zero, List.set_cons_succ, List.getElem_toArray, List.getElem_cons_succ, List.getElem_cons_zero]
        refine wpAnyH_done (by kernel_rfl) ?_ _
        clear hHeld
        obtain ⟨W1, hW1⟩ : ∃ W1, W1 = (W0.setCell ⟨wr.heap.size, 0, none⟩ (.int .i64 L0)).setCell ⟨wr.heap.size, 1, none⟩ (.int .i64 L1) := ⟨_, rfl⟩
        rw [← hW1]
        have zW1 : W1.heap.size = wr.heap.size + 1 := by rw [hW1]; simp [zW]
        have z0 : W1.cell? ⟨wr.heap.size, 0, none⟩ = some (.int .i64 L0) := by rw [hW1]; simp [go_sem, t3]
        have z1 : W1.cell? ⟨wr.heap.size, 1, none⟩ = some (.int .i64 L1) := by rw [hW1]; simp [go_sem, t4]
        have HR1 := Lib.hid (show W1.ownsRow w.heap.size 52 2 u5 k nl from own_keep HRw.out fun j hj => by
          have hne : j ≠ wr.heap.size := by have := (NO.out j hj).2; omega
          rw [hW1, Below.heap_setCell _ _ _ _ hne, Below.heap_setCell _ _ _ _ hne])
        have HB1 := Lib.hid (show Below w.heap.size w W1 by rw [hW1]; exact (HBw.out.setCell (by simp; omega) _).setCell (by simp; omega) _)
        clear hW1 t0 t1 t2 t3 t4 f3 f4 HRw HBw
        go_wp2_with (at_builtin; refine wpList_append_own _ rfl _ _ 25 rfl w.heap.size 52 i0 (.agg #[.int .i64 0, .int .i64 0]) 2 16 Tryd.underlying25 hi0 hz0 hz1 hz2 rfl (by decide) _ _ _ rfl ((HR1.out.alloc _).drew.drew) ⟨wr.heap.size + 1, 0, none⟩ 1 1 [.int .i64 L0, .int .i64 L1] rfl rfl (by have h := two_new W1 (.int .i64 L0) (.int .i64 L1); rw [zW1] at h; simpa [go_sem] using h) (by simp [Value.oneCell']) (by unfold maxLen; omega) (by omega) (by simp; omega) ?_; intro v' w5 hrow' hgrow _)
        have hB5 : Below w.heap.size w w5 := ((HB1.out.alloc (by omega) _).drew.drew).grown hgrow (by simp; omega) (fun j hj => by have := (NO.out j hj).1; omega)
        go_roundw
        case rel => exact ⟨k + 1, by omega, by go_num, by rw [HT.out, flatP_snoc, HNL.out]; exact hrow', hB5⟩
        case measure => simp [intOf]; omega
      · have hii : ¬ 2 * (k : Int) + 1 < (m : Int) := by omega
        rw [if_neg hin] at hnp
        subst hnp
        have NO := Lib.hid (fun j (hj : u5.ownBlock = some j) => HRow.out.lt j hj)
        go_wp2_with (at_builtin; refine wpList_append_own _ rfl _ _ 25 rfl w.heap.size 52 i0 (.agg #[.int .i64 0, .int .i64 0]) 2 16 Tryd.underlying25 hi0 hz0 hz1 hz2 rfl (by decide) _ _ _ rfl ((HRow.out.alloc _).alloc _) ⟨wr.heap.size + 1, 0, none⟩ 1 1 [.int .i64 y0, .int .i64 y1] rfl rfl (by have h := two_new (wr.alloc (.cells #[.int .i64 y0, .int .i64 y1] 52)) (.int .i64 y0) (.int .i64 y1); rwa [World.size_alloc] at h) (by simp [Value.oneCell']) (by unfold maxLen; omega) (by omega) (by simp; omega) ?_; intro v' w5 hrow' hgrow _)
        have hB5 : Below w.heap.size w w5 := ((HBr.out.alloc (by omega) _).alloc (by simp; omega) _).grown hgrow (by simp; omega) (fun j hj => by have := (NO.out j hj).1; omega)
        go_roundw
        case rel => exact ⟨k + 1, by omega, by go_num, by rw [HT.out, flatP_snoc, HNL.out]; exact hrow', hB5⟩
        case measure => simp [intOf]; omega
    · obtain rfl : k = len := by omega
      have HNf := Lib.hid (show Prs wr.heap.size wr _ NL by rw [HL.out]; exact prs_of_owns (cs := rowL (narG cs ps) k) (by rw [rowL_len]; exact hrow))
      have HBf := Lib.hid hB
      clear hrow hB
      go_wp2_with fail
      go_ret
      exact ⟨_, rfl, HNf.out, HBf.out⟩
end Go.Proofs.YtmodplodnimmkaaDoor
namespace Go.Proofs.YtmodplodnimmkaaDoor
open Go.RowKit Go.Shelf
set_option linter.unusedSimpArgs false
theorem Bys.at {W W' : World} {sv : Value} {zs : List Int} (h : Bys W.heap.size W sv zs) (hb : Below W.heap.size W W') : Bys W'.heap.size W' sv zs := by
  obtain ⟨⟨a, cap, e, hc⟩, hz⟩ := h
  refine ⟨⟨a, cap, e, fun k hk => ?_⟩, hz⟩
  obtain ⟨b, off, e2, hb2, hcell⟩ := hc k hk
  exact ⟨b, off, e2, Nat.lt_of_lt_of_le hb2 hb.size, (hb.cell (p := ⟨b, off + k, none⟩) hb2).trans hcell⟩
theorem alw_nar {l : Int} {a b : Pr} (h1 : a.lo ≤ b.lo) (h2 : b.hi ≤ a.hi) (h3 : b.lo ≤ b.hi) (h : ¬ alwV l a = 1) : alwV l b = alwV l a := by
  unfold alwV at *
  split at h <;> split at h <;> (repeat' split) <;> omega
theorem inB_rows2 {F G : Nat → Pr} {n : Nat} (h : ∀ k, k < n → (G (k + 1)).lo ≤ (F (k + 1)).lo ∧ (F (k + 1)).hi ≤ (G (k + 1)).hi ∧ (F (k + 1)).lo ≤ (F (k + 1)).hi) : InB (rowL F n) (rowL G n) := by
  refine ⟨by rw [rowL_len, rowL_len], fun k hk => ?_⟩
  rw [rowL_len] at hk
  rw [rowL_get _ _ _ hk, rowL_get _ _ _ hk]
  exact h k hk
theorem totHi_le {cs ds : List Pr} : ∀ n, (∀ k, k < n → (pr cs k).hi ≤ (pr ds k).hi) → totHi cs n ≤ totHi ds n
  | 0, _ => Int.le_refl _
  | n + 1, h => by
    have a := totHi_le n (fun k hk => h k (by omega))
    have b := h n (by omega)
    simp only [totHi]
    omega
theorem nar_sta {d : Int} {zs : List El} {an fr : Int} {cs ds : List Pr} (h : staE d zs an fr cs = 0) (hl : ds.length = cs.length) (hn : NarB ds cs) : staE d zs an fr ds = 0 := by
  obtain ⟨hr, hs, hm, hc⟩ := staE_ok h
  have hd := nar_rig hr hl hn
  have h1 : ds.all okC = true := call_ok (fun k hk => hd.cur k (by rw [← hd.same]; exact hk))
  have e : curE d zs an fr ds = 0 := by
    unfold curE
    rw [if_pos hm, if_pos hd.same, if_pos h1]
  unfold staE
  rw [if_pos e, if_pos hs]
structure NarM (t u o p r s : List Pr) (a b : List Int) (x y : Int) (n : Nat) : Prop where
  ten : InB u t
  off : InB p o
  ris : InB s r
  lu : u.length = n
  lp : p.length = n
  ls : s.length = n
  lo : o.length = n
  la : a.length = n
  lb : b.length = n
  tot : totHi p n ≤ totHi o n
  str : ∀ q, q < n → a[q]?.getD 0 = 1 ∨ (¬ a[q]?.getD 0 = 1 ∧ b[q]?.getD 0 = a[q]?.getD 0)
  hol : x = 1 ∨ (¬ x = 1 ∧ y = x)
theorem nar_math {d : Int} {zs : List El} {an fr : Int} {cs ds : List Pr} (h : staE d zs an fr cs = 0) (hl : ds.length = cs.length) (hn : NarB ds cs) (free : Bool) :
    NarM (tenV d zs an fr cs free) (tenV d zs an fr ds free) (offV d zs an fr cs free) (offV d zs an fr ds free) (risV d zs an fr cs free) (risV d zs an fr ds free) (strV d zs an fr cs free) (strV d zs an fr ds free) (holV d zs an fr cs free) (holV d zs an fr ds free) zs.length := by
  obtain ⟨hr, hs, hm, hc⟩ := staE_ok h
  have hst := (standB_iff hr.pos).1 hs
  have h2 := nar_sta h hl hn
  have e1 : ∀ xs, staE d zs an fr xs = 0 → tenV d zs an fr xs free = rowL (tenG free zs xs) zs.length := fun xs hx => if_pos hx
  have e2 : ∀ xs, staE d zs an fr xs = 0 → offV d zs an fr xs free = rowL (offG free zs xs) zs.length := fun xs hx => if_pos hx
  have e3 : ∀ xs, staE d zs an fr xs = 0 → risV d zs an fr xs free = rowL (risG free zs xs) zs.length := fun xs hx => if_pos hx
  have e4 : ∀ xs, staE d zs an fr xs = 0 → strV d zs an fr xs free = strL free zs xs zs.length := fun xs hx => if_pos hx
  have e5 : ∀ xs, staE d zs an fr xs = 0 → holV d zs an fr xs free = holA zs an fr xs free := fun xs hx => if_pos hx
  rw [e1 _ h, e1 _ h2, e2 _ h, e2 _ h2, e3 _ h, e3 _ h2, e4 _ h, e4 _ h2, e5 _ h, e5 _ h2]
  refine ⟨inB_rows2 fun k hk => nar_ten hr hl hn free (by omega), inB_rows2 fun k hk => nar_off hr hst hl hn free hk, inB_rows2 fun k hk => nar_ris hr hst hl hn free hk, rowL_len _ _, rowL_len _ _, rowL_len _ _, rowL_len _ _, strL_len _ _ _ _, strL_len _ _ _ _, totHi_le _ fun k hk => ?_, fun q hq => ?_, ?_⟩
  · rw [rowL_get _ _ _ hk, rowL_get _ _ _ hk]
    exact (nar_off hr hst hl hn free hk).2.1
  · rw [strL_get _ _ _ _ _ hq, strL_get _ _ _ _ _ hq]
    by_cases hx : alwV (el zs q).str (tenG free zs cs (q + 1)) = 1
    · exact .inl hx
    · have t := nar_ten hr hl hn free (k := q + 1) (by omega)
      exact .inr ⟨hx, alw_nar t.1 t.2.1 t.2.2 hx⟩
  · by_cases hx : holA zs an fr cs free = 1
    · exact .inl hx
    · refine .inr ⟨hx, ?_⟩
      unfold holA at hx ⊢
      split
      · rfl
      · rename_i hw
        rw [if_neg hw] at hx
        obtain ⟨p1, p2⟩ := nar_pull hr hl hn free (k := zs.length) (Nat.le_refl _)
        have q := pull_bd (nar_rig hr hl hn) free (k := zs.length) (Nat.le_refl _)
        exact alw_nar (by dsimp only; omega) (by dsimp only; omega) (by dsimp only; omega) hx
set_option maxRecDepth 100000 in
set_option maxHeartbeats 40000000 in
theorem law_narrower (d an fr : Int) (sv cv pv : Value) (zs : List El) (cs : List Pr) (free : Bool) (ps : List Int) (w : World) (hTb : TabAt w) (hI : Els w.heap.size w sv zs) (hC : Prs w.heap.size w cv cs) (hP : Bys w.heap.size w pv ps) :
    Calls Tryd.prog 4 #[.agg #[.int .i64 d, sv, .int .i64 an, .int .i64 fr], cv, .bool free, pv] w fun e w' => e = .returned (.bool true) ∧ Below w.heap.size w w' := by
  have hz0w := hTb.lt
  have c16 := fun w' (hb : Below w.heap.size w w') => valid_any d an fr sv cv zs cs w' (hI.at hb) (hC.at hb)
  have c17 := Lib.hid (fun (h : staE d zs an fr cs = 0) w' (hb : Below w.heap.size w w') => narrow_any cv pv cs ps (by have := (staE_ok h).1.same; have := (staE_ok h).1.most; omega) (fun k hk => (okC_iff _).1 ((staE_ok h).1.cur k (by rw [← (staE_ok h).1.same]; exact hk))) w' (hC.at hb) (hP.at hb))
  have c18 := fun w' (hb : Below w.heap.size w w') => tensions_any d an fr sv cv zs cs free w' (hI.at hb) (hC.at hb)
  have c19 := fun w' (hb : Below w.heap.size w w') => shape_any d an fr sv cv zs cs free w' (hI.at hb) (hC.at hb)
  have c21 := fun w' (hb : Below w.heap.size w w') => circle_any d an fr sv cv zs cs free w' (hI.at hb) (hC.at hb)
  have c8 := fun w' (hb : Below w.heap.size w w') => strong_any d an fr sv cv zs cs free w' (hTb.at hb hz0w) (hI.at hb) (hC.at hb)
  have c10 := fun w' (hb : Below w.heap.size w w') => holds_any d an fr sv cv zs cs free w' (hTb.at hb hz0w) (hI.at hb) (hC.at hb)
  have s18 := fun sp w' (hb : Below w.heap.size w w') hS => tensions_any d an fr sv sp zs (narL cs ps) free w' (hI.at hb) hS
  have s19 := fun sp w' (hb : Below w.heap.size w w') hS => shape_any d an fr sv sp zs (narL cs ps) free w' (hI.at hb) hS
  have s21 := fun sp w' (hb : Below w.heap.size w w') hS => circle_any d an fr sv sp zs (narL cs ps) free w' (hI.at hb) hS
  have s8 := fun sp w' (hb : Below w.heap.size w w') hS => strong_any d an fr sv sp zs (narL cs ps) free w' (hTb.at hb hz0w) (hI.at hb) hS
  have s10 := fun sp w' (hb : Below w.heap.size w w') hS => holds_any d an fr sv sp zs (narL cs ps) free w' (hTb.at hb hz0w) (hI.at hb) hS
  have HF := Lib.hid (fun W => fine_any W)
  have HM := Lib.hid (fun (h : staE d zs an fr cs = 0) => nar_math h (nar_nar (staE_ok h).1 ps hP.2).1 (nar_nar (staE_ok h).1 ps hP.2).2 free)
  have HE := Lib.hid (fun (h : staE d zs an fr cs = 0) => nar_sta h (nar_nar (staE_ok h).1 ps hP.2).1 (nar_nar (staE_ok h).1 ps hP.2).2)
  have HO := Lib.hid (fun (h : staE d zs an fr cs = 0) => (staE_ok h).1.most)
  obtain ⟨a, cap, rfl, -, -⟩ := hI
  obtain ⟨c, cap2, rfl, -, -⟩ := hC
  obtain ⟨⟨q, cap3, rfl, -⟩, -⟩ := hP
  clear hTb
  generalize tenV d zs an fr cs free = T0 at *
  generalize tenV d zs an fr (narL cs ps) free = T1 at *
  generalize offV d zs an fr cs free = O0 at *
  generalize offV d zs an fr (narL cs ps) free = O1 at *
  generalize risV d zs an fr cs free = R0 at *
  generalize risV d zs an fr (narL cs ps) free = R1 at *
  generalize strV d zs an fr cs free = S0 at *
  generalize strV d zs an fr (narL cs ps) free = S1 at *
  generalize holV d zs an fr cs free = X at *
  generalize holV d zs an fr (narL cs ps) free = Y at *
  generalize staE d zs an fr (narL cs ps) = E4 at *
  generalize narL cs ps = ds at *
  generalize staE d zs an fr cs = E3 at *
  generalize zs.length = len at *
  generalize cs.length = len2 at *
  generalize ps.length = len3 at *
  obtain ⟨A, hA⟩ : ∃ A, A = w.alloc (.cells #[.int .i64 d, .slice a len cap, .int .i64 an, .int .i64 fr] 24) := ⟨_, rfl⟩
  have hzA : A.heap.size = w.heap.size + 1 := by rw [hA]; simp
  have KK := Lib.hid (show ∀ W, Below (w.heap.size + 1) A W → W.cell? ⟨w.heap.size, 0, none⟩ = some (.int .i64 d) ∧ W.cell? ⟨w.heap.size, 1, none⟩ = some (.slice a len cap) ∧ W.cell? ⟨w.heap.size, 2, none⟩ = some (.int .i64 an) ∧ W.cell? ⟨w.heap.size, 3, none⟩ = some (.int .i64 fr) from fun W h => by
    refine ⟨(h.cell (p := ⟨w.heap.size, 0, none⟩) (Nat.lt_succ_self _)).trans ?_, (h.cell (p := ⟨w.heap.size, 1, none⟩) (Nat.lt_succ_self _)).trans ?_, (h.cell (p := ⟨w.heap.size, 2, none⟩) (Nat.lt_succ_self _)).trans ?_, (h.cell (p := ⟨w.heap.size, 3, none⟩) (Nat.lt_succ_self _)).trans ?_⟩ <;> (rw [hA]; simp [go_sem]))
  have HBA := Lib.hid (show ∀ W, Below (w.heap.size + 1) A W → Below w.heap.size w W from fun W h => by
    have e : Below w.heap.size w A := by rw [hA]; exact (Below.refl _ _).alloc (Nat.le_refl _) _
    exact e.trans (h.mono (Nat.le_succ _)))
  by_cases h0 : E3 = 0
  rotate_left
  · have hd : decide (E3 = 0) = false := decide_eq_false h0
    rw [hd] at c16
    clear HM HE HO c17 c18 c19 c21 c8 c10 s18 s19 s21 s8 s10 h0 hd
    go_enter Tryd.func4, Tryd.ntmps4
    go_wp2_with fail
    try rw [← hA]
    refine (c16 _ (HBA.out _ (Below.refl _ _))).mono ?_
    rintro e w1 ⟨rfl, hb⟩
    have hB1 : Below (w.heap.size + 1) A w1 := hb.mono (by omega)
    clear hb hA
    obtain ⟨k0, k1, k2, k3⟩ := KK.out _ hB1
    have HB := Lib.hid (HBA.out _ hB1)
    clear k0 k1 k2 k3
    go_wp2_with fail
    refine (HF.out _).mono ?_
    rintro e w2 ⟨rfl, hb⟩
    have HB2 := Lib.hid (HB.out.trans (hb.mono HB.out.size))
    clear hb
    go_wp2_with fail
    go_ret
    exact ⟨rfl, HB2.out⟩
  subst h0
  obtain rfl := HE.out rfl
  have hmo := HO.out rfl
  obtain ⟨m1, m2, m3, l1, l2, l3, l4, l5, l6, mt, ms, mh⟩ := HM.out rfl
  have M1 := Lib.hid m1
  have M2 := Lib.hid m2
  have M3 := Lib.hid m3
  have MS := Lib.hid ms
  have MH := Lib.hid mh
  have k17 := c17.out rfl
  clear m1 m2 m3 ms mh HM HE HO c17
  rw [show decide ((0 : Int) = 0) = true from rfl] at c16
  rw [l2] at s21
  rw [l4] at c21
  generalize totHi O0 len = th0 at *
  generalize totHi O1 len = th1 at *
  have hth : ¬ th0 < th1 := by omega
  have K1 := Lib.hid l1
  have K2 := Lib.hid l2
  have K3 := Lib.hid l3
  have K5 := Lib.hid l5
  have K6 := Lib.hid l6
  clear l1 l2 l3 l4 l5 l6
  go_enter Tryd.func4, Tryd.ntmps4
  go_wp2_with fail
  try rw [← hA]
  refine (c16 _ (HBA.out _ (Below.refl _ _))).mono ?_
  rintro e w1 ⟨rfl, hb⟩
  have hB1 : Below (w.heap.size + 1) A w1 := hb.mono (by omega)
  clear hb hA
  obtain ⟨k0, k1, k2, k3⟩ := KK.out _ hB1
  go_wp2_with fail
  refine (k17 _ (HBA.out _ hB1)).mono ?_
  rintro e w2 ⟨v2, rfl, hP, hb⟩
  have hB2 : Below (w.heap.size + 1) A w2 := hB1.trans (hb.mono (by have := hB1.size; omega))
  have LD := Lib.hid hP
  obtain ⟨ad, qd, rfl⟩ := hP.form
  clear hP
  clear hb k0 k1 k2 k3
  obtain ⟨k0, k1, k2, k3⟩ := KK.out _ hB2
  go_wp2_with fail
  refine (c18 _ (HBA.out _ hB2)).mono ?_
  rintro e w3 ⟨v3, rfl, hP, hb⟩
  have hB3 : Below (w.heap.size + 1) A w3 := hB2.trans (hb.mono (by have := hB2.size; omega))
  replace LD := Lib.hid (LD.out.at hb)
  have L0 := Lib.hid hP
  obtain ⟨a0, g0, rfl⟩ := hP.form
  clear hP
  clear hb k0 k1 k2 k3
  obtain ⟨k0, k1, k2, k3⟩ := KK.out _ hB3
  go_wp2_with fail
  refine (s18 _ _ (HBA.out _ hB3) LD.out).mono ?_
  rintro e w4 ⟨v4, rfl, hP, hb⟩
  have hB4 : Below (w.heap.size + 1) A w4 := hB3.trans (hb.mono (by have := hB3.size; omega))
  replace LD := Lib.hid (LD.out.at hb)
  replace L0 := Lib.hid (L0.out.at hb)
  have L1 := Lib.hid hP
  obtain ⟨a1, g1, rfl⟩ := hP.form
  clear hP
  clear hb k0 k1 k2 k3
  obtain ⟨k0, k1, k2, k3⟩ := KK.out _ hB4
  go_wp2_with fail
  refine (c19 _ (HBA.out _ hB4)).mono ?_
  rintro e w5 ⟨v5, v6, rfl, hP, hQ, hb⟩
  have hB5 : Below (w.heap.size + 1) A w5 := hB4.trans (hb.mono (by have := hB4.size; omega))
  replace LD := Lib.hid (LD.out.at hb)
  replace L0 := Lib.hid (L0.out.at hb)
  replace L1 := Lib.hid (L1.out.at hb)
  have L2 := Lib.hid hP
  obtain ⟨a2, g2, rfl⟩ := hP.form
  clear hP
  have L3 := Lib.hid hQ
  obtain ⟨a3, g3, rfl⟩ := hQ.form
  clear hQ
  clear hb k0 k1 k2 k3
  obtain ⟨k0, k1, k2, k3⟩ := KK.out _ hB5
  go_wp2_with fail
  refine (s19 _ _ (HBA.out _ hB5) LD.out).mono ?_
  rintro e w6 ⟨v7, v8, rfl, hP, hQ, hb⟩
  have hB6 : Below (w.heap.size + 1) A w6 := hB5.trans (hb.mono (by have := hB5.size; omega))
  replace LD := Lib.hid (LD.out.at hb)
  replace L0 := Lib.hid (L0.out.at hb)
  replace L1 := Lib.hid (L1.out.at hb)
  replace L2 := Lib.hid (L2.out.at hb)
  replace L3 := Lib.hid (L3.out.at hb)
  have L4 := Lib.hid hP
  obtain ⟨a4, g4, rfl⟩ := hP.form
  clear hP
  have L5 := Lib.hid hQ
  obtain ⟨a5, g5, rfl⟩ := hQ.form
  clear hQ
  clear hb k0 k1 k2 k3
  obtain ⟨k0, k1, k2, k3⟩ := KK.out _ hB6
  go_wp2_with fail
  refine (inside_any _ _ T1 T0 (by rw [K1.out]; exact hmo) M1.out _ L1.out L0.out).mono ?_
  rintro e w7 ⟨rfl, hb⟩
  have hB7 : Below (w.heap.size + 1) A w7 := hB6.trans (hb.mono (by have := hB6.size; omega))
  replace LD := Lib.hid (LD.out.at hb)
  replace L0 := Lib.hid (L0.out.at hb)
  replace L1 := Lib.hid (L1.out.at hb)
  replace L2 := Lib.hid (L2.out.at hb)
  replace L3 := Lib.hid (L3.out.at hb)
  replace L4 := Lib.hid (L4.out.at hb)
  replace L5 := Lib.hid (L5.out.at hb)
  clear hb k0 k1 k2 k3
  obtain ⟨k0, k1, k2, k3⟩ := KK.out _ hB7
  go_wp2_with fail
  refine (inside_any _ _ O1 O0 (by rw [K2.out]; exact hmo) M2.out _ L4.out L2.out).mono ?_
  rintro e w8 ⟨rfl, hb⟩
  have hB8 : Below (w.heap.size + 1) A w8 := hB7.trans (hb.mono (by have := hB7.size; omega))
  replace LD := Lib.hid (LD.out.at hb)
  replace L0 := Lib.hid (L0.out.at hb)
  replace L1 := Lib.hid (L1.out.at hb)
  replace L2 := Lib.hid (L2.out.at hb)
  replace L3 := Lib.hid (L3.out.at hb)
  replace L4 := Lib.hid (L4.out.at hb)
  replace L5 := Lib.hid (L5.out.at hb)
  clear hb k0 k1 k2 k3
  obtain ⟨k0, k1, k2, k3⟩ := KK.out _ hB8
  go_wp2_with fail
  refine (inside_any _ _ R1 R0 (by rw [K3.out]; exact hmo) M3.out _ L5.out L3.out).mono ?_
  rintro e w9 ⟨rfl, hb⟩
  have hB9 : Below (w.heap.size + 1) A w9 := hB8.trans (hb.mono (by have := hB8.size; omega))
  replace LD := Lib.hid (LD.out.at hb)
  replace L0 := Lib.hid (L0.out.at hb)
  replace L1 := Lib.hid (L1.out.at hb)
  replace L2 := Lib.hid (L2.out.at hb)
  replace L3 := Lib.hid (L3.out.at hb)
  replace L4 := Lib.hid (L4.out.at hb)
  replace L5 := Lib.hid (L5.out.at hb)
  clear hb k0 k1 k2 k3
  obtain ⟨k0, k1, k2, k3⟩ := KK.out _ hB9
  clear L0 L1 L2 L3 L4 L5 M1 M2 M3 c16 k17 c18 s18 c19 s19
  go_wp2_with fail
  refine (c21 _ (HBA.out _ hB9)).mono ?_
  rintro e w10 ⟨rfl, hb⟩
  have hB10 : Below (w.heap.size + 1) A w10 := hB9.trans (hb.mono (by have := hB9.size; omega))
  replace LD := Lib.hid (LD.out.at hb)
  clear hb k0 k1 k2 k3
  obtain ⟨k0, k1, k2, k3⟩ := KK.out _ hB10
  go_wp2_with fail
  refine (s21 _ _ (HBA.out _ hB10) LD.out).mono ?_
  rintro e w11 ⟨rfl, hb⟩
  have hB11 : Below (w.heap.size + 1) A w11 := hB10.trans (hb.mono (by have := hB10.size; omega))
  replace LD := Lib.hid (LD.out.at hb)
  clear hb k0 k1 k2 k3
  obtain ⟨k0, k1, k2, k3⟩ := KK.out _ hB11
  go_wp2_with fail
  refine (c8 _ (HBA.out _ hB11)).mono ?_
  rintro e w12 ⟨v9, rfl, hP, hb⟩
  have hB12 : Below (w.heap.size + 1) A w12 := hB11.trans (hb.mono (by have := hB11.size; omega))
  replace LD := Lib.hid (LD.out.at hb)
  have LA := Lib.hid hP
  obtain ⟨aa, ga, rfl⟩ := hP.form
  clear hP
  clear hb k0 k1 k2 k3
  obtain ⟨k0, k1, k2, k3⟩ := KK.out _ hB12
  go_wp2_with fail
  refine (s8 _ _ (HBA.out _ hB12) LD.out).mono ?_
  rintro e w13 ⟨v10, rfl, hP, hb⟩
  have hB13 : Below (w.heap.size + 1) A w13 := hB12.trans (hb.mono (by have := hB12.size; omega))
  replace LD := Lib.hid (LD.out.at hb)
  replace LA := Lib.hid (LA.out.at hb)
  have LB := Lib.hid hP
  obtain ⟨ab, gb, rfl⟩ := hP.form
  clear hP
  clear hb k0 k1 k2 k3
  obtain ⟨k0, k1, k2, k3⟩ := KK.out _ hB13
  go_wp2_with fail
  refine (c10 _ (HBA.out _ hB13)).mono ?_
  rintro e w14 ⟨rfl, hb⟩
  have hB14 : Below (w.heap.size + 1) A w14 := hB13.trans (hb.mono (by have := hB13.size; omega))
  replace LD := Lib.hid (LD.out.at hb)
  replace LA := Lib.hid (LA.out.at hb)
  replace LB := Lib.hid (LB.out.at hb)
  clear hb k0 k1 k2 k3
  obtain ⟨k0, k1, k2, k3⟩ := KK.out _ hB14
  go_wp2_with fail
  refine (s10 _ _ (HBA.out _ hB14) LD.out).mono ?_
  rintro e w15 ⟨rfl, hb⟩
  have hB15 : Below (w.heap.size + 1) A w15 := hB14.trans (hb.mono (by have := hB14.size; omega))
  replace LD := Lib.hid (LD.out.at hb)
  replace LA := Lib.hid (LA.out.at hb)
  replace LB := Lib.hid (LB.out.at hb)
  clear hb k0 k1 k2 k3
  have NA := Lib.hid (show ∀ k, k < len → ∃ b off, aa = some ⟨b, off, none⟩ ∧ b < w15.heap.size ∧ w15.cell? ⟨b, off + k, none⟩ = some (.int .i64 (S0[k]?.getD 0)) from fun k hk => LA.out.get k (by rw [K5.out]; exact hk))
  have NB := Lib.hid (show ∀ k, k < len → ∃ b off, ab = some ⟨b, off, none⟩ ∧ b < w15.heap.size ∧ w15.cell? ⟨b, off + k, none⟩ = some (.int .i64 (S1[k]?.getD 0)) from fun k hk => LB.out.get k (by rw [K6.out]; exact hk))
  clear LA LB LD c21 s21 c8 s8 c10 s10
  simp only [K5.out, K6.out]
  have HBz := Lib.hid hB15
  clear K1 K2 K3 K5 K6
  rcases MH.out with hX | ⟨hX, rfl⟩
  all_goals
    try subst hX
    have hX0 := Lib.hid True.intro
    go_wp2_with fail
    go_loopw [28] (fun i wr => ∃ k : Nat, k ≤ len ∧ i = .int .i64 k ∧ Below (w.heap.size + 1) A wr ∧ Below w15.heap.size w15 wr) (fun i _ => len - (intOf i).toNat)
    case atStart => exact ⟨0, Nat.zero_le _, rfl, HBz.out, Below.refl _ _⟩
    case round =>
      obtain ⟨k, hk, rfl, hB, hg⟩ := hrel
      by_cases hlt : k < len
      · obtain ⟨b1, o1, rfl, hb1, c1⟩ := NA.out k hlt
        obtain ⟨b2, o2, rfl, hb2, c2⟩ := NB.out k hlt
        have n1 := (hg.cell (p := ⟨b1, o1 + k, none⟩) hb1).trans c1
        have n2 := (hg.cell (p := ⟨b2, o2 + k, none⟩) hb2).trans c2
        clear c1 c2
        have mk := MS.out k hlt
        have hki : (k : Int) < (len : Int) := by omega
        have HBr := Lib.hid hB
        have HGr := Lib.hid hg
        clear hB hg
        generalize S0[k]?.getD 0 = x at *
        generalize S1[k]?.getD 0 = y at *
        rcases mk with rfl | ⟨hx, rfl⟩
        · go_wp2_with fail
          refine wp_region_held_drew (S := fun w' => w'.cell? ⟨b1, o1 + k, none⟩ = some (.int .i64 1) ∧ w'.cell? ⟨b2, o2 + k, none⟩ = some (.int .i64 y)) (by kernel_rfl) ⟨by simpa [go_sem] using n1, by simpa [go_sem] using n2⟩ (fun hHeld => ?_)
          refine wpAnyH_take (i := 0) (oi := _) (v := Value.slice (some ⟨b1, o1, none⟩) len ga) rfl (by kernel_rfl) (by kernel_rfl) (by kernel_rfl) (fun _ _ _ h => h) (Or.inl ⟨by rfl, fun w' hSw => ?_⟩) hHeld ?_
          · obtain ⟨t0, t1⟩ := hSw
            go_simp
            try simp [*]
            try (intro hh; exfalso; omega)
            try omega
          try simp only [Act.put, List.setIfInBounds_toArray, List.set_cons_zero, List.set_cons_succ, List.getElem_toArray, List.getElem_cons_succ, List.getElem_cons_zero]
          refine wpAnyH_take (i := 1) (oi := _) (v := Value.int .i64 k) rfl (by kernel_rfl) (by kernel_rfl) (by kernel_rfl) (fun _ _ _ h => h) (Or.inl ⟨by rfl, fun w' hSw => ?_⟩) hHeld ?_
          · obtain ⟨t0, t1⟩ := hSw
            go_simp
            try simp [*]
            try (intro hh; exfalso; omega)
            try omega
          try simp only [Act.put, List.setIfInBounds_toArray, List.set_cons_zero, List.set_cons_succ, List.getElem_toArray, List.getElem_cons_succ, List.getElem_cons_zero]
          refine wpAnyH_take (i := 2) (oi := _) (v := Value.pointer (some ⟨b1, o1 + k, none⟩)) rfl (by kernel_rfl) (by kernel_rfl) (by kernel_rfl) (fun _ _ _ h => h) (Or.inl ⟨by rfl, fun w' hSw => ?_⟩) hHeld ?_
          · obtain ⟨t0, t1⟩ := hSw
            go_simp
            try simp [*]
            try (intro hh; exfalso; omega)
            try omega
          try simp only [Act.put, List.setIfInBounds_toArray, List.set_cons_zero, List.set_cons_succ, List.getElem_toArray, List.getElem_cons_succ, List.getElem_cons_zero]
          refine wpAnyH_take (i := 3) (oi := _) (v := Value.int .i64 1) rfl (by kernel_rfl) (by kernel_rfl) (by kernel_rfl) (fun _ _ _ h => h) (Or.inl ⟨by rfl, fun w' hSw => ?_⟩) hHeld ?_
          · obtain ⟨t0, t1⟩ := hSw
            go_simp
            try simp [*]
            try (intro hh; exfalso; omega)
            try omega
          try simp only [Act.put, List.setIfInBounds_toArray, List.set_cons_zero, List.set_cons_succ, List.getElem_toArray, List.getElem_cons_succ, List.getElem_cons_zero]
          refine wpAnyH_take (i := 4) (oi := _) (v := Value.bool false) rfl (by kernel_rfl) (by kernel_rfl) (by kernel_rfl) (fun _ _ _ h => h) (Or.inl ⟨by rfl, fun w' hSw => ?_⟩) hHeld ?_
          · obtain ⟨t0, t1⟩ := hSw
            go_simp
            try simp [*]
            try (intro hh; exfalso; omega)
            try omega
          try simp only [Act.put, List.setIfInBounds_toArray, List.set_cons_zero, List.set_cons_succ, List.getElem_toArray, List.getElem_cons_succ, List.getElem_cons_zero]
          refine wpAnyH_take (i := 5) (oi := _) (v := Value.bool false) rfl (by kernel_rfl) (by kernel_rfl) (by kernel_rfl) (fun _ _ _ h => h) (Or.inl ⟨by rfl, fun w' hSw => ?_⟩) hHeld ?_
          · obtain ⟨t0, t1⟩ := hSw
            go_simp
            try simp [*]
            try (intro hh; exfalso; omega)
            try omega
          try simp only [Act.put, List.setIfInBounds_toArray, List.set_cons_zero, List.set_cons_succ, List.getElem_toArray, List.getElem_cons_succ, List.getElem_cons_zero]
          refine wpAnyH_take (i := 6) (oi := _) (v := undef) rfl (by kernel_rfl) (by kernel_rfl) (by kernel_rfl) (fun _ _ _ h => h) (Or.inr ⟨by rfl, rfl⟩) hHeld ?_
          try simp only [Act.put, List.setIfInBounds_toArray, List.set_cons_zero, List.set_cons_succ, List.getElem_toArray, List.getElem_cons_succ, List.getElem_cons_zero]
          refine wpAnyH_take (i := 7) (oi := _) (v := undef) rfl (by kernel_rfl) (by kernel_rfl) (by kernel_rfl) (fun _ _ _ h => h) (Or.inr ⟨by rfl, rfl⟩) hHeld ?_
          try simp only [Act.put, List.setIfInBounds_toArray, List.set_cons_zero, List.set_cons_succ, List.getElem_toArray, List.getElem_cons_succ, List.getElem_cons_zero]
          refine wpAnyH_take (i := 8) (oi := _) (v := undef) rfl (by kernel_rfl) (by kernel_rfl) (by kernel_rfl) (fun _ _ _ h => h) (Or.inr ⟨by rfl, rfl⟩) hHeld ?_
          try simp only [Act.put, List.setIfInBounds_toArray, List.set_cons_zero, List.set_cons_succ, List.getElem_toArray, List.getElem_cons_succ, List.getElem_cons_zero]
          refine wpAnyH_take (i := 9) (oi := _) (v := undef) rfl (by kernel_rfl) (by kernel_rfl) (by kernel_rfl) (fun _ _ _ h => h) (Or.inr ⟨by rfl, rfl⟩) hHeld ?_
          try simp only [Act.put, List.setIfInBounds_toArray, List.set_cons_zero, List.set_cons_succ, List.getElem_toArray, List.getElem_cons_succ, List.getElem_cons_zero]
          refine wpAnyH_take (i := 10) (oi := _) (v := undef) rfl (by kernel_rfl) (by kernel_rfl) (by kernel_rfl) (fun _ _ _ h => h) (Or.inr ⟨by rfl, rfl⟩) hHeld ?_
          try simp only [Act.put, List.setIfInBounds_toArray, List.set_cons_zero, List.set_cons_succ, List.getElem_toArray, List.getElem_cons_succ, List.getElem_cons_zero]
          refine wpAnyH_take (i := 11) (oi := _) (v := undef) rfl (by kernel_rfl) (by kernel_rfl) (by kernel_rfl) (fun _ _ _ h => h) (Or.inr ⟨by rfl, rfl⟩) hHeld ?_
          try simp only [Act.put, List.setIfInBounds_toArray, List.set_cons_zero, List.set_cons_succ, List.getElem_toArray, List.getElem_cons_succ, List.getElem_cons_zero]
          refine wpAnyH_take (i := 12) (oi := _) (v := undef) rfl (by kernel_rfl) (by kernel_rfl) (by kernel_rfl) (fun _ _ _ h => h) (Or.inr ⟨by rfl, rfl⟩) hHeld ?_
          try simp only [Act.put, List.setIfInBounds_toArray, List.set_cons_zero, List.set_cons_succ, List.getElem_toArray, List.getElem_cons_succ, List.getElem_cons_zero]
          refine wpAnyH_take (i := 13) (oi := _) (v := undef) rfl (by kernel_rfl) (by kernel_rfl) (by kernel_rfl) (fun _ _ _ h => h) (Or.inr ⟨by rfl, rfl⟩) hHeld ?_
          try simp only [Act.put, List.setIfInBounds_toArray, List.set_cons_zero, List.set_cons_succ, List.getElem_toArray, List.getElem_cons_succ, List.getElem_cons_zero]
          refine wpAnyH_take (i := 14) (oi := _) (v := undef) rfl (by kernel_rfl) (by kernel_rfl) (by kernel_rfl) (fun _ _ _ h => h) (Or.inr ⟨by rfl, rfl⟩) hHeld ?_
          try simp only [Act.put, List.setIfInBounds_toArray, List.set_cons_zero, List.set_cons_succ, List.getElem_toArray, List.getElem_cons_succ, List.getElem_cons_zero]
          refine wpAnyH_take (i := 15) (oi := _) (v := Value.bool false) rfl (by kernel_rfl) (by kernel_rfl) (by kernel_rfl) (fun _ _ _ h => h) (Or.inl ⟨by rfl, fun w' hSw => ?_⟩) hHeld ?_
          · obtain ⟨t0, t1⟩ := hSw
            go_simp
            try simp [*]
            try (intro hh; exfalso; omega)
            try omega
          try simp only [Act.put, List.setIfInBounds_toArray, List.set_cons_zero, List.set_cons_succ, List.getElem_toArray, List.getElem_cons_succ, List.getElem_cons_zero]
          refine wpAnyH_done (by kernel_rfl) ?_ _
          clear hHeld
          go_wp2_with fail
          go_roundw
          case rel => exact ⟨k + 1, by omega, by go_num, (by repeat (first | exact HBr.out | exact below_drewN HBr.out _ | refine Below.drew ?_)), (by repeat (first | exact HGr.out | exact below_drewN HGr.out _ | refine Below.drew ?_))⟩
          case measure => simp [intOf]; omega
        · go_wp2_with fail
          refine wp_region_held_drew (S := fun w' => w'.cell? ⟨b1, o1 + k, none⟩ = some (.int .i64 y) ∧ w'.cell? ⟨b2, o2 + k, none⟩ = some (.int .i64 y)) (by kernel_rfl) ⟨by simpa [go_sem] using n1, by simpa [go_sem] using n2⟩ (fun hHeld => ?_)
          refine wpAnyH_take (i := 0) (oi := _) (v := Value.slice (some ⟨b1, o1, none⟩) len ga) rfl (by kernel_rfl) (by kernel_rfl) (by kernel_rfl) (fun _ _ _ h => h) (Or.inl ⟨by rfl, fun w' hSw => ?_⟩) hHeld ?_
          · obtain ⟨t0, t1⟩ := hSw
            go_simp
            try simp [*]
            try (intro hh; exfalso; omega)
            try omega
          try simp only [Act.put, List.setIfInBounds_toArray, List.set_cons_zero, List.set_cons_succ, List.getElem_toArray, List.getElem_cons_succ, List.getElem_cons_zero]
          refine wpAnyH_take (i := 1) (oi := _) (v := Value.int .i64 k) rfl (by kernel_rfl) (by kernel_rfl) (by kernel_rfl) (fun _ _ _ h => h) (Or.inl ⟨by rfl, fun w' hSw => ?_⟩) hHeld ?_
          · obtain ⟨t0, t1⟩ := hSw
            go_simp
            try simp [*]
            try (intro hh; exfalso; omega)
            try omega
          try simp only [Act.put, List.setIfInBounds_toArray, List.set_cons_zero, List.set_cons_succ, List.getElem_toArray, List.getElem_cons_succ, List.getElem_cons_zero]
          refine wpAnyH_take (i := 2) (oi := _) (v := Value.pointer (some ⟨b1, o1 + k, none⟩)) rfl (by kernel_rfl) (by kernel_rfl) (by kernel_rfl) (fun _ _ _ h => h) (Or.inl ⟨by rfl, fun w' hSw => ?_⟩) hHeld ?_
          · obtain ⟨t0, t1⟩ := hSw
            go_simp
            try simp [*]
            try (intro hh; exfalso; omega)
            try omega
          try simp only [Act.put, List.setIfInBounds_toArray, List.set_cons_zero, List.set_cons_succ, List.getElem_toArray, List.getElem_cons_succ, List.getElem_cons_zero]
          refine wpAnyH_take (i := 3) (oi := _) (v := Value.int .i64 y) rfl (by kernel_rfl) (by kernel_rfl) (by kernel_rfl) (fun _ _ _ h => h) (Or.inl ⟨by rfl, fun w' hSw => ?_⟩) hHeld ?_
          · obtain ⟨t0, t1⟩ := hSw
            go_simp
            try simp [*]
            try (intro hh; exfalso; omega)
            try omega
          try simp only [Act.put, List.setIfInBounds_toArray, List.set_cons_zero, List.set_cons_succ, List.getElem_toArray, List.getElem_cons_succ, List.getElem_cons_zero]
          refine wpAnyH_take (i := 4) (oi := _) (v := Value.bool true) rfl (by kernel_rfl) (by kernel_rfl) (by kernel_rfl) (fun _ _ _ h => h) (Or.inl ⟨by rfl, fun w' hSw => ?_⟩) hHeld ?_
          · obtain ⟨t0, t1⟩ := hSw
            go_simp
            try simp [*]
            try (intro hh; exfalso; omega)
            try omega
          try simp only [Act.put, List.setIfInBounds_toArray, List.set_cons_zero, List.set_cons_succ, List.getElem_toArray, List.getElem_cons_succ, List.getElem_cons_zero]
          refine wpAnyH_take (i := 5) (oi := _) (v := Value.bool true) rfl (by kernel_rfl) (by kernel_rfl) (by kernel_rfl) (fun _ _ _ h => h) (Or.inl ⟨by rfl, fun w' hSw => ?_⟩) hHeld ?_
          · obtain ⟨t0, t1⟩ := hSw
            go_simp
            try simp [*]
            try (intro hh; exfalso; omega)
            try omega
          try simp only [Act.put, List.setIfInBounds_toArray, List.set_cons_zero, List.set_cons_succ, List.getElem_toArray, List.getElem_cons_succ, List.getElem_cons_zero]
          refine wpAnyH_take (i := 6) (oi := _) (v := Value.slice (some ⟨b2, o2, none⟩) len gb) rfl (by kernel_rfl) (by kernel_rfl) (by kernel_rfl) (fun _ _ _ h => h) (Or.inl ⟨by rfl, fun w' hSw => ?_⟩) hHeld ?_
          · obtain ⟨t0, t1⟩ := hSw
            go_simp
            try simp [*]
            try (intro hh; exfalso; omega)
            try omega
          try simp only [Act.put, List.setIfInBounds_toArray, List.set_cons_zero, List.set_cons_succ, List.getElem_toArray, List.getElem_cons_succ, List.getElem_cons_zero]
          refine wpAnyH_take (i := 7) (oi := _) (v := Value.int .i64 k) rfl (by kernel_rfl) (by kernel_rfl) (by kernel_rfl) (fun _ _ _ h => h) (Or.inl ⟨by rfl, fun w' hSw => ?_⟩) hHeld ?_
          · obtain ⟨t0, t1⟩ := hSw
            go_simp
            try simp [*]
            try (intro hh; exfalso; omega)
            try omega
          try simp only [Act.put, List.setIfInBounds_toArray, List.set_cons_zero, List.set_cons_succ, List.getElem_toArray, List.getElem_cons_succ, List.getElem_cons_zero]
          refine wpAnyH_take (i := 8) (oi := _) (v := Value.pointer (some ⟨b2, o2 + k, none⟩)) rfl (by kernel_rfl) (by kernel_rfl) (by kernel_rfl) (fun _ _ _ h => h) (Or.inl ⟨by rfl, fun w' hSw => ?_⟩) hHeld ?_
          · obtain ⟨t0, t1⟩ := hSw
            go_simp
            try simp [*]
            try (intro hh; exfalso; omega)
            try omega
          try simp only [Act.put, List.setIfInBounds_toArray, List.set_cons_zero, List.set_cons_succ, List.getElem_toArray, List.getElem_cons_succ, List.getElem_cons_zero]
          refine wpAnyH_take (i := 9) (oi := _) (v := Value.int .i64 y) rfl (by kernel_rfl) (by kernel_rfl) (by kernel_rfl) (fun _ _ _ h => h) (Or.inl ⟨by rfl, fun w' hSw => ?_⟩) hHeld ?_
          · obtain ⟨t0, t1⟩ := hSw
            go_simp
            try simp [*]
            try (intro hh; exfalso; omega)
            try omega
          try simp only [Act.put, List.setIfInBounds_toArray, List.set_cons_zero, List.set_cons_succ, List.getElem_toArray, List.getElem_cons_succ, List.getElem_cons_zero]
          refine wpAnyH_take (i := 10) (oi := _) (v := Value.slice (some ⟨b1, o1, none⟩) len ga) rfl (by kernel_rfl) (by kernel_rfl) (by kernel_rfl) (fun _ _ _ h => h) (Or.inl ⟨by rfl, fun w' hSw => ?_⟩) hHeld ?_
          · obtain ⟨t0, t1⟩ := hSw
            go_simp
            try simp [*]
            try (intro hh; exfalso; omega)
            try omega
          try simp only [Act.put, List.setIfInBounds_toArray, List.set_cons_zero, List.set_cons_succ, List.getElem_toArray, List.getElem_cons_succ, List.getElem_cons_zero]
          refine wpAnyH_take (i := 11) (oi := _) (v := Value.int .i64 k) rfl (by kernel_rfl) (by kernel_rfl) (by kernel_rfl) (fun _ _ _ h => h) (Or.inl ⟨by rfl, fun w' hSw => ?_⟩) hHeld ?_
          · obtain ⟨t0, t1⟩ := hSw
            go_simp
            try simp [*]
            try (intro hh; exfalso; omega)
            try omega
          try simp only [Act.put, List.setIfInBounds_toArray, List.set_cons_zero, List.set_cons_succ, List.getElem_toArray, List.getElem_cons_succ, List.getElem_cons_zero]
          refine wpAnyH_take (i := 12) (oi := _) (v := Value.pointer (some ⟨b1, o1 + k, none⟩)) rfl (by kernel_rfl) (by kernel_rfl) (by kernel_rfl) (fun _ _ _ h => h) (Or.inl ⟨by rfl, fun w' hSw => ?_⟩) hHeld ?_
          · obtain ⟨t0, t1⟩ := hSw
            go_simp
            try simp [*]
            try (intro hh; exfalso; omega)
            try omega
          try simp only [Act.put, List.setIfInBounds_toArray, List.set_cons_zero, List.set_cons_succ, List.getElem_toArray, List.getElem_cons_succ, List.getElem_cons_zero]
          refine wpAnyH_take (i := 13) (oi := _) (v := Value.int .i64 y) rfl (by kernel_rfl) (by kernel_rfl) (by kernel_rfl) (fun _ _ _ h => h) (Or.inl ⟨by rfl, fun w' hSw => ?_⟩) hHeld ?_
          · obtain ⟨t0, t1⟩ := hSw
            go_simp
            try simp [*]
            try (intro hh; exfalso; omega)
            try omega
          try simp only [Act.put, List.setIfInBounds_toArray, List.set_cons_zero, List.set_cons_succ, List.getElem_toArray, List.getElem_cons_succ, List.getElem_cons_zero]
          refine wpAnyH_take (i := 14) (oi := _) (v := Value.bool false) rfl (by kernel_rfl) (by kernel_rfl) (by kernel_rfl) (fun _ _ _ h => h) (Or.inl ⟨by rfl, fun w' hSw => ?_⟩) hHeld ?_
          · obtain ⟨t0, t1⟩ := hSw
            go_simp
            try simp [*]
            try (intro hh; exfalso; omega)
            try omega
          try simp only [Act.put, List.setIfInBounds_toArray, List.set_cons_zero, List.set_cons_succ, List.getElem_toArray, List.getElem_cons_succ, List.getElem_cons_zero]
          refine wpAnyH_take (i := 15) (oi := _) (v := Value.bool false) rfl (by kernel_rfl) (by kernel_rfl) (by kernel_rfl) (fun _ _ _ h => h) (Or.inl ⟨by rfl, fun w' hSw => ?_⟩) hHeld ?_
          · obtain ⟨t0, t1⟩ := hSw
            go_simp
            try simp [*]
            try (intro hh; exfalso; omega)
            try omega
          try simp only [Act.put, List.setIfInBounds_toArray, List.set_cons_zero, List.set_cons_succ, List.getElem_toArray, List.getElem_cons_succ, List.getElem_cons_zero]
          refine wpAnyH_done (by kernel_rfl) ?_ _
          clear hHeld
          go_wp2_with fail
          go_roundw
          case rel => exact ⟨k + 1, by omega, by go_num, (by repeat (first | exact HBr.out | exact below_drewN HBr.out _ | refine Below.drew ?_)), (by repeat (first | exact HGr.out | exact below_drewN HGr.out _ | refine Below.drew ?_))⟩
          case measure => simp [intOf]; omega
      · obtain rfl : k = len := by omega
        have HBf := Lib.hid (HBA.out _ hB)
        clear hB hg hlt NA NB
        go_wp2_with fail
        refine (HF.out _).mono ?_
        rintro e wz ⟨rfl, hb⟩
        have HBg := Lib.hid (HBf.out.trans (hb.mono HBf.out.size))
        clear hb
        go_wp2_with fail
        go_ret
        exact ⟨rfl, HBg.out⟩
end Go.Proofs.YtmodplodnimmkaaDoor
namespace Go.Proofs.YtmodplodnimmkaaDoor
open Go.ChangeShapes Go.WideShapes Go.ChangeAt Go.WideMaps Go.WideElems Go.RowKit Go.Joins
theorem gAllowed : Tryd.prog.globalNamed "isobath/mooring.allowed" = some 0 := by kernel_rfl
theorem tAllowed : (Tryd.prog.globals[0]?).map (·.type) = some 95 := by kernel_rfl
theorem cAllowed : Tryd.prog.cellsOf 95 = 3 := by kernel_rfl
theorem cAnswer : Tryd.prog.cellsOf 32 = 1 := by kernel_rfl
/-- the door's own heap meets the condition -/
theorem door_met (os : Os) (args : Array Value) : laidMetH Tryd.prog [("isobath/mooring.allowed", Rows.laid_isobath_mooring_allowed)] ((World.doorLaid Tryd.prog 400 os).forCall (fun _ _ => 0) ⟨#[], args, []⟩).memory :=
  laidMetH_of_parts3 (fuel := 8) (laidMet_of_run' 8 (by kernel_rfl) (by kernel_rfl)) (by kernel_rfl) (by kernel_rfl)
theorem of_laid {W : World} (h : laidMetH Tryd.prog [("isobath/mooring.allowed", Rows.laid_isobath_mooring_allowed)] W) : TabAt W := by
  rw [MakeChecks.laidMetH_plain _ _ _ (by kernel_rfl)] at h
  have hT := Lib.tabIs_of_head (k := .i64) (zs := [2, 1, 0]) gAllowed tAllowed Tryd.underlying95 Tryd.underlying32 cAnswer cAllowed h
  have c0 := hT.cell gAllowed 0 (by decide)
  have c1 := hT.cell gAllowed 1 (by decide)
  have c2 := hT.cell gAllowed 2 (by decide)
  refine ⟨?_, c0, c1, c2⟩
  rcases Nat.eq_zero_or_pos W.heap.size with e | e
  · exfalso
    simp only [World.cell?, Array.getElem?_eq_none (show W.heap.size ≤ 0 by omega)] at c0
    cases c0
  · exact e
section
variable {H : Type} {enc : TypeId × Value → H} {W : World} {base : Nat} {v : Value} {d : DataW H} {p : List MemPlace}
theorem u8_of_wf {a : Int} (h : (Lit.int .u8 a).wf = true) : 0 ≤ a ∧ a ≤ 255 := by
  have h1 : IntKind.u8.min = 0 := rfl
  have h2 : IntKind.u8.max = 255 := rfl
  simp [Lit.wf, h1, h2] at h
  exact ⟨by omega, by omega⟩
set_option maxRecDepth 100000 in
theorem open_bys (hv : Value.okWide Tryd.prog W .any base 40 v) (h : DataW.Trod enc Tryd.prog W 0 (fun _ => true) true 40 v d p) : ∃ zs : List Int, Bys W.heap.size W v zs := by
  obtain ⟨a0, len, cap, rfl⟩ := okWide_slice Tryd.underlying40 hv
  have hlt := lt_of_trod h
  obtain ⟨fuel, hf⟩ := h
  rcases open_ints Tryd.underlying40 Tryd.underlying5 (by kernel_rfl) hf with ⟨hcs, hx⟩ | ⟨a, len', cap', zs, hcs, _, hle, hmax, hall, hx, cell, wf⟩
  · simp [Value.cells] at hcs
    obtain ⟨rfl, rfl, rfl⟩ := hcs
    exact ⟨[], ⟨none, 0, rfl, fun k hk => by simp at hk⟩, fun k hk => by simp at hk⟩
  · simp [Value.cells] at hcs
    obtain ⟨rfl, rfl, rfl⟩ := hcs
    simp only [if_true] at hall
    simp only [Prod.mk.injEq] at hx
    obtain ⟨rfl, rfl⟩ := hx
    by_cases h0 : len = 0
    · subst h0; exact ⟨[], ⟨some a, cap, rfl, fun k hk => by simp at hk⟩, fun k hk => by simp at hk⟩
    · obtain ⟨b, off, rfl, hc⟩ := ints_at cell (by omega)
      have hb : b < W.heap.size := by
        exact hlt (.cell b (off + 0)) (List.mem_map.2 ⟨0, List.mem_range.2 (by omega), rfl⟩)
      have e : (zs.take len).length = len := by rw [List.length_take]; omega
      refine ⟨zs.take len, ⟨some ⟨b, off, none⟩, cap, by rw [e], fun k hk => ⟨b, off, rfl, hb, ?_⟩⟩, fun k hk => ?_⟩
      · rw [e] at hk
        rw [hc k (by omega), List.getD_eq_getElem?_getD, List.getElem?_take]
        simp [hk]
      · have hk' := hk
        rw [e] at hk
        rw [List.getElem?_eq_getElem hk', Option.getD_some]
        exact u8_of_wf (wf _ (List.mem_of_mem_take (List.getElem_mem hk')))
end
end Go.Proofs.YtmodplodnimmkaaDoor

/-
  MoF: the watch circle's top (layer 2), ported from its own seat, in the cable seat (Lay, ShapeOf, Top, Fine).
-/
import Derived.Test.YtdohfpnnmppdkaaMoE
import Derived.Deep.CutRange
import Derived.Deep.AppendLies
import Derived.Deep.RegionHeldLaw
import Derived.StillTailTactics
namespace Go.Proofs.Ytdohfpnnmppdkaa.Moo
open Go.RowKit Go.Shelf
set_option linter.unusedSimpArgs false
/-- what stands while an element is laid -/
structure Mid (w W : World) (B : Nat) (x0 v : Int) (free : Bool) (zs : List El) (cs : List Pr) (k : Nat) (L : Int) (vo vr : Value) : Prop where
  sh : ShapeAt W B free zs cs (k + 1) L vo vr k k
  bel : Below B w W
  bx : W.cell? ⟨w.heap.size, 0, none⟩ = some (.int .i64 x0)
  cl : W.cell? ⟨B, 1, none⟩ = some (.int .i64 v)
  sz : w.heap.size + 2 ≤ W.heap.size
  zB : B < w.heap.size
theorem Mid.at {w W W' : World} {B : Nat} {x0 v : Int} {free : Bool} {zs : List El} {cs : List Pr} {k : Nat} {L : Int} {vo vr : Value} (h : Mid w W B x0 v free zs cs k L vo vr) (hb : Below W.heap.size W W') : Mid w W' B x0 v free zs cs k L vo vr := by
  have z := h.sz
  have zB := h.zB
  have hs := hb.size
  exact ⟨h.sh.at hb, h.bel.trans (hb.mono (by omega)), (hb.cell (p := ⟨w.heap.size, 0, none⟩) (by show w.heap.size < _; omega)).trans h.bx, (hb.cell (p := ⟨B, 1, none⟩) (by show B < _; omega)).trans h.cl, by omega, h.zB⟩
theorem Mid.len {w W : World} {B : Nat} {x0 v : Int} {free : Bool} {zs : List El} {cs : List Pr} {k : Nat} {L : Int} {vo vr : Value} (L' : Int) (h : Mid w W B x0 v free zs cs k L vo vr) : Mid w (W.setCell ⟨B, 5, none⟩ (.int .i64 L')) B x0 v free zs cs k L' vo vr := by
  have z := h.sz
  have zB := h.zB
  refine ⟨h.sh.len, h.bel.setCell (Nat.le_refl _) _, ?_, ?_, by simpa using z, zB⟩
  · rw [World.cell?_setCell_other _ _ _ _ (by first | (simp; done) | (simp; omega))]; exact h.bx
  · rw [World.cell?_setCell_other _ _ _ _ (by first | (simp; done) | (simp; omega))]; exact h.cl
set_option maxRecDepth 100000 in
set_option maxHeartbeats 40000000 in
theorem lay_any {zs : List El} {cs : List Pr} (h : Rig zs cs) (hst : ∀ k, k < zs.length → 1 ≤ lifTo zs (k + 1)) (free : Bool) (B : Nat) {k : Nat} (hk : k < zs.length) (vo vr : Value) (w : World) (hS : ShapeAt w B free zs cs k (lenTo zs k) vo vr k k) :
    Calls Try.prog 169 #[.pointer (some ⟨B, 0, none⟩), elv (el zs k), prv (pr cs k)] w fun e w' => e = .returned (.tuple #[]) ∧ ∃ vo' vr', ShapeAt w' B free zs cs (k + 1) (lenTo zs (k + 1)) vo' vr' (k + 1) (k + 1) ∧ Below B w w' := by
  have c1 := fun W hW => rig_add h free B hk W hW
  have c2 := fun W hW => find_pull h free B (k := k + 1) (by omega) W hW
  have hx := ((vE_iff _).1 (h.els k hk)).1
  have hp := pull_bd h free (k := k + 1) (by omega)
  have hv := lif_bd h (k := k + 1) (by omega)
  have hv1 := hst k hk
  have hlb := lenTo_bd h k (by omega)
  have hmost := h.most
  have cE1 := fun W => exactly_any (hLo free zs cs (k + 1)) W
  have cE2 := fun W => exactly_any (sHi zs cs (k + 1)) W
  have cS1 := fun W => slant_any (hLo free zs cs (k + 1)) (hLo free zs cs (k + 1)) (lifTo zs (k + 1)) (by omega) (by omega) (by omega) (by omega) (by omega) W
  have cS2 := fun W => slant_any (sHi zs cs (k + 1)) (sHi zs cs (k + 1)) (lifTo zs (k + 1)) (by omega) (by omega) (by omega) (by omega) (by omega) W
  have hO : offG free zs cs (k + 1) = ⟨(el zs k).len * hLo free zs cs (k + 1) / isqUp (hLo free zs cs (k + 1) * hLo free zs cs (k + 1) + lifTo zs (k + 1) * lifTo zs (k + 1)), min (((el zs k).len * sHi zs cs (k + 1) + isq (sHi zs cs (k + 1) * sHi zs cs (k + 1) + lifTo zs (k + 1) * lifTo zs (k + 1)) - 1) / isq (sHi zs cs (k + 1) * sHi zs cs (k + 1) + lifTo zs (k + 1) * lifTo zs (k + 1))) (el zs k).len⟩ := rfl
  have hRi : risG free zs cs (k + 1) = ⟨(el zs k).len * lifTo zs (k + 1) / isqUp (sHi zs cs (k + 1) * sHi zs cs (k + 1) + lifTo zs (k + 1) * lifTo zs (k + 1)), min (((el zs k).len * lifTo zs (k + 1) + isq (hLo free zs cs (k + 1) * hLo free zs cs (k + 1) + lifTo zs (k + 1) * lifTo zs (k + 1)) - 1) / isq (hLo free zs cs (k + 1) * hLo free zs cs (k + 1) + lifTo zs (k + 1) * lifTo zs (k + 1))) (el zs k).len⟩ := rfl
  have hL : lenTo zs (k + 1) = lenTo zs k + (el zs k).len := rfl
  have HV := Lib.hid (show RigAt w B free zs cs k → ∀ W, RigAt W B free zs cs (k + 1) → W.cell? ⟨B, 1, none⟩ = some (.int .i64 (lifTo zs (k + 1))) from fun _ W h => h.c1)
  have HR0 := Lib.hid hS.rig
  have zB := hS.rig.lt
  have NV := fun j hj => (hS.ro.lt j hj).2
  have NR := fun j hj => (hS.rr.lt j hj).2
  have HS := Lib.hid (fun (W : World) (hb : Below w.heap.size w W) => hS.at hb)
  have HTo := Lib.hid (show rowL (offG free zs cs) (k + 1) = rowL (offG free zs cs) k ++ [offG free zs cs (k + 1)] from rfl)
  have HTr := Lib.hid (show rowL (risG free zs cs) (k + 1) = rowL (risG free zs cs) k ++ [risG free zs cs (k + 1)] from rfl)
  unfold pulG at c2
  unfold prv at c2
  unfold elv prv at c1
  unfold elv prv
  generalize lenTo zs (k + 1) = L' at *
  generalize lenTo zs k = L at *
  generalize hLo free zs cs (k + 1) = p at *
  generalize sHi zs cs (k + 1) = q at *
  generalize lifTo zs (k + 1) = v at *
  generalize el zs k = x at *
  obtain ⟨x0, x1, x2, x3⟩ := x
  generalize pr cs k = y at *
  obtain ⟨y0, y1⟩ := y
  dsimp only at *
  clear hS
  have hvv : 1 ≤ v * v := by have := Int.mul_le_mul hv1 hv1 (by decide) (by omega); simpa using this
  have hle : 1 ≤ p * p + v * v := by have := Int.mul_nonneg hp.1 hp.1; omega
  have hmo : 1 ≤ q * q + v * v := by have := Int.mul_nonneg (show 0 ≤ q by omega) (show 0 ≤ q by omega); omega
  have bpp : p * p ≤ 268435456 * 268435456 := Int.mul_le_mul (by omega) (by omega) hp.1 (by decide)
  have bqq : q * q ≤ 268435456 * 268435456 := Int.mul_le_mul (by omega) (by omega) (by omega) (by decide)
  have bvv : v * v ≤ 268435456 * 268435456 := Int.mul_le_mul (by omega) (by omega) (by omega) (by decide)
  have ble : p * p + v * v ≤ 1152921504606846976 := by omega
  have bmo : q * q + v * v ≤ 1152921504606846976 := by omega
  generalize p * p + v * v = le at *
  generalize q * q + v * v = mo at *
  have i1 := isq_pos hle
  have i2 := isq_pos hmo
  have j1 := isq_bd (x := le) (by omega) (by omega)
  have j2 := isq_bd (x := mo) (by omega) (by omega)
  have u1 := isqUp_bd (x := le) (by omega) (by omega)
  have u2 := isqUp_bd (x := mo) (by omega) (by omega)
  have t1 : 1 ≤ isqUp le := by unfold isqUp; split <;> omega
  have t2 : 1 ≤ isqUp mo := by unfold isqUp; split <;> omega
  replace j1 := j1.2.1
  replace j2 := j2.2.1
  replace u1 := u1.2
  replace u2 := u2.2
  clear hvv hle hmo bpp bqq bvv ble bmo
  generalize isq le = s1 at *
  generalize isqUp le = s2 at *
  generalize isq mo = m1 at *
  generalize isqUp mo = m2 at *
  have bP : 0 ≤ x0 * p ∧ x0 * p ≤ 1048576 * 268435456 := ⟨Int.mul_nonneg hx.1 hp.1, Int.mul_le_mul hx.2 (by omega) hp.1 (by decide)⟩
  have bQ : 0 ≤ x0 * q ∧ x0 * q ≤ 1048576 * 268435456 := ⟨Int.mul_nonneg hx.1 (by omega), Int.mul_le_mul hx.2 (by omega) (by omega) (by decide)⟩
  have bV : 0 ≤ x0 * v ∧ x0 * v ≤ 1048576 * 268435456 := ⟨Int.mul_nonneg hx.1 (by omega), Int.mul_le_mul hx.2 (by omega) (by omega) (by decide)⟩
  have cV1 := fun W => over_any s2 m1 W
  have cV2 := fun W => over_any m2 s1 W
  have cO1 := fun b1 b2 W z1 z2 h1 h2 => outwardM_any (x0 * p) (x0 * q) s2 m1 b1 b2 W bP.1 (by omega) bQ.1 (by omega) t1 (by omega) i2 (by omega) z1 z2 h1 h2
  have cO2 := fun b1 b2 W z1 z2 h1 h2 => outwardM_any (x0 * v) (x0 * v) m2 s1 b1 b2 W bV.1 (by omega) bV.1 (by omega) t2 (by omega) i1 (by omega) z1 z2 h1 h2
  have W1 : IntKind.i64.wrap (x0 * p) = x0 * p := by rw [IntKind.wrap_i64]; omega
  have W2 : IntKind.i64.wrap (x0 * q) = x0 * q := by rw [IntKind.wrap_i64]; omega
  have W3 : IntKind.i64.wrap (x0 * v) = x0 * v := by rw [IntKind.wrap_i64]; omega
  generalize hq1 : x0 * p / s2 = o1 at *
  generalize hq2 : (x0 * q + m1 - 1) / m1 = o2 at *
  generalize hq3 : x0 * v / m2 = r1 at *
  generalize hq4 : (x0 * v + s1 - 1) / s1 = r2 at *
  generalize hx0p : x0 * p = xp at *
  generalize hx0q : x0 * q = xq at *
  generalize hx0v : x0 * v = xv at *
  clear hq1 hq2 hq3 hq4 bP bQ bV t1 t2 i1 i2 j1 j2 u1 u2 hp hv hv1
  have cM1 := fun W => atMost_any o1 o2 x0 W
  have cM2 := fun W => atMost_any r1 r2 x0 W
  rw [hO] at HTo
  rw [hRi] at HTr
  generalize min o2 x0 = o3 at *
  generalize min r2 x0 = r3 at *
  have HL := Lib.hid hL
  have WL : IntKind.i64.wrap (L + x0) = L + x0 := by rw [IntKind.wrap_i64]; omega
  clear hO hRi hL h hst hlb
  go_enter Try.func169, Try.ntmps169
  go_upto_region 1 with fail
  have g1 : ¬ w.heap.size = B := by omega
  have g2 : ¬ B = w.heap.size := by omega
  have g3 : ¬ w.heap.size + 1 = B := by omega
  have g4 : ¬ B = w.heap.size + 1 := by omega
  go_cut [5] from 6 (fun s5 wc1 => s5 = Value.pointer (some ⟨w.heap.size + 1, 0, none⟩) ∧ Mid w wc1 B x0 v free zs cs k L vo vr)
  case first => as_aux_lemma =>
    clear c2 cE1 cE2 cS1 cS2 cV1 cV2 cO1 cO2 cM1 cM2
    go_region_held3 (fun w' => w'.cell? ⟨w.heap.size, 0, none⟩ = some (.int .i64 x0) ∧ w'.cell? ⟨w.heap.size, 1, none⟩ = some (.int .i64 x1) ∧ w'.cell? ⟨w.heap.size, 2, none⟩ = some (.int .i64 x2) ∧ w'.cell? ⟨w.heap.size, 3, none⟩ = some (.int .i64 x3) ∧ w'.cell? ⟨(w.heap.size + 1), 0, none⟩ = some (.int .i64 y0) ∧ w'.cell? ⟨(w.heap.size + 1), 1, none⟩ = some (.int .i64 y1)) ((first | (simp [go_sem, *]; done)))
      (first | (go_at_call 199; refine Calls.mono (c1 _ (HS.out _ (by repeat (first | exact Below.refl _ _ | refine Below.drew ?_ | refine Below.setCell ?_ (by first | omega | (simp; done) | (simp; omega)) _ | refine Below.alloc ?_ (by first | omega | (simp; done) | (simp; omega)) _ | refine chainB (by assumption) ?_))).rig) ?_; rintro e w1 ⟨rfl, hR, hb⟩; have hcc := Lib.hid (fun b o (h1 : b < _) (h2 : b ≠ B) => setS_cell hb (p := ⟨b, o, none⟩) h1 h2); have kk0 : w1.cell? ⟨w.heap.size, 0, none⟩ = some (.int .i64 x0) := (hcc.out _ _ (by first | omega | (simp; done) | (simp; omega)) (by omega)).trans (by simp [go_sem, *]); have kk1 : w1.cell? ⟨w.heap.size, 1, none⟩ = some (.int .i64 x1) := (hcc.out _ _ (by first | omega | (simp; done) | (simp; omega)) (by omega)).trans (by simp [go_sem, *]); have kk2 : w1.cell? ⟨w.heap.size, 2, none⟩ = some (.int .i64 x2) := (hcc.out _ _ (by first | omega | (simp; done) | (simp; omega)) (by omega)).trans (by simp [go_sem, *]); have kk3 : w1.cell? ⟨w.heap.size, 3, none⟩ = some (.int .i64 x3) := (hcc.out _ _ (by first | omega | (simp; done) | (simp; omega)) (by omega)).trans (by simp [go_sem, *]); have kk4 : w1.cell? ⟨(w.heap.size + 1), 0, none⟩ = some (.int .i64 y0) := (hcc.out _ _ (by first | omega | (simp; done) | (simp; omega)) (by omega)).trans (by simp [go_sem, *]); have kk5 : w1.cell? ⟨(w.heap.size + 1), 1, none⟩ = some (.int .i64 y1) := (hcc.out _ _ (by first | omega | (simp; done) | (simp; omega)) (by omega)).trans (by simp [go_sem, *])))
    have hz := hb.size
    rw [setS_size] at hz
    simp at hz
    have hsh := ShapeAt.add (HS.out _ (by repeat (first | exact Below.refl _ _ | refine Below.drew ?_ | refine Below.setCell ?_ (by first | omega | (simp; done) | (simp; omega)) _ | refine Below.alloc ?_ (by first | omega | (simp; done) | (simp; omega)) _ | refine chainB (by assumption) ?_))) hR hb
    have hbel : Below B w w1 := setS_step (n := B) (by repeat (first | exact Below.refl _ _ | refine Below.drew ?_ | refine Below.setCell ?_ (by first | omega | (simp; done) | (simp; omega)) _ | refine Below.alloc ?_ (by first | omega | (simp; done) | (simp; omega)) _ | refine chainB (by assumption) ?_)) (Nat.le_refl _) (by simp; omega) hb
    have hcl := HV.out HR0.out _ hR
    go_wp2_with fail
    go_meet
    case rel => exact ⟨rfl, hsh, hbel, kk0, hcl, by omega, zB⟩
  case rest => as_aux_lemma =>
    obtain ⟨rfl, hM⟩ := hcut
    clear c1 HS HV HR0
    go_upto_region 2 with fail
    go_cut [6] from 7 (fun s6 wc2 => ∃ b6, s6 = Value.pointer (some ⟨b6, 0, none⟩) ∧ b6 < wc2.heap.size ∧ wc2.cell? ⟨b6, 0, none⟩ = some (.int .i64 p) ∧ wc2.cell? ⟨b6, 1, none⟩ = some (.int .i64 q) ∧ Mid w wc2 B x0 v free zs cs k L vo vr)
    case first => as_aux_lemma =>
      have c2' := c2 _ hM.sh.rig
      have HM := Lib.hid hM
      clear hM c2
      go_wp2_with fail
      refine Calls.mono c2' ?_
      rintro e w2 ⟨rfl, hb⟩
      have HM2 := Lib.hid (HM.out.at hb)
      clear hb
      go_wp2_with fail
      go_meet
      case rel => exact ⟨_, rfl, by simp, by simp [go_sem], by simp [go_sem], HM2.out.at (by repeat (first | exact Below.refl _ _ | refine Below.drew ?_ | refine Below.setCell ?_ (by first | omega | (simp; done) | (simp; omega)) _ | refine Below.alloc ?_ (by first | omega | (simp; done) | (simp; omega)) _ | refine chainB (by assumption) ?_))⟩
    case rest => as_aux_lemma =>
      obtain ⟨b6, rfl, z6, k60, k61, hM⟩ := hcut
      clear c2
      go_upto_region 3 with fail
      go_cut [7] from 8 (fun s7 wn => ∃ b7, s7 = Value.pointer (some ⟨b7, 0, none⟩) ∧ b7 < wn.heap.size ∧ wn.cell? ⟨b7, 0, none⟩ = some (.int .i64 s1) ∧ wn.cell? ⟨b7, 1, none⟩ = some (.int .i64 s2) ∧ b6 < wn.heap.size ∧ wn.cell? ⟨b6, 0, none⟩ = some (.int .i64 p) ∧ wn.cell? ⟨b6, 1, none⟩ = some (.int .i64 q) ∧ Mid w wn B x0 v free zs cs k L vo vr)
      case first => as_aux_lemma =>
        have zBc : B < wc.heap.size := by have := hM.zB; have := hM.sz; omega
        have kl := hM.cl
        have zB := hM.zB
        have zz := hM.sz
        have HM := Lib.hid (fun (W : World) (hb : Below wc.heap.size wc W) => hM.at hb)
        have PV := Lib.hid (fun (W : World) (hb : Below wc.heap.size wc W) => (⟨Nat.lt_of_lt_of_le z6 hb.size, (hb.cell (p := ⟨b6, 0, none⟩) z6).trans k60, (hb.cell (p := ⟨b6, 1, none⟩) z6).trans k61, trivial⟩ : b6 < W.heap.size ∧ W.cell? ⟨b6, 0, none⟩ = some (.int .i64 p) ∧ W.cell? ⟨b6, 1, none⟩ = some (.int .i64 q) ∧ True))
        clear hM
        have ggB : ¬ B = wc.heap.size := by omega
        have ghB : ¬ wc.heap.size = B := by omega
        have ggb6 : ¬ b6 = wc.heap.size := by omega
        have ghb6 : ¬ wc.heap.size = b6 := by omega
        go_region_held3 (fun w' => w'.cell? ⟨b6, 0, none⟩ = some (.int .i64 p) ∧ w'.cell? ⟨B, 1, none⟩ = some (.int .i64 v)) ((first | (simp [go_sem, *]; done) | (refine ⟨?_, ?_⟩ <;> (rw [hcc.out _ _ (by first | omega | (simp; done) | (simp; omega))]; simp [go_sem, *]))))
          (first | (go_at_call 167; refine Calls.mono (cE1 _) ?_; rintro e wa ⟨rfl, hb⟩; have hcc := Lib.hid (fun b o (h : b < _) => hb.cell (p := ⟨b, o, none⟩) h); have hff := Lib.hid (fun b o (h : b < _) => hb.frozen (p := ⟨b, o, none⟩) h); have hszwa := hb.size; (try simp at hszwa); have kwa0 : wa.cell? ⟨b6, 0, none⟩ = some (.int .i64 p) := (hcc.out _ _ (by first | omega | (simp; done) | (simp; omega))).trans (by first | (simp [go_sem, *]; done) | (go_keep; done)); have kwa1 : wa.cell? ⟨B, 1, none⟩ = some (.int .i64 v) := (hcc.out _ _ (by first | omega | (simp; done) | (simp; omega))).trans (by first | (simp [go_sem, *]; done) | (go_keep; done)); have zwa0 : B < wa.heap.size := (by first | omega | (simp at hszwa; omega)); have zwa1 : b6 < wa.heap.size := (by first | omega | (simp at hszwa; omega)); have uwa00 := hcc.out (wc.heap.size) 0; (try simp [go_sem] at uwa00); have vwa00 := hff.out (wc.heap.size) 0; (try simp [go_sem] at vwa00); have uwa01 := hcc.out (wc.heap.size) 1; (try simp [go_sem] at uwa01); have vwa01 := hff.out (wc.heap.size) 1; (try simp [go_sem] at vwa01); (try have gwa0a : ¬ wc.heap.size = wa.heap.size := by omega); (try have gwa0b : ¬ wa.heap.size = wc.heap.size := by omega); (try have lwa0 : wc.heap.size < wa.heap.size := by omega); (try have gewa0 : ¬ B = wa.heap.size := by omega); (try have gfwa0 : ¬ wa.heap.size = B := by omega); (try have gewa1 : ¬ b6 = wa.heap.size := by omega); (try have gfwa1 : ¬ wa.heap.size = b6 := by omega)) | (go_at_call 201; refine Calls.mono (cS1 _) ?_; rintro e wb ⟨rfl, hb⟩; have hcc := Lib.hid (fun b o (h : b < _) => hb.cell (p := ⟨b, o, none⟩) h); have hff := Lib.hid (fun b o (h : b < _) => hb.frozen (p := ⟨b, o, none⟩) h); have hszwb := hb.size; (try simp at hszwb); have kwb0 : wb.cell? ⟨b6, 0, none⟩ = some (.int .i64 p) := (hcc.out _ _ (by first | omega | (simp; done) | (simp; omega))).trans (by first | (simp [go_sem, *]; done) | (go_keep; done)); have kwb1 : wb.cell? ⟨B, 1, none⟩ = some (.int .i64 v) := (hcc.out _ _ (by first | omega | (simp; done) | (simp; omega))).trans (by first | (simp [go_sem, *]; done) | (go_keep; done)); have zwb0 : B < wb.heap.size := (by first | omega | (simp at hszwb; omega)); have zwb1 : b6 < wb.heap.size := (by first | omega | (simp at hszwb; omega)); have uwb00 := hcc.out (wc.heap.size) 0; (try simp [go_sem] at uwb00); have vwb00 := hff.out (wc.heap.size) 0; (try simp [go_sem] at vwb00); have uwb01 := hcc.out (wc.heap.size) 1; (try simp [go_sem] at uwb01); have vwb01 := hff.out (wc.heap.size) 1; (try simp [go_sem] at vwb01); (try have gwb0a : ¬ wc.heap.size = wb.heap.size := by omega); (try have gwb0b : ¬ wb.heap.size = wc.heap.size := by omega); (try have lwb0 : wc.heap.size < wb.heap.size := by omega); have uwb10 := hcc.out (wa.heap.size) 0; (try simp [go_sem] at uwb10); have vwb10 := hff.out (wa.heap.size) 0; (try simp [go_sem] at vwb10); have uwb11 := hcc.out (wa.heap.size) 1; (try simp [go_sem] at uwb11); have vwb11 := hff.out (wa.heap.size) 1; (try simp [go_sem] at vwb11); (try have gwb1a : ¬ wa.heap.size = wb.heap.size := by omega); (try have gwb1b : ¬ wb.heap.size = wa.heap.size := by omega); (try have lwb1 : wa.heap.size < wb.heap.size := by omega); (try have gewb0 : ¬ B = wb.heap.size := by omega); (try have gfwb0 : ¬ wb.heap.size = B := by omega); (try have gewb1 : ¬ b6 = wb.heap.size := by omega); (try have gfwb1 : ¬ wb.heap.size = b6 := by omega)))
        all_goals
          go_wp2_with fail
          go_meet
          case rel => exact ⟨_, rfl, by first | omega | (simp; done) | (simp; omega), by simp [go_sem, *], by simp [go_sem, *], (PV.out _ (by repeat (first | exact Below.refl _ _ | refine Below.drew ?_ | refine Below.setCell ?_ (by first | omega | (simp; done) | (simp; omega)) _ | refine Below.alloc ?_ (by first | omega | (simp; done) | (simp; omega)) _ | refine chainB (by assumption) ?_))).1, (PV.out _ (by repeat (first | exact Below.refl _ _ | refine Below.drew ?_ | refine Below.setCell ?_ (by first | omega | (simp; done) | (simp; omega)) _ | refine Below.alloc ?_ (by first | omega | (simp; done) | (simp; omega)) _ | refine chainB (by assumption) ?_))).2.1, (PV.out _ (by repeat (first | exact Below.refl _ _ | refine Below.drew ?_ | refine Below.setCell ?_ (by first | omega | (simp; done) | (simp; omega)) _ | refine Below.alloc ?_ (by first | omega | (simp; done) | (simp; omega)) _ | refine chainB (by assumption) ?_))).2.2.1, HM.out _ (by repeat (first | exact Below.refl _ _ | refine Below.drew ?_ | refine Below.setCell ?_ (by first | omega | (simp; done) | (simp; omega)) _ | refine Below.alloc ?_ (by first | omega | (simp; done) | (simp; omega)) _ | refine chainB (by assumption) ?_))⟩
      case rest => as_aux_lemma =>
        obtain ⟨b7, rfl, z7, k70, k71, z6, k60, k61, hM⟩ := hcut
        clear cE1 cS1
        go_upto_region 4 with fail
        go_cut [8] from 9 (fun s8 wn => ∃ b8, s8 = Value.pointer (some ⟨b8, 0, none⟩) ∧ b8 < wn.heap.size ∧ wn.cell? ⟨b8, 0, none⟩ = some (.int .i64 m1) ∧ wn.cell? ⟨b8, 1, none⟩ = some (.int .i64 m2) ∧ b6 < wn.heap.size ∧ b7 < wn.heap.size ∧ wn.cell? ⟨b6, 0, none⟩ = some (.int .i64 p) ∧ wn.cell? ⟨b6, 1, none⟩ = some (.int .i64 q) ∧ wn.cell? ⟨b7, 0, none⟩ = some (.int .i64 s1) ∧ wn.cell? ⟨b7, 1, none⟩ = some (.int .i64 s2) ∧ Mid w wn B x0 v free zs cs k L vo vr)
        case first => as_aux_lemma =>
          have zBc : B < wc.heap.size := by have := hM.zB; have := hM.sz; omega
          have kl := hM.cl
          have zB := hM.zB
          have zz := hM.sz
          have HM := Lib.hid (fun (W : World) (hb : Below wc.heap.size wc W) => hM.at hb)
          have PV := Lib.hid (fun (W : World) (hb : Below wc.heap.size wc W) => (⟨Nat.lt_of_lt_of_le z6 hb.size, Nat.lt_of_lt_of_le z7 hb.size, (hb.cell (p := ⟨b6, 0, none⟩) z6).trans k60, (hb.cell (p := ⟨b6, 1, none⟩) z6).trans k61, (hb.cell (p := ⟨b7, 0, none⟩) z7).trans k70, (hb.cell (p := ⟨b7, 1, none⟩) z7).trans k71, trivial⟩ : b6 < W.heap.size ∧ b7 < W.heap.size ∧ W.cell? ⟨b6, 0, none⟩ = some (.int .i64 p) ∧ W.cell? ⟨b6, 1, none⟩ = some (.int .i64 q) ∧ W.cell? ⟨b7, 0, none⟩ = some (.int .i64 s1) ∧ W.cell? ⟨b7, 1, none⟩ = some (.int .i64 s2) ∧ True))
          clear hM
          have ggB : ¬ B = wc.heap.size := by omega
          have ghB : ¬ wc.heap.size = B := by omega
          have ggb6 : ¬ b6 = wc.heap.size := by omega
          have ghb6 : ¬ wc.heap.size = b6 := by omega
          go_region_held3 (fun w' => w'.cell? ⟨b6, 1, none⟩ = some (.int .i64 q) ∧ w'.cell? ⟨B, 1, none⟩ = some (.int .i64 v)) ((first | (simp [go_sem, *]; done) | (refine ⟨?_, ?_⟩ <;> (rw [hcc.out _ _ (by first | omega | (simp; done) | (simp; omega))]; simp [go_sem, *]))))
            (first | (go_at_call 167; refine Calls.mono (cE2 _) ?_; rintro e wa ⟨rfl, hb⟩; have hcc := Lib.hid (fun b o (h : b < _) => hb.cell (p := ⟨b, o, none⟩) h); have hff := Lib.hid (fun b o (h : b < _) => hb.frozen (p := ⟨b, o, none⟩) h); have hszwa := hb.size; (try simp at hszwa); have kwa0 : wa.cell? ⟨b6, 1, none⟩ = some (.int .i64 q) := (hcc.out _ _ (by first | omega | (simp; done) | (simp; omega))).trans (by first | (simp [go_sem, *]; done) | (go_keep; done)); have kwa1 : wa.cell? ⟨B, 1, none⟩ = some (.int .i64 v) := (hcc.out _ _ (by first | omega | (simp; done) | (simp; omega))).trans (by first | (simp [go_sem, *]; done) | (go_keep; done)); have zwa0 : B < wa.heap.size := (by first | omega | (simp at hszwa; omega)); have zwa1 : b6 < wa.heap.size := (by first | omega | (simp at hszwa; omega)); have uwa00 := hcc.out (wc.heap.size) 0; (try simp [go_sem] at uwa00); have vwa00 := hff.out (wc.heap.size) 0; (try simp [go_sem] at vwa00); have uwa01 := hcc.out (wc.heap.size) 1; (try simp [go_sem] at uwa01); have vwa01 := hff.out (wc.heap.size) 1; (try simp [go_sem] at vwa01); (try have gwa0a : ¬ wc.heap.size = wa.heap.size := by omega); (try have gwa0b : ¬ wa.heap.size = wc.heap.size := by omega); (try have lwa0 : wc.heap.size < wa.heap.size := by omega); (try have gewa0 : ¬ B = wa.heap.size := by omega); (try have gfwa0 : ¬ wa.heap.size = B := by omega); (try have gewa1 : ¬ b6 = wa.heap.size := by omega); (try have gfwa1 : ¬ wa.heap.size = b6 := by omega)) | (go_at_call 201; refine Calls.mono (cS2 _) ?_; rintro e wb ⟨rfl, hb⟩; have hcc := Lib.hid (fun b o (h : b < _) => hb.cell (p := ⟨b, o, none⟩) h); have hff := Lib.hid (fun b o (h : b < _) => hb.frozen (p := ⟨b, o, none⟩) h); have hszwb := hb.size; (try simp at hszwb); have kwb0 : wb.cell? ⟨b6, 1, none⟩ = some (.int .i64 q) := (hcc.out _ _ (by first | omega | (simp; done) | (simp; omega))).trans (by first | (simp [go_sem, *]; done) | (go_keep; done)); have kwb1 : wb.cell? ⟨B, 1, none⟩ = some (.int .i64 v) := (hcc.out _ _ (by first | omega | (simp; done) | (simp; omega))).trans (by first | (simp [go_sem, *]; done) | (go_keep; done)); have zwb0 : B < wb.heap.size := (by first | omega | (simp at hszwb; omega)); have zwb1 : b6 < wb.heap.size := (by first | omega | (simp at hszwb; omega)); have uwb00 := hcc.out (wc.heap.size) 0; (try simp [go_sem] at uwb00); have vwb00 := hff.out (wc.heap.size) 0; (try simp [go_sem] at vwb00); have uwb01 := hcc.out (wc.heap.size) 1; (try simp [go_sem] at uwb01); have vwb01 := hff.out (wc.heap.size) 1; (try simp [go_sem] at vwb01); (try have gwb0a : ¬ wc.heap.size = wb.heap.size := by omega); (try have gwb0b : ¬ wb.heap.size = wc.heap.size := by omega); (try have lwb0 : wc.heap.size < wb.heap.size := by omega); have uwb10 := hcc.out (wa.heap.size) 0; (try simp [go_sem] at uwb10); have vwb10 := hff.out (wa.heap.size) 0; (try simp [go_sem] at vwb10); have uwb11 := hcc.out (wa.heap.size) 1; (try simp [go_sem] at uwb11); have vwb11 := hff.out (wa.heap.size) 1; (try simp [go_sem] at vwb11); (try have gwb1a : ¬ wa.heap.size = wb.heap.size := by omega); (try have gwb1b : ¬ wb.heap.size = wa.heap.size := by omega); (try have lwb1 : wa.heap.size < wb.heap.size := by omega); (try have gewb0 : ¬ B = wb.heap.size := by omega); (try have gfwb0 : ¬ wb.heap.size = B := by omega); (try have gewb1 : ¬ b6 = wb.heap.size := by omega); (try have gfwb1 : ¬ wb.heap.size = b6 := by omega)))
          all_goals
            go_wp2_with fail
            go_meet
            case rel => exact ⟨_, rfl, by first | omega | (simp; done) | (simp; omega), by simp [go_sem, *], by simp [go_sem, *], (PV.out _ (by repeat (first | exact Below.refl _ _ | refine Below.drew ?_ | refine Below.setCell ?_ (by first | omega | (simp; done) | (simp; omega)) _ | refine Below.alloc ?_ (by first | omega | (simp; done) | (simp; omega)) _ | refine chainB (by assumption) ?_))).1, (PV.out _ (by repeat (first | exact Below.refl _ _ | refine Below.drew ?_ | refine Below.setCell ?_ (by first | omega | (simp; done) | (simp; omega)) _ | refine Below.alloc ?_ (by first | omega | (simp; done) | (simp; omega)) _ | refine chainB (by assumption) ?_))).2.1, (PV.out _ (by repeat (first | exact Below.refl _ _ | refine Below.drew ?_ | refine Below.setCell ?_ (by first | omega | (simp; done) | (simp; omega)) _ | refine Below.alloc ?_ (by first | omega | (simp; done) | (simp; omega)) _ | refine chainB (by assumption) ?_))).2.2.1, (PV.out _ (by repeat (first | exact Below.refl _ _ | refine Below.drew ?_ | refine Below.setCell ?_ (by first | omega | (simp; done) | (simp; omega)) _ | refine Below.alloc ?_ (by first | omega | (simp; done) | (simp; omega)) _ | refine chainB (by assumption) ?_))).2.2.2.1, (PV.out _ (by repeat (first | exact Below.refl _ _ | refine Below.drew ?_ | refine Below.setCell ?_ (by first | omega | (simp; done) | (simp; omega)) _ | refine Below.alloc ?_ (by first | omega | (simp; done) | (simp; omega)) _ | refine chainB (by assumption) ?_))).2.2.2.2.1, (PV.out _ (by repeat (first | exact Below.refl _ _ | refine Below.drew ?_ | refine Below.setCell ?_ (by first | omega | (simp; done) | (simp; omega)) _ | refine Below.alloc ?_ (by first | omega | (simp; done) | (simp; omega)) _ | refine chainB (by assumption) ?_))).2.2.2.2.2.1, HM.out _ (by repeat (first | exact Below.refl _ _ | refine Below.drew ?_ | refine Below.setCell ?_ (by first | omega | (simp; done) | (simp; omega)) _ | refine Below.alloc ?_ (by first | omega | (simp; done) | (simp; omega)) _ | refine chainB (by assumption) ?_))⟩
        case rest => as_aux_lemma =>
          obtain ⟨b8, rfl, z8, k80, k81, z6, z7, k60, k61, k70, k71, hM⟩ := hcut
          clear cE2 cS2
          go_upto_region 5 with fail
          go_cut [9] from 10 (fun s9 wn => ∃ b9, s9 = Value.pointer (some ⟨b9, 0, none⟩) ∧ b9 < wn.heap.size ∧ wn.cell? ⟨b9, 0, none⟩ = some (.int .i64 o1) ∧ wn.cell? ⟨b9, 1, none⟩ = some (.int .i64 o2) ∧ b7 < wn.heap.size ∧ b8 < wn.heap.size ∧ wn.cell? ⟨b7, 0, none⟩ = some (.int .i64 s1) ∧ wn.cell? ⟨b7, 1, none⟩ = some (.int .i64 s2) ∧ wn.cell? ⟨b8, 0, none⟩ = some (.int .i64 m1) ∧ wn.cell? ⟨b8, 1, none⟩ = some (.int .i64 m2) ∧ Mid w wn B x0 v free zs cs k L vo vr ∧ w.heap.size < b9)
          case first => as_aux_lemma =>
            have zBc : B < wc.heap.size := by have := hM.zB; have := hM.sz; omega
            have kl := hM.cl
            have kx := hM.bx
            have zB := hM.zB
            have zz := hM.sz
            have zx : w.heap.size < wc.heap.size := by omega
            have HM := Lib.hid (fun (W : World) (hb : Below wc.heap.size wc W) => hM.at hb)
            have PV := Lib.hid (fun (W : World) (hb : Below wc.heap.size wc W) => (⟨Nat.lt_of_lt_of_le z7 hb.size, Nat.lt_of_lt_of_le z8 hb.size, (hb.cell (p := ⟨b7, 0, none⟩) z7).trans k70, (hb.cell (p := ⟨b7, 1, none⟩) z7).trans k71, (hb.cell (p := ⟨b8, 0, none⟩) z8).trans k80, (hb.cell (p := ⟨b8, 1, none⟩) z8).trans k81, trivial⟩ : b7 < W.heap.size ∧ b8 < W.heap.size ∧ W.cell? ⟨b7, 0, none⟩ = some (.int .i64 s1) ∧ W.cell? ⟨b7, 1, none⟩ = some (.int .i64 s2) ∧ W.cell? ⟨b8, 0, none⟩ = some (.int .i64 m1) ∧ W.cell? ⟨b8, 1, none⟩ = some (.int .i64 m2) ∧ True))
            clear hM
            have gg1 : ¬ b6 = wc.heap.size := by omega
            have gh1 : ¬ wc.heap.size = b6 := by omega
            have gg2 : ¬ b7 = wc.heap.size := by omega
            have gh2 : ¬ wc.heap.size = b7 := by omega
            have gg3 : ¬ b8 = wc.heap.size := by omega
            have gh3 : ¬ wc.heap.size = b8 := by omega
            have gg4 : ¬ w.heap.size = wc.heap.size := by omega
            have gh4 : ¬ wc.heap.size = w.heap.size := by omega
            go_region_held3 (fun w' => w'.cell? ⟨b7, 1, none⟩ = some (.int .i64 s2) ∧ w'.cell? ⟨b8, 0, none⟩ = some (.int .i64 m1) ∧ w'.cell? ⟨w.heap.size, 0, none⟩ = some (.int .i64 x0) ∧ w'.cell? ⟨b6, 0, none⟩ = some (.int .i64 p) ∧ w'.cell? ⟨b6, 1, none⟩ = some (.int .i64 q)) ((first | (simp [go_sem, *]; done) | (refine ⟨?_, ?_, ?_, ?_, ?_⟩ <;> (rw [hcc.out _ _ (by first | omega | (simp; done) | (simp; omega))]; simp [go_sem, *]))))
              (first | (go_at_call 202; refine Calls.mono (cV1 _) ?_; rintro e wa ⟨rfl, q1, q2, q3, hb⟩; have hcc := Lib.hid (fun b o (h : b < _) => hb.cell (p := ⟨b, o, none⟩) h); have hff := Lib.hid (fun b o (h : b < _) => hb.frozen (p := ⟨b, o, none⟩) h); have hszwa := hb.size; (try simp at hszwa); (try simp only [World.size_alloc, World.size_drew] at q1); (try simp only [World.size_alloc, World.size_drew] at q2); (try simp only [World.size_alloc, World.size_drew] at q3); (try have qz1 : wc.heap.size + 1 < wa.heap.size := by omega); (try have qz2 : wc.heap.size + 2 < wa.heap.size := by omega); (try have qz3 : wc.heap.size + 1 + 1 < wa.heap.size := by omega); have kwa0 : wa.cell? ⟨b7, 1, none⟩ = some (.int .i64 s2) := (hcc.out _ _ (by first | omega | (simp; done) | (simp; omega))).trans (by first | (simp [go_sem, *]; done) | (go_keep; done)); have kwa1 : wa.cell? ⟨b8, 0, none⟩ = some (.int .i64 m1) := (hcc.out _ _ (by first | omega | (simp; done) | (simp; omega))).trans (by first | (simp [go_sem, *]; done) | (go_keep; done)); have kwa2 : wa.cell? ⟨w.heap.size, 0, none⟩ = some (.int .i64 x0) := (hcc.out _ _ (by first | omega | (simp; done) | (simp; omega))).trans (by first | (simp [go_sem, *]; done) | (go_keep; done)); have kwa3 : wa.cell? ⟨b6, 0, none⟩ = some (.int .i64 p) := (hcc.out _ _ (by first | omega | (simp; done) | (simp; omega))).trans (by first | (simp [go_sem, *]; done) | (go_keep; done)); have kwa4 : wa.cell? ⟨b6, 1, none⟩ = some (.int .i64 q) := (hcc.out _ _ (by first | omega | (simp; done) | (simp; omega))).trans (by first | (simp [go_sem, *]; done) | (go_keep; done)); have zwa0 : b6 < wa.heap.size := (by first | omega | (simp at hszwa; omega)); have zwa1 : b7 < wa.heap.size := (by first | omega | (simp at hszwa; omega)); have zwa2 : b8 < wa.heap.size := (by first | omega | (simp at hszwa; omega)); have zwa3 : w.heap.size < wa.heap.size := (by first | omega | (simp at hszwa; omega)); have uwa00 := hcc.out (wc.heap.size) 0; (try simp [go_sem] at uwa00); have vwa00 := hff.out (wc.heap.size) 0; (try simp [go_sem] at vwa00); have uwa01 := hcc.out (wc.heap.size) 1; (try simp [go_sem] at uwa01); have vwa01 := hff.out (wc.heap.size) 1; (try simp [go_sem] at vwa01); (try have gwa0a : ¬ wc.heap.size = wa.heap.size := by omega); (try have gwa0b : ¬ wa.heap.size = wc.heap.size := by omega); (try have lwa0 : wc.heap.size < wa.heap.size := by omega); (try have gewa1 : ¬ b6 = wa.heap.size := by omega); (try have gfwa1 : ¬ wa.heap.size = b6 := by omega); (try have gewa2 : ¬ b7 = wa.heap.size := by omega); (try have gfwa2 : ¬ wa.heap.size = b7 := by omega); (try have gewa3 : ¬ b8 = wa.heap.size := by omega); (try have gfwa3 : ¬ wa.heap.size = b8 := by omega); (try have gewa4 : ¬ w.heap.size = wa.heap.size := by omega); (try have gfwa4 : ¬ wa.heap.size = w.heap.size := by omega)) | (go_at_call 203; refine Calls.mono (cO1 _ _ _ ?_ ?_ ?_ ?_) ?_; (first | omega | (simp; omega)); (first | omega | (simp; omega)); (first | assumption | (rw [World.cell?_alloc_some _ _ _ (by rw [q1]; rfl)]; assumption)); (first | assumption | (rw [World.cell?_alloc_some _ _ _ (by rw [q2]; rfl)]; assumption)); rintro e wb ⟨rfl, hb⟩; have hcc := Lib.hid (fun b o (h : b < _) => hb.cell (p := ⟨b, o, none⟩) h); have hff := Lib.hid (fun b o (h : b < _) => hb.frozen (p := ⟨b, o, none⟩) h); have hszwb := hb.size; (try simp at hszwb); have kwb0 : wb.cell? ⟨b7, 1, none⟩ = some (.int .i64 s2) := (hcc.out _ _ (by first | omega | (simp; done) | (simp; omega))).trans (by first | (simp [go_sem, *]; done) | (go_keep; done)); have kwb1 : wb.cell? ⟨b8, 0, none⟩ = some (.int .i64 m1) := (hcc.out _ _ (by first | omega | (simp; done) | (simp; omega))).trans (by first | (simp [go_sem, *]; done) | (go_keep; done)); have kwb2 : wb.cell? ⟨w.heap.size, 0, none⟩ = some (.int .i64 x0) := (hcc.out _ _ (by first | omega | (simp; done) | (simp; omega))).trans (by first | (simp [go_sem, *]; done) | (go_keep; done)); have kwb3 : wb.cell? ⟨b6, 0, none⟩ = some (.int .i64 p) := (hcc.out _ _ (by first | omega | (simp; done) | (simp; omega))).trans (by first | (simp [go_sem, *]; done) | (go_keep; done)); have kwb4 : wb.cell? ⟨b6, 1, none⟩ = some (.int .i64 q) := (hcc.out _ _ (by first | omega | (simp; done) | (simp; omega))).trans (by first | (simp [go_sem, *]; done) | (go_keep; done)); have zwb0 : b6 < wb.heap.size := (by first | omega | (simp at hszwb; omega)); have zwb1 : b7 < wb.heap.size := (by first | omega | (simp at hszwb; omega)); have zwb2 : b8 < wb.heap.size := (by first | omega | (simp at hszwb; omega)); have zwb3 : w.heap.size < wb.heap.size := (by first | omega | (simp at hszwb; omega)); have uwb00 := hcc.out (wc.heap.size) 0; (try simp [go_sem] at uwb00); have vwb00 := hff.out (wc.heap.size) 0; (try simp [go_sem] at vwb00); have uwb01 := hcc.out (wc.heap.size) 1; (try simp [go_sem] at uwb01); have vwb01 := hff.out (wc.heap.size) 1; (try simp [go_sem] at vwb01); (try have gwb0a : ¬ wc.heap.size = wb.heap.size := by omega); (try have gwb0b : ¬ wb.heap.size = wc.heap.size := by omega); (try have lwb0 : wc.heap.size < wb.heap.size := by omega); have uwb10 := hcc.out (wa.heap.size) 0; (try simp [go_sem] at uwb10); have vwb10 := hff.out (wa.heap.size) 0; (try simp [go_sem] at vwb10); have uwb11 := hcc.out (wa.heap.size) 1; (try simp [go_sem] at uwb11); have vwb11 := hff.out (wa.heap.size) 1; (try simp [go_sem] at vwb11); (try have gwb1a : ¬ wa.heap.size = wb.heap.size := by omega); (try have gwb1b : ¬ wb.heap.size = wa.heap.size := by omega); (try have lwb1 : wa.heap.size < wb.heap.size := by omega); (try have gewb1 : ¬ b6 = wb.heap.size := by omega); (try have gfwb1 : ¬ wb.heap.size = b6 := by omega); (try have gewb2 : ¬ b7 = wb.heap.size := by omega); (try have gfwb2 : ¬ wb.heap.size = b7 := by omega); (try have gewb3 : ¬ b8 = wb.heap.size := by omega); (try have gfwb3 : ¬ wb.heap.size = b8 := by omega); (try have gewb4 : ¬ w.heap.size = wb.heap.size := by omega); (try have gfwb4 : ¬ wb.heap.size = w.heap.size := by omega)))
            all_goals
              go_wp2_with fail
              go_meet
              case rel => exact ⟨_, rfl, by first | omega | (simp; done) | (simp; omega), by simp [go_sem, *], by simp [go_sem, *], (PV.out _ (by repeat (first | exact Below.refl _ _ | refine Below.drew ?_ | refine Below.setCell ?_ (by first | omega | (simp; done) | (simp; omega)) _ | refine Below.alloc ?_ (by first | omega | (simp; done) | (simp; omega)) _ | refine chainB (by assumption) ?_))).1, (PV.out _ (by repeat (first | exact Below.refl _ _ | refine Below.drew ?_ | refine Below.setCell ?_ (by first | omega | (simp; done) | (simp; omega)) _ | refine Below.alloc ?_ (by first | omega | (simp; done) | (simp; omega)) _ | refine chainB (by assumption) ?_))).2.1, (PV.out _ (by repeat (first | exact Below.refl _ _ | refine Below.drew ?_ | refine Below.setCell ?_ (by first | omega | (simp; done) | (simp; omega)) _ | refine Below.alloc ?_ (by first | omega | (simp; done) | (simp; omega)) _ | refine chainB (by assumption) ?_))).2.2.1, (PV.out _ (by repeat (first | exact Below.refl _ _ | refine Below.drew ?_ | refine Below.setCell ?_ (by first | omega | (simp; done) | (simp; omega)) _ | refine Below.alloc ?_ (by first | omega | (simp; done) | (simp; omega)) _ | refine chainB (by assumption) ?_))).2.2.2.1, (PV.out _ (by repeat (first | exact Below.refl _ _ | refine Below.drew ?_ | refine Below.setCell ?_ (by first | omega | (simp; done) | (simp; omega)) _ | refine Below.alloc ?_ (by first | omega | (simp; done) | (simp; omega)) _ | refine chainB (by assumption) ?_))).2.2.2.2.1, (PV.out _ (by repeat (first | exact Below.refl _ _ | refine Below.drew ?_ | refine Below.setCell ?_ (by first | omega | (simp; done) | (simp; omega)) _ | refine Below.alloc ?_ (by first | omega | (simp; done) | (simp; omega)) _ | refine chainB (by assumption) ?_))).2.2.2.2.2.1, HM.out _ (by repeat (first | exact Below.refl _ _ | refine Below.drew ?_ | refine Below.setCell ?_ (by first | omega | (simp; done) | (simp; omega)) _ | refine Below.alloc ?_ (by first | omega | (simp; done) | (simp; omega)) _ | refine chainB (by assumption) ?_)), by first | omega | (simp; done) | (simp; omega)⟩
          case rest => as_aux_lemma =>
            obtain ⟨b9, rfl, z9, k90, k91, z7, z8, k70, k71, k80, k81, hM, l9⟩ := hcut
            clear cV1 cO1
            go_upto_region 6 with fail
            go_cut [10] from 11 (fun s10 wn => ∃ b10, s10 = Value.pointer (some ⟨b10, 0, none⟩) ∧ b10 < wn.heap.size ∧ wn.cell? ⟨b10, 0, none⟩ = some (.int .i64 r1) ∧ wn.cell? ⟨b10, 1, none⟩ = some (.int .i64 r2) ∧ b9 < wn.heap.size ∧ wn.cell? ⟨b9, 0, none⟩ = some (.int .i64 o1) ∧ wn.cell? ⟨b9, 1, none⟩ = some (.int .i64 o2) ∧ Mid w wn B x0 v free zs cs k L vo vr ∧ w.heap.size < b10)
            case first => as_aux_lemma =>
              have zBc : B < wc.heap.size := by have := hM.zB; have := hM.sz; omega
              have kl := hM.cl
              have kx := hM.bx
              have zB := hM.zB
              have zz := hM.sz
              have zx : w.heap.size < wc.heap.size := by omega
              have HM := Lib.hid (fun (W : World) (hb : Below wc.heap.size wc W) => hM.at hb)
              have PV := Lib.hid (fun (W : World) (hb : Below wc.heap.size wc W) => (⟨Nat.lt_of_lt_of_le z9 hb.size, (hb.cell (p := ⟨b9, 0, none⟩) z9).trans k90, (hb.cell (p := ⟨b9, 1, none⟩) z9).trans k91, trivial⟩ : b9 < W.heap.size ∧ W.cell? ⟨b9, 0, none⟩ = some (.int .i64 o1) ∧ W.cell? ⟨b9, 1, none⟩ = some (.int .i64 o2) ∧ True))
              clear hM
              have gg0 : ¬ B = wc.heap.size := by omega
              have gh0 : ¬ wc.heap.size = B := by omega
              have gg2 : ¬ b7 = wc.heap.size := by omega
              have gh2 : ¬ wc.heap.size = b7 := by omega
              have gg3 : ¬ b8 = wc.heap.size := by omega
              have gh3 : ¬ wc.heap.size = b8 := by omega
              have gg4 : ¬ w.heap.size = wc.heap.size := by omega
              have gh4 : ¬ wc.heap.size = w.heap.size := by omega
              go_region_held3 (fun w' => w'.cell? ⟨b8, 1, none⟩ = some (.int .i64 m2) ∧ w'.cell? ⟨b7, 0, none⟩ = some (.int .i64 s1) ∧ w'.cell? ⟨w.heap.size, 0, none⟩ = some (.int .i64 x0) ∧ w'.cell? ⟨B, 1, none⟩ = some (.int .i64 v)) ((first | (simp [go_sem, *]; done) | (refine ⟨?_, ?_, ?_, ?_⟩ <;> (rw [hcc.out _ _ (by first | omega | (simp; done) | (simp; omega))]; simp [go_sem, *]))))
                (first | (go_at_call 202; refine Calls.mono (cV2 _) ?_; rintro e wa ⟨rfl, q1, q2, q3, hb⟩; have hcc := Lib.hid (fun b o (h : b < _) => hb.cell (p := ⟨b, o, none⟩) h); have hff := Lib.hid (fun b o (h : b < _) => hb.frozen (p := ⟨b, o, none⟩) h); have hszwa := hb.size; (try simp at hszwa); (try simp only [World.size_alloc, World.size_drew] at q1); (try simp only [World.size_alloc, World.size_drew] at q2); (try simp only [World.size_alloc, World.size_drew] at q3); (try have qz1 : wc.heap.size + 1 < wa.heap.size := by omega); (try have qz2 : wc.heap.size + 2 < wa.heap.size := by omega); (try have qz3 : wc.heap.size + 1 + 1 < wa.heap.size := by omega); have kwa0 : wa.cell? ⟨b8, 1, none⟩ = some (.int .i64 m2) := (hcc.out _ _ (by first | omega | (simp; done) | (simp; omega))).trans (by first | (simp [go_sem, *]; done) | (go_keep; done)); have kwa1 : wa.cell? ⟨b7, 0, none⟩ = some (.int .i64 s1) := (hcc.out _ _ (by first | omega | (simp; done) | (simp; omega))).trans (by first | (simp [go_sem, *]; done) | (go_keep; done)); have kwa2 : wa.cell? ⟨w.heap.size, 0, none⟩ = some (.int .i64 x0) := (hcc.out _ _ (by first | omega | (simp; done) | (simp; omega))).trans (by first | (simp [go_sem, *]; done) | (go_keep; done)); have kwa3 : wa.cell? ⟨B, 1, none⟩ = some (.int .i64 v) := (hcc.out _ _ (by first | omega | (simp; done) | (simp; omega))).trans (by first | (simp [go_sem, *]; done) | (go_keep; done)); have zwa0 : B < wa.heap.size := (by first | omega | (simp at hszwa; omega)); have zwa1 : b7 < wa.heap.size := (by first | omega | (simp at hszwa; omega)); have zwa2 : b8 < wa.heap.size := (by first | omega | (simp at hszwa; omega)); have zwa3 : w.heap.size < wa.heap.size := (by first | omega | (simp at hszwa; omega)); have uwa00 := hcc.out (wc.heap.size) 0; (try simp [go_sem] at uwa00); have vwa00 := hff.out (wc.heap.size) 0; (try simp [go_sem] at vwa00); have uwa01 := hcc.out (wc.heap.size) 1; (try simp [go_sem] at uwa01); have vwa01 := hff.out (wc.heap.size) 1; (try simp [go_sem] at vwa01); (try have gwa0a : ¬ wc.heap.size = wa.heap.size := by omega); (try have gwa0b : ¬ wa.heap.size = wc.heap.size := by omega); (try have lwa0 : wc.heap.size < wa.heap.size := by omega); (try have gewa0 : ¬ B = wa.heap.size := by omega); (try have gfwa0 : ¬ wa.heap.size = B := by omega); (try have gewa2 : ¬ b7 = wa.heap.size := by omega); (try have gfwa2 : ¬ wa.heap.size = b7 := by omega); (try have gewa3 : ¬ b8 = wa.heap.size := by omega); (try have gfwa3 : ¬ wa.heap.size = b8 := by omega); (try have gewa4 : ¬ w.heap.size = wa.heap.size := by omega); (try have gfwa4 : ¬ wa.heap.size = w.heap.size := by omega)) | (go_at_call 203; refine Calls.mono (cO2 _ _ _ ?_ ?_ ?_ ?_) ?_; (first | omega | (simp; omega)); (first | omega | (simp; omega)); (first | assumption | (rw [World.cell?_alloc_some _ _ _ (by rw [q1]; rfl)]; assumption)); (first | assumption | (rw [World.cell?_alloc_some _ _ _ (by rw [q2]; rfl)]; assumption)); rintro e wb ⟨rfl, hb⟩; have hcc := Lib.hid (fun b o (h : b < _) => hb.cell (p := ⟨b, o, none⟩) h); have hff := Lib.hid (fun b o (h : b < _) => hb.frozen (p := ⟨b, o, none⟩) h); have hszwb := hb.size; (try simp at hszwb); have kwb0 : wb.cell? ⟨b8, 1, none⟩ = some (.int .i64 m2) := (hcc.out _ _ (by first | omega | (simp; done) | (simp; omega))).trans (by first | (simp [go_sem, *]; done) | (go_keep; done)); have kwb1 : wb.cell? ⟨b7, 0, none⟩ = some (.int .i64 s1) := (hcc.out _ _ (by first | omega | (simp; done) | (simp; omega))).trans (by first | (simp [go_sem, *]; done) | (go_keep; done)); have kwb2 : wb.cell? ⟨w.heap.size, 0, none⟩ = some (.int .i64 x0) := (hcc.out _ _ (by first | omega | (simp; done) | (simp; omega))).trans (by first | (simp [go_sem, *]; done) | (go_keep; done)); have kwb3 : wb.cell? ⟨B, 1, none⟩ = some (.int .i64 v) := (hcc.out _ _ (by first | omega | (simp; done) | (simp; omega))).trans (by first | (simp [go_sem, *]; done) | (go_keep; done)); have zwb0 : B < wb.heap.size := (by first | omega | (simp at hszwb; omega)); have zwb1 : b7 < wb.heap.size := (by first | omega | (simp at hszwb; omega)); have zwb2 : b8 < wb.heap.size := (by first | omega | (simp at hszwb; omega)); have zwb3 : w.heap.size < wb.heap.size := (by first | omega | (simp at hszwb; omega)); have uwb00 := hcc.out (wc.heap.size) 0; (try simp [go_sem] at uwb00); have vwb00 := hff.out (wc.heap.size) 0; (try simp [go_sem] at vwb00); have uwb01 := hcc.out (wc.heap.size) 1; (try simp [go_sem] at uwb01); have vwb01 := hff.out (wc.heap.size) 1; (try simp [go_sem] at vwb01); (try have gwb0a : ¬ wc.heap.size = wb.heap.size := by omega); (try have gwb0b : ¬ wb.heap.size = wc.heap.size := by omega); (try have lwb0 : wc.heap.size < wb.heap.size := by omega); have uwb10 := hcc.out (wa.heap.size) 0; (try simp [go_sem] at uwb10); have vwb10 := hff.out (wa.heap.size) 0; (try simp [go_sem] at vwb10); have uwb11 := hcc.out (wa.heap.size) 1; (try simp [go_sem] at uwb11); have vwb11 := hff.out (wa.heap.size) 1; (try simp [go_sem] at vwb11); (try have gwb1a : ¬ wa.heap.size = wb.heap.size := by omega); (try have gwb1b : ¬ wb.heap.size = wa.heap.size := by omega); (try have lwb1 : wa.heap.size < wb.heap.size := by omega); (try have gewb0 : ¬ B = wb.heap.size := by omega); (try have gfwb0 : ¬ wb.heap.size = B := by omega); (try have gewb2 : ¬ b7 = wb.heap.size := by omega); (try have gfwb2 : ¬ wb.heap.size = b7 := by omega); (try have gewb3 : ¬ b8 = wb.heap.size := by omega); (try have gfwb3 : ¬ wb.heap.size = b8 := by omega); (try have gewb4 : ¬ w.heap.size = wb.heap.size := by omega); (try have gfwb4 : ¬ wb.heap.size = w.heap.size := by omega)))
              all_goals
                go_wp2_with fail
                go_meet
                case rel => exact ⟨_, rfl, by first | omega | (simp; done) | (simp; omega), by simp [go_sem, *], by simp [go_sem, *], (PV.out _ (by repeat (first | exact Below.refl _ _ | refine Below.drew ?_ | refine Below.setCell ?_ (by first | omega | (simp; done) | (simp; omega)) _ | refine Below.alloc ?_ (by first | omega | (simp; done) | (simp; omega)) _ | refine chainB (by assumption) ?_))).1, (PV.out _ (by repeat (first | exact Below.refl _ _ | refine Below.drew ?_ | refine Below.setCell ?_ (by first | omega | (simp; done) | (simp; omega)) _ | refine Below.alloc ?_ (by first | omega | (simp; done) | (simp; omega)) _ | refine chainB (by assumption) ?_))).2.1, (PV.out _ (by repeat (first | exact Below.refl _ _ | refine Below.drew ?_ | refine Below.setCell ?_ (by first | omega | (simp; done) | (simp; omega)) _ | refine Below.alloc ?_ (by first | omega | (simp; done) | (simp; omega)) _ | refine chainB (by assumption) ?_))).2.2.1, HM.out _ (by repeat (first | exact Below.refl _ _ | refine Below.drew ?_ | refine Below.setCell ?_ (by first | omega | (simp; done) | (simp; omega)) _ | refine Below.alloc ?_ (by first | omega | (simp; done) | (simp; omega)) _ | refine chainB (by assumption) ?_)), by first | omega | (simp; done) | (simp; omega)⟩
            case rest => as_aux_lemma =>
              obtain ⟨b10, rfl, z10, k100, k101, z9, k90, k91, hM, l10⟩ := hcut
              clear cV2 cO2 W1 W2 W3 hx0p hx0q hx0v
              go_upto_region 7 with fail
              go_cut [10] from 11 (fun s10 wn => s10 = Value.pointer (some ⟨b10, 0, none⟩) ∧ b9 < wn.heap.size ∧ b10 < wn.heap.size ∧ wn.cell? ⟨b9, 0, none⟩ = some (.int .i64 o1) ∧ wn.cell? ⟨b9, 1, none⟩ = some (.int .i64 o2) ∧ wn.cell? ⟨b10, 0, none⟩ = some (.int .i64 r1) ∧ wn.cell? ⟨b10, 1, none⟩ = some (.int .i64 r2) ∧ Mid w wn B x0 v free zs cs k L' vo vr)
              case first => as_aux_lemma =>
                have zBc : B < wc.heap.size := by have := hM.zB; have := hM.sz; omega
                have c5 := hM.sh.c5
                have f5 := hM.sh.f5
                have kx := hM.bx
                have zB := hM.zB
                have d1 : ¬ B = b9 := by omega
                have d2 : ¬ b9 = B := by omega
                have d3 : ¬ B = b10 := by omega
                have d4 : ¬ b10 = B := by omega
                have d5 : ¬ B = w.heap.size := by omega
                have d6 : ¬ w.heap.size = B := by omega
                have HM := Lib.hid hM
                clear hM
                go_region
                go_wp2_with fail
                go_meet
                case rel => exact ⟨rfl, by simpa using z9, by simpa using z10, by simp [go_sem, *], by simp [go_sem, *], by simp [go_sem, *], by simp [go_sem, *], by rw [← HL.out]; first | exact (HM.out.len _).at ((Below.refl _ _).drew) | exact (HM.out.at ((Below.refl _ _).drew)).len _⟩
              case rest => as_aux_lemma =>
                obtain ⟨rfl, z9, z10, k90, k91, k100, k101, hM⟩ := hcut
                clear WL HL
                obtain ⟨i0, hi0, hz0, hz1, hz2⟩ := info_parts infoSp
                go_upto_region 8 with fail
                go_cut [10] from 11 (fun s10 wn => s10 = Value.pointer (some ⟨b10, 0, none⟩) ∧ b10 < wn.heap.size ∧ wn.cell? ⟨b10, 0, none⟩ = some (.int .i64 r1) ∧ wn.cell? ⟨b10, 1, none⟩ = some (.int .i64 r2) ∧ wn.cell? ⟨w.heap.size, 0, none⟩ = some (.int .i64 x0) ∧ w.heap.size < wn.heap.size ∧ Below B w wn ∧ ∃ vo', ShapeAt wn B free zs cs (k + 1) L' vo' vr (k + 1) k)
                case first => as_aux_lemma =>
                  have zBc : B < wc.heap.size := by have := hM.zB; have := hM.sz; omega
                  have kx := hM.bx
                  have zB := hM.zB
                  have zz := hM.sz
                  have c6 := hM.sh.c6
                  have HM := Lib.hid (fun (W : World) (hb : Below wc.heap.size wc W) => hM.at hb)
                  have NO := Lib.hid (fun j (hj : vo.ownBlock = some j) => NV j hj)
                  have EX := Lib.hid (fun (W : World) (hb : Below wc.heap.size wc W) => (⟨(hb.cell (p := ⟨b10, 0, none⟩) z10).trans k100, (hb.cell (p := ⟨b10, 1, none⟩) z10).trans k101⟩ : W.cell? ⟨b10, 0, none⟩ = some (.int .i64 r1) ∧ W.cell? ⟨b10, 1, none⟩ = some (.int .i64 r2)))
                  have zx : w.heap.size < wc.heap.size := by omega
                  have e0 := k90
                  have e1 := k91
                  have zb := z9
                  clear hM k90 k91 k100 k101
                  refine wp_region_held_drew (S := fun w' => w'.cell? ⟨b9, 0, none⟩ = some (.int .i64 o1) ∧ w'.cell? ⟨b9, 1, none⟩ = some (.int .i64 o2) ∧ w'.cell? ⟨w.heap.size, 0, none⟩ = some (.int .i64 x0)) (by kernel_rfl) ⟨by simpa [go_sem] using e0, by simpa [go_sem] using e1, by simpa [go_sem] using kx⟩ (fun hHeld => ?_)
                  refine wpAnyH_take (i := 0) (oi := _) (v := Value.pointer (some ⟨B, 0, none⟩)) rfl (by kernel_rfl) (by kernel_rfl) (by kernel_rfl) (fun _ _ _ h => h) (Or.inl ⟨by rfl, fun w' hSw => ?_⟩) hHeld ?_
                  · obtain ⟨s0, s1, s2⟩ := hSw
                    go_simp
                    try (intro hh; exfalso; omega)
                    try omega
                  try simp only [Act.put, List.setIfInBounds_toArray, List.set_cons_zero, List.set_cons_succ, List.getElem_toArray, List.getElem_cons_succ, List.getElem_cons_zero]
                  refine wpAnyH_take (i := 1) (oi := _) (v := Value.pointer (some ⟨B, 0, none⟩)) rfl (by kernel_rfl) (by kernel_rfl) (by kernel_rfl) (fun _ _ _ h => h) (Or.inl ⟨by rfl, fun w' hSw => ?_⟩) hHeld ?_
                  · obtain ⟨s0, s1, s2⟩ := hSw
                    go_simp
                    try (intro hh; exfalso; omega)
                    try omega
                  try simp only [Act.put, List.setIfInBounds_toArray, List.set_cons_zero, List.set_cons_succ, List.getElem_toArray, List.getElem_cons_succ, List.getElem_cons_zero]
                  refine wpAnyH_take (i := 2) (oi := _) (v := Value.pointer (some ⟨B, 0, none⟩)) rfl (by kernel_rfl) (by kernel_rfl) (by kernel_rfl) (fun _ _ _ h => h) (Or.inl ⟨by rfl, fun w' hSw => ?_⟩) hHeld ?_
                  · obtain ⟨s0, s1, s2⟩ := hSw
                    go_simp
                    try (intro hh; exfalso; omega)
                    try omega
                  try simp only [Act.put, List.setIfInBounds_toArray, List.set_cons_zero, List.set_cons_succ, List.getElem_toArray, List.getElem_cons_succ, List.getElem_cons_zero]
                  refine wpAnyH_take (i := 3) (oi := _) (v := Value.pointer (some ⟨B, 6, none⟩)) rfl (by kernel_rfl) (by kernel_rfl) (by kernel_rfl) (fun _ _ _ h => h) (Or.inl ⟨by rfl, fun w' hSw => ?_⟩) hHeld ?_
                  · obtain ⟨s0, s1, s2⟩ := hSw
                    go_simp
                    try (intro hh; exfalso; omega)
                    try omega
                  try simp only [Act.put, List.setIfInBounds_toArray, List.set_cons_zero, List.set_cons_succ, List.getElem_toArray, List.getElem_cons_succ, List.getElem_cons_zero]
                  refine wpAnyH_take (i := 5) (oi := _) (v := Value.agg #[.int .i64 o1, .int .i64 o2]) rfl (by kernel_rfl) (by kernel_rfl) (by kernel_rfl) (fun _ _ _ h => h) (Or.inl ⟨by rfl, fun w' hSw => ?_⟩) hHeld ?_
                  · obtain ⟨s0, s1, s2⟩ := hSw
                    go_simp
                    try (intro hh; exfalso; omega)
                    try omega
                  try simp only [Act.put, List.setIfInBounds_toArray, List.set_cons_zero, List.set_cons_succ, List.getElem_toArray, List.getElem_cons_succ, List.getElem_cons_zero]
                  refine wpAnyH_take (i := 6) (oi := _) (v := Value.pointer (some ⟨w.heap.size, 0, none⟩)) rfl (by kernel_rfl) (by kernel_rfl) (by kernel_rfl) (fun _ _ _ h => h) (Or.inl ⟨by rfl, fun w' hSw => ?_⟩) hHeld ?_
                  · obtain ⟨s0, s1, s2⟩ := hSw
                    go_simp
                    try (intro hh; exfalso; omega)
                    try omega
                  try simp only [Act.put, List.setIfInBounds_toArray, List.set_cons_zero, List.set_cons_succ, List.getElem_toArray, List.getElem_cons_succ, List.getElem_cons_zero]
                  refine wpAnyH_take (i := 7) (oi := _) (v := Value.int .i64 x0) rfl (by kernel_rfl) (by kernel_rfl) (by kernel_rfl) (fun _ _ _ h => h) (Or.inl ⟨by rfl, fun w' hSw => ?_⟩) hHeld ?_
                  · obtain ⟨s0, s1, s2⟩ := hSw
                    go_simp
                    try (intro hh; exfalso; omega)
                    try omega
                  try simp only [Act.put, List.setIfInBounds_toArray, List.set_cons_zero, List.set_cons_succ, List.getElem_toArray, List.getElem_cons_succ, List.getElem_cons_zero]
                  refine wpAnyH_ready (rs := [4, 8]) (by kernel_rfl) (by simp) ?_
                  refine AllReadyH.cons (o := _) rfl (fun K hK => ?_) (AllReadyH.cons (o := _) rfl (fun K hK => ?_) (AllReadyH.nil))
                  · go_simp
                    clear hHeld
                    refine hK.out _ _ ⟨by simpa [go_sem] using e0, by simpa [go_sem] using e1, by simpa [go_sem] using kx⟩ (fun hHeld => ?_)
                    clear hK K
                    try simp only [Act.put, List.setIfInBounds_toArray, List.set_cons_zero, List.set_cons_succ, List.getElem_toArray, List.getElem_cons_succ, List.getElem_cons_zero]
                    refine wpAnyH_ready (rs := [8]) (by kernel_rfl) (by simp) ?_
                    refine AllReadyH.cons (o := _) rfl (fun K hK => ?_) (AllReadyH.nil)
                    go_simp
                    go_at_call 204
                    refine Calls.mono (cM1 _) ?_
                    rintro e wa ⟨rfl, hb⟩
                    have hcc := Lib.hid (fun b o (h : b < _) => hb.cell (p := ⟨b, o, none⟩) h)
                    have hza := hb.size
                    simp only [World.size_drew] at hza
                    have ea0 := (hcc.out b9 0 (by simpa [go_sem] using zb)).trans (show _ = some (.int .i64 o1) by simpa [go_sem] using e0)
                    have ea1 := (hcc.out b9 1 (by simpa [go_sem] using zb)).trans (show _ = some (.int .i64 o2) by simpa [go_sem] using e1)
                    have eax := (hcc.out w.heap.size 0 (by simpa [go_sem] using zx)).trans (show _ = some (.int .i64 x0) by simpa [go_sem] using kx)
                    have eas := (hcc.out B 6 (by simpa [go_sem] using zBc)).trans (show _ = some vo by simpa [go_sem] using c6)
                    have sh := HM.out wa (Below.trans (Below.drew (Below.refl _ _)) hb)
                    have HX := EX.out wa (Below.trans (Below.drew (Below.refl _ _)) hb)
                    clear hb hcc
                    have zba : b9 < wa.heap.size := by omega
                    have zxa : w.heap.size < wa.heap.size := by omega
                    have zBa : B < wa.heap.size := by omega
                    clear hHeld
                    refine hK.out _ _ ⟨ea0, ea1, eax⟩ (fun hHeld => ?_)
                    clear hK K
                    try simp only [Act.put, List.setIfInBounds_toArray, List.set_cons_zero, List.set_cons_succ, List.getElem_toArray, List.getElem_cons_succ, List.getElem_cons_zero]
                    refine wpAnyH_ready (rs := [9]) (by kernel_rfl) (by simp) ?_
                    refine AllReadyH.cons (o := _) rfl (fun K hK => ?_) (AllReadyH.nil)
                    go_simp
                    clear hHeld
                    refine hK.out _ _ ⟨by simp [go_sem, *], by simp [go_sem, *], by simp [go_sem, *]⟩ (fun hHeld => ?_)
                    clear hK K
                    try simp only [Act.put, List.setIfInBounds_toArray, List.set_cons_zero, List.set_cons_succ, List.getElem_toArray, List.getElem_cons_succ, List.getElem_cons_zero]
                    refine wpAnyH_ready (rs := [10]) (by kernel_rfl) (by simp) ?_
                    refine AllReadyH.cons (o := _) rfl (fun K hK => ?_) (AllReadyH.nil)
                    refine step_append_lies _ rfl (.tmp 90) (.tmp 95) 36 rfl (B + 1) 23 i0 (.agg #[.int .i64 0, .int .i64 0]) 2 16 Try.underlying36 hi0 hz0 hz1 hz2 rfl (by decide) vo k _ (by simp [Act.eval, Act.put]) (sh.sh.ro.alloc _) ⟨wa.heap.size, 0, none⟩ 1 1 [.int .i64 o1, .int .i64 o3] (by simp [Act.eval, Act.put]) rfl (two_new _ _ _) (by simp [Value.oneCell']) (by decide) (by unfold maxLen; omega) (by omega) (by simp; omega) _ rfl ?_
                    intro g cap w3 hown hgrow hat hlt
                    have en : ∀ q, q < wa.heap.size → B ≤ q → q ≠ B → (∀ j, vo.ownBlock = some j → j ≠ q) → w3.heap[q]? = wa.heap[q]? := fun q h1 _ h3 h4 => (hgrow.block q (by simp; omega) (fun e => h4 q e.symm rfl)).trans (Below.heap_alloc _ _ _ h1)
                    have hb1 : w3.heap[b9]? = wa.heap[b9]? := en _ zba (by omega) (by omega) (fun j hj => by have := NO.out j hj; omega)
                    have hb2 : w3.heap[w.heap.size]? = wa.heap[w.heap.size]? := en _ zxa (by omega) (by omega) (fun j hj => by have := NO.out j hj; omega)
                    have hb3 : w3.heap[B]? = wa.heap[B]? := (hgrow.block B (by simp; omega) (fun e => by have := (sh.sh.ro.lt B e.symm).1; omega)).trans (Below.heap_alloc _ _ _ zBa)
                    have ew0 : w3.cell? ⟨b9, 0, none⟩ = some (.int .i64 o1) := by rw [← ea0]; simp only [World.cell?, hb1]
                    have ew1 : w3.cell? ⟨b9, 1, none⟩ = some (.int .i64 o2) := by rw [← ea1]; simp only [World.cell?, hb1]
                    have ewx : w3.cell? ⟨w.heap.size, 0, none⟩ = some (.int .i64 x0) := by rw [← eax]; simp only [World.cell?, hb2]
                    have ews : w3.cell? ⟨B, 6, none⟩ = some vo := by rw [← eas]; simp only [World.cell?, hb3]
                    have ewf : w3.frozen? ⟨B, 6, none⟩ = false := by rw [← show wa.frozen? ⟨B, 6, none⟩ = false from sh.sh.f6]; simp only [World.frozen?, hb3]
                    clear hHeld
                    refine hK.out _ _ ⟨ew0, ew1, ewx⟩ (fun hHeld => ?_)
                    clear hK K
                    try simp only [Act.put, List.setIfInBounds_toArray, List.set_cons_zero, List.set_cons_succ, List.getElem_toArray, List.getElem_cons_succ, List.getElem_cons_zero]
                    refine wpAnyH_take (i := 11) (oi := _) (v := Value.pointer (some ⟨B, 0, none⟩)) rfl (by kernel_rfl) (by kernel_rfl) (by kernel_rfl) (fun _ _ _ h => h) (Or.inl ⟨by rfl, fun w' hSw => ?_⟩) hHeld ?_
                    · obtain ⟨s0, s1, s2⟩ := hSw
                      go_simp
                      try (intro hh; exfalso; omega)
                      try omega
                    try simp only [Act.put, List.setIfInBounds_toArray, List.set_cons_zero, List.set_cons_succ, List.getElem_toArray, List.getElem_cons_succ, List.getElem_cons_zero]
                    refine wpAnyH_take (i := 12) (oi := _) (v := Value.pointer (some ⟨B, 6, none⟩)) rfl (by kernel_rfl) (by kernel_rfl) (by kernel_rfl) (fun _ _ _ h => h) (Or.inl ⟨by rfl, fun w' hSw => ?_⟩) hHeld ?_
                    · obtain ⟨s0, s1, s2⟩ := hSw
                      go_simp
                      try (intro hh; exfalso; omega)
                      try omega
                    try simp only [Act.put, List.setIfInBounds_toArray, List.set_cons_zero, List.set_cons_succ, List.getElem_toArray, List.getElem_cons_succ, List.getElem_cons_zero]
                    refine wpAnyH_ready (rs := [13]) (by kernel_rfl) (by simp) ?_
                    refine AllReadyH.cons (o := _) rfl (fun K hK => ?_) (AllReadyH.nil)
                    go_simp
                    clear hHeld
                    refine hK.out _ _ ⟨by simp [go_sem, *], by simp [go_sem, *], by simp [go_sem, *]⟩ (fun hHeld => ?_)
                    clear hK K
                    try simp only [Act.put, List.setIfInBounds_toArray, List.set_cons_zero, List.set_cons_succ, List.getElem_toArray, List.getElem_cons_succ, List.getElem_cons_zero]
                    refine wpAnyH_done (by kernel_rfl) ?_ _
                    clear hHeld
                    go_wp2_with fail
                    have hz3 := hgrow.size
                    simp only [World.size_alloc] at hz3
                    have hb4 : w3.heap[b10]? = wa.heap[b10]? := en _ (by omega) (by omega) (by omega) (fun j hj => by have := NO.out j hj; omega)
                    have et0 : w3.cell? ⟨b10, 0, none⟩ = some (.int .i64 r1) := by rw [← HX.1]; simp only [World.cell?, hb4]
                    have et1 : w3.cell? ⟨b10, 1, none⟩ = some (.int .i64 r2) := by rw [← HX.2]; simp only [World.cell?, hb4]
                    have hbl : Below B w w3 := (sh.bel.alloc (by omega) _).grown hgrow (by simp; omega) (fun j hj => by have := (sh.sh.ro.lt j hj).1; omega)
                    have hsf := ShapeAt.offs (sh.sh.at ((Below.refl _ _).alloc (Nat.le_refl _) _)) (by rw [HTo.out, flatP_snoc]; exact hown) hgrow hat
                    have d3 : ¬ B = b10 := by omega
                    have d5 : ¬ B = w.heap.size := by omega
                    go_meet
                    case rel => exact ⟨rfl, by simp; omega, by simp [go_sem, *], by simp [go_sem, *], by simp [go_sem, *], by simp; omega, hbl.setCell (Nat.le_refl _) _, _, hsf⟩
                  · go_simp
                    go_at_call 204
                    refine Calls.mono (cM1 _) ?_
                    rintro e wa ⟨rfl, hb⟩
                    have hcc := Lib.hid (fun b o (h : b < _) => hb.cell (p := ⟨b, o, none⟩) h)
                    have hza := hb.size
                    simp only [World.size_drew] at hza
                    have ea0 := (hcc.out b9 0 (by simpa [go_sem] using zb)).trans (show _ = some (.int .i64 o1) by simpa [go_sem] using e0)
                    have ea1 := (hcc.out b9 1 (by simpa [go_sem] using zb)).trans (show _ = some (.int .i64 o2) by simpa [go_sem] using e1)
                    have eax := (hcc.out w.heap.size 0 (by simpa [go_sem] using zx)).trans (show _ = some (.int .i64 x0) by simpa [go_sem] using kx)
                    have eas := (hcc.out B 6 (by simpa [go_sem] using zBc)).trans (show _ = some vo by simpa [go_sem] using c6)
                    have sh := HM.out wa (Below.trans (Below.drew (Below.refl _ _)) hb)
                    have HX := EX.out wa (Below.trans (Below.drew (Below.refl _ _)) hb)
                    clear hb hcc
                    have zba : b9 < wa.heap.size := by omega
                    have zxa : w.heap.size < wa.heap.size := by omega
                    have zBa : B < wa.heap.size := by omega
                    clear hHeld
                    refine hK.out _ _ ⟨ea0, ea1, eax⟩ (fun hHeld => ?_)
                    clear hK K
                    try simp only [Act.put, List.setIfInBounds_toArray, List.set_cons_zero, List.set_cons_succ, List.getElem_toArray, List.getElem_cons_succ, List.getElem_cons_zero]
                    refine wpAnyH_ready (rs := [4, 9]) (by kernel_rfl) (by simp) ?_
                    refine AllReadyH.cons (o := _) rfl (fun K hK => ?_) (AllReadyH.cons (o := _) rfl (fun K hK => ?_) (AllReadyH.nil))
                    · go_simp
                      clear hHeld
                      refine hK.out _ _ ⟨ea0, ea1, eax⟩ (fun hHeld => ?_)
                      clear hK K
                      try simp only [Act.put, List.setIfInBounds_toArray, List.set_cons_zero, List.set_cons_succ, List.getElem_toArray, List.getElem_cons_succ, List.getElem_cons_zero]
                      refine wpAnyH_ready (rs := [9]) (by kernel_rfl) (by simp) ?_
                      refine AllReadyH.cons (o := _) rfl (fun K hK => ?_) (AllReadyH.nil)
                      go_simp
                      clear hHeld
                      refine hK.out _ _ ⟨by simp [go_sem, *], by simp [go_sem, *], by simp [go_sem, *]⟩ (fun hHeld => ?_)
                      clear hK K
                      try simp only [Act.put, List.setIfInBounds_toArray, List.set_cons_zero, List.set_cons_succ, List.getElem_toArray, List.getElem_cons_succ, List.getElem_cons_zero]
                      refine wpAnyH_ready (rs := [10]) (by kernel_rfl) (by simp) ?_
                      refine AllReadyH.cons (o := _) rfl (fun K hK => ?_) (AllReadyH.nil)
                      refine step_append_lies _ rfl (.tmp 90) (.tmp 95) 36 rfl (B + 1) 23 i0 (.agg #[.int .i64 0, .int .i64 0]) 2 16 Try.underlying36 hi0 hz0 hz1 hz2 rfl (by decide) vo k _ (by simp [Act.eval, Act.put]) (sh.sh.ro.alloc _) ⟨wa.heap.size, 0, none⟩ 1 1 [.int .i64 o1, .int .i64 o3] (by simp [Act.eval, Act.put]) rfl (two_new _ _ _) (by simp [Value.oneCell']) (by decide) (by unfold maxLen; omega) (by omega) (by simp; omega) _ rfl ?_
                      intro g cap w3 hown hgrow hat hlt
                      have en : ∀ q, q < wa.heap.size → B ≤ q → q ≠ B → (∀ j, vo.ownBlock = some j → j ≠ q) → w3.heap[q]? = wa.heap[q]? := fun q h1 _ h3 h4 => (hgrow.block q (by simp; omega) (fun e => h4 q e.symm rfl)).trans (Below.heap_alloc _ _ _ h1)
                      have hb1 : w3.heap[b9]? = wa.heap[b9]? := en _ zba (by omega) (by omega) (fun j hj => by have := NO.out j hj; omega)
                      have hb2 : w3.heap[w.heap.size]? = wa.heap[w.heap.size]? := en _ zxa (by omega) (by omega) (fun j hj => by have := NO.out j hj; omega)
                      have hb3 : w3.heap[B]? = wa.heap[B]? := (hgrow.block B (by simp; omega) (fun e => by have := (sh.sh.ro.lt B e.symm).1; omega)).trans (Below.heap_alloc _ _ _ zBa)
                      have ew0 : w3.cell? ⟨b9, 0, none⟩ = some (.int .i64 o1) := by rw [← ea0]; simp only [World.cell?, hb1]
                      have ew1 : w3.cell? ⟨b9, 1, none⟩ = some (.int .i64 o2) := by rw [← ea1]; simp only [World.cell?, hb1]
                      have ewx : w3.cell? ⟨w.heap.size, 0, none⟩ = some (.int .i64 x0) := by rw [← eax]; simp only [World.cell?, hb2]
                      have ews : w3.cell? ⟨B, 6, none⟩ = some vo := by rw [← eas]; simp only [World.cell?, hb3]
                      have ewf : w3.frozen? ⟨B, 6, none⟩ = false := by rw [← show wa.frozen? ⟨B, 6, none⟩ = false from sh.sh.f6]; simp only [World.frozen?, hb3]
                      clear hHeld
                      refine hK.out _ _ ⟨ew0, ew1, ewx⟩ (fun hHeld => ?_)
                      clear hK K
                      try simp only [Act.put, List.setIfInBounds_toArray, List.set_cons_zero, List.set_cons_succ, List.getElem_toArray, List.getElem_cons_succ, List.getElem_cons_zero]
                      refine wpAnyH_take (i := 11) (oi := _) (v := Value.pointer (some ⟨B, 0, none⟩)) rfl (by kernel_rfl) (by kernel_rfl) (by kernel_rfl) (fun _ _ _ h => h) (Or.inl ⟨by rfl, fun w' hSw => ?_⟩) hHeld ?_
                      · obtain ⟨s0, s1, s2⟩ := hSw
                        go_simp
                        try (intro hh; exfalso; omega)
                        try omega
                      try simp only [Act.put, List.setIfInBounds_toArray, List.set_cons_zero, List.set_cons_succ, List.getElem_toArray, List.getElem_cons_succ, List.getElem_cons_zero]
                      refine wpAnyH_take (i := 12) (oi := _) (v := Value.pointer (some ⟨B, 6, none⟩)) rfl (by kernel_rfl) (by kernel_rfl) (by kernel_rfl) (fun _ _ _ h => h) (Or.inl ⟨by rfl, fun w' hSw => ?_⟩) hHeld ?_
                      · obtain ⟨s0, s1, s2⟩ := hSw
                        go_simp
                        try (intro hh; exfalso; omega)
                        try omega
                      try simp only [Act.put, List.setIfInBounds_toArray, List.set_cons_zero, List.set_cons_succ, List.getElem_toArray, List.getElem_cons_succ, List.getElem_cons_zero]
                      refine wpAnyH_ready (rs := [13]) (by kernel_rfl) (by simp) ?_
                      refine AllReadyH.cons (o := _) rfl (fun K hK => ?_) (AllReadyH.nil)
                      go_simp
                      clear hHeld
                      refine hK.out _ _ ⟨by simp [go_sem, *], by simp [go_sem, *], by simp [go_sem, *]⟩ (fun hHeld => ?_)
                      clear hK K
                      try simp only [Act.put, List.setIfInBounds_toArray, List.set_cons_zero, List.set_cons_succ, List.getElem_toArray, List.getElem_cons_succ, List.getElem_cons_zero]
                      refine wpAnyH_done (by kernel_rfl) ?_ _
                      clear hHeld
                      go_wp2_with fail
                      have hz3 := hgrow.size
                      simp only [World.size_alloc] at hz3
                      have hb4 : w3.heap[b10]? = wa.heap[b10]? := en _ (by omega) (by omega) (by omega) (fun j hj => by have := NO.out j hj; omega)
                      have et0 : w3.cell? ⟨b10, 0, none⟩ = some (.int .i64 r1) := by rw [← HX.1]; simp only [World.cell?, hb4]
                      have et1 : w3.cell? ⟨b10, 1, none⟩ = some (.int .i64 r2) := by rw [← HX.2]; simp only [World.cell?, hb4]
                      have hbl : Below B w w3 := (sh.bel.alloc (by omega) _).grown hgrow (by simp; omega) (fun j hj => by have := (sh.sh.ro.lt j hj).1; omega)
                      have hsf := ShapeAt.offs (sh.sh.at ((Below.refl _ _).alloc (Nat.le_refl _) _)) (by rw [HTo.out, flatP_snoc]; exact hown) hgrow hat
                      have d3 : ¬ B = b10 := by omega
                      have d5 : ¬ B = w.heap.size := by omega
                      go_meet
                      case rel => exact ⟨rfl, by simp; omega, by simp [go_sem, *], by simp [go_sem, *], by simp [go_sem, *], by simp; omega, hbl.setCell (Nat.le_refl _) _, _, hsf⟩
                    · go_simp
                      clear hHeld
                      refine hK.out _ _ ⟨by simp [go_sem, *], by simp [go_sem, *], by simp [go_sem, *]⟩ (fun hHeld => ?_)
                      clear hK K
                      try simp only [Act.put, List.setIfInBounds_toArray, List.set_cons_zero, List.set_cons_succ, List.getElem_toArray, List.getElem_cons_succ, List.getElem_cons_zero]
                      refine wpAnyH_ready (rs := [4]) (by kernel_rfl) (by simp) ?_
                      refine AllReadyH.cons (o := _) rfl (fun K hK => ?_) (AllReadyH.nil)
                      go_simp
                      clear hHeld
                      refine hK.out _ _ ⟨by simp [go_sem, *], by simp [go_sem, *], by simp [go_sem, *]⟩ (fun hHeld => ?_)
                      clear hK K
                      try simp only [Act.put, List.setIfInBounds_toArray, List.set_cons_zero, List.set_cons_succ, List.getElem_toArray, List.getElem_cons_succ, List.getElem_cons_zero]
                      refine wpAnyH_ready (rs := [10]) (by kernel_rfl) (by simp) ?_
                      refine AllReadyH.cons (o := _) rfl (fun K hK => ?_) (AllReadyH.nil)
                      refine step_append_lies _ rfl (.tmp 90) (.tmp 95) 36 rfl (B + 1) 23 i0 (.agg #[.int .i64 0, .int .i64 0]) 2 16 Try.underlying36 hi0 hz0 hz1 hz2 rfl (by decide) vo k _ (by simp [Act.eval, Act.put]) (sh.sh.ro.alloc _) ⟨wa.heap.size, 0, none⟩ 1 1 [.int .i64 o1, .int .i64 o3] (by simp [Act.eval, Act.put]) rfl (two_new _ _ _) (by simp [Value.oneCell']) (by decide) (by unfold maxLen; omega) (by omega) (by simp; omega) _ rfl ?_
                      intro g cap w3 hown hgrow hat hlt
                      have en : ∀ q, q < wa.heap.size → B ≤ q → q ≠ B → (∀ j, vo.ownBlock = some j → j ≠ q) → w3.heap[q]? = wa.heap[q]? := fun q h1 _ h3 h4 => (hgrow.block q (by simp; omega) (fun e => h4 q e.symm rfl)).trans (Below.heap_alloc _ _ _ h1)
                      have hb1 : w3.heap[b9]? = wa.heap[b9]? := en _ zba (by omega) (by omega) (fun j hj => by have := NO.out j hj; omega)
                      have hb2 : w3.heap[w.heap.size]? = wa.heap[w.heap.size]? := en _ zxa (by omega) (by omega) (fun j hj => by have := NO.out j hj; omega)
                      have hb3 : w3.heap[B]? = wa.heap[B]? := (hgrow.block B (by simp; omega) (fun e => by have := (sh.sh.ro.lt B e.symm).1; omega)).trans (Below.heap_alloc _ _ _ zBa)
                      have ew0 : w3.cell? ⟨b9, 0, none⟩ = some (.int .i64 o1) := by rw [← ea0]; simp only [World.cell?, hb1]
                      have ew1 : w3.cell? ⟨b9, 1, none⟩ = some (.int .i64 o2) := by rw [← ea1]; simp only [World.cell?, hb1]
                      have ewx : w3.cell? ⟨w.heap.size, 0, none⟩ = some (.int .i64 x0) := by rw [← eax]; simp only [World.cell?, hb2]
                      have ews : w3.cell? ⟨B, 6, none⟩ = some vo := by rw [← eas]; simp only [World.cell?, hb3]
                      have ewf : w3.frozen? ⟨B, 6, none⟩ = false := by rw [← show wa.frozen? ⟨B, 6, none⟩ = false from sh.sh.f6]; simp only [World.frozen?, hb3]
                      clear hHeld
                      refine hK.out _ _ ⟨ew0, ew1, ewx⟩ (fun hHeld => ?_)
                      clear hK K
                      try simp only [Act.put, List.setIfInBounds_toArray, List.set_cons_zero, List.set_cons_succ, List.getElem_toArray, List.getElem_cons_succ, List.getElem_cons_zero]
                      refine wpAnyH_take (i := 11) (oi := _) (v := Value.pointer (some ⟨B, 0, none⟩)) rfl (by kernel_rfl) (by kernel_rfl) (by kernel_rfl) (fun _ _ _ h => h) (Or.inl ⟨by rfl, fun w' hSw => ?_⟩) hHeld ?_
                      · obtain ⟨s0, s1, s2⟩ := hSw
                        go_simp
                        try (intro hh; exfalso; omega)
                        try omega
                      try simp only [Act.put, List.setIfInBounds_toArray, List.set_cons_zero, List.set_cons_succ, List.getElem_toArray, List.getElem_cons_succ, List.getElem_cons_zero]
                      refine wpAnyH_take (i := 12) (oi := _) (v := Value.pointer (some ⟨B, 6, none⟩)) rfl (by kernel_rfl) (by kernel_rfl) (by kernel_rfl) (fun _ _ _ h => h) (Or.inl ⟨by rfl, fun w' hSw => ?_⟩) hHeld ?_
                      · obtain ⟨s0, s1, s2⟩ := hSw
                        go_simp
                        try (intro hh; exfalso; omega)
                        try omega
                      try simp only [Act.put, List.setIfInBounds_toArray, List.set_cons_zero, List.set_cons_succ, List.getElem_toArray, List.getElem_cons_succ, List.getElem_cons_zero]
                      refine wpAnyH_ready (rs := [13]) (by kernel_rfl) (by simp) ?_
                      refine AllReadyH.cons (o := _) rfl (fun K hK => ?_) (AllReadyH.nil)
                      go_simp
                      clear hHeld
                      refine hK.out _ _ ⟨by simp [go_sem, *], by simp [go_sem, *], by simp [go_sem, *]⟩ (fun hHeld => ?_)
                      clear hK K
                      try simp only [Act.put, List.setIfInBounds_toArray, List.set_cons_zero, List.set_cons_succ, List.getElem_toArray, List.getElem_cons_succ, List.getElem_cons_zero]
                      refine wpAnyH_done (by kernel_rfl) ?_ _
                      clear hHeld
                      go_wp2_with fail
                      have hz3 := hgrow.size
                      simp only [World.size_alloc] at hz3
                      have hb4 : w3.heap[b10]? = wa.heap[b10]? := en _ (by omega) (by omega) (by omega) (fun j hj => by have := NO.out j hj; omega)
                      have et0 : w3.cell? ⟨b10, 0, none⟩ = some (.int .i64 r1) := by rw [← HX.1]; simp only [World.cell?, hb4]
                      have et1 : w3.cell? ⟨b10, 1, none⟩ = some (.int .i64 r2) := by rw [← HX.2]; simp only [World.cell?, hb4]
                      have hbl : Below B w w3 := (sh.bel.alloc (by omega) _).grown hgrow (by simp; omega) (fun j hj => by have := (sh.sh.ro.lt j hj).1; omega)
                      have hsf := ShapeAt.offs (sh.sh.at ((Below.refl _ _).alloc (Nat.le_refl _) _)) (by rw [HTo.out, flatP_snoc]; exact hown) hgrow hat
                      have d3 : ¬ B = b10 := by omega
                      have d5 : ¬ B = w.heap.size := by omega
                      go_meet
                      case rel => exact ⟨rfl, by simp; omega, by simp [go_sem, *], by simp [go_sem, *], by simp [go_sem, *], by simp; omega, hbl.setCell (Nat.le_refl _) _, _, hsf⟩
                case rest => as_aux_lemma =>
                  obtain ⟨rfl, zb, e0, e1, kx, zx, hbel, vo2, hsh⟩ := hcut
                  have zBc : B < wc.heap.size := by omega
                  have c6 := hsh.c7
                  have HM := Lib.hid (fun (W : World) (hb : Below wc.heap.size wc W) => (⟨hsh.at hb, hbel.trans (hb.mono (by omega))⟩ : ShapeAt W B free zs cs (k + 1) L' vo2 vr (k + 1) k ∧ Below B w W))
                  have NO := Lib.hid (fun j (hj : vr.ownBlock = some j) => NR j hj)
                  clear hsh hbel cM1 NV NR HTo
                  go_upto_region 9 with fail
                  refine wp_region_held_drew (S := fun w' => w'.cell? ⟨b10, 0, none⟩ = some (.int .i64 r1) ∧ w'.cell? ⟨b10, 1, none⟩ = some (.int .i64 r2) ∧ w'.cell? ⟨w.heap.size, 0, none⟩ = some (.int .i64 x0)) (by kernel_rfl) ⟨by simpa [go_sem] using e0, by simpa [go_sem] using e1, by simpa [go_sem] using kx⟩ (fun hHeld => ?_)
                  refine wpAnyH_take (i := 0) (oi := _) (v := Value.pointer (some ⟨B, 0, none⟩)) rfl (by kernel_rfl) (by kernel_rfl) (by kernel_rfl) (fun _ _ _ h => h) (Or.inl ⟨by rfl, fun w' hSw => ?_⟩) hHeld ?_
                  · obtain ⟨s0, s1, s2⟩ := hSw
                    go_simp
                    try (intro hh; exfalso; omega)
                    try omega
                  try simp only [Act.put, List.setIfInBounds_toArray, List.set_cons_zero, List.set_cons_succ, List.getElem_toArray, List.getElem_cons_succ, List.getElem_cons_zero]
                  refine wpAnyH_take (i := 1) (oi := _) (v := Value.pointer (some ⟨B, 0, none⟩)) rfl (by kernel_rfl) (by kernel_rfl) (by kernel_rfl) (fun _ _ _ h => h) (Or.inl ⟨by rfl, fun w' hSw => ?_⟩) hHeld ?_
                  · obtain ⟨s0, s1, s2⟩ := hSw
                    go_simp
                    try (intro hh; exfalso; omega)
                    try omega
                  try simp only [Act.put, List.setIfInBounds_toArray, List.set_cons_zero, List.set_cons_succ, List.getElem_toArray, List.getElem_cons_succ, List.getElem_cons_zero]
                  refine wpAnyH_take (i := 2) (oi := _) (v := Value.pointer (some ⟨B, 0, none⟩)) rfl (by kernel_rfl) (by kernel_rfl) (by kernel_rfl) (fun _ _ _ h => h) (Or.inl ⟨by rfl, fun w' hSw => ?_⟩) hHeld ?_
                  · obtain ⟨s0, s1, s2⟩ := hSw
                    go_simp
                    try (intro hh; exfalso; omega)
                    try omega
                  try simp only [Act.put, List.setIfInBounds_toArray, List.set_cons_zero, List.set_cons_succ, List.getElem_toArray, List.getElem_cons_succ, List.getElem_cons_zero]
                  refine wpAnyH_take (i := 3) (oi := _) (v := Value.pointer (some ⟨B, 7, none⟩)) rfl (by kernel_rfl) (by kernel_rfl) (by kernel_rfl) (fun _ _ _ h => h) (Or.inl ⟨by rfl, fun w' hSw => ?_⟩) hHeld ?_
                  · obtain ⟨s0, s1, s2⟩ := hSw
                    go_simp
                    try (intro hh; exfalso; omega)
                    try omega
                  try simp only [Act.put, List.setIfInBounds_toArray, List.set_cons_zero, List.set_cons_succ, List.getElem_toArray, List.getElem_cons_succ, List.getElem_cons_zero]
                  refine wpAnyH_take (i := 5) (oi := _) (v := Value.agg #[.int .i64 r1, .int .i64 r2]) rfl (by kernel_rfl) (by kernel_rfl) (by kernel_rfl) (fun _ _ _ h => h) (Or.inl ⟨by rfl, fun w' hSw => ?_⟩) hHeld ?_
                  · obtain ⟨s0, s1, s2⟩ := hSw
                    go_simp
                    try (intro hh; exfalso; omega)
                    try omega
                  try simp only [Act.put, List.setIfInBounds_toArray, List.set_cons_zero, List.set_cons_succ, List.getElem_toArray, List.getElem_cons_succ, List.getElem_cons_zero]
                  refine wpAnyH_take (i := 6) (oi := _) (v := Value.pointer (some ⟨w.heap.size, 0, none⟩)) rfl (by kernel_rfl) (by kernel_rfl) (by kernel_rfl) (fun _ _ _ h => h) (Or.inl ⟨by rfl, fun w' hSw => ?_⟩) hHeld ?_
                  · obtain ⟨s0, s1, s2⟩ := hSw
                    go_simp
                    try (intro hh; exfalso; omega)
                    try omega
                  try simp only [Act.put, List.setIfInBounds_toArray, List.set_cons_zero, List.set_cons_succ, List.getElem_toArray, List.getElem_cons_succ, List.getElem_cons_zero]
                  refine wpAnyH_take (i := 7) (oi := _) (v := Value.int .i64 x0) rfl (by kernel_rfl) (by kernel_rfl) (by kernel_rfl) (fun _ _ _ h => h) (Or.inl ⟨by rfl, fun w' hSw => ?_⟩) hHeld ?_
                  · obtain ⟨s0, s1, s2⟩ := hSw
                    go_simp
                    try (intro hh; exfalso; omega)
                    try omega
                  try simp only [Act.put, List.setIfInBounds_toArray, List.set_cons_zero, List.set_cons_succ, List.getElem_toArray, List.getElem_cons_succ, List.getElem_cons_zero]
                  refine wpAnyH_ready (rs := [4, 8]) (by kernel_rfl) (by simp) ?_
                  refine AllReadyH.cons (o := _) rfl (fun K hK => ?_) (AllReadyH.cons (o := _) rfl (fun K hK => ?_) (AllReadyH.nil))
                  · go_simp
                    clear hHeld
                    refine hK.out _ _ ⟨by simpa [go_sem] using e0, by simpa [go_sem] using e1, by simpa [go_sem] using kx⟩ (fun hHeld => ?_)
                    clear hK K
                    try simp only [Act.put, List.setIfInBounds_toArray, List.set_cons_zero, List.set_cons_succ, List.getElem_toArray, List.getElem_cons_succ, List.getElem_cons_zero]
                    refine wpAnyH_ready (rs := [8]) (by kernel_rfl) (by simp) ?_
                    refine AllReadyH.cons (o := _) rfl (fun K hK => ?_) (AllReadyH.nil)
                    go_simp
                    go_at_call 204
                    refine Calls.mono (cM2 _) ?_
                    rintro e wa ⟨rfl, hb⟩
                    have hcc := Lib.hid (fun b o (h : b < _) => hb.cell (p := ⟨b, o, none⟩) h)
                    have hza := hb.size
                    simp only [World.size_drew] at hza
                    have ea0 := (hcc.out b10 0 (by simpa [go_sem] using zb)).trans (show _ = some (.int .i64 r1) by simpa [go_sem] using e0)
                    have ea1 := (hcc.out b10 1 (by simpa [go_sem] using zb)).trans (show _ = some (.int .i64 r2) by simpa [go_sem] using e1)
                    have eax := (hcc.out w.heap.size 0 (by simpa [go_sem] using zx)).trans (show _ = some (.int .i64 x0) by simpa [go_sem] using kx)
                    have eas := (hcc.out B 7 (by simpa [go_sem] using zBc)).trans (show _ = some vr by simpa [go_sem] using c6)
                    have sh := HM.out wa (Below.trans (Below.drew (Below.refl _ _)) hb)
                    clear hb hcc
                    have zba : b10 < wa.heap.size := by omega
                    have zxa : w.heap.size < wa.heap.size := by omega
                    have zBa : B < wa.heap.size := by omega
                    clear hHeld
                    refine hK.out _ _ ⟨ea0, ea1, eax⟩ (fun hHeld => ?_)
                    clear hK K
                    try simp only [Act.put, List.setIfInBounds_toArray, List.set_cons_zero, List.set_cons_succ, List.getElem_toArray, List.getElem_cons_succ, List.getElem_cons_zero]
                    refine wpAnyH_ready (rs := [9]) (by kernel_rfl) (by simp) ?_
                    refine AllReadyH.cons (o := _) rfl (fun K hK => ?_) (AllReadyH.nil)
                    go_simp
                    clear hHeld
                    refine hK.out _ _ ⟨by simp [go_sem, *], by simp [go_sem, *], by simp [go_sem, *]⟩ (fun hHeld => ?_)
                    clear hK K
                    try simp only [Act.put, List.setIfInBounds_toArray, List.set_cons_zero, List.set_cons_succ, List.getElem_toArray, List.getElem_cons_succ, List.getElem_cons_zero]
                    refine wpAnyH_ready (rs := [10]) (by kernel_rfl) (by simp) ?_
                    refine AllReadyH.cons (o := _) rfl (fun K hK => ?_) (AllReadyH.nil)
                    refine step_append_lies _ rfl (.tmp 103) (.tmp 108) 36 rfl (B + 1) 23 i0 (.agg #[.int .i64 0, .int .i64 0]) 2 16 Try.underlying36 hi0 hz0 hz1 hz2 rfl (by decide) vr k _ (by simp [Act.eval, Act.put]) (sh.1.rr.alloc _) ⟨wa.heap.size, 0, none⟩ 1 1 [.int .i64 r1, .int .i64 r3] (by simp [Act.eval, Act.put]) rfl (two_new _ _ _) (by simp [Value.oneCell']) (by decide) (by unfold maxLen; omega) (by omega) (by simp; omega) _ rfl ?_
                    intro g cap w3 hown hgrow hat hlt
                    have en : ∀ q, q < wa.heap.size → B ≤ q → q ≠ B → (∀ j, vr.ownBlock = some j → j ≠ q) → w3.heap[q]? = wa.heap[q]? := fun q h1 _ h3 h4 => (hgrow.block q (by simp; omega) (fun e => h4 q e.symm rfl)).trans (Below.heap_alloc _ _ _ h1)
                    have hb1 : w3.heap[b10]? = wa.heap[b10]? := en _ zba (by omega) (by omega) (fun j hj => by have := NO.out j hj; omega)
                    have hb2 : w3.heap[w.heap.size]? = wa.heap[w.heap.size]? := en _ zxa (by omega) (by omega) (fun j hj => by have := NO.out j hj; omega)
                    have hb3 : w3.heap[B]? = wa.heap[B]? := (hgrow.block B (by simp; omega) (fun e => by have := (sh.1.rr.lt B e.symm).1; omega)).trans (Below.heap_alloc _ _ _ zBa)
                    have ew0 : w3.cell? ⟨b10, 0, none⟩ = some (.int .i64 r1) := by rw [← ea0]; simp only [World.cell?, hb1]
                    have ew1 : w3.cell? ⟨b10, 1, none⟩ = some (.int .i64 r2) := by rw [← ea1]; simp only [World.cell?, hb1]
                    have ewx : w3.cell? ⟨w.heap.size, 0, none⟩ = some (.int .i64 x0) := by rw [← eax]; simp only [World.cell?, hb2]
                    have ews : w3.cell? ⟨B, 7, none⟩ = some vr := by rw [← eas]; simp only [World.cell?, hb3]
                    have ewf : w3.frozen? ⟨B, 7, none⟩ = false := by rw [← show wa.frozen? ⟨B, 7, none⟩ = false from sh.1.f7]; simp only [World.frozen?, hb3]
                    clear hHeld
                    refine hK.out _ _ ⟨ew0, ew1, ewx⟩ (fun hHeld => ?_)
                    clear hK K
                    try simp only [Act.put, List.setIfInBounds_toArray, List.set_cons_zero, List.set_cons_succ, List.getElem_toArray, List.getElem_cons_succ, List.getElem_cons_zero]
                    refine wpAnyH_take (i := 11) (oi := _) (v := Value.pointer (some ⟨B, 0, none⟩)) rfl (by kernel_rfl) (by kernel_rfl) (by kernel_rfl) (fun _ _ _ h => h) (Or.inl ⟨by rfl, fun w' hSw => ?_⟩) hHeld ?_
                    · obtain ⟨s0, s1, s2⟩ := hSw
                      go_simp
                      try (intro hh; exfalso; omega)
                      try omega
                    try simp only [Act.put, List.setIfInBounds_toArray, List.set_cons_zero, List.set_cons_succ, List.getElem_toArray, List.getElem_cons_succ, List.getElem_cons_zero]
                    refine wpAnyH_take (i := 12) (oi := _) (v := Value.pointer (some ⟨B, 7, none⟩)) rfl (by kernel_rfl) (by kernel_rfl) (by kernel_rfl) (fun _ _ _ h => h) (Or.inl ⟨by rfl, fun w' hSw => ?_⟩) hHeld ?_
                    · obtain ⟨s0, s1, s2⟩ := hSw
                      go_simp
                      try (intro hh; exfalso; omega)
                      try omega
                    try simp only [Act.put, List.setIfInBounds_toArray, List.set_cons_zero, List.set_cons_succ, List.getElem_toArray, List.getElem_cons_succ, List.getElem_cons_zero]
                    refine wpAnyH_ready (rs := [13]) (by kernel_rfl) (by simp) ?_
                    refine AllReadyH.cons (o := _) rfl (fun K hK => ?_) (AllReadyH.nil)
                    go_simp
                    clear hHeld
                    refine hK.out _ _ ⟨by simp [go_sem, *], by simp [go_sem, *], by simp [go_sem, *]⟩ (fun hHeld => ?_)
                    clear hK K
                    try simp only [Act.put, List.setIfInBounds_toArray, List.set_cons_zero, List.set_cons_succ, List.getElem_toArray, List.getElem_cons_succ, List.getElem_cons_zero]
                    refine wpAnyH_done (by kernel_rfl) ?_ _
                    clear hHeld
                    go_wp2_with fail
                    have hz3 := hgrow.size
                    simp only [World.size_alloc] at hz3
                    have hbl : Below B w w3 := (sh.2.alloc (by omega) _).grown hgrow (by simp; omega) (fun j hj => by have := (sh.1.rr.lt j hj).1; omega)
                    have hsf := ShapeAt.riss (sh.1.at ((Below.refl _ _).alloc (Nat.le_refl _) _)) (by rw [HTr.out, flatP_snoc]; exact hown) hgrow hat
                    go_end0
                    exact ⟨rfl, _, _, hsf, hbl.setCell (Nat.le_refl _) _⟩
                  · go_simp
                    go_at_call 204
                    refine Calls.mono (cM2 _) ?_
                    rintro e wa ⟨rfl, hb⟩
                    have hcc := Lib.hid (fun b o (h : b < _) => hb.cell (p := ⟨b, o, none⟩) h)
                    have hza := hb.size
                    simp only [World.size_drew] at hza
                    have ea0 := (hcc.out b10 0 (by simpa [go_sem] using zb)).trans (show _ = some (.int .i64 r1) by simpa [go_sem] using e0)
                    have ea1 := (hcc.out b10 1 (by simpa [go_sem] using zb)).trans (show _ = some (.int .i64 r2) by simpa [go_sem] using e1)
                    have eax := (hcc.out w.heap.size 0 (by simpa [go_sem] using zx)).trans (show _ = some (.int .i64 x0) by simpa [go_sem] using kx)
                    have eas := (hcc.out B 7 (by simpa [go_sem] using zBc)).trans (show _ = some vr by simpa [go_sem] using c6)
                    have sh := HM.out wa (Below.trans (Below.drew (Below.refl _ _)) hb)
                    clear hb hcc
                    have zba : b10 < wa.heap.size := by omega
                    have zxa : w.heap.size < wa.heap.size := by omega
                    have zBa : B < wa.heap.size := by omega
                    clear hHeld
                    refine hK.out _ _ ⟨ea0, ea1, eax⟩ (fun hHeld => ?_)
                    clear hK K
                    try simp only [Act.put, List.setIfInBounds_toArray, List.set_cons_zero, List.set_cons_succ, List.getElem_toArray, List.getElem_cons_succ, List.getElem_cons_zero]
                    refine wpAnyH_ready (rs := [4, 9]) (by kernel_rfl) (by simp) ?_
                    refine AllReadyH.cons (o := _) rfl (fun K hK => ?_) (AllReadyH.cons (o := _) rfl (fun K hK => ?_) (AllReadyH.nil))
                    · go_simp
                      clear hHeld
                      refine hK.out _ _ ⟨ea0, ea1, eax⟩ (fun hHeld => ?_)
                      clear hK K
                      try simp only [Act.put, List.setIfInBounds_toArray, List.set_cons_zero, List.set_cons_succ, List.getElem_toArray, List.getElem_cons_succ, List.getElem_cons_zero]
                      refine wpAnyH_ready (rs := [9]) (by kernel_rfl) (by simp) ?_
                      refine AllReadyH.cons (o := _) rfl (fun K hK => ?_) (AllReadyH.nil)
                      go_simp
                      clear hHeld
                      refine hK.out _ _ ⟨by simp [go_sem, *], by simp [go_sem, *], by simp [go_sem, *]⟩ (fun hHeld => ?_)
                      clear hK K
                      try simp only [Act.put, List.setIfInBounds_toArray, List.set_cons_zero, List.set_cons_succ, List.getElem_toArray, List.getElem_cons_succ, List.getElem_cons_zero]
                      refine wpAnyH_ready (rs := [10]) (by kernel_rfl) (by simp) ?_
                      refine AllReadyH.cons (o := _) rfl (fun K hK => ?_) (AllReadyH.nil)
                      refine step_append_lies _ rfl (.tmp 103) (.tmp 108) 36 rfl (B + 1) 23 i0 (.agg #[.int .i64 0, .int .i64 0]) 2 16 Try.underlying36 hi0 hz0 hz1 hz2 rfl (by decide) vr k _ (by simp [Act.eval, Act.put]) (sh.1.rr.alloc _) ⟨wa.heap.size, 0, none⟩ 1 1 [.int .i64 r1, .int .i64 r3] (by simp [Act.eval, Act.put]) rfl (two_new _ _ _) (by simp [Value.oneCell']) (by decide) (by unfold maxLen; omega) (by omega) (by simp; omega) _ rfl ?_
                      intro g cap w3 hown hgrow hat hlt
                      have en : ∀ q, q < wa.heap.size → B ≤ q → q ≠ B → (∀ j, vr.ownBlock = some j → j ≠ q) → w3.heap[q]? = wa.heap[q]? := fun q h1 _ h3 h4 => (hgrow.block q (by simp; omega) (fun e => h4 q e.symm rfl)).trans (Below.heap_alloc _ _ _ h1)
                      have hb1 : w3.heap[b10]? = wa.heap[b10]? := en _ zba (by omega) (by omega) (fun j hj => by have := NO.out j hj; omega)
                      have hb2 : w3.heap[w.heap.size]? = wa.heap[w.heap.size]? := en _ zxa (by omega) (by omega) (fun j hj => by have := NO.out j hj; omega)
                      have hb3 : w3.heap[B]? = wa.heap[B]? := (hgrow.block B (by simp; omega) (fun e => by have := (sh.1.rr.lt B e.symm).1; omega)).trans (Below.heap_alloc _ _ _ zBa)
                      have ew0 : w3.cell? ⟨b10, 0, none⟩ = some (.int .i64 r1) := by rw [← ea0]; simp only [World.cell?, hb1]
                      have ew1 : w3.cell? ⟨b10, 1, none⟩ = some (.int .i64 r2) := by rw [← ea1]; simp only [World.cell?, hb1]
                      have ewx : w3.cell? ⟨w.heap.size, 0, none⟩ = some (.int .i64 x0) := by rw [← eax]; simp only [World.cell?, hb2]
                      have ews : w3.cell? ⟨B, 7, none⟩ = some vr := by rw [← eas]; simp only [World.cell?, hb3]
                      have ewf : w3.frozen? ⟨B, 7, none⟩ = false := by rw [← show wa.frozen? ⟨B, 7, none⟩ = false from sh.1.f7]; simp only [World.frozen?, hb3]
                      clear hHeld
                      refine hK.out _ _ ⟨ew0, ew1, ewx⟩ (fun hHeld => ?_)
                      clear hK K
                      try simp only [Act.put, List.setIfInBounds_toArray, List.set_cons_zero, List.set_cons_succ, List.getElem_toArray, List.getElem_cons_succ, List.getElem_cons_zero]
                      refine wpAnyH_take (i := 11) (oi := _) (v := Value.pointer (some ⟨B, 0, none⟩)) rfl (by kernel_rfl) (by kernel_rfl) (by kernel_rfl) (fun _ _ _ h => h) (Or.inl ⟨by rfl, fun w' hSw => ?_⟩) hHeld ?_
                      · obtain ⟨s0, s1, s2⟩ := hSw
                        go_simp
                        try (intro hh; exfalso; omega)
                        try omega
                      try simp only [Act.put, List.setIfInBounds_toArray, List.set_cons_zero, List.set_cons_succ, List.getElem_toArray, List.getElem_cons_succ, List.getElem_cons_zero]
                      refine wpAnyH_take (i := 12) (oi := _) (v := Value.pointer (some ⟨B, 7, none⟩)) rfl (by kernel_rfl) (by kernel_rfl) (by kernel_rfl) (fun _ _ _ h => h) (Or.inl ⟨by rfl, fun w' hSw => ?_⟩) hHeld ?_
                      · obtain ⟨s0, s1, s2⟩ := hSw
                        go_simp
                        try (intro hh; exfalso; omega)
                        try omega
                      try simp only [Act.put, List.setIfInBounds_toArray, List.set_cons_zero, List.set_cons_succ, List.getElem_toArray, List.getElem_cons_succ, List.getElem_cons_zero]
                      refine wpAnyH_ready (rs := [13]) (by kernel_rfl) (by simp) ?_
                      refine AllReadyH.cons (o := _) rfl (fun K hK => ?_) (AllReadyH.nil)
                      go_simp
                      clear hHeld
                      refine hK.out _ _ ⟨by simp [go_sem, *], by simp [go_sem, *], by simp [go_sem, *]⟩ (fun hHeld => ?_)
                      clear hK K
                      try simp only [Act.put, List.setIfInBounds_toArray, List.set_cons_zero, List.set_cons_succ, List.getElem_toArray, List.getElem_cons_succ, List.getElem_cons_zero]
                      refine wpAnyH_done (by kernel_rfl) ?_ _
                      clear hHeld
                      go_wp2_with fail
                      have hz3 := hgrow.size
                      simp only [World.size_alloc] at hz3
                      have hbl : Below B w w3 := (sh.2.alloc (by omega) _).grown hgrow (by simp; omega) (fun j hj => by have := (sh.1.rr.lt j hj).1; omega)
                      have hsf := ShapeAt.riss (sh.1.at ((Below.refl _ _).alloc (Nat.le_refl _) _)) (by rw [HTr.out, flatP_snoc]; exact hown) hgrow hat
                      go_end0
                      exact ⟨rfl, _, _, hsf, hbl.setCell (Nat.le_refl _) _⟩
                    · go_simp
                      clear hHeld
                      refine hK.out _ _ ⟨by simp [go_sem, *], by simp [go_sem, *], by simp [go_sem, *]⟩ (fun hHeld => ?_)
                      clear hK K
                      try simp only [Act.put, List.setIfInBounds_toArray, List.set_cons_zero, List.set_cons_succ, List.getElem_toArray, List.getElem_cons_succ, List.getElem_cons_zero]
                      refine wpAnyH_ready (rs := [4]) (by kernel_rfl) (by simp) ?_
                      refine AllReadyH.cons (o := _) rfl (fun K hK => ?_) (AllReadyH.nil)
                      go_simp
                      clear hHeld
                      refine hK.out _ _ ⟨by simp [go_sem, *], by simp [go_sem, *], by simp [go_sem, *]⟩ (fun hHeld => ?_)
                      clear hK K
                      try simp only [Act.put, List.setIfInBounds_toArray, List.set_cons_zero, List.set_cons_succ, List.getElem_toArray, List.getElem_cons_succ, List.getElem_cons_zero]
                      refine wpAnyH_ready (rs := [10]) (by kernel_rfl) (by simp) ?_
                      refine AllReadyH.cons (o := _) rfl (fun K hK => ?_) (AllReadyH.nil)
                      refine step_append_lies _ rfl (.tmp 103) (.tmp 108) 36 rfl (B + 1) 23 i0 (.agg #[.int .i64 0, .int .i64 0]) 2 16 Try.underlying36 hi0 hz0 hz1 hz2 rfl (by decide) vr k _ (by simp [Act.eval, Act.put]) (sh.1.rr.alloc _) ⟨wa.heap.size, 0, none⟩ 1 1 [.int .i64 r1, .int .i64 r3] (by simp [Act.eval, Act.put]) rfl (two_new _ _ _) (by simp [Value.oneCell']) (by decide) (by unfold maxLen; omega) (by omega) (by simp; omega) _ rfl ?_
                      intro g cap w3 hown hgrow hat hlt
                      have en : ∀ q, q < wa.heap.size → B ≤ q → q ≠ B → (∀ j, vr.ownBlock = some j → j ≠ q) → w3.heap[q]? = wa.heap[q]? := fun q h1 _ h3 h4 => (hgrow.block q (by simp; omega) (fun e => h4 q e.symm rfl)).trans (Below.heap_alloc _ _ _ h1)
                      have hb1 : w3.heap[b10]? = wa.heap[b10]? := en _ zba (by omega) (by omega) (fun j hj => by have := NO.out j hj; omega)
                      have hb2 : w3.heap[w.heap.size]? = wa.heap[w.heap.size]? := en _ zxa (by omega) (by omega) (fun j hj => by have := NO.out j hj; omega)
                      have hb3 : w3.heap[B]? = wa.heap[B]? := (hgrow.block B (by simp; omega) (fun e => by have := (sh.1.rr.lt B e.symm).1; omega)).trans (Below.heap_alloc _ _ _ zBa)
                      have ew0 : w3.cell? ⟨b10, 0, none⟩ = some (.int .i64 r1) := by rw [← ea0]; simp only [World.cell?, hb1]
                      have ew1 : w3.cell? ⟨b10, 1, none⟩ = some (.int .i64 r2) := by rw [← ea1]; simp only [World.cell?, hb1]
                      have ewx : w3.cell? ⟨w.heap.size, 0, none⟩ = some (.int .i64 x0) := by rw [← eax]; simp only [World.cell?, hb2]
                      have ews : w3.cell? ⟨B, 7, none⟩ = some vr := by rw [← eas]; simp only [World.cell?, hb3]
                      have ewf : w3.frozen? ⟨B, 7, none⟩ = false := by rw [← show wa.frozen? ⟨B, 7, none⟩ = false from sh.1.f7]; simp only [World.frozen?, hb3]
                      clear hHeld
                      refine hK.out _ _ ⟨ew0, ew1, ewx⟩ (fun hHeld => ?_)
                      clear hK K
                      try simp only [Act.put, List.setIfInBounds_toArray, List.set_cons_zero, List.set_cons_succ, List.getElem_toArray, List.getElem_cons_succ, List.getElem_cons_zero]
                      refine wpAnyH_take (i := 11) (oi := _) (v := Value.pointer (some ⟨B, 0, none⟩)) rfl (by kernel_rfl) (by kernel_rfl) (by kernel_rfl) (fun _ _ _ h => h) (Or.inl ⟨by rfl, fun w' hSw => ?_⟩) hHeld ?_
                      · obtain ⟨s0, s1, s2⟩ := hSw
                        go_simp
                        try (intro hh; exfalso; omega)
                        try omega
                      try simp only [Act.put, List.setIfInBounds_toArray, List.set_cons_zero, List.set_cons_succ, List.getElem_toArray, List.getElem_cons_succ, List.getElem_cons_zero]
                      refine wpAnyH_take (i := 12) (oi := _) (v := Value.pointer (some ⟨B, 7, none⟩)) rfl (by kernel_rfl) (by kernel_rfl) (by kernel_rfl) (fun _ _ _ h => h) (Or.inl ⟨by rfl, fun w' hSw => ?_⟩) hHeld ?_
                      · obtain ⟨s0, s1, s2⟩ := hSw
                        go_simp
                        try (intro hh; exfalso; omega)
                        try omega
                      try simp only [Act.put, List.setIfInBounds_toArray, List.set_cons_zero, List.set_cons_succ, List.getElem_toArray, List.getElem_cons_succ, List.getElem_cons_zero]
                      refine wpAnyH_ready (rs := [13]) (by kernel_rfl) (by simp) ?_
                      refine AllReadyH.cons (o := _) rfl (fun K hK => ?_) (AllReadyH.nil)
                      go_simp
                      clear hHeld
                      refine hK.out _ _ ⟨by simp [go_sem, *], by simp [go_sem, *], by simp [go_sem, *]⟩ (fun hHeld => ?_)
                      clear hK K
                      try simp only [Act.put, List.setIfInBounds_toArray, List.set_cons_zero, List.set_cons_succ, List.getElem_toArray, List.getElem_cons_succ, List.getElem_cons_zero]
                      refine wpAnyH_done (by kernel_rfl) ?_ _
                      clear hHeld
                      go_wp2_with fail
                      have hz3 := hgrow.size
                      simp only [World.size_alloc] at hz3
                      have hbl : Below B w w3 := (sh.2.alloc (by omega) _).grown hgrow (by simp; omega) (fun j hj => by have := (sh.1.rr.lt j hj).1; omega)
                      have hsf := ShapeAt.riss (sh.1.at ((Below.refl _ _).alloc (Nat.le_refl _) _)) (by rw [HTr.out, flatP_snoc]; exact hown) hgrow hat
                      go_end0
                      exact ⟨rfl, _, _, hsf, hbl.setCell (Nat.le_refl _) _⟩
end Go.Proofs.Ytdohfpnnmppdkaa.Moo
namespace Go.Proofs.Ytdohfpnnmppdkaa.Moo
open Go.RowKit Go.Shelf
set_option linter.unusedSimpArgs false
/-- what shapeOf returns: a value that bears these offsets and rises -/
def IsShape (W : World) (v : Value) (free : Bool) (zs : List El) (cs : List Pr) : Prop :=
  ∃ lift lo hi wd vo vr, v = .agg #[.bool free, .int .i64 lift, .int .i64 lo, .int .i64 hi, .int .i64 wd, .int .i64 (lenTo zs zs.length), vo, vr] ∧
    Prs W.heap.size W vo (rowL (offG free zs cs) zs.length) ∧ Prs W.heap.size W vr (rowL (risG free zs cs) zs.length)
theorem IsShape.mk {W : World} {v : Value} {free : Bool} {zs : List El} {cs : List Pr} (lift lo hi wd : Int) (vo vr : Value) (h1 : v = .agg #[.bool free, .int .i64 lift, .int .i64 lo, .int .i64 hi, .int .i64 wd, .int .i64 (lenTo zs zs.length), vo, vr])
    (h2 : Prs W.heap.size W vo (rowL (offG free zs cs) zs.length)) (h3 : Prs W.heap.size W vr (rowL (risG free zs cs) zs.length)) : IsShape W v free zs cs := ⟨lift, lo, hi, wd, vo, vr, h1, h2, h3⟩
def shape0 : Value := .agg #[.bool false, .int .i64 0, .int .i64 0, .int .i64 0, .int .i64 0, .int .i64 0, .slice none 0 0, .slice none 0 0]
theorem own_low {W : World} {b o : Nat} {u : Value} {base : Nat} {e : TypeId} {size n : Nat} {v : Value} {xs : List Value} (h : W.ownsRow base e size v n xs) (hlt : b < base) : (W.setCell ⟨b, o, none⟩ u).ownsRow base e size v n xs :=
  own_keep h fun j hj => Below.heap_setCell _ _ _ _ (by have := (h.lt j hj).1; show j ≠ b; omega)
theorem ShapeAt.new (w : World) (free : Bool) (zs : List El) (cs : List Pr) : ShapeAt (w.alloc (.cells #[.bool free, .int .i64 0, .int .i64 0, .int .i64 0, .int .i64 0, .int .i64 0, .slice none 0 0, .slice none 0 0] 178)) w.heap.size free zs cs 0 0 (.slice none 0 0) (.slice none 0 0) 0 0 := by
  refine ⟨by constructor <;> simp [go_sem, lifTo, sLo, sHi, wid], by simp [go_sem], by simp [go_sem], by simp [go_sem], by simp [go_sem], by simp [go_sem], by simp [go_sem], World.ownsRow_nil _ _ _ _, World.ownsRow_nil _ _ _ _, .inl rfl⟩
set_option maxRecDepth 100000 in
set_option maxHeartbeats 8000000 in
theorem shapeOf_any (d an fr : Int) (sv cv : Value) (zs : List El) (cs : List Pr) (free : Bool) (w : World) (hI : Els w.heap.size w sv zs) (hC : Prs w.heap.size w cv cs) :
    Calls Try.prog 132 #[.agg #[.int .i64 d, sv, .int .i64 an, .int .i64 fr], cv, .bool free] w fun e w' => ∃ v, e = .returned (.tuple #[v, .int .i64 (staE d zs an fr cs)]) ∧
      (staE d zs an fr cs = 0 → IsShape w' v free zs cs) ∧ (staE d zs an fr cs ≠ 0 → v = shape0) ∧ Below w.heap.size w w' := by
  have c1 := fun w' (hb : Below w.heap.size w w') => checkStanding_any d an fr sv cv zs cs w' (hI.at hb) (hC.at hb)
  have HOK := Lib.hid (fun (h : staE d zs an fr cs = 0) => staE_ok h)
  obtain ⟨a, cap, rfl, -, hcell⟩ := hI
  obtain ⟨c, cap2, rfl, -, hcur⟩ := hC
  have HC := Lib.hid hcell
  have HU := Lib.hid hcur
  clear hcell hcur
  generalize staE d zs an fr cs = E at *
  by_cases hE : E = 0
  rotate_left
  · clear HOK HC HU
    generalize zs.length = len at *
    generalize cs.length = len2 at *
    have HE := Lib.hid hE
    have hbq : (E != 0) = true := by simpa using hE
    clear hE
    go_enter Try.func132, Try.ntmps132
    go_wp2_with fail
    refine (c1 _ (by repeat (first | exact Below.refl _ _ | refine Below.alloc ?_ (by first | omega | (simp; done) | (simp; omega)) _))).mono ?_
    rintro e w1 ⟨rfl, hb⟩
    obtain ⟨hc, hf⟩ := bcell hb
    have hz := hb.size
    simp only [World.size_alloc] at hz
    have k0 : w1.cell? ⟨w.heap.size + 1, 0, none⟩ = some (.bool false) := by rw [hc _ _ (by first | omega | (simp; done) | (simp; omega))]; simp [go_sem]
    have f0 : w1.frozen? ⟨w.heap.size + 1, 0, none⟩ = false := by rw [hf _ _ (by first | omega | (simp; done) | (simp; omega))]; simp [go_sem]
    have k1 : w1.cell? ⟨w.heap.size + 1, 1, none⟩ = some (.int .i64 0) := by rw [hc _ _ (by first | omega | (simp; done) | (simp; omega))]; simp [go_sem]
    have f1 : w1.frozen? ⟨w.heap.size + 1, 1, none⟩ = false := by rw [hf _ _ (by first | omega | (simp; done) | (simp; omega))]; simp [go_sem]
    have k2 : w1.cell? ⟨w.heap.size + 1, 2, none⟩ = some (.int .i64 0) := by rw [hc _ _ (by first | omega | (simp; done) | (simp; omega))]; simp [go_sem]
    have f2 : w1.frozen? ⟨w.heap.size + 1, 2, none⟩ = false := by rw [hf _ _ (by first | omega | (simp; done) | (simp; omega))]; simp [go_sem]
    have k3 : w1.cell? ⟨w.heap.size + 1, 3, none⟩ = some (.int .i64 0) := by rw [hc _ _ (by first | omega | (simp; done) | (simp; omega))]; simp [go_sem]
    have f3 : w1.frozen? ⟨w.heap.size + 1, 3, none⟩ = false := by rw [hf _ _ (by first | omega | (simp; done) | (simp; omega))]; simp [go_sem]
    have k4 : w1.cell? ⟨w.heap.size + 1, 4, none⟩ = some (.int .i64 0) := by rw [hc _ _ (by first | omega | (simp; done) | (simp; omega))]; simp [go_sem]
    have f4 : w1.frozen? ⟨w.heap.size + 1, 4, none⟩ = false := by rw [hf _ _ (by first | omega | (simp; done) | (simp; omega))]; simp [go_sem]
    have k5 : w1.cell? ⟨w.heap.size + 1, 5, none⟩ = some (.int .i64 0) := by rw [hc _ _ (by first | omega | (simp; done) | (simp; omega))]; simp [go_sem]
    have f5 : w1.frozen? ⟨w.heap.size + 1, 5, none⟩ = false := by rw [hf _ _ (by first | omega | (simp; done) | (simp; omega))]; simp [go_sem]
    have k6 : w1.cell? ⟨w.heap.size + 1, 6, none⟩ = some (.slice none 0 0) := by rw [hc _ _ (by first | omega | (simp; done) | (simp; omega))]; simp [go_sem]
    have f6 : w1.frozen? ⟨w.heap.size + 1, 6, none⟩ = false := by rw [hf _ _ (by first | omega | (simp; done) | (simp; omega))]; simp [go_sem]
    have k7 : w1.cell? ⟨w.heap.size + 1, 7, none⟩ = some (.slice none 0 0) := by rw [hc _ _ (by first | omega | (simp; done) | (simp; omega))]; simp [go_sem]
    have f7 : w1.frozen? ⟨w.heap.size + 1, 7, none⟩ = false := by rw [hf _ _ (by first | omega | (simp; done) | (simp; omega))]; simp [go_sem]
    have hB1 : Below w.heap.size w w1 := by repeat (first | exact Below.refl _ _ | refine Below.alloc ?_ (by first | omega | (simp; done) | (simp; omega)) _ | refine chainB (by assumption) ?_)
    have HB := Lib.hid hB1
    clear hc hf hb hB1 c1
    go_wp2_with fail
    have hfin : Below w.heap.size w ((((((((w1.setCell ⟨w.heap.size + 1, 0, none⟩ (.bool false)).setCell ⟨w.heap.size + 1, 1, none⟩ (.int .i64 0)).setCell ⟨w.heap.size + 1, 2, none⟩ (.int .i64 0)).setCell ⟨w.heap.size + 1, 3, none⟩ (.int .i64 0)).setCell ⟨w.heap.size + 1, 4, none⟩ (.int .i64 0)).setCell ⟨w.heap.size + 1, 5, none⟩ (.int .i64 0)).setCell ⟨w.heap.size + 1, 6, none⟩ (.slice none 0 0)).setCell ⟨w.heap.size + 1, 7, none⟩ (.slice none 0 0)) :=
      Below.setCell (Below.setCell (Below.setCell (Below.setCell (Below.setCell (Below.setCell (Below.setCell (Below.setCell HB.out (by simp) _) (by simp) _) (by simp) _) (by simp) _) (by simp) _) (by simp) _) (by simp) _) (by simp) _
    refine bodyPost_ret (v := .tuple #[shape0, .int .i64 E]) ?_ rfl ⟨shape0, rfl, fun h => absurd h HE.out, fun _ => rfl, hfin⟩
    unfold shape0
    clear hfin
    simp [results, Try.results132, go_sem, k0, k1, k2, k3, k4, k5, k6, k7]
  subst hE
  obtain ⟨hrig, hsta, -, -⟩ := HOK.out rfl
  have hlen := hrig.same
  have hl := hrig.most
  have CL := Lib.hid (fun B k hk vo vr W hS => lay_any hrig ((standB_iff hrig.pos).1 hsta) free B (k := k) hk vo vr W hS)
  clear HOK hsta hrig
  rw [hlen] at HU
  generalize hLen : zs.length = len at *
  generalize cs.length = len2 at *
  subst hlen
  go_enter Try.func132, Try.ntmps132
  go_wp2_with fail
  refine (c1 _ (by repeat (first | exact Below.refl _ _ | refine Below.alloc ?_ (by first | omega | (simp; done) | (simp; omega)) _))).mono ?_
  rintro e w1 ⟨rfl, hb⟩
  obtain ⟨hc, hf⟩ := bcell hb
  have hz := hb.size
  simp only [World.size_alloc] at hz
  have k0 : w1.cell? ⟨w.heap.size + 1, 0, none⟩ = some (.bool false) := by rw [hc _ _ (by first | omega | (simp; done) | (simp; omega))]; simp [go_sem]
  have f0 : w1.frozen? ⟨w.heap.size + 1, 0, none⟩ = false := by rw [hf _ _ (by first | omega | (simp; done) | (simp; omega))]; simp [go_sem]
  have k1 : w1.cell? ⟨w.heap.size + 1, 1, none⟩ = some (.int .i64 0) := by rw [hc _ _ (by first | omega | (simp; done) | (simp; omega))]; simp [go_sem]
  have f1 : w1.frozen? ⟨w.heap.size + 1, 1, none⟩ = false := by rw [hf _ _ (by first | omega | (simp; done) | (simp; omega))]; simp [go_sem]
  have k2 : w1.cell? ⟨w.heap.size + 1, 2, none⟩ = some (.int .i64 0) := by rw [hc _ _ (by first | omega | (simp; done) | (simp; omega))]; simp [go_sem]
  have f2 : w1.frozen? ⟨w.heap.size + 1, 2, none⟩ = false := by rw [hf _ _ (by first | omega | (simp; done) | (simp; omega))]; simp [go_sem]
  have k3 : w1.cell? ⟨w.heap.size + 1, 3, none⟩ = some (.int .i64 0) := by rw [hc _ _ (by first | omega | (simp; done) | (simp; omega))]; simp [go_sem]
  have f3 : w1.frozen? ⟨w.heap.size + 1, 3, none⟩ = false := by rw [hf _ _ (by first | omega | (simp; done) | (simp; omega))]; simp [go_sem]
  have k4 : w1.cell? ⟨w.heap.size + 1, 4, none⟩ = some (.int .i64 0) := by rw [hc _ _ (by first | omega | (simp; done) | (simp; omega))]; simp [go_sem]
  have f4 : w1.frozen? ⟨w.heap.size + 1, 4, none⟩ = false := by rw [hf _ _ (by first | omega | (simp; done) | (simp; omega))]; simp [go_sem]
  have k5 : w1.cell? ⟨w.heap.size + 1, 5, none⟩ = some (.int .i64 0) := by rw [hc _ _ (by first | omega | (simp; done) | (simp; omega))]; simp [go_sem]
  have f5 : w1.frozen? ⟨w.heap.size + 1, 5, none⟩ = false := by rw [hf _ _ (by first | omega | (simp; done) | (simp; omega))]; simp [go_sem]
  have k6 : w1.cell? ⟨w.heap.size + 1, 6, none⟩ = some (.slice none 0 0) := by rw [hc _ _ (by first | omega | (simp; done) | (simp; omega))]; simp [go_sem]
  have f6 : w1.frozen? ⟨w.heap.size + 1, 6, none⟩ = false := by rw [hf _ _ (by first | omega | (simp; done) | (simp; omega))]; simp [go_sem]
  have k7 : w1.cell? ⟨w.heap.size + 1, 7, none⟩ = some (.slice none 0 0) := by rw [hc _ _ (by first | omega | (simp; done) | (simp; omega))]; simp [go_sem]
  have f7 : w1.frozen? ⟨w.heap.size + 1, 7, none⟩ = false := by rw [hf _ _ (by first | omega | (simp; done) | (simp; omega))]; simp [go_sem]
  have sl1 : w1.cell? ⟨w.heap.size, 1, none⟩ = some (.slice a len2 cap) := by rw [hc _ _ (by first | omega | (simp; done) | (simp; omega))]; simp [go_sem]
  have hB1 : Below w.heap.size w w1 := by repeat (first | exact Below.refl _ _ | refine Below.alloc ?_ (by first | omega | (simp; done) | (simp; omega)) _ | refine chainB (by assumption) ?_)
  have HB := Lib.hid hB1
  have HW1 := Lib.hid (show ∀ o, w1.cell? ⟨w.heap.size + 1, o, none⟩ = w1.cell? ⟨w.heap.size + 1, o, none⟩ from fun _ => rfl)
  have z1 : w.heap.size < w1.heap.size := by omega
  have z2 : w.heap.size + 1 < w1.heap.size := by omega
  have HS0 := Lib.hid (ShapeAt.new w1 free zs cs)
  clear hc hf hb hB1 c1
  go_wp2_with fail
  go_loopw [25] (fun i wr => ∃ (k : Nat) (vo vr : Value), k ≤ len2 ∧ i = .int .i64 k ∧ ShapeAt wr w1.heap.size free zs cs k (lenTo zs k) vo vr k k ∧ Below w1.heap.size w1 wr) (fun i _ => len2 - (intOf i).toNat)
  case atStart => exact ⟨0, _, _, Nat.zero_le _, rfl, HS0.out, (Below.refl _ _).alloc (Nat.le_refl _) _⟩
  case round =>
    obtain ⟨k, vo, vr, hk, rfl, hS, hB⟩ := hrel
    have hsz := hB.size
    have hlt0 := hS.rig.lt
    by_cases hlt : k < len2
    · obtain ⟨b, off, rfl, hb, e0, e1, e2, e3⟩ := HC.out k hlt
      obtain ⟨b2, off2, rfl, hb2, u0, u1⟩ := HU.out k hlt
      have cl := CL.out w1.heap.size k hlt vo vr
      unfold elv prv at cl
      generalize el zs k = x at *
      generalize pr cs k = y at *
      obtain ⟨x0, x1, x2, x3⟩ := x
      obtain ⟨y0, y1⟩ := y
      dsimp only at *
      have hBB := HB.out.trans (hB.mono (by omega))
      have m0 := (hBB.cell (p := ⟨b, off + k * 4, none⟩) hb).trans e0
      have m1 := (hBB.cell (p := ⟨b, off + k * 4 + 1, none⟩) hb).trans e1
      have m2 := (hBB.cell (p := ⟨b, off + k * 4 + 2, none⟩) hb).trans e2
      have m3 := (hBB.cell (p := ⟨b, off + k * 4 + 3, none⟩) hb).trans e3
      have n0 := (hBB.cell (p := ⟨b2, off2 + k * 2, none⟩) hb2).trans u0
      have n1 := (hBB.cell (p := ⟨b2, off2 + k * 2 + 1, none⟩) hb2).trans u1
      clear e0 e1 e2 e3 u0 u1 hBB sl1
      have q1 : ¬ wr.heap.size = b2 := by omega
      have q2 : ¬ b2 = wr.heap.size := by omega
      have q3 : b2 < wr.heap.size := by omega
      have HS := Lib.hid hS
      have HBr := Lib.hid hB
      clear hS hB
      clear k0 f0 k1 f1 k2 f2 k3 f3 k4 f4 k5 f5 k6 f6 k7 f7
      go_wp2_with fail
      go_region_with (first | (go_at_call 169; refine Calls.mono (cl _ (HS.out.at (by repeat (first | exact Below.refl _ _ | refine Below.drew ?_ | refine Below.alloc ?_ (Nat.le_refl _) _)))) ?_; rintro e w2 ⟨rfl, vo', vr', hS2, hb2'⟩))
      all_goals
        go_wp2_with fail
        go_roundw
        case rel => exact ⟨k + 1, vo', vr', by omega, by go_num, hS2, (HBr.out.trans (by repeat (first | exact Below.refl _ _ | refine Below.drew ?_ | refine Below.alloc ?_ (by first | omega | (simp; omega)) _))).trans hb2'⟩
        case measure => simp [intOf]; omega
    · obtain rfl : k = len2 := by omega
      obtain ⟨-, c0, c1, c2, c3, c4, -, -, -, -⟩ := hS.rig
      have c5 := hS.c5
      have c6 := hS.c6
      have c7 := hS.c7
      have ro := hS.ro
      have rr := hS.rr
      obtain ⟨ao, no, co, hvo⟩ : ∃ a n c, vo = .slice a n c := by
        obtain ⟨a, c, e, -⟩ := prs_of_owns (cs := rowL (offG free zs cs) k) (by rw [rowL_len]; exact ro)
        exact ⟨_, _, _, e⟩
      obtain ⟨ar, nr, cr, hvr⟩ : ∃ a n c, vr = .slice a n c := by
        obtain ⟨a, c, e, -⟩ := prs_of_owns (cs := rowL (risG free zs cs) k) (by rw [rowL_len]; exact rr)
        exact ⟨_, _, _, e⟩
      subst hvo
      subst hvr
      have t0 := (hB.cell (p := ⟨w.heap.size + 1, 0, none⟩) z2).trans k0
      have g0 := (hB.frozen (p := ⟨w.heap.size + 1, 0, none⟩) z2).trans f0
      have t1 := (hB.cell (p := ⟨w.heap.size + 1, 1, none⟩) z2).trans k1
      have g1 := (hB.frozen (p := ⟨w.heap.size + 1, 1, none⟩) z2).trans f1
      have t2 := (hB.cell (p := ⟨w.heap.size + 1, 2, none⟩) z2).trans k2
      have g2 := (hB.frozen (p := ⟨w.heap.size + 1, 2, none⟩) z2).trans f2
      have t3 := (hB.cell (p := ⟨w.heap.size + 1, 3, none⟩) z2).trans k3
      have g3 := (hB.frozen (p := ⟨w.heap.size + 1, 3, none⟩) z2).trans f3
      have t4 := (hB.cell (p := ⟨w.heap.size + 1, 4, none⟩) z2).trans k4
      have g4 := (hB.frozen (p := ⟨w.heap.size + 1, 4, none⟩) z2).trans f4
      have t5 := (hB.cell (p := ⟨w.heap.size + 1, 5, none⟩) z2).trans k5
      have g5 := (hB.frozen (p := ⟨w.heap.size + 1, 5, none⟩) z2).trans f5
      have t6 := (hB.cell (p := ⟨w.heap.size + 1, 6, none⟩) z2).trans k6
      have g6 := (hB.frozen (p := ⟨w.heap.size + 1, 6, none⟩) z2).trans f6
      have t7 := (hB.cell (p := ⟨w.heap.size + 1, 7, none⟩) z2).trans k7
      have g7 := (hB.frozen (p := ⟨w.heap.size + 1, 7, none⟩) z2).trans f7
      clear k0 f0 k1 f1 k2 f2 k3 f3 k4 f4 k5 f5 k6 f6 k7 f7
      have zz : w.heap.size + 1 < wr.heap.size := by omega
      have hBB := HB.out.trans (hB.mono (by omega))
      have HBB := Lib.hid hBB
      have RO := Lib.hid (ro)
      have RR := Lib.hid (rr)
      clear hS hB hBB HC HU CL HS0 ro rr sl1
      have HZ := Lib.hid hLen
      clear hLen
      generalize lifTo zs k = q1 at *
      generalize sLo zs cs k = q2 at *
      generalize sHi zs cs k = q3 at *
      generalize wid zs cs k = q4 at *
      generalize hq5 : lenTo zs k = q5 at *
      have HQ5 := Lib.hid hq5
      clear hq5
      go_wp2_with fail
      refine bodyPost_ret (v := .tuple #[.agg #[.bool free, .int .i64 q1, .int .i64 q2, .int .i64 q3, .int .i64 q4, .int .i64 q5, .slice ao no co, .slice ar nr cr], .int .i64 0]) ?_ rfl ⟨_, rfl, fun _ => ?_, fun h => absurd rfl h, ?_⟩
      rotate_left
      · refine IsShape.mk q1 q2 q3 q4 (.slice ao no co) (.slice ar nr cr) ?_ ?_ ?_
        rotate_left
        · rw [HZ.out]
          exact prs_of_owns (by rw [rowL_len]; exact own_low (own_low (own_low (own_low (own_low (own_low (own_low (own_low RO.out (by omega)) (by omega)) (by omega)) (by omega)) (by omega)) (by omega)) (by omega)) (by omega))
        · rw [HZ.out]
          exact prs_of_owns (by rw [rowL_len]; exact own_low (own_low (own_low (own_low (own_low (own_low (own_low (own_low RR.out (by omega)) (by omega)) (by omega)) (by omega)) (by omega)) (by omega)) (by omega)) (by omega))
        · rw [HZ.out, HQ5.out]
      · exact Below.setCell (Below.setCell (Below.setCell (Below.setCell (Below.setCell (Below.setCell (Below.setCell (Below.setCell HBB.out (by simp) _) (by simp) _) (by simp) _) (by simp) _) (by simp) _) (by simp) _) (by simp) _) (by simp) _
      · simp [results, Try.results132, go_sem, t0, t1, t2, t3, t4, t5, t6, t7]
end Go.Proofs.Ytdohfpnnmppdkaa.Moo
namespace Go.Proofs.Ytdohfpnnmppdkaa.Moo
open Go.RowKit Go.Shelf
set_option linter.unusedSimpArgs false
/-- the depth of the top -/
noncomputable def topS (d : Int) (zs : List El) (an fr : Int) (cs : List Pr) (free : Bool) : Pr :=
  if staE d zs an fr cs = 0 then ⟨d - totHi (rises free zs cs) zs.length, d - totLo (rises free zs cs) zs.length⟩ else ⟨0, 0⟩
theorem sub_top {d lo hi : Int} (h0 : 1 ≤ d) (h1 : d ≤ 1048576) (h2 : 0 ≤ lo) (h3 : lo ≤ hi) (h4 : hi ≤ 41943040) : subS d d lo hi = ⟨d - hi, d - lo, 0⟩ := by
  unfold subS
  rw [if_pos ⟨(vB_iff _ _).2 ⟨by omega, by omega, by omega⟩, (vB_iff _ _).2 ⟨by omega, by omega, by omega⟩⟩]
  unfold fit
  rw [if_pos ((vB_iff _ _).2 ⟨by omega, by omega, by omega⟩)]
set_option maxRecDepth 100000 in
set_option maxHeartbeats 8000000 in
theorem top_any (d an fr : Int) (sv cv : Value) (zs : List El) (cs : List Pr) (free : Bool) (w : World) (hI : Els w.heap.size w sv zs) (hC : Prs w.heap.size w cv cs) :
    Calls Try.prog 131 #[.agg #[.int .i64 d, sv, .int .i64 an, .int .i64 fr], cv, .bool free] w fun e w' => e = .returned (.tuple #[prv (topS d zs an fr cs free), .int .i64 (staE d zs an fr cs)]) ∧ Below w.heap.size w w' := by
  have c1 := fun w' (hb : Below w.heap.size w w') => shapeOf_any d an fr sv cv zs cs free w' (hI.at hb) (hC.at hb)
  have HOK := Lib.hid (fun (h : staE d zs an fr cs = 0) => staE_ok h)
  have HT := Lib.hid (show topS d zs an fr cs free = if staE d zs an fr cs = 0 then ⟨d - totHi (rises free zs cs) zs.length, d - totLo (rises free zs cs) zs.length⟩ else ⟨0, 0⟩ from rfl)
  obtain ⟨a, cap, rfl, -, -⟩ := hI
  obtain ⟨c, cap2, rfl, -, -⟩ := hC
  unfold prv
  generalize topS d zs an fr cs free = T at *
  generalize staE d zs an fr cs = E at *
  by_cases hE : E = 0
  rotate_left
  · have hT : T = ⟨0, 0⟩ := by rw [HT.out, if_neg hE]
    subst hT
    clear HOK HT
    generalize zs.length = len at *
    generalize cs.length = len2 at *
    have HE := Lib.hid hE
    have hbq : (E != 0) = true := by simpa using hE
    clear hE
    go_enter Try.func131, Try.ntmps131
    go_wp2_with fail
    refine (c1 _ (by repeat (first | exact Below.refl _ _ | refine Below.alloc ?_ (by first | omega | (simp; done) | (simp; omega)) _))).mono ?_
    rintro e w1 ⟨v, rfl, -, hv, hb⟩
    obtain rfl := hv HE.out
    obtain ⟨hc, hf⟩ := bcell hb
    have hz := hb.size
    simp only [World.size_alloc] at hz
    have k0 : w1.cell? ⟨w.heap.size + 1, 0, none⟩ = some (.int .i64 0) := by rw [hc _ _ (by first | omega | (simp; done) | (simp; omega))]; simp [go_sem]
    have k1 : w1.cell? ⟨w.heap.size + 1, 1, none⟩ = some (.int .i64 0) := by rw [hc _ _ (by first | omega | (simp; done) | (simp; omega))]; simp [go_sem]
    have f0 : w1.frozen? ⟨w.heap.size + 1, 0, none⟩ = false := by rw [hf _ _ (by first | omega | (simp; done) | (simp; omega))]; simp [go_sem]
    have f1 : w1.frozen? ⟨w.heap.size + 1, 1, none⟩ = false := by rw [hf _ _ (by first | omega | (simp; done) | (simp; omega))]; simp [go_sem]
    have hB1 : Below w.heap.size w w1 := by repeat (first | exact Below.refl _ _ | refine Below.alloc ?_ (by first | omega | (simp; done) | (simp; omega)) _ | refine chainB (by assumption) ?_)
    have HB := Lib.hid hB1
    have z1 : w.heap.size + 1 < w1.heap.size := by omega
    clear hc hf hb hB1 c1 hv
    unfold shape0
    go_wp2_with fail
    refine bodyPost_ret (v := .tuple #[.agg #[.int .i64 0, .int .i64 0], .int .i64 E]) (by simp [results, Try.results131, go_sem, *]) rfl ⟨rfl, ?_⟩
    repeat (first | refine Below.setCell ?_ (by first | omega | (simp; done) | (simp; omega)) _ | refine Below.alloc ?_ (by first | omega | (simp; done) | (simp; omega)) _ | exact HB.out)
  subst hE
  obtain ⟨hrig, hsta, hmoo, -⟩ := HOK.out rfl
  have hst := (standB_iff hrig.pos).1 hsta
  have hd : 1 ≤ d ∧ d ≤ 1048576 := by
    have := (mooE_ok hmoo).2.2.2
    unfold mooOk at this
    rw [Bool.and_eq_true, btw_iff] at this
    exact this.1
  have hT : T = ⟨d - totHi (rises free zs cs) zs.length, d - totLo (rises free zs cs) zs.length⟩ := by rw [HT.out, if_pos rfl]
  have htot := rises_tot hrig hst free
  have CT := Lib.hid (fun v W (hP : Prs W.heap.size W v (rises free zs cs)) => total_any v (rises free zs cs) (by unfold rises; rw [rowL_len]; exact hrig.most) (rises_bd hrig hst free) W hP)
  rw [show (rises free zs cs).length = zs.length by unfold rises; rw [rowL_len]] at CT
  have cS := fun W => sub_any d d (totLo (rises free zs cs) zs.length) (totHi (rises free zs cs) zs.length) W
  rw [sub_top hd.1 hd.2 htot.1 htot.2.1 htot.2.2] at cS
  dsimp only at cS
  have cE := fun W => exactly_any d W
  have HP := Lib.hid (show ∀ W v, IsShape W v free zs cs → ∃ lift lo hi wd L ao no co ar nr cr, v = .agg #[.bool free, .int .i64 lift, .int .i64 lo, .int .i64 hi, .int .i64 wd, .int .i64 L, .slice ao no co, .slice ar nr cr] ∧ Prs W.heap.size W (.slice ar nr cr) (rises free zs cs) from fun W v h => by
    obtain ⟨lift, lo, hi, wd, vo, vr, rfl, h1, h2⟩ := h
    have h2' := h2
    obtain ⟨a1, q1, rfl, -, -⟩ := h1
    obtain ⟨a2, q2, rfl, -, -⟩ := h2
    exact ⟨lift, lo, hi, wd, lenTo zs zs.length, a1, (rowL (offG free zs cs) zs.length).length, q1, a2, (rowL (risG free zs cs) zs.length).length, q2, rfl, h2'⟩)
  subst hT
  dsimp only
  clear HOK HT hrig hsta hst hmoo htot hd
  generalize totLo (rises free zs cs) zs.length = tl at *
  generalize totHi (rises free zs cs) zs.length = th at *
  generalize rises free zs cs = R at *
  generalize zs.length = len at *
  generalize cs.length = len2 at *
  go_enter Try.func131, Try.ntmps131
  go_wp2_with fail
  refine (c1 _ (by repeat (first | exact Below.refl _ _ | refine Below.alloc ?_ (by first | omega | (simp; done) | (simp; omega)) _))).mono ?_
  rintro e w1 ⟨v, rfl, hs, -, hb⟩
  obtain ⟨lift, lo, hi, wd, L, ao, no, co, ar, nr, cr, rfl, hP⟩ := HP.out _ _ (hs trivial)
  obtain ⟨hc, hf⟩ := bcell hb
  have hz := hb.size
  simp only [World.size_alloc] at hz
  have k0 : w1.cell? ⟨w.heap.size + 1, 0, none⟩ = some (.int .i64 0) := by rw [hc _ _ (by first | omega | (simp; done) | (simp; omega))]; simp [go_sem]
  have k1 : w1.cell? ⟨w.heap.size + 1, 1, none⟩ = some (.int .i64 0) := by rw [hc _ _ (by first | omega | (simp; done) | (simp; omega))]; simp [go_sem]
  have f0 : w1.frozen? ⟨w.heap.size + 1, 0, none⟩ = false := by rw [hf _ _ (by first | omega | (simp; done) | (simp; omega))]; simp [go_sem]
  have f1 : w1.frozen? ⟨w.heap.size + 1, 1, none⟩ = false := by rw [hf _ _ (by first | omega | (simp; done) | (simp; omega))]; simp [go_sem]
  have kd : w1.cell? ⟨w.heap.size, 0, none⟩ = some (.int .i64 d) := by rw [hc _ _ (by first | omega | (simp; done) | (simp; omega))]; simp [go_sem]
  have hB1 : Below w.heap.size w w1 := by repeat (first | exact Below.refl _ _ | refine Below.alloc ?_ (by first | omega | (simp; done) | (simp; omega)) _ | refine chainB (by assumption) ?_)
  have HB := Lib.hid hB1
  have HPr := Lib.hid (fun W (hbb : Below w1.heap.size w1 W) => hP.at hbb)
  have z0 : w.heap.size < w1.heap.size := by omega
  have z1 : w.heap.size + 1 < w1.heap.size := by omega
  clear hc hf hb hB1 c1 hs hP HP
  go_wp2_with fail
  obtain ⟨W0, hW0⟩ : ∃ W0, W0 = w1.alloc (.cells #[.bool free, .int .i64 lift, .int .i64 lo, .int .i64 hi, .int .i64 wd, .int .i64 L, .slice ao no co, .slice ar nr cr] 178) := ⟨_, rfl⟩
  rw [← hW0]
  have hb0 : Below w1.heap.size w1 W0 := by rw [hW0]; exact (Below.refl _ _).alloc (Nat.le_refl _) _
  have t0 : W0.cell? ⟨w.heap.size, 0, none⟩ = some (.int .i64 d) := (hb0.cell (p := ⟨w.heap.size, 0, none⟩) z0).trans kd
  have t1 : W0.cell? ⟨w1.heap.size, 7, none⟩ = some (.slice ar nr cr) := by rw [hW0]; simp [go_sem]
  have r0 : W0.cell? ⟨w.heap.size + 1, 0, none⟩ = some (.int .i64 0) := (hb0.cell (p := ⟨w.heap.size + 1, 0, none⟩) z1).trans k0
  have r1 : W0.cell? ⟨w.heap.size + 1, 1, none⟩ = some (.int .i64 0) := (hb0.cell (p := ⟨w.heap.size + 1, 1, none⟩) z1).trans k1
  have s0 : W0.frozen? ⟨w.heap.size + 1, 0, none⟩ = false := (hb0.frozen (p := ⟨w.heap.size + 1, 0, none⟩) z1).trans f0
  have s1 : W0.frozen? ⟨w.heap.size + 1, 1, none⟩ = false := (hb0.frozen (p := ⟨w.heap.size + 1, 1, none⟩) z1).trans f1
  have zW : w1.heap.size + 1 ≤ W0.heap.size := by rw [hW0]; simp
  have hB0 := HB.out.trans (hb0.mono (by omega))
  have HPw := Lib.hid (fun W (hbb : Below W0.heap.size W0 W) => HPr.out W (hb0.trans (hbb.mono (by omega))))
  have HB0 := Lib.hid hB0
  have y0 : w.heap.size < W0.heap.size := by omega
  have y1 : w.heap.size + 1 < W0.heap.size := by omega
  have y2 : w1.heap.size < W0.heap.size := by omega
  have y3 : ¬ w.heap.size + 1 = w1.heap.size := by omega
  have y4 : ¬ w1.heap.size = w.heap.size + 1 := by omega
  clear hW0 hb0 kd k0 k1 f0 f1 hB0 HB HPr
  go_region_held3 (fun w' => w'.cell? ⟨w.heap.size, 0, none⟩ = some (.int .i64 d) ∧ w'.cell? ⟨w1.heap.size, 7, none⟩ = some (.slice ar nr cr)) ((first | (simp [go_sem, *]; done) | (refine ⟨?_, ?_⟩ <;> (rw [hcc.out _ _ (by first | omega | (simp; done) | (simp; omega))]; simp [go_sem, *]))))
    (first | (go_at_call 133; refine Calls.mono (CT.out _ _ (HPw.out _ (by repeat (first | exact Below.refl _ _ | refine Below.drew ?_ | refine chainB (by assumption) ?_)))) ?_; rintro e wb ⟨rfl, hb⟩; have hcc := Lib.hid (fun b o (h : b < _) => hb.cell (p := ⟨b, o, none⟩) h); have hff := Lib.hid (fun b o (h : b < _) => hb.frozen (p := ⟨b, o, none⟩) h); have hswb := hb.size; (try simp only [World.size_drew] at hswb); have kwb0 : wb.cell? ⟨w.heap.size, 0, none⟩ = some (.int .i64 d) := (hcc.out _ _ (by first | omega | (simp; done) | (simp; omega))).trans (by simp [go_sem, *]); have kwb1 : wb.cell? ⟨w1.heap.size, 7, none⟩ = some (.slice ar nr cr) := (hcc.out _ _ (by first | omega | (simp; done) | (simp; omega))).trans (by simp [go_sem, *]); have kwb2 : wb.cell? ⟨w.heap.size + 1, 0, none⟩ = some (.int .i64 0) := (hcc.out _ _ (by first | omega | (simp; done) | (simp; omega))).trans (by simp [go_sem, *]); have kwb3 : wb.cell? ⟨w.heap.size + 1, 1, none⟩ = some (.int .i64 0) := (hcc.out _ _ (by first | omega | (simp; done) | (simp; omega))).trans (by simp [go_sem, *]); have fwb0 : wb.frozen? ⟨w.heap.size + 1, 0, none⟩ = false := (hff.out _ _ (by first | omega | (simp; done) | (simp; omega))).trans (by simp [go_sem, *]); have fwb1 : wb.frozen? ⟨w.heap.size + 1, 1, none⟩ = false := (hff.out _ _ (by first | omega | (simp; done) | (simp; omega))).trans (by simp [go_sem, *]); have zwb0 : w.heap.size < wb.heap.size := Nat.lt_of_lt_of_le zwa0 hb.size; have zwb1 : w.heap.size + 1 < wb.heap.size := Nat.lt_of_lt_of_le zwa1 hb.size; have zwb2 : w1.heap.size < wb.heap.size := Nat.lt_of_lt_of_le zwa2 hb.size) | (go_at_call 64; refine Calls.mono (cS _) ?_; rintro e wd2 ⟨rfl, hb⟩; have hcc := Lib.hid (fun b o (h : b < _) => hb.cell (p := ⟨b, o, none⟩) h); have hff := Lib.hid (fun b o (h : b < _) => hb.frozen (p := ⟨b, o, none⟩) h); have hswd2 := hb.size; (try simp only [World.size_drew] at hswd2); have kwd20 : wd2.cell? ⟨w.heap.size, 0, none⟩ = some (.int .i64 d) := (hcc.out _ _ (by first | omega | (simp; done) | (simp; omega))).trans (by simp [go_sem, *]); have kwd21 : wd2.cell? ⟨w1.heap.size, 7, none⟩ = some (.slice ar nr cr) := (hcc.out _ _ (by first | omega | (simp; done) | (simp; omega))).trans (by simp [go_sem, *]); have kwd22 : wd2.cell? ⟨w.heap.size + 1, 0, none⟩ = some (.int .i64 0) := (hcc.out _ _ (by first | omega | (simp; done) | (simp; omega))).trans (by simp [go_sem, *]); have kwd23 : wd2.cell? ⟨w.heap.size + 1, 1, none⟩ = some (.int .i64 0) := (hcc.out _ _ (by first | omega | (simp; done) | (simp; omega))).trans (by simp [go_sem, *]); have fwd20 : wd2.frozen? ⟨w.heap.size + 1, 0, none⟩ = false := (hff.out _ _ (by first | omega | (simp; done) | (simp; omega))).trans (by simp [go_sem, *]); have fwd21 : wd2.frozen? ⟨w.heap.size + 1, 1, none⟩ = false := (hff.out _ _ (by first | omega | (simp; done) | (simp; omega))).trans (by simp [go_sem, *]); have zwd20 : w.heap.size < wd2.heap.size := Nat.lt_of_lt_of_le zwb0 hb.size; have zwd21 : w.heap.size + 1 < wd2.heap.size := Nat.lt_of_lt_of_le zwb1 hb.size; have zwd22 : w1.heap.size < wd2.heap.size := Nat.lt_of_lt_of_le zwb2 hb.size) | (go_at_call 167; refine Calls.mono (cE _) ?_; rintro e wa ⟨rfl, hb⟩; have hcc := Lib.hid (fun b o (h : b < _) => hb.cell (p := ⟨b, o, none⟩) h); have hff := Lib.hid (fun b o (h : b < _) => hb.frozen (p := ⟨b, o, none⟩) h); have hswa := hb.size; (try simp only [World.size_drew] at hswa); have kwa0 : wa.cell? ⟨w.heap.size, 0, none⟩ = some (.int .i64 d) := (hcc.out _ _ (by first | omega | (simp; done) | (simp; omega))).trans (by simp [go_sem, *]); have kwa1 : wa.cell? ⟨w1.heap.size, 7, none⟩ = some (.slice ar nr cr) := (hcc.out _ _ (by first | omega | (simp; done) | (simp; omega))).trans (by simp [go_sem, *]); have kwa2 : wa.cell? ⟨w.heap.size + 1, 0, none⟩ = some (.int .i64 0) := (hcc.out _ _ (by first | omega | (simp; done) | (simp; omega))).trans (by simp [go_sem, *]); have kwa3 : wa.cell? ⟨w.heap.size + 1, 1, none⟩ = some (.int .i64 0) := (hcc.out _ _ (by first | omega | (simp; done) | (simp; omega))).trans (by simp [go_sem, *]); have fwa0 : wa.frozen? ⟨w.heap.size + 1, 0, none⟩ = false := (hff.out _ _ (by first | omega | (simp; done) | (simp; omega))).trans (by simp [go_sem, *]); have fwa1 : wa.frozen? ⟨w.heap.size + 1, 1, none⟩ = false := (hff.out _ _ (by first | omega | (simp; done) | (simp; omega))).trans (by simp [go_sem, *]); have zwa0 : w.heap.size < wa.heap.size := Nat.lt_of_lt_of_le y0 hb.size; have zwa1 : w.heap.size + 1 < wa.heap.size := Nat.lt_of_lt_of_le y1 hb.size; have zwa2 : w1.heap.size < wa.heap.size := Nat.lt_of_lt_of_le y2 hb.size))
  all_goals
    go_wp2_with fail
    refine bodyPost_ret (v := .tuple #[.agg #[.int .i64 (d - th), .int .i64 (d - tl)], .int .i64 0]) (by simp [results, Try.results131, go_sem, *]) rfl ⟨rfl, ?_⟩
    repeat (first | refine Below.setCell ?_ (by first | omega | (simp; done) | (simp; omega)) _ | refine Below.drew ?_ | exact HB0.out | refine chainB (by assumption) ?_ | exact Below.refl _ _)
end Go.Proofs.Ytdohfpnnmppdkaa.Moo
namespace Go.Proofs.Ytdohfpnnmppdkaa.Moo
open Go.RowKit Go.Shelf
set_option linter.unusedSimpArgs false
def exZ : List El := [⟨0, 1000, 400, 5000⟩, ⟨8000, -200, 100, 2000⟩]
def exC : List Pr := [⟨0, 1000⟩, ⟨500, 500⟩]
theorem sta_ex : staE 10000 exZ 3000 500 exC = 0 := by decide
theorem isqUp_eq {x r : Int} (h : isq x = r) : isqUp x = if r * r < x then r + 1 else r := by unfold isqUp; rw [h]
theorem top_ex : topS 10000 exZ 3000 500 exC false = ⟨2000, 2936⟩ := by
  have m1 : moG exZ exC 1 = 1160000 := by decide
  have m2 : moG exZ exC 2 = 820625 := by decide
  have l1 : leG false exZ exC 1 = 1000000 := by decide
  have l2 : leG false exZ exC 2 = 640625 := by decide
  have a1 : isq 1160000 = 1077 := isq_eq ⟨by decide, by decide, by decide⟩
  have a2 : isq 820625 = 905 := isq_eq ⟨by decide, by decide, by decide⟩
  have b1 : isq 1000000 = 1000 := isq_eq ⟨by decide, by decide, by decide⟩
  have b2 : isq 640625 = 800 := isq_eq ⟨by decide, by decide, by decide⟩
  have r1 : risG false exZ exC 1 = ⟨0, 0⟩ := by
    simp only [risG]
    rw [m1, l1, isqUp_eq a1, b1]
    rfl
  have r2 : risG false exZ exC 2 = ⟨7064, 8000⟩ := by
    simp only [risG]
    rw [m2, l2, isqUp_eq a2, b2]
    rfl
  have e : rises false exZ exC = [⟨0, 0⟩, ⟨7064, 8000⟩] := by
    show rowL (risG false exZ exC) 2 = _
    simp only [rowL]
    rw [r1, r2]
    rfl
  unfold topS
  rw [if_pos sta_ex, e]
  rfl
theorem els_two {W : World} {b : Nat} (x y : El) (hb : b < W.heap.size) (c0 : W.cell? ⟨b, 0, none⟩ = some (.int .i64 x.len)) (c1 : W.cell? ⟨b, 1, none⟩ = some (.int .i64 x.lift)) (c2 : W.cell? ⟨b, 2, none⟩ = some (.int .i64 x.drag)) (c3 : W.cell? ⟨b, 3, none⟩ = some (.int .i64 x.str))
    (c4 : W.cell? ⟨b, 4, none⟩ = some (.int .i64 y.len)) (c5 : W.cell? ⟨b, 5, none⟩ = some (.int .i64 y.lift)) (c6 : W.cell? ⟨b, 6, none⟩ = some (.int .i64 y.drag)) (c7 : W.cell? ⟨b, 7, none⟩ = some (.int .i64 y.str)) : Els W.heap.size W (.slice (some ⟨b, 0, none⟩) 2 2) [x, y] := by
  refine ⟨_, _, rfl, Nat.le_refl _, fun k hk => ⟨b, 0, rfl, hb, ?_⟩⟩
  match k, hk with
  | 0, _ => exact ⟨c0, c1, c2, c3⟩
  | 1, _ => exact ⟨c4, c5, c6, c7⟩
theorem prs_two {W : World} {b : Nat} (x y : Pr) (hb : b < W.heap.size) (c0 : W.cell? ⟨b, 0, none⟩ = some (.int .i64 x.lo)) (c1 : W.cell? ⟨b, 1, none⟩ = some (.int .i64 x.hi)) (c2 : W.cell? ⟨b, 2, none⟩ = some (.int .i64 y.lo)) (c3 : W.cell? ⟨b, 3, none⟩ = some (.int .i64 y.hi)) : Prs W.heap.size W (.slice (some ⟨b, 0, none⟩) 2 2) [x, y] := by
  refine ⟨_, _, rfl, Nat.le_refl _, fun k hk => ⟨b, 0, rfl, hb, ?_⟩⟩
  match k, hk with
  | 0, _ => exact ⟨c0, c1⟩
  | 1, _ => exact ⟨c2, c3⟩
end Go.Proofs.Ytdohfpnnmppdkaa.Moo

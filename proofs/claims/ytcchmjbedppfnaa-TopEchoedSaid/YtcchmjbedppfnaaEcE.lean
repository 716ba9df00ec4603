/-
  TopEchoed: the clock with one exchange; two of its stamps.
-/
import Derived.Test.YtcchmjbedppfnaaEcD
import Derived.Test.YtcchmjbedppfnaaMonMath
import Derived.Test.YtcchmjbedppfnaaLawCtr
import Derived.Test.YtcchmjbedppfnaaCkZ
namespace Go.Proofs.Ytcchmjbedppfnaa
open Go.RowKit Go.Shelf
set_option linter.unusedSimpArgs false
theorem lrn_root {p r : Int} {xs : List Xc} (h : lrnE p r xs = 0) : lrnE (-1) r xs = 0 := by
  obtain ⟨⟨a1, a2⟩, a3, a4, a5⟩ := lrnE_ok h
  unfold lrnE
  rw [if_neg (by omega), if_neg (by omega), if_neg (by omega), if_neg (by rw [a4]; decide), if_pos (xs_ok a5)]
theorem ent_one {p r : Int} {xs : List Xc} (h0 : lrnE p r xs = 0) (hs : sdB r (ofA r xs) = true) : entE [⟨-1, r, xs⟩] = 0 := by
  have h1 : fstE [⟨-1, r, xs⟩] = 0 := by unfold fstE; rw [if_pos (lrn_root h0)]; rfl
  have h2 : jnB (([⟨-1, r, xs⟩] : List Cl).map knC) = true := by rfl
  have h3 : shB (([⟨-1, r, xs⟩] : List Cl).map knC) = true := by
    refine shB_ok fun k hk => ?_
    have hk2 : k < 1 := hk
    obtain rfl : k = 0 := by omega
    exact hs
  unfold entE
  rw [if_neg (by simp), if_neg (by simp), if_neg (by rw [h1]; decide), if_neg (by rw [h2]; decide), if_neg (by rw [h3]; decide)]
theorem time_one {p r t : Int} {xs : List Xc} (h0 : lrnE p r xs = 0) (hs : sdB r (ofA r xs) = true) (ht : 0 ≤ t ∧ t ≤ 1125899906842624) : timeR [⟨-1, r, xs⟩] 0 t = ⟨t + (atS r t (ofA r xs)).1, t + (atS r t (ofA r xs)).2, 0⟩ := by
  unfold timeR
  rw [if_pos (ent_one h0 hs)]
  unfold timR
  rw [if_pos ⟨by simp, (tmB_iff t).2 ht⟩]
  rfl
theorem grw_0 (d : Int) : grw 0 d = 0 := by rw [grw_ceil, Int.zero_mul]; rfl
/-- the exchange of the example -/
def eX (bh d w : Int) : Xc := ⟨100000, 100000 + bh + d, 100000 + bh + d, 100000 + 2 * d, max 0 (d - w), d + w, max 0 (d - w), d + w⟩
theorem eX_ok {bh d w : Int} (h1 : 0 ≤ bh ∧ bh ≤ 65535) (h2 : 0 ≤ d ∧ d ≤ 65535) (h3 : 0 ≤ w ∧ w ≤ 999) :
    lrnE (-1) 0 [eX bh d w] = 0 ∧ sdB 0 (ofA 0 [eX bh d w]) = true ∧ ∀ t, atS 0 t (ofA 0 [eX bh d w]) = (bh - min d w, bh + min d w) := by
  have hx : xcB (eX bh d w) = true := by
    rw [xcB_iff]; unfold eX; dsimp only; omega
  have hL : offL 0 (eX bh d w) = bh - min d w := by
    unfold offL; rw [grw_0]; unfold eX; dsimp only; omega
  have hH : offH 0 (eX bh d w) = bh + min d w := by
    unfold offH; rw [grw_0]; unfold eX; dsimp only; omega
  have hR : offR 0 (eX bh d w) = ⟨bh - min d w, bh + min d w, 0⟩ := by
    unfold offR; rw [hL, hH, if_pos hx, if_pos (by decide), if_pos (by omega)]
  have hk : okX 0 (eX bh d w) = true := by
    unfold okX
    rw [hR, Bool.and_eq_true]
    exact ⟨by simp, (vB_iff _ _).2 (by dsimp only; omega)⟩
  refine ⟨?_, ?_, fun t => ?_⟩
  · unfold lrnE
    rw [if_neg (by simp), if_neg (by simp), if_neg (by omega), if_neg (by decide), if_pos (by simp [hk])]
  · unfold sdB
    simp only [decide_eq_true_eq]
    intro i k h g
    have : (ofA 0 [eX bh d w]).length = 1 := ofTo_len _ _ _
    omega
  · have e : ofA 0 [eX bh d w] = [ofX 0 (eX bh d w)] := rfl
    rw [e]
    unfold atS
    show meetS (-9223372036854775808, 9223372036854775807) (bnd 0 t (ofX 0 (eX bh d w))) = _
    unfold bnd meetS ofX
    rw [grw_0, hL, hH]
    dsimp only
    rw [Prod.mk.injEq]
    omega
theorem times_two (lv sv : Value) (bh d w r0 r1 : Int) (h1 : 0 ≤ bh ∧ bh ≤ 65535) (h2 : 0 ≤ d ∧ d ≤ 65535) (h3 : 0 ≤ w ∧ w ≤ 999) (h4 : 0 ≤ r0 ∧ r0 ≤ 1125899906842624) (h5 : 0 ≤ r1 ∧ r1 ≤ 1125899906842624) (W : World)
    (hC : Cls W.heap.size W lv [⟨-1, 0, [eX bh d w]⟩]) (hS : Sps W.heap.size W sv [(0, r0), (0, r1)]) :
    Calls Try.prog 39 #[lv, sv] W fun e w' => (∃ b off c, e = .returned (.tuple #[.slice (some ⟨b, off, none⟩) 2 c, .int .i64 0]) ∧ b < w'.heap.size ∧ w'.cell? ⟨b, off, none⟩ = some (.int .i64 (r0 + (bh - min d w))) ∧ w'.cell? ⟨b, off + 1, none⟩ = some (.int .i64 (r0 + (bh + min d w))) ∧ w'.cell? ⟨b, off + 2, none⟩ = some (.int .i64 (r1 + (bh - min d w))) ∧ w'.cell? ⟨b, off + 2 + 1, none⟩ = some (.int .i64 (r1 + (bh + min d w)))) ∧ Below W.heap.size W w' := by
  obtain ⟨k1, k2, k3⟩ := eX_ok h1 h2 h3
  refine (times_any lv sv _ _ W hC hS).mono ?_
  rintro e w' ⟨v, E, rfl, hE, hV, hb⟩
  have t0 := time_one (t := r0) k1 k2 h4
  have t1 := time_one (t := r1) k1 k2 h5
  rw [k3] at t0 t1
  have e0 : tmE [⟨-1, 0, [eX bh d w]⟩] [(0, r0), (0, r1)] 1 = 0 := by
    show (if tmE _ _ 0 = 0 then (timeR [⟨-1, 0, [eX bh d w]⟩] 0 r0).e else _) = 0
    have q0 : tmE [⟨-1, 0, [eX bh d w]⟩] [(0, r0), (0, r1)] 0 = 0 := rfl
    rw [if_pos q0, t0]
  have e1 : tmE [⟨-1, 0, [eX bh d w]⟩] [(0, r0), (0, r1)] 2 = 0 := by
    show (if tmE _ _ 1 = 0 then (timeR [⟨-1, 0, [eX bh d w]⟩] 0 r1).e else _) = 0
    rw [if_pos e0, t1]
  have hE0 : E = 0 := by
    rw [hE]
    unfold tmsE
    rw [if_pos (ent_one k1 k2), if_neg (by simp)]
    exact e1
  subst hE0
  rw [if_pos rfl] at hV
  have hT : tmTo [⟨-1, 0, [eX bh d w]⟩] [(0, r0), (0, r1)] 2 = [(r0 + (bh - min d w), r0 + (bh + min d w)), (r1 + (bh - min d w), r1 + (bh + min d w))] := by
    show [] ++ [((timeR [⟨-1, 0, [eX bh d w]⟩] 0 r0).lo, (timeR [⟨-1, 0, [eX bh d w]⟩] 0 r0).hi)] ++ [((timeR [⟨-1, 0, [eX bh d w]⟩] 0 r1).lo, (timeR [⟨-1, 0, [eX bh d w]⟩] 0 r1).hi)] = _
    rw [t0, t1]
    rfl
  have hV2 : Sps w'.heap.size w' v (tmTo [⟨-1, 0, [eX bh d w]⟩] [(0, r0), (0, r1)] 2) := hV
  rw [hT] at hV2
  obtain ⟨a, cap, rfl, hl, hc⟩ := hV2
  obtain ⟨b, off, rfl, hb1, c0, c1⟩ := hc 0 (by simp)
  obtain ⟨b', off', hq, -, c2, c3⟩ := hc 1 (by simp)
  simp only [Option.some.injEq, Addr.mk.injEq] at hq
  obtain ⟨rfl, rfl, -⟩ := hq
  exact ⟨⟨_, _, _, rfl, hb1, by simpa [sp] using c0, by simpa [sp] using c1, by simpa [sp] using c2, by simpa [sp] using c3⟩, hb⟩
end Go.Proofs.Ytcchmjbedppfnaa

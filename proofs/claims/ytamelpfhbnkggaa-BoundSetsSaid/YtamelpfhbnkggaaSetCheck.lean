/-
  bound.CheckSet.
-/
import Derived.Test.YtamelpfhbnkggaaCover
import Derived.Test.YtamelpfhbnkggaaNrm
import Derived.BigQuiet
import Derived.Deep.QuietTactic
namespace Go.Proofs.Ytamelpfhbnkggaa
open Go.RowKit Go.Shelf
/-- element number j -/
def gt (zs : List (Int × Int)) (j : Nat) : Int × Int := zs[j]?.getD (0, 0)
theorem ok_vB {z : Int × Int} : Ok z ↔ vB z.1 z.2 = true := by
  rw [vB_iff]; unfold Ok
  constructor
  · rintro ⟨a, b, c⟩; exact ⟨c, a, b⟩
  · rintro ⟨a, b, c⟩; exact ⟨b, c, a⟩
theorem gt_get {zs : List (Int × Int)} {j : Nat} (h : j < zs.length) : gt zs j = zs[j] := by unfold gt; rw [List.getElem?_eq_getElem h, Option.getD_some]
def AdjTo (zs : List (Int × Int)) (k : Nat) : Prop := ∀ j, j < k → Ok (gt zs j) ∧ (0 < j → (gt zs (j - 1)).2 + 1 < (gt zs j).1)
theorem nrm_of_adj {zs : List (Int × Int)} (h : AdjTo zs zs.length) : Nrm zs := by
  have key : ∀ d i, i + 1 + d < zs.length → (gt zs i).2 + 1 < (gt zs (i + 1 + d)).1 := by
    intro d
    induction d with
    | zero => intro i hi; have := (h (i + 1) (by omega)).2 (by omega); simpa using this
    | succ d ih =>
      intro i hi
      have h1 := ih i (by omega)
      have h2 := (h (i + 1 + d) (by omega)).1.2.2
      have h3 := (h (i + 1 + (d + 1)) (by omega)).2 (by omega)
      rw [show i + 1 + (d + 1) - 1 = i + 1 + d by omega] at h3
      omega
  refine ⟨fun p hp => ?_, List.pairwise_iff_getElem.2 fun i j hi hj hij => ?_⟩
  · obtain ⟨j, hj, rfl⟩ := List.getElem_of_mem hp
    have := (h j hj).1
    rwa [gt_get hj] at this
  · have := key (j - i - 1) i (by omega)
    rw [show i + 1 + (j - i - 1) = j by omega, gt_get hi, gt_get hj] at this
    exact this
theorem adj_of_nrm {zs : List (Int × Int)} (h : Nrm zs) : AdjTo zs zs.length := by
  intro j hj
  rw [gt_get hj]
  refine ⟨h.1 _ (List.getElem_mem hj), fun h0 => ?_⟩
  have hi : j - 1 < zs.length := by omega
  rw [gt_get hi]
  exact (List.pairwise_iff_getElem.1 h.2) (j - 1) j hi hj (by omega)
open Classical in
/-- the error of a set -/
noncomputable def setE (zs : List (Int × Int)) : Int := if 256 < zs.length then 6 else if Nrm zs then 0 else 2
theorem setE_many {zs : List (Int × Int)} (h : 256 < zs.length) : setE zs = 6 := if_pos h
theorem setE_ok {zs : List (Int × Int)} (h : ¬ 256 < zs.length) (k : Nrm zs) : setE zs = 0 := by unfold setE; rw [if_neg h, if_pos k]
theorem setE_bad {zs : List (Int × Int)} (h : ¬ 256 < zs.length) (k : ¬ Nrm zs) : setE zs = 2 := by unfold setE; rw [if_neg h, if_neg k]
theorem setE_zero {zs : List (Int × Int)} (h : setE zs = 0) : zs.length ≤ 256 ∧ Nrm zs := by
  by_cases h1 : 256 < zs.length
  · rw [setE_many h1] at h; exact absurd h (by decide)
  · by_cases h2 : Nrm zs
    · exact ⟨by omega, h2⟩
    · rw [setE_bad h1 h2] at h; exact absurd h (by decide)

set_option maxHeartbeats 4000000 in
theorem checkSet_any (sv : Value) (zs : List (Int × Int)) (w : World) (hI : Spans w.heap.size w sv zs) :
    Calls Try.prog 53 #[sv] w fun e w' => e = .returned (.int .i64 (setE zs)) ∧ Below w.heap.size w w' := by
  obtain ⟨a, cap, rfl, hcell⟩ := hI.slice
  by_cases hm : 256 < zs.length
  · rw [setE_many hm]
    clear hI hcell
    generalize zs.length = len at hm
    go_enter Try.func53, Try.ntmps53
    go_wp2_with fail
    go_ret
    exact ⟨rfl, Below.refl _ _⟩
  · have A0 := Lib.hid (fun h => setE_bad (zs := zs) hm h)
    have A1 := Lib.hid (fun h => setE_ok (zs := zs) hm h)
    generalize setE zs = r at A0 A1 ⊢
    have HC := Lib.hid hcell
    clear hI hcell
    generalize hL : zs.length = len at HC hm ⊢
    have HL := Lib.hid hL
    clear hL
    go_enter Try.func53, Try.ntmps53
    go_wp2_with fail
    go_loopw [11] (fun i wr => ∃ k : Nat, k ≤ len ∧ i = .int .i64 k ∧ AdjTo zs k ∧ Below w.heap.size w wr) (fun i _ => len - (intOf i).toNat)
    case atStart => exact ⟨0, Nat.zero_le _, rfl, fun j hj => absurd hj (Nat.not_lt_zero j), Below.refl _ _⟩
    case round =>
      obtain ⟨k, hk, rfl, hadj, hB⟩ := hrel
      have HADJ := Lib.hid hadj
      clear hadj
      have hsz := hB.size
      by_cases hlt : k < len
      · obtain ⟨b, off, rfl, hb, c0, c1⟩ := HC.out k hlt
        have c0' := (hB.cell (p := ⟨b, off + k * 2, none⟩) hb).trans c0
        have c1' := (hB.cell (p := ⟨b, off + k * 2 + 1, none⟩) hb).trans c1
        clear c0 c1
        obtain ⟨z, hz⟩ : ∃ z, zs[k]?.getD (0, 0) = z := ⟨_, rfl⟩
        rw [hz] at c0' c1'
        have HZ := Lib.hid (show gt zs k = z from hz)
        clear hz
        by_cases hv : vB z.1 z.2 = true
        · have cc := fun w => check_ok z.1 z.2 hv w
          obtain ⟨e1, e2, e3⟩ := (vB_iff _ _).1 hv
          have HV := Lib.hid hv
          clear hv
          obtain ⟨zl, zh⟩ := z
          dsimp only at c0' c1' cc e1 e2 e3
          cases k with
          | zero =>
            simp at c0' c1'
            go_wp2_with fail
            refine (cc _).mono ?_
            rintro e w1 ⟨rfl, hb1⟩
            obtain ⟨hc, hf⟩ := bcell hb1
            have hB1 : Below w.heap.size w w1 := (hB.alloc hsz _).trans (hb1.mono (by simp; omega))
            clear hc hf
            go_wp2_with fail
            go_quiet (fail)
            go_wp2_with fail
            go_roundw
            case rel => exact ⟨1, by omega, by go_num, fun j hj => by obtain rfl : j = 0 := (by omega); exact ⟨by rw [HZ.out]; exact ok_vB.2 HV.out, fun h => absurd h (by decide)⟩, by repeat (first | exact hB1 | refine Below.drew ?_ | refine below_drewN ?_ _)⟩
            case measure => simp [intOf]; omega
          | succ j =>
            obtain ⟨b2, off2, e0, -, -, p1⟩ := HC.out j (by omega)
            simp at e0
            obtain ⟨rfl, rfl⟩ := e0
            have p1' := (hB.cell (p := ⟨b, off + j * 2 + 1, none⟩) hb).trans p1
            clear p1
            obtain ⟨y, hy⟩ : ∃ y, zs[j]?.getD (0, 0) = y := ⟨_, rfl⟩
            rw [hy] at p1'
            have HY := Lib.hid (show gt zs j = y from hy)
            have oy : Ok y := by have := (HADJ.out j (by omega)).1; rwa [HY.out] at this
            clear hy
            obtain ⟨yl, yh⟩ := y
            obtain ⟨y1, y2, y3⟩ := oy
            dsimp only at p1' y1 y2 y3
            have hW : IntKind.i64.wrap (zl - yh) = zl - yh := by rw [IntKind.wrap_i64]; omega
            by_cases hg : zl - yh < 2
            all_goals
              go_wp2_with fail
              refine (cc _).mono ?_
              rintro e w1 ⟨rfl, hb1⟩
              obtain ⟨hc, hf⟩ := bcell hb1
              have hB1 : Below w.heap.size w w1 := (hB.alloc hsz _).trans (hb1.mono (by simp; omega))
              have q0 : w1.cell? ⟨wr.heap.size, 0, none⟩ = some (.int .i64 zl) := by rw [hc _ _ (by simp)]; simp [go_sem]
              have q1 : w1.cell? ⟨b, off + j * 2 + 1, none⟩ = some (.int .i64 yh) := (hB1.cell (p := ⟨b, off + j * 2 + 1, none⟩) hb).trans ((hB.cell (p := ⟨b, off + j * 2 + 1, none⟩) hb).symm.trans p1')
              clear hc hf
              go_wp2_with fail
              go_quiet (fail)
              go_wp2_with fail
            · have hr := A0.out (fun hn => by
                have := (adj_of_nrm hn (j + 1) (by have := HL.out; omega)).2 (by omega)
                rw [show j + 1 - 1 = j by omega, HY.out, HZ.out] at this
                dsimp only at this
                omega)
              have HR := Lib.hid hr
              go_ret
              exact ⟨ret_int HR.out.symm, by repeat (first | exact hB1 | refine Below.drew ?_ | refine below_drewN ?_ _)⟩
            · go_roundw
              case rel =>
                refine ⟨j + 1 + 1, by omega, by go_num, fun i hi => ?_, by repeat (first | exact hB1 | refine Below.drew ?_ | refine below_drewN ?_ _)⟩
                rcases Nat.lt_or_ge i (j + 1) with h | h
                · exact HADJ.out i h
                · obtain rfl : i = j + 1 := by omega
                  refine ⟨by rw [HZ.out]; exact ok_vB.2 HV.out, fun _ => ?_⟩
                  rw [show j + 1 - 1 = j by omega, HY.out, HZ.out]
                  show yh + 1 < zl
                  omega
              case measure => simp [intOf]; omega
        · have cc := fun w => check_bad z.1 z.2 hv w
          have hr := A0.out (fun hn => hv (by have := (adj_of_nrm hn k (by have := HL.out; omega)).1; rw [HZ.out] at this; exact ok_vB.1 this))
          have HR := Lib.hid hr
          clear hv hr
          obtain ⟨zl, zh⟩ := z
          dsimp only at c0' c1' cc
          go_wp2_with fail
          refine (cc _).mono ?_
          rintro e w1 ⟨rfl, hb1⟩
          have hB1 : Below w.heap.size w w1 := (hB.alloc hsz _).trans (hb1.mono (by simp; omega))
          go_wp2_with fail
          go_ret
          exact ⟨ret_int HR.out.symm, hB1⟩
      · obtain rfl : k = len := by omega
        have hr := A1.out (nrm_of_adj (by rw [HL.out]; exact HADJ.out))
        have HR := Lib.hid hr
        clear hr hlt
        go_wp2_with fail
        go_ret
        exact ⟨ret_int HR.out.symm, hB⟩
end Go.Proofs.Ytamelpfhbnkggaa

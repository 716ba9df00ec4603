/-
  bound.Count and bound.Has.
-/
import Derived.Test.YtamelpfhbnkggaaSetCheck
namespace Go.Proofs.Ytamelpfhbnkggaa
open Go.RowKit Go.Shelf
/-- how many numbers the first k spans have -/
def cntTo (zs : List (Int × Int)) : Nat → Int
  | 0 => 0
  | k + 1 => cntTo zs k + ((gt zs k).2 - (gt zs k).1 + 1)
def cnt (zs : List (Int × Int)) : Int := cntTo zs zs.length
theorem cntTo_bd {zs : List (Int × Int)} (h : Nrm zs) : ∀ k, k ≤ zs.length → 0 ≤ cntTo zs k ∧ cntTo zs k ≤ 2147483649 * (k : Int)
  | 0, _ => by simp [cntTo]
  | k + 1, hk => by
    have ih := cntTo_bd h k (by omega)
    obtain ⟨⟨h1, h2, h3⟩, -⟩ := adj_of_nrm h k (by omega)
    simp only [cntTo]
    omega
/-- what Count returns -/
noncomputable def countV (zs : List (Int × Int)) : Int := if setE zs = 0 then cnt zs else 0

set_option maxHeartbeats 4000000 in
theorem count_any (sv : Value) (zs : List (Int × Int)) (w : World) (hI : Spans w.heap.size w sv zs) :
    Calls Try.prog 51 #[sv] w fun e w' => e = .returned (.tuple #[.int .i64 (countV zs), .int .i64 (setE zs)]) ∧ Below w.heap.size w w' := by
  have c1 := checkSet_any sv zs w hI
  obtain ⟨a, cap, rfl, hcell⟩ := hI.slice
  by_cases he : setE zs = 0
  · obtain ⟨hl, hn⟩ := setE_zero he
    have HC := Lib.hid hcell
    have HN := Lib.hid hn
    have HA := Lib.hid (adj_of_nrm hn)
    rw [show countV zs = cnt zs from if_pos he]
    rw [he] at c1 ⊢
    have HR := Lib.hid (show cnt zs = cntTo zs zs.length from rfl)
    generalize cnt zs = r at HR ⊢
    clear hI hcell hn he
    generalize hL : zs.length = len at c1 HC HA HR hl ⊢
    have HL := Lib.hid hL
    clear hL
    go_enter Try.func51, Try.ntmps51
    go_wp2_with fail
    refine c1.mono ?_
    rintro e w1 ⟨rfl, hb⟩
    clear c1
    go_wp2_with fail
    go_loopw [5, 15] (fun n i wr => ∃ k : Nat, k ≤ len ∧ i = .int .i64 k ∧ n = .int .i64 (cntTo zs k) ∧ Below w.heap.size w wr) (fun _ i _ => len - (intOf i).toNat)
    case atStart => exact ⟨0, Nat.zero_le _, rfl, rfl, hb⟩
    case round =>
      obtain ⟨k, hk, rfl, rfl, hB⟩ := hrel
      have hsz := hB.size
      by_cases hlt : k < len
      · obtain ⟨b, off, rfl, hbb, c0, c1⟩ := HC.out k hlt
        have c0' := (hB.cell (p := ⟨b, off + k * 2, none⟩) hbb).trans c0
        have c1' := (hB.cell (p := ⟨b, off + k * 2 + 1, none⟩) hbb).trans c1
        obtain ⟨⟨o1, o2, o3⟩, -⟩ := HA.out k hlt
        have hbd := cntTo_bd HN.out k (by rw [HL.out]; exact hk)
        have hst : cntTo zs (k + 1) = cntTo zs k + ((gt zs k).2 - (gt zs k).1 + 1) := rfl
        unfold gt at o1 o2 o3 hst
        clear c0 c1
        generalize zs[k]?.getD (0, 0) = z at c0' c1' o1 o2 o3 hst
        have HS := Lib.hid hst
        clear hst
        obtain ⟨zl, zh⟩ := z
        dsimp only at c0' c1' o1 o2 o3 HS
        generalize cntTo zs k = m at hbd HS ⊢
        go_wp2_with fail
        go_roundw
        case rel => exact ⟨k + 1, by omega, by go_num, by rw [HS.out], hB.alloc hsz _⟩
        case measure => simp [intOf]; omega
      · obtain rfl : k = len := by omega
        have hr := HR.out
        clear HR hlt
        subst hr
        go_wp2_with fail
        go_ret2
        exact ⟨rfl, hB⟩
  · rw [show countV zs = 0 from if_neg he]
    generalize setE zs = r at c1 he ⊢
    clear hI hcell
    generalize zs.length = len at c1
    go_enter Try.func51, Try.ntmps51
    go_wp2_with fail
    refine c1.mono ?_
    rintro e w1 ⟨rfl, hb⟩
    go_wp2_with fail
    go_ret2
    exact ⟨rfl, hb⟩
end Go.Proofs.Ytamelpfhbnkggaa

/-
  bound.Has.
-/
import Derived.Test.YtamelpfhbnkggaaSetCheck
namespace Go.Proofs.Ytamelpfhbnkggaa
open Go.RowKit Go.Shelf
def hasB (zs : List (Int × Int)) (x : Int) : Bool := zs.any fun z => decide (z.1 ≤ x ∧ x ≤ z.2)
theorem hasB_iff (zs : List (Int × Int)) (x : Int) : hasB zs x = true ↔ InL x zs := by
  unfold hasB InL
  rw [List.any_eq_true]
  constructor
  · rintro ⟨z, hz, h⟩; exact ⟨z, hz, by simpa using h⟩
  · rintro ⟨z, hz, h⟩; exact ⟨z, hz, by simpa using h⟩
theorem hasB_yes {zs : List (Int × Int)} {x : Int} {k : Nat} (hk : k < zs.length) (h : (gt zs k).1 ≤ x ∧ x ≤ (gt zs k).2) : hasB zs x = true :=
  (hasB_iff zs x).2 ⟨_, by rw [gt_get hk]; exact List.getElem_mem hk, h⟩
theorem hasB_no {zs : List (Int × Int)} {x : Int} (h : ∀ j, j < zs.length → ¬ ((gt zs j).1 ≤ x ∧ x ≤ (gt zs j).2)) : hasB zs x = false := by
  cases e : hasB zs x with
  | false => rfl
  | true =>
    obtain ⟨z, hz, h1⟩ := (hasB_iff zs x).1 e
    obtain ⟨j, hj, rfl⟩ := List.getElem_of_mem hz
    exact absurd (by rw [gt_get hj]; exact h1) (h j hj)
noncomputable def hasV (zs : List (Int × Int)) (x : Int) : Bool := if setE zs = 0 then hasB zs x else false

set_option maxHeartbeats 4000000 in
theorem has_any (sv : Value) (zs : List (Int × Int)) (x : Int) (w : World) (hI : Spans w.heap.size w sv zs) :
    Calls Try.prog 49 #[sv, .int .i64 x] w fun e w' => e = .returned (.tuple #[.bool (hasV zs x), .int .i64 (setE zs)]) ∧ Below w.heap.size w w' := by
  have c1 := checkSet_any sv zs w hI
  obtain ⟨a, cap, rfl, hcell⟩ := hI.slice
  by_cases he : setE zs = 0
  · have HC := Lib.hid hcell
    obtain ⟨hl, -⟩ := setE_zero he
    rw [show hasV zs x = hasB zs x from if_pos he]
    rw [he] at c1 ⊢
    have HY := Lib.hid (fun k hk h => hasB_yes (zs := zs) (x := x) (k := k) hk h)
    have HN := Lib.hid (fun h => hasB_no (zs := zs) (x := x) h)
    generalize hasB zs x = r at HY HN ⊢
    clear hI hcell he
    generalize hL : zs.length = len at c1 HC HY HN hl ⊢
    clear hL
    go_enter Try.func49, Try.ntmps49
    go_wp2_with fail
    refine c1.mono ?_
    rintro e w1 ⟨rfl, hb⟩
    clear c1
    go_wp2_with fail
    go_loopw [16] (fun i wr => ∃ k : Nat, k ≤ len ∧ i = .int .i64 k ∧ (∀ j, j < k → ¬ ((gt zs j).1 ≤ x ∧ x ≤ (gt zs j).2)) ∧ Below w.heap.size w wr) (fun i _ => len - (intOf i).toNat)
    case atStart => exact ⟨0, Nat.zero_le _, rfl, fun j hj => absurd hj (Nat.not_lt_zero j), hb⟩
    case round =>
      obtain ⟨k, hk, rfl, hno, hB⟩ := hrel
      have hsz := hB.size
      have HNO := Lib.hid hno
      clear hno
      by_cases hlt : k < len
      · obtain ⟨b, off, rfl, hbb, c0, c1⟩ := HC.out k hlt
        have c0' := (hB.cell (p := ⟨b, off + k * 2, none⟩) hbb).trans c0
        have c1' := (hB.cell (p := ⟨b, off + k * 2 + 1, none⟩) hbb).trans c1
        have HK := Lib.hid (show zs[k]?.getD (0, 0) = gt zs k from rfl)
        have hyes := HY.out k hlt
        clear c0 c1
        rw [HK.out] at c0' c1'
        generalize hz : gt zs k = z at c0' c1' hyes
        have HZ := Lib.hid hz
        have HYES := Lib.hid hyes
        clear hz hyes
        obtain ⟨zl, zh⟩ := z
        dsimp only at c0' c1' HYES
        by_cases h1 : zl ≤ x
        · by_cases h2 : x ≤ zh
          · have hr := HYES.out ⟨h1, h2⟩
            clear HY HN HYES
            subst hr
            go_wp2_with fail
            go_ret2
            exact ⟨rfl, hB.alloc hsz _⟩
          · go_wp2_with fail
            go_roundw
            case rel =>
              refine ⟨k + 1, by omega, by go_num, fun j hj => ?_, hB.alloc hsz _⟩
              rcases Nat.lt_or_ge j k with h | h
              · exact HNO.out j h
              · obtain rfl : j = k := by omega
                rw [HZ.out]; exact fun h => h2 h.2
            case measure => simp [intOf]; omega
        · go_wp2_with fail
          go_roundw
          case rel =>
            refine ⟨k + 1, by omega, by go_num, fun j hj => ?_, hB.alloc hsz _⟩
            rcases Nat.lt_or_ge j k with h | h
            · exact HNO.out j h
            · obtain rfl : j = k := by omega
              rw [HZ.out]; exact fun h => h1 h.1
          case measure => simp [intOf]; omega
      · obtain rfl : k = len := by omega
        have hr := HN.out HNO.out
        clear HY HN hlt
        subst hr
        go_wp2_with fail
        go_ret2
        exact ⟨rfl, hB⟩
  · rw [show hasV zs x = false from if_neg he]
    generalize setE zs = r at c1 he ⊢
    clear hI hcell
    generalize zs.length = len at c1
    go_enter Try.func49, Try.ntmps49
    go_wp2_with fail
    refine c1.mono ?_
    rintro e w1 ⟨rfl, hb⟩
    go_wp2_with fail
    go_ret2
    exact ⟨rfl, hb⟩
end Go.Proofs.Ytamelpfhbnkggaa

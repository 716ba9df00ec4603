/-
  Cover of both sides; the reference's Unite.
-/
import Derived.Test.YtamelpfhbnkggaaPut
import Derived.Test.YtamelpfhbnkggaaRefSets
import Derived.Laws.AppendOwnNone
namespace Go.Proofs.Ytamelpfhbnkggaa
open Go.RowKit Go.Shelf
set_option linter.unusedSimpArgs false
theorem card_le (P : Int → Prop) : ∀ n : Nat, cardTo P n ≤ n
  | 0 => by simp [cardTo]
  | n + 1 => by
    have := card_le P n
    simp only [cardTo]
    split <;> omega
theorem cntL_ge : ∀ zs : List (Int × Int), Nrm zs → (zs.length : Int) ≤ cntL zs
  | [], _ => by simp [cntL]
  | p :: zs, h => by
    have ih := cntL_ge zs h.tail
    obtain ⟨_, _, h3⟩ := h.1 p (by simp)
    simp only [cntL, List.length_cons]
    omega
theorem nrm_len {zs : List (Int × Int)} (h : Nrm zs) : zs.length ≤ 2147483649 := by
  have h1 := cntL_ge zs h
  have h2 := cntL_card zs h
  have h3 := card_le (fun x => InL x zs) 2147483649
  omega
open Classical in
noncomputable def covE (zs : List (Int × Int)) : Int := if 256 < zs.length then 6 else if ∀ z ∈ zs, vB z.1 z.2 = true then 0 else 2
noncomputable def covL (zs : List (Int × Int)) : List (Int × Int) := nset fun x => InL x zs
open Classical in
noncomputable def covV (zs : List (Int × Int)) : List (Int × Int) := if 256 < zs.length then [] else if ∀ z ∈ zs, vB z.1 z.2 = true then covL zs else []
theorem cov_nrm {zs : List (Int × Int)} (h : ∀ z ∈ zs, vB z.1 z.2 = true) : Nrm (covL zs) ∧ ∀ x, InL x (covL zs) ↔ InL x zs :=
  nset_any fun x ⟨p, hp, h1, h2⟩ => by
    obtain ⟨a, b, c⟩ := (vB_iff _ _).1 (h p hp)
    omega
theorem covV_ok {zs : List (Int × Int)} (h : ¬ 256 < zs.length) (k : ∀ z ∈ zs, vB z.1 z.2 = true) : covE zs = 0 ∧ covV zs = covL zs := by unfold covE covV; exact ⟨by rw [if_neg h, if_pos k], by rw [if_neg h, if_pos k]⟩
theorem covV_bad {zs : List (Int × Int)} (h : ¬ 256 < zs.length) (k : ¬ ∀ z ∈ zs, vB z.1 z.2 = true) : covE zs = 2 ∧ covV zs = [] := by unfold covE covV; exact ⟨by rw [if_neg h, if_neg k], by rw [if_neg h, if_neg k]⟩
theorem covV_many {zs : List (Int × Int)} (h : 256 < zs.length) : covE zs = 6 ∧ covV zs = [] := ⟨if_pos h, if_pos h⟩
theorem gt_mem {zs : List (Int × Int)} {k : Nat} (h : k < zs.length) : gt zs k ∈ zs := by rw [gt_get h]; exact List.getElem_mem h
theorem all_of {zs : List (Int × Int)} (h : ∀ j, j < zs.length → vB (gt zs j).1 (gt zs j).2 = true) : ∀ z ∈ zs, vB z.1 z.2 = true := fun z hz => by
  obtain ⟨j, hj, rfl⟩ := List.getElem_of_mem hz
  have := h j hj
  rwa [gt_get hj] at this
set_option maxHeartbeats 2000000 in
theorem cover_any (sv : Value) (zs : List (Int × Int)) (w : World) (hI : Spans w.heap.size w sv zs) :
    Calls Try.prog 41 #[sv] w fun e w' => ∃ v, e = .returned (.tuple #[v, .int .i64 (covE zs)]) ∧ Spans w'.heap.size w' v (covV zs) ∧ Below w.heap.size w w' := by
  by_cases hm : 256 < zs.length
  · obtain ⟨e1, e2⟩ := covV_many hm
    rw [e1, e2]
    obtain ⟨a, cap, rfl, -⟩ := hI.slice
    clear hI e1 e2
    generalize zs.length = len at hm
    go_enter Try.func41, Try.ntmps41
    go_wp2_with fail
    go_ret2
    exact ⟨_, rfl, .inl ⟨rfl, rfl⟩, Below.refl _ _⟩
  by_cases hv : ∀ z ∈ zs, vB z.1 z.2 = true
  · obtain ⟨e1, e2⟩ := covV_ok hm hv
    rw [e1, e2]
    refine (cover_ok sv zs (by omega) hv w.heap.size w (Nat.le_refl _) hI).mono ?_
    rintro e w' ⟨v, cs, he, ⟨ss, hp, ha, hcs⟩, hsp, hb⟩
    refine ⟨v, he, ?_, hb⟩
    have hok : ∀ y ∈ ss, Ok y := fun y hy => ok_vB.2 (hv y (hp.mem_iff.1 hy))
    obtain ⟨g1, g2, -⟩ := mrg_spec ss hok ha
    have : covL zs = mrg ss := nset_eq g1 fun x => by rw [g2, inL_perm x hp]
    rw [this, ← hcs]
    exact hsp
  · obtain ⟨e1, e2⟩ := covV_bad hm hv
    rw [e1, e2]
    obtain ⟨a, cap, rfl, hcell⟩ := hI.slice
    have HV := Lib.hid (fun h => hv (all_of h))
    have HC := Lib.hid hcell
    have HG := Lib.hid (show ∀ k, zs[k]?.getD (0, 0) = gt zs k from fun _ => rfl)
    clear hI e1 e2 hv hcell
    generalize zs.length = len at *
    go_enter Try.func41, Try.ntmps41
    go_wp2_with fail
    go_loopw [13] (fun i wr => ∃ k : Nat, k ≤ len ∧ i = .int .i64 k ∧ (∀ j, j < k → vB (gt zs j).1 (gt zs j).2 = true) ∧ Below w.heap.size w wr) (fun i _ => len - (intOf i).toNat)
    case atStart => exact ⟨0, Nat.zero_le _, rfl, fun j hj => absurd hj (Nat.not_lt_zero j), Below.refl _ _⟩
    case round =>
      obtain ⟨k, hk, rfl, hall, hB⟩ := hrel
      have HALL := Lib.hid hall
      clear hall
      by_cases hlt : k < len
      · obtain ⟨b, off, rfl, hb, c0, c1⟩ := HC.out k hlt
        rw [HG.out] at c0 c1
        have c0' := (hB.cell (p := ⟨b, off + k * 2, none⟩) hb).trans c0
        have c1' := (hB.cell (p := ⟨b, off + k * 2 + 1, none⟩) hb).trans c1
        clear c0 c1
        generalize hz : gt zs k = z at c0' c1'
        have HZ := Lib.hid hz
        clear hz
        by_cases hck : vB z.1 z.2 = true
        · have cc := fun w => check_ok z.1 z.2 hck w
          have HCK := Lib.hid hck
          clear hck
          go_wp2_with fail
          refine (cc _).mono ?_
          rintro e w1 ⟨rfl, hb1⟩
          go_wp2_with fail
          go_roundw
          case rel =>
            refine ⟨k + 1, by omega, by go_num, fun j hj => ?_, (hB.alloc hB.size _).trans (hb1.mono (by have := hB.size; simp; omega))⟩
            rcases Nat.lt_or_ge j k with h | h
            · exact HALL.out j h
            · obtain rfl : j = k := by omega
              rw [HZ.out]; exact HCK.out
          case measure => simp [intOf]; omega
        · have cc := fun w => check_bad z.1 z.2 hck w
          clear hck
          go_wp2_with fail
          refine (cc _).mono ?_
          rintro e w1 ⟨rfl, hb1⟩
          go_wp2_with fail
          go_ret2
          exact ⟨_, rfl, .inl ⟨rfl, rfl⟩, (hB.alloc hB.size _).trans (hb1.mono (by have := hB.size; simp; omega))⟩
      · obtain rfl : k = len := by omega
        exact absurd (fun j hj => HALL.out j hj) HV.out
set_option maxHeartbeats 4000000 in
theorem rcover_any (sv : Value) (zs : List (Int × Int)) (w : World) (hI : Spans w.heap.size w sv zs) :
    Calls Try.prog 42 #[sv] w fun e w' => ∃ v, e = .returned (.tuple #[v, .int .i64 (covE zs)]) ∧ Spans w'.heap.size w' v (covV zs) ∧ Below w.heap.size w w' := by
  obtain ⟨a, cap, rfl, hcell⟩ := hI.slice
  by_cases hm : 256 < zs.length
  · obtain ⟨e1, e2⟩ := covV_many hm
    rw [e1, e2]
    clear hI e1 e2 hcell
    generalize zs.length = len at hm
    go_enter Try.func42, Try.ntmps42
    go_wp2_with fail
    go_ret2
    exact ⟨_, rfl, .inl ⟨rfl, rfl⟩, Below.refl _ _⟩
  have HV := Lib.hid (fun h => covV_ok hm (all_of h))
  have HW := Lib.hid (fun h => covV_bad (zs := zs) hm h)
  have HM := Lib.hid (fun k hk => gt_mem (zs := zs) (k := k) hk)
  have HK := Lib.hid (fun k hk => gt_take zs k hk)
  have HC := Lib.hid hcell
  have HG := Lib.hid (show ∀ k, zs[k]?.getD (0, 0) = gt zs k from fun _ => rfl)
  have HT := Lib.hid (show zs.take zs.length = zs from List.take_length)
  clear hI hcell
  generalize covE zs = cE at *
  generalize covV zs = cV at *
  generalize zs.length = len at *
  go_enter Try.func42, Try.ntmps42
  go_wp2_with fail
  go_loopw [5] (fun i wr => ∃ k : Nat, k ≤ len ∧ i = .int .i64 k ∧ (∀ j, j < k → vB (gt zs j).1 (gt zs j).2 = true) ∧ Below w.heap.size w wr) (fun i _ => len - (intOf i).toNat)
  case atStart => exact ⟨0, Nat.zero_le _, rfl, fun j hj => absurd hj (Nat.not_lt_zero j), Below.refl _ _⟩
  case round =>
    obtain ⟨k, hk, rfl, hall, hB⟩ := hrel
    have HALL := Lib.hid hall
    clear hall
    by_cases hlt : k < len
    · obtain ⟨b, off, rfl, hb, c0, c1⟩ := HC.out k hlt
      rw [HG.out] at c0 c1
      have c0' := (hB.cell (p := ⟨b, off + k * 2, none⟩) hb).trans c0
      have c1' := (hB.cell (p := ⟨b, off + k * 2 + 1, none⟩) hb).trans c1
      have HMk := Lib.hid (HM.out k hlt)
      clear c0 c1
      generalize hz : gt zs k = z at c0' c1' HMk
      have HZ := Lib.hid hz
      clear hz
      by_cases hck : vB z.1 z.2 = true
      · have cc := fun w => valid_yes z.1 z.2 hck w
        have HCK := Lib.hid hck
        clear hck
        go_wp2_with fail
        refine (cc _).mono ?_
        rintro e w1 ⟨rfl, hb1⟩
        go_wp2_with fail
        go_roundw
        case rel =>
          refine ⟨k + 1, by omega, by go_num, fun j hj => ?_, hB.trans (hb1.mono hB.size)⟩
          rcases Nat.lt_or_ge j k with h | h
          · exact HALL.out j h
          · obtain rfl : j = k := by omega
            rw [HZ.out]; exact HCK.out
        case measure => simp [intOf]; omega
      · have cc := fun w => valid_no z.1 z.2 hck w
        obtain ⟨rfl, rfl⟩ := HW.out (fun h => hck (h z HMk.out))
        clear hck
        go_wp2_with fail
        refine (cc _).mono ?_
        rintro e w1 ⟨rfl, hb1⟩
        go_wp2_with fail
        go_ret2
        exact ⟨_, rfl, .inl ⟨rfl, rfl⟩, hB.trans (hb1.mono hB.size)⟩
    · obtain rfl : k = len := by omega
      obtain ⟨rfl, rfl⟩ := HV.out HALL.out
      clear HV HW HM hlt
      go_wp2_with fail
      go_loopw [4, 6] (fun o i wr => ∃ (j : Nat) (l : List (Int × Int)), j ≤ k ∧ i = .int .i64 j ∧ Nrm l ∧ (∀ x, InL x l ↔ InL x (zs.take j)) ∧ Spans wr.heap.size wr o l ∧ Below w.heap.size w wr) (fun _ i _ => k - (intOf i).toNat)
      case atStart => exact ⟨0, [], Nat.zero_le _, rfl, ⟨fun _ h => (by cases h), List.Pairwise.nil⟩, fun x => by rw [List.take_zero], .inl ⟨rfl, rfl⟩, hB⟩
      case round =>
        obtain ⟨j, l, hj, rfl, hln, hlm, hsp, hB2⟩ := hrel
        have HLM := Lib.hid hlm
        have HLN := Lib.hid hln
        clear hlm
        by_cases hjt : j < k
        · obtain ⟨b, off, rfl, hb, c0, c1⟩ := HC.out j hjt
          rw [HG.out] at c0 c1
          have c0' := (hB2.cell (p := ⟨b, off + j * 2, none⟩) hb).trans c0
          have c1' := (hB2.cell (p := ⟨b, off + j * 2 + 1, none⟩) hb).trans c1
          have hok : Ok (gt zs j) := ok_vB.2 (HALL.out j hjt)
          have HKj := Lib.hid (HK.out j hjt)
          clear c0 c1
          generalize gt zs j = z at c0' c1' hok HKj
          obtain ⟨zl, zh⟩ := z
          dsimp only at c0' c1'
          have cp := put_any _ l zl zh wr hsp hln hok (nrm_len hln)
          obtain ⟨p1, p2⟩ := putL_spec hln hok
          have HP1 := Lib.hid p1
          have HP2 := Lib.hid p2
          obtain ⟨ao, capo, rfl, -⟩ := hsp.slice
          dsimp only at HP1 HP2
          generalize (nset fun n => InL n l ∨ (zl ≤ n ∧ n ≤ zh)) = l2 at cp HP1 HP2
          clear hsp hln hok p1 p2
          go_wp2_with fail
          refine cp.mono ?_
          rintro e w1 ⟨v, rfl, hsp2, hb1⟩
          go_wp2_with fail
          go_roundw
          case rel => exact ⟨j + 1, l2, by omega, by go_num, HP1.out, fun x => by rw [HP2.out, HLM.out, HKj.out, inL_append, inL_one], hsp2, hB2.trans (hb1.mono hB2.size)⟩
          case measure => simp [intOf]; omega
        · obtain rfl : j = k := by omega
          have he : covL zs = l := nset_eq HLN.out fun x => by rw [HLM.out, HT.out]
          have HE := Lib.hid he
          clear hjt HALL he
          obtain ⟨ao, capo, rfl, -⟩ := hsp.slice
          go_wp2_with fail
          go_ret2
          exact ⟨_, rfl, by rw [HE.out]; exact hsp, hB2⟩
end Go.Proofs.Ytamelpfhbnkggaa

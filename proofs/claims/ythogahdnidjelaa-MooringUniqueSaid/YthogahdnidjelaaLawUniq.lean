/-
  MooringUnique: the walk.
-/
import Derived.Test.YthogahdnidjelaaUniqMath
import Derived.Test.YthogahdnidjelaaFine
import Derived.BigQuiet
import Derived.Deep.QuietTactic
namespace Go.Proofs.Ythogahdnidjelaa
open Go.RowKit Go.Shelf
set_option linter.unusedSimpArgs false
/-- the slice value holds these numbers (16 bits each), in a block below n₀; or it is nil -/
def Us (n₀ : Nat) (W : World) (sv : Value) (zs : List Int) : Prop :=
  (∃ a cap, sv = .slice a zs.length cap ∧ ∀ k, k < zs.length → ∃ b off, a = some ⟨b, off, none⟩ ∧ b < n₀ ∧ W.cell? ⟨b, off + k, none⟩ = some (.int .u16 (zs[k]?.getD 0))) ∧ ∀ k, k < zs.length → 0 ≤ zs[k]?.getD 0 ∧ zs[k]?.getD 0 ≤ 65535
def numTo (zs : List Int) : Nat → List Int
  | 0 => []
  | k + 1 => numTo zs k ++ [zs[k]?.getD 0]
theorem numTo_eq (zs : List Int) : ∀ k, k ≤ zs.length → numTo zs k = zs.take k
  | 0, _ => by simp [numTo]
  | k + 1, h => by
    simp only [numTo]
    rw [numTo_eq zs k (by omega), List.take_add_one, List.getElem?_eq_getElem (by omega)]
    simp
theorem codE_uniq {zs : List Int} (hl : zs.length ≤ 20) (h : ∀ k, k < zs.length → 0 ≤ zs[k]?.getD 0 ∧ zs[k]?.getD 0 ≤ 65535) : codE zs = 0 :=
  codE_ok (by omega) fun k hk => (isC_iff _).2 (h k hk)
theorem ans_ok {zs : List Int} (hc : codE zs = 0) {h g : Nat} (hh : h < 65536) (hg : g ≤ 16) : ansE zs h g = 0 ∧ ansV zs h g = ansTo zs h g zs.length := by
  have a : ansOk h g = true := by
    unfold ansOk
    rw [(isC_iff _).2 ⟨by omega, by omega⟩, decide_eq_true (by omega), decide_eq_true (by omega)]
    rfl
  unfold ansE ansV
  rw [if_pos hc, if_pos hc, if_pos a, if_pos a]
  simp
set_option maxRecDepth 100000 in
set_option maxHeartbeats 8000000 in
theorem law_uniq (sv : Value) (zs : List Int) (h m f : Nat) (hh : h < 65536) (hm : m < 65536) (hf : f < 65536) (w : World) (hI : Us w.heap.size w sv zs) :
    Calls Try.prog 11 #[sv, .int .u16 h, .int .u16 m, .int .u16 f] w fun e w' => e = .returned (.bool true) ∧ Below w.heap.size w w' := by
  obtain ⟨⟨a, cap, rfl, hcell⟩, hbd⟩ := hI
  have HF := Lib.hid (fun W => fine_any W)
  by_cases hr : zs.length < 2 ∨ 20 < zs.length
  · generalize zs.length = len at *
    clear hcell hbd
    rcases hr with hr | hr
    · go_enter Try.func11, Try.ntmps11
      go_wp2_with fail
      refine (HF.out _).mono ?_
      rintro e w1 ⟨rfl, hb⟩
      go_wp2_with fail
      go_ret
      exact ⟨rfl, hb⟩
    · go_enter Try.func11, Try.ntmps11
      go_wp2_with fail
      refine (HF.out _).mono ?_
      rintro e w1 ⟨rfl, hb⟩
      go_wp2_with fail
      go_ret
      exact ⟨rfl, hb⟩
  · obtain ⟨h2, h20⟩ : 2 ≤ zs.length ∧ zs.length ≤ 20 := by omega
    clear hr
    have hcod := codE_uniq h20 hbd
    have HSp := Lib.hid (show spcV zs = (spc zs zs.length : Nat) ∧ spcE zs = 0 from ⟨by unfold spcV; rw [if_pos hcod, if_neg (by omega)], by unfold spcE; rw [if_pos hcod, if_neg (by omega)]⟩)
    have hDl := spc_le zs zs.length
    have HDg := Lib.hid (fun i j h1 h2 => spc_get zs zs.length i j h1 h2)
    have HAok := Lib.hid (fun (h g : Nat) (hh : h < 65536) (hg : g ≤ 16) => ans_ok hcod (h := h) (g := g) hh hg)
    have CS := fun v W (hN : Nums W.heap.size W v zs) => spacing_any v zs W hN
    rw [HSp.out.1, HSp.out.2] at CS
    replace CS := Lib.hid CS
    have CA := Lib.hid (show ∀ v (h g : Nat) W (hh : h < 65536) (hg : g ≤ 16) (hN : Nums W.heap.size W v zs), Calls Try.prog 37 #[v, .int .i64 h, .int .i64 g] W fun e w' => ∃ v, e = .returned (.tuple #[v, .int .i64 0]) ∧ Nums w'.heap.size w' v (ansTo zs h g zs.length) ∧ Below W.heap.size W w' from fun v h g W hh hg hN => by
      have := answers_any v zs h g W hN
      rw [(ans_ok hcod hh hg).1, (ans_ok hcod hh hg).2] at this
      exact this)
    have HLen2 := Lib.hid (fun (h g : Nat) => (ansTo_len zs h g zs.length))
    have HMono := Lib.hid (fun (h g g' : Nat) (hg : g ≤ g') => ansTo_mono zs h g g' hg zs.length)
    have HShort := Lib.hid (fun (h g : Nat) (hg : 2 * g + 1 ≤ spc zs zs.length) => ansTo_short zs h g HDg.out hg)
    have HJust := Lib.hid (fun (h g : Nat) i (hg : 2 * g + 1 ≤ spc zs zs.length) hi ha => ansTo_just zs h g (i := i) HDg.out hg hi ha)
    have HMem := Lib.hid (fun (h g : Nat) j hj ha => ansTo_mem zs h g zs.length j hj ha)
    clear HSp HAok HDg
    generalize spc zs zs.length = D at *
    have HN1 := Lib.hid (fun k hk => numTo_eq zs k hk)
    have HC := Lib.hid hcell
    have HB := Lib.hid hbd
    have HZ := Lib.hid (show ∀ k, k < zs.length → cd zs k < 65536 ∧ zs[k]?.getD 0 = (cd zs k : Nat) from fun k hk => by
      have := hbd k hk
      unfold cd
      omega)
    have HL := Lib.hid (show zs.take zs.length = zs from List.take_length)
    obtain ⟨i0, hi0, hz0, hz1, hz2⟩ := info_parts infoI
    clear hcell hbd hcod
    generalize hLen : zs.length = len at *
    have HLen := Lib.hid hLen
    clear hLen
    go_enter Try.func11, Try.ntmps11
    go_wp2_with fail
    go_loopw [9, 10] (fun v i wr => ∃ k : Nat, k ≤ len ∧ i = .int .i64 k ∧ wr.ownsRow w.heap.size 3 1 v k (numv (numTo zs k)) ∧ Below w.heap.size w wr) (fun _ i _ => len - (intOf i).toNat)
    case atStart => exact ⟨0, Nat.zero_le _, rfl, World.ownsRow_nil _ _ _ _, Below.refl _ _⟩
    case round =>
      obtain ⟨k, hk, rfl, hrow, hB⟩ := hrel
      have hsz := hB.size
      by_cases hlt : k < len
      · obtain ⟨b, off, rfl, hb, c0⟩ := HC.out k hlt
        have hx := HB.out k hlt
        have c0' := (hB.cell (p := ⟨b, off + k, none⟩) hb).trans c0
        have HT := Lib.hid (show numTo zs (k + 1) = numTo zs k ++ [zs[k]?.getD 0] from rfl)
        generalize zs[k]?.getD 0 = x at *
        generalize hnl : numv (numTo zs k) = nl at hrow
        have HNL := Lib.hid hnl
        clear hnl
        have W1 : IntKind.i64.wrap x = x := by rw [IntKind.wrap_i64]; omega
        go_wp2_with (at_builtin; refine wpList_append_own _ rfl _ _ 46 rfl w.heap.size 3 i0 (.int .i64 0) 1 8 Try.underlying46 hi0 hz0 hz1 hz2 rfl (by decide) _ _ _ rfl (hrow.alloc _) ⟨wr.heap.size, 0, none⟩ 1 1 [.int .i64 x] rfl rfl (one_new _ _) (by simp [Value.oneCell']) (by unfold maxLen; omega) (by omega) (by simp; omega) ?_; intro v' w5 hrow' hgrow _)
        have hB5 : Below w.heap.size w w5 := (hB.alloc (by omega) _).grown hgrow (by simp; omega) (fun j hj => (hrow.lt j hj).1)
        go_roundw
        case rel => exact ⟨k + 1, by omega, by go_num, by rw [HT.out, numv_snoc, HNL.out]; exact hrow', hB5⟩
        case measure => simp [intOf]; omega
      · obtain rfl : len = k := by omega
        have hN : Nums wr.heap.size wr u9 zs := nums_of_owns (base := w.heap.size) (by rw [HLen.out]; rw [(HN1.out len (Nat.le_refl _)).trans HL.out] at hrow; exact hrow)
        have HNu := Lib.hid (fun W (hb : Below wr.heap.size wr W) => hN.at hb)
        obtain ⟨ac, cc, hu9, -, hce⟩ := hN
        rw [HLen.out] at hu9
        subst hu9
        have HCe := Lib.hid hce
        have HB0 := Lib.hid hB
        have hsz0 := hB.size
        obtain ⟨n, hn, hn16⟩ : ∃ n : Nat, (m : Int).tmod 17 = (n : Int) ∧ n ≤ 16 := ⟨m % 17, by rw [Int.tmod_eq_emod_of_nonneg (by omega)]; omega, by omega⟩
        obtain ⟨q, hq, hq16, hnq⟩ : ∃ q : Nat, min (16 : Int) ((n : Int) + 1) = (q : Int) ∧ q ≤ 16 ∧ n ≤ q := ⟨min 16 (n + 1), by omega, by omega, by omega⟩
        have W1 : IntKind.i64.wrap (m : Int) = m := by rw [IntKind.wrap_i64]; omega
        have W2 : IntKind.i64.wrap (h : Int) = h := by rw [IntKind.wrap_i64]; omega
        have W3 : IntKind.i64.wrap (f : Int) = f := by rw [IntKind.wrap_i64]; omega
        clear hrow hce hB hlt
        go_wp2_with fail
        refine (CS.out _ _ (HNu.out _ (Below.refl _ _))).mono ?_
        rintro e w2 ⟨rfl, rfl⟩
        go_wp2_with fail
        refine (CA.out _ h n _ hh hn16 (HNu.out _ (Below.refl _ _))).mono ?_
        rintro e w3 ⟨va, rfl, hA, hb3⟩
        have HB3 := Lib.hid hb3
        clear hb3
        go_wp2_with fail
        refine (CA.out _ h q _ hh hq16 (HNu.out _ HB3.out)).mono ?_
        rintro e w4 ⟨vb, rfl, hBn, hb4⟩
        have HB4 := Lib.hid (HB3.out.trans (hb4.mono HB3.out.size))
        clear hb4 HB3
        have hAB := HMono.out h n q hnq
        have hA1 := HShort.out h n
        obtain ⟨aa, ca, rfl, -, -⟩ := hA
        obtain ⟨ab, cb, rfl, -, -⟩ := hBn
        have hla := HLen2.out h n
        have hlb := HLen2.out h q
        generalize (ansTo zs h n len).length = la at *
        generalize (ansTo zs h q len).length = lb at *
        have hkey : (2 * n + 1 ≤ D ∧ la ≤ 1) ∨ D < 2 * n + 1 := by
          rcases Nat.lt_or_ge D (2 * n + 1) with g | g
          · exact .inr g
          · exact .inl ⟨g, hA1 g⟩
        clear hA1 hq hn hq16 hnq W1 W2
        rcases hkey with ⟨hk1, hk2⟩ | hk1
        all_goals
          go_wp2_with fail
          go_loopw [17] (fun i wr2 => ∃ j : Nat, j ≤ len ∧ i = .int .i64 j ∧ Below w2.heap.size w2 wr2) (fun i _ => len - (intOf i).toNat)
          case atStart => exact ⟨0, Nat.zero_le _, rfl, HB4.out⟩
          case round =>
            obtain ⟨j, hj, rfl, hB⟩ := hrel
            have hsz := hB.size
            by_cases hlt : j < len
            · obtain ⟨b, off, rfl, hb, c0⟩ := HCe.out j (by rw [HLen.out]; exact hlt)
              obtain ⟨hz1', hz2'⟩ := HZ.out j hlt
              rw [hz2'] at c0
              have c0' := (hB.cell (p := ⟨b, off + j, none⟩) hb).trans c0
              have hmem := HMem.out (cd zs j ^^^ f) (apart (cd zs j) (cd zs j ^^^ f) 16) j hlt (Nat.le_refl _)
              have hjust := HJust.out (cd zs j ^^^ f) (apart (cd zs j) (cd zs j ^^^ f) 16) j
              have hxor := xor_i64 (cd zs j) f (by omega) (by omega)
              have hxl : cd zs j ^^^ f < 65536 := by
                have := Nat.xor_lt_two_pow (n := 16) (x := cd zs j) (y := f) (by omega) (by omega)
                omega
              have hal := apart_le (cd zs j) (cd zs j ^^^ f) 16
              have hjust' := fun hg => hjust hg hlt (Nat.le_refl _)
              clear hjust c0 hz2'
              generalize hx0 : cd zs j ^^^ f = c at *
              have cR := fun W => rapart_any (cd zs j) c hz1' hxl W
              have cA := fun W hN => CA.out (.slice (some ⟨b, off, none⟩) len cc) c (apart (cd zs j) c 16) W hxl hal hN
              generalize cd zs j = aj at *
              generalize apart aj c 16 = bt at *
              have HM1 := Lib.hid (hasTo_mem hmem)
              have HJ1 := Lib.hid hjust'
              have HXL := HLen2.out c bt
              clear hmem hjust' hx0
              generalize ansTo zs c bt len = X at *
              go_wp2_with fail
              refine (cR _).mono ?_
              rintro e w6 ⟨rfl, rfl⟩
              go_wp2_with fail
              refine (cA _ (HNu.out _ hB)).mono ?_
              rintro e w7 ⟨vx, rfl, hX, hb7⟩
              have HB7 := Lib.hid (hB.trans (hb7.mono hB.size))
              obtain ⟨ax, cx, rfl, -, hxc⟩ := hX
              have HXc := Lib.hid hxc
              clear hxc hb7 cR cA hB c0'
              have HST := Lib.hid (show ∀ k, hasTo X (j : Int) (k + 1) = (hasTo X (j : Int) k || decide (X[k]?.getD 0 = (j : Int))) from fun _ => rfl)
              generalize X.length = lx at *
              go_wp2_with fail
              go_loopw [22, 23] (fun fo i wr3 => ∃ k : Nat, k ≤ lx ∧ i = .int .i64 k ∧ fo = .bool (hasTo X (j : Int) k) ∧ wr3 = w7) (fun _ i _ => lx - (intOf i).toNat)
              case atStart => exact ⟨0, Nat.zero_le _, rfl, rfl, rfl⟩
              case round =>
                obtain ⟨k, hk, rfl, rfl, rfl⟩ := hrel
                by_cases hlt2 : k < lx
                · obtain ⟨b3, off3, rfl, hb3, c3⟩ := HXc.out k hlt2
                  have hst := Lib.hid (HST.out k)
                  generalize hasTo X (j : Int) k = fo at *
                  generalize X[k]?.getD 0 = xe at *
                  cases fo
                  · by_cases hxe : xe = (j : Int)
                    · subst hxe
                      go_wp2_with fail
                      go_roundw
                      case rel => exact ⟨k + 1, by omega, by go_num, by rw [hst.out]; simp, by first | rfl | trivial⟩
                      case measure => simp [intOf]; omega
                    · go_wp2_with fail
                      go_roundw
                      case rel => exact ⟨k + 1, by omega, by go_num, by rw [hst.out]; simp [hxe], by first | rfl | trivial⟩
                      case measure => simp [intOf]; omega
                  · go_wp2_with fail
                    go_roundw
                    case rel => exact ⟨k + 1, by omega, by go_num, by rw [hst.out]; simp, by first | rfl | trivial⟩
                    case measure => simp [intOf]; omega
                · obtain rfl : lx = k := by omega
                  rw [HM1.out]
                  rcases Nat.lt_or_ge D (2 * bt + 1) with hq | hq
                  · go_wp2_with fail
                    go_roundw
                    case rel => exact ⟨j + 1, by omega, by go_num, HB7.out⟩
                    case measure => simp [intOf]; omega
                  · have hl1 := HJ1.out hq
                    subst hl1
                    go_wp2_with fail
                    go_roundw
                    case rel => exact ⟨j + 1, by omega, by go_num, HB7.out⟩
                    case measure => simp [intOf]; omega
            · have HBf := Lib.hid (HB0.out.trans (hB.mono hsz0))
              clear hB
              go_wp2_with fail
              refine (HF.out _).mono ?_
              rintro e w8 ⟨rfl, hb⟩
              have hBz := HBf.out.trans (hb.mono HBf.out.size)
              clear hb
              go_wp2_with fail
              go_ret
              exact ⟨rfl, hBz⟩
end Go.Proofs.Ythogahdnidjelaa

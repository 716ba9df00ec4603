/-
  mooring.Answers, and the reference's.
-/
import Derived.Test.YthogahdnidjelaaRefSpacing
import Derived.WalkKit
import Derived.Laws.AppendOwn
import Derived.RangeFuncNested
namespace Go.Proofs.Ythogahdnidjelaa
open Go.RowKit Go.Shelf
set_option linter.unusedSimpArgs false
theorem infoI : (Try.prog.info? 3).map (fun i => (i.zero, i.size, i.bytes)) = some (some (.int .i64 0), 1, 8) := by kernel_rfl
def numv (xs : List Int) : List Value := xs.map (.int .i64 ·)
theorem numv_snoc (xs : List Int) (x : Int) : numv (xs ++ [x]) = numv xs ++ [.int .i64 x] := by simp [numv]
theorem one_new (W : World) (x : Value) : ∀ (j : Nat) (u : Value), [x][j]? = some u → (W.alloc (.cells #[x] 3)).cell? ((⟨W.heap.size, 0, none⟩ : Addr).add j) = some u := by
  intro j u hj
  match j, hj with
  | 0, hj => simp at hj; subst hj; simp [Addr.add]
theorem nums_of_owns {W : World} {base : Nat} {v : Value} {xs : List Int} (h : W.ownsRow base 3 1 v xs.length (numv xs)) : Nums W.heap.size W v xs := by
  rcases h.2 with ⟨rfl, h0⟩ | ⟨g, cap, cur, rfl, hb, hg, r1, r2, r3, r4⟩
  · exact ⟨none, 0, by rw [h0], by omega, fun j hj => by omega⟩
  · refine ⟨_, cap, rfl, r1, fun j hj => ⟨g, 0, rfl, (Array.getElem?_eq_some_iff.1 hg).1, ?_⟩⟩
    have e : cur.toList[j]? = some (.int .i64 (xs[j]?.getD 0)) := by
      have h4 : (cur.toList.take (xs.length * 1))[j]? = (numv xs)[j]? := by rw [r4]
      rw [List.getElem?_take_of_lt (by omega)] at h4
      rw [h4]
      simp [numv, hj]
    rw [Nat.zero_add]
    simp only [World.cell?, hg]
    simpa using e
/-- the indexes of the codes that answer, among the first k -/
def ansTo (zs : List Int) (h g : Nat) : Nat → List Int
  | 0 => []
  | k + 1 => if apart (cd zs k) h 16 ≤ g then ansTo zs h g k ++ [(k : Int)] else ansTo zs h g k
theorem ansTo_len (zs : List Int) (h g : Nat) : ∀ k, (ansTo zs h g k).length ≤ k
  | 0 => Nat.le_refl _
  | k + 1 => by
    have := ansTo_len zs h g k
    simp only [ansTo]
    split
    · simp; omega
    · omega
def ansOk (heard wrong : Int) : Bool := isC heard && (decide (0 ≤ wrong) && decide (wrong ≤ 16))
def ansE (zs : List Int) (heard wrong : Int) : Int := if codE zs = 0 then (if ansOk heard wrong = true then 0 else 3) else codE zs
def ansV (zs : List Int) (heard wrong : Int) : List Int := if codE zs = 0 then (if ansOk heard wrong = true then ansTo zs heard.toNat wrong.toNat zs.length else []) else []
theorem nums_nil (n₀ : Nat) (W : World) : Nums n₀ W (.slice none 0 0) [] := ⟨none, 0, rfl, Nat.le_refl _, fun k hk => by simp at hk⟩
set_option maxHeartbeats 4000000 in
theorem answers_any (sv : Value) (zs : List Int) (heard wrong : Int) (w : World) (hI : Nums w.heap.size w sv zs) :
    Calls Try.prog 37 #[sv, .int .i64 heard, .int .i64 wrong] w fun e w' => ∃ v, e = .returned (.tuple #[v, .int .i64 (ansE zs heard wrong)]) ∧ Nums w'.heap.size w' v (ansV zs heard wrong) ∧ Below w.heap.size w w' := by
  have c1 := checkCodes_any sv zs w hI
  have c2 := fun w => isCode_any heard w
  have c3 := fun w => withinI_any wrong 0 16 w
  obtain ⟨a, cap, rfl, hcap, hcell⟩ := hI
  by_cases he : codE zs = 0
  rotate_left
  · rw [show ansE zs heard wrong = codE zs from if_neg he, show ansV zs heard wrong = [] from if_neg he]
    generalize codE zs = r at c1 he ⊢
    have hb : (r != 0) = true := by simpa using he
    clear hcell c2 c3
    generalize zs.length = len at *
    go_enter Try.func37, Try.ntmps37
    go_wp2_with fail
    refine c1.mono ?_
    rintro e w1 ⟨rfl, rfl⟩
    go_wp2_with fail
    go_ret2
    exact ⟨_, rfl, nums_nil _ _, Below.refl _ _⟩
  · obtain ⟨hl, hall⟩ := codE_zero he
    rw [he] at c1
    by_cases hh : isC heard = true
    rotate_left
    · have e1 : ansE zs heard wrong = 3 := by unfold ansE ansOk; rw [if_pos he, if_neg (by simp [hh])]
      have e2 : ansV zs heard wrong = [] := by unfold ansV ansOk; rw [if_pos he, if_neg (by simp [hh])]
      rw [e1, e2]
      rw [Bool.not_eq_true] at hh
      rw [hh] at c2
      clear hcell c3 e1 e2 hall he
      generalize zs.length = len at *
      go_enter Try.func37, Try.ntmps37
      go_wp2_with fail
      refine c1.mono ?_
      rintro e w1 ⟨rfl, rfl⟩
      go_wp2_with fail
      refine (c2 _).mono ?_
      rintro e w2 ⟨rfl, rfl⟩
      go_wp2_with fail
      go_ret2
      exact ⟨_, rfl, nums_nil _ _, Below.refl _ _⟩
    rw [hh] at c2
    by_cases hw : (decide (0 ≤ wrong) && decide (wrong ≤ 16)) = true
    rotate_left
    · have e1 : ansE zs heard wrong = 3 := by unfold ansE ansOk; rw [if_pos he, if_neg (by simp only [hh, Bool.true_and]; exact hw)]
      have e2 : ansV zs heard wrong = [] := by unfold ansV ansOk; rw [if_pos he, if_neg (by simp only [hh, Bool.true_and]; exact hw)]
      rw [e1, e2]
      rw [Bool.not_eq_true] at hw
      rw [hw] at c3
      clear hcell e1 e2 hall he hw
      generalize zs.length = len at *
      go_enter Try.func37, Try.ntmps37
      go_wp2_with fail
      refine c1.mono ?_
      rintro e w1 ⟨rfl, rfl⟩
      go_wp2_with fail
      refine (c2 _).mono ?_
      rintro e w2 ⟨rfl, rfl⟩
      go_wp2_with fail
      refine (c3 _).mono ?_
      rintro e w3 ⟨rfl, rfl⟩
      go_wp2_with fail
      go_ret2
      exact ⟨_, rfl, nums_nil _ _, Below.refl _ _⟩
    rw [hw] at c3
    have E1 : ansE zs heard wrong = 0 := by unfold ansE ansOk; rw [if_pos he, if_pos (by rw [hh, hw]; rfl)]
    have E2 := Lib.hid (show ansV zs heard wrong = ansTo zs heard.toNat wrong.toNat zs.length by unfold ansV ansOk; rw [if_pos he, if_pos (by rw [hh, hw]; rfl)])
    rw [E1]
    clear E1
    obtain ⟨h1, h2⟩ := (isC_iff heard).1 hh
    obtain ⟨g1, g2⟩ : 0 ≤ wrong ∧ wrong ≤ 16 := by simpa using hw
    obtain ⟨h, rfl⟩ : ∃ h : Nat, heard = h := ⟨heard.toNat, by omega⟩
    obtain ⟨g, rfl⟩ : ∃ g : Nat, wrong = g := ⟨wrong.toNat, by omega⟩
    have HC := Lib.hid (show ∀ k, k < zs.length → ∃ b off, a = some ⟨b, off, none⟩ ∧ b < w.heap.size ∧ w.cell? ⟨b, off + k, none⟩ = some (.int .i64 (cd zs k)) ∧ cd zs k < 65536 from fun k hk => by
      obtain ⟨b, off, h1, h2, h3⟩ := hcell k hk
      have hz := hall (zs[k]?.getD 0) (by rw [List.getElem?_eq_getElem hk, Option.getD_some]; exact List.getElem_mem hk)
      refine ⟨b, off, h1, h2, ?_, ?_⟩
      · rw [h3]; unfold cd; rw [Int.toNat_of_nonneg hz.1]
      · unfold cd; omega)
    clear hcell hall he hh hw
    simp only [Int.toNat_natCast] at E2
    obtain ⟨i0, hi0, hz0, hz1, hz2⟩ := info_parts infoI
    generalize ansV zs h g = V at E2 ⊢
    generalize zs.length = len at *
    go_enter Try.func37, Try.ntmps37
    go_wp2_with fail
    refine c1.mono ?_
    rintro e w1 ⟨rfl, rfl⟩
    go_wp2_with fail
    refine (c2 _).mono ?_
    rintro e w2 ⟨rfl, rfl⟩
    go_wp2_with fail
    refine (c3 _).mono ?_
    rintro e w3 ⟨rfl, rfl⟩
    clear c1 c2 c3
    go_wp2_with fail
    go_loopw [9, 27] (fun v i wr => ∃ k : Nat, k ≤ len ∧ i = .int .i64 k ∧ wr.ownsRow w3.heap.size 3 1 v (ansTo zs h g k).length (numv (ansTo zs h g k)) ∧ Below w3.heap.size w3 wr) (fun _ i _ => len - (intOf i).toNat)
    case atStart => exact ⟨0, Nat.zero_le _, rfl, World.ownsRow_nil _ _ _ _, Below.refl _ _⟩
    case round =>
      obtain ⟨k, hk, rfl, hrow, hB⟩ := hrel
      have hsz := hB.size
      by_cases hlt : k < len
      · obtain ⟨b, off, rfl, hb, c0, hx⟩ := HC.out k hlt
        have c0' := (hB.cell (p := ⟨b, off + k, none⟩) hb).trans c0
        have hst := Lib.hid (show ansTo zs h g (k + 1) = if apart (cd zs k) h 16 ≤ g then ansTo zs h g k ++ [(k : Int)] else ansTo zs h g k from rfl)
        have hll := ansTo_len zs h g k
        generalize ansTo zs h g k = l at hrow hst hll
        generalize cd zs k = x at *
        have cc := fun w => distance_any x h hx (by omega) w
        have hap := apart_le x h 16
        generalize apart x h 16 = d at *
        generalize hnl : numv l = nl at hrow
        have HNL := Lib.hid hnl
        clear hnl
        by_cases hd : d ≤ g
        · have hs := Lib.hid (hst.out.trans (if_pos hd))
          clear hst
          go_wp2_with fail
          refine (cc _).mono ?_
          rintro e w4 ⟨rfl, rfl⟩
          go_wp2_with (at_builtin; refine wpList_append_own _ rfl _ _ 46 rfl w3.heap.size 3 i0 (.int .i64 0) 1 8 Try.underlying46 hi0 hz0 hz1 hz2 rfl (by decide) _ _ _ rfl (hrow.alloc _) ⟨w4.heap.size, 0, none⟩ 1 1 [.int .i64 k] rfl rfl (one_new _ _) (by simp [Value.oneCell']) (by unfold maxLen; omega) (by omega) (by simp; omega) ?_; intro v' w5 hrow' hgrow _)
          have hB5 : Below w3.heap.size w3 w5 := (hB.alloc (by omega) _).grown hgrow (by simp; omega) (fun j hj => (hrow.lt j hj).1)
          go_roundw
          case rel => exact ⟨k + 1, by omega, by go_num, by rw [hs.out, numv_snoc, HNL.out, List.length_append]; exact hrow', hB5⟩
          case measure => simp [intOf]; omega
        · have hs := Lib.hid (hst.out.trans (if_neg hd))
          clear hst
          go_wp2_with fail
          refine (cc _).mono ?_
          rintro e w4 ⟨rfl, rfl⟩
          go_wp2_with fail
          go_roundw
          case rel => exact ⟨k + 1, by omega, by go_num, by rw [hs.out, HNL.out]; exact hrow, hB⟩
          case measure => simp [intOf]; omega
      · obtain rfl : k = len := by omega
        have hn := nums_of_owns hrow
        go_wp2_with fail
        go_ret2
        exact ⟨_, rfl, by rw [E2.out]; exact hn, hB⟩
end Go.Proofs.Ythogahdnidjelaa

/-
  Cables: what is asked of a cable, and the ranks.
-/
import Derived.Test.YtdohfpnnmppdkaaFrame
import Derived.Test.YtdohfpnnmppdkaaCbD
import Derived.Test.YtdohfpnnmppdkaaProg
import Derived.Test.YtdohfpnnmppdkaaCbQ
import Derived.Maps.AppendAt
import Derived.Sort.OwnSortedInts
import Derived.Shelf.SlIterI.Nil
import Derived.Shelf.SortM.Plain
import Derived.Shelf.SortM.SortNone
import Derived.Ground.GgzProg
import Derived.Ground.SlgmProg
import Derived.Maps.Own
import Derived.Maps.Views
namespace Go.Proofs.Ytdohfpnnmppdkaa
open Go.RowKit Go.Shelf
set_option linter.unusedSimpArgs false
open Go.RowKit Go.Shelf
set_option linter.unusedSimpArgs false
attribute [local go_sem] Oper.semAt_some
/-- what is asked and the rank of a node -/
def rqF (rs : List Int) (i : Nat) : Int := if i < rs.length then ti rs i else 0
def rkF (ks : List Int) (i : Nat) : Int := if i < ks.length then ti ks i % 8 else 0
def fI (f : Nat → Int) (n : Nat) : List Value := (List.range n).map fun j => .int .i64 (f j)
theorem fI_succ (f : Nat → Int) (n : Nat) : fI f (n + 1) = fI f n ++ [.int .i64 (f n)] := by simp [fI, List.range_succ]
theorem dist_symS {a b : Option Nat} (h : a = none ∨ a ≠ b) : b = none ∨ b ≠ a := by
  cases b with
  | none => exact .inl rfl
  | some k => exact .inr fun e => by subst e; rcases h with h | h; cases h; exact h rfl
theorem dist_newS {a a' b : Option Nat} {H : Nat} (h : a = none ∨ a ≠ b) (hob : a' = a ∨ a' = some H) (hlt : ∀ k, b = some k → k < H) : a' = none ∨ a' ≠ b := by
  rcases hob with rfl | rfl
  · exact h
  · exact .inr fun e => by have := hlt H e.symm; omega
theorem one_newT (W : World) (x : Value) (t : TypeId) : ∀ (j : Nat) (u : Value), [x][j]? = some u → (W.alloc (.cells #[x] t)).cell? ((⟨W.heap.size, 0, none⟩ : Addr).add j) = some u := by
  intro j u hj
  match j, hj with
  | 0, h => simp at h; subst h; simp [Addr.add, go_sem]
theorem own_any1 {W : World} {base n : Nat} {t : TypeId} {v : Value} {xs : List Value} (h : W.ownsRow base t 1 v n xs) : ∃ a c, v = .slice a n c := by
  rcases h.2 with ⟨hv, h0⟩ | ⟨g, cap, cur, hv, _⟩
  · exact ⟨none, 0, by rw [h0]; exact hv⟩
  · exact ⟨_, cap, hv⟩
set_option maxRecDepth 100000 in
set_option maxHeartbeats 16000000 in
theorem granting_any (sl sh : Int) (sv qv kv : Value) (ns : List Nd) (rs ks : List Int) (w : World) (hn : ns.length ≤ 1000) (hN : Nds w.heap.size w sv ns) (hQ : Sk .u16 w.heap.size w qv rs) (hK : Sk .u8 w.heap.size w kv ks) :
    Calls Try.prog 56 #[.agg #[.int .i64 sl, .int .i64 sh, sv], qv, kv] w fun e w' => ∃ v1 v2, e = .returned (.tuple #[v1, v2]) ∧ w'.ownsRow w.heap.size 2 1 v1 ns.length (fI (rqF rs) ns.length) ∧ w'.ownsRow w.heap.size 3 1 v2 ns.length (fI (rkF ks) ns.length) ∧ (v1.ownBlock = none ∨ v1.ownBlock ≠ v2.ownBlock) ∧ Below w.heap.size w w' := by
  obtain ⟨i2, hi2, hz20, hz21, hz22⟩ := info_parts (t := 2) (z := .int .i64 0) (size := 1) (bytes := 8) (by kernel_rfl)
  obtain ⟨i3, hi3, hz30, hz31, hz32⟩ := info_parts infoI3
  obtain ⟨a, cap, hsv⟩ := hN.form
  obtain ⟨qa, qc, rfl, -, hqc⟩ := hQ
  obtain ⟨ka, kc, rfl, -, hkc⟩ := hK
  have HQC := Lib.hid (show ∀ W j, Below w.heap.size w W → j < rs.length → (0 ≤ ti rs j ∧ ti rs j ≤ 65535) ∧ ∃ b off, qa = some ⟨b, off, none⟩ ∧ W.cell? ⟨b, off + j, none⟩ = some (.int .u16 (ti rs j)) from fun W j hW hj => by
    obtain ⟨hw, b, off, e, hb, c0⟩ := hqc j hj
    exact ⟨u16_of_wf hw, b, off, e, (hW.cell (p := ⟨b, _, none⟩) hb).trans c0⟩)
  have HKC := Lib.hid (show ∀ W j, Below w.heap.size w W → j < ks.length → (0 ≤ ti ks j ∧ ti ks j ≤ 255) ∧ ∃ b off, ka = some ⟨b, off, none⟩ ∧ W.cell? ⟨b, off + j, none⟩ = some (.int .u8 (ti ks j)) from fun W j hW hj => by
    obtain ⟨hw, b, off, e, hb, c0⟩ := hkc j hj
    exact ⟨u8_of_wf hw, b, off, e, (hW.cell (p := ⟨b, _, none⟩) hb).trans c0⟩)
  have HRQ1 := Lib.hid (show ∀ j, j < rs.length → rqF rs j = ti rs j from fun j h => if_pos h)
  have HRQ0 := Lib.hid (show ∀ j, ¬ j < rs.length → rqF rs j = 0 from fun j h => if_neg h)
  have HRK1 := Lib.hid (show ∀ j, j < ks.length → rkF ks j = ti ks j % 8 from fun j h => if_pos h)
  have HRK0 := Lib.hid (show ∀ j, ¬ j < ks.length → rkF ks j = 0 from fun j h => if_neg h)
  subst hsv
  clear hN hqc hkc
  generalize ns.length = n at *
  generalize hrl : rs.length = rn at *
  generalize hkl : ks.length = km at *
  clear hrl hkl
  obtain ⟨A, hA⟩ : ∃ A, A = w.alloc (.cells #[.int .i64 sl, .int .i64 sh, .slice a n cap] 26) := ⟨_, rfl⟩
  have HBA := Lib.hid (show Below w.heap.size w A by rw [hA]; exact ((Below.refl _ _).alloc (Nat.le_refl _) _))
  have hltA : w.heap.size + 1 ≤ A.heap.size := by rw [hA]; simp
  have q2 : A.cell? ⟨w.heap.size, 2, none⟩ = some (.slice a n cap) := by rw [hA]; exact (cellHB (World.alloc_heap_new w _) 2).trans (by simp)
  have KK := Lib.hid (show ∀ W, Below A.heap.size A W → W.cell? ⟨w.heap.size, 2, none⟩ = some (.slice a n cap) from fun W h => (h.cell (p := ⟨w.heap.size, 2, none⟩) (by show w.heap.size < A.heap.size; omega)).trans q2)
  clear hltA q2
  go_enter Try.func56, Try.ntmps56
  go_upto_region 1 with fail
  rw [← hA]
  clear hA
  go_wp2_with fail
  go_loopw [8, 9, 10] (fun pv ov iv wr => ∃ i : Nat, i ≤ n ∧ iv = .int .i64 i ∧ wr.ownsRow A.heap.size 2 1 pv i (fI (rqF rs) i) ∧ wr.ownsRow A.heap.size 3 1 ov i (fI (rkF ks) i) ∧ (pv.ownBlock = none ∨ pv.ownBlock ≠ ov.ownBlock) ∧ Below A.heap.size A wr) (fun _ _ iv _ => n - (intOf iv).toNat)
  case atStart => exact ⟨0, Nat.zero_le _, rfl, World.ownsRow_nil _ _ _ _, World.ownsRow_nil _ _ _ _, .inl rfl, Below.refl _ _⟩
  case round =>
    obtain ⟨i, hi, rfl, hr, hk, hd, hB⟩ := hrel
    have HR := Lib.hid hr
    have HK := Lib.hid hk
    have HD := Lib.hid hd
    have HB := Lib.hid hB
    obtain ⟨pa, pc, rfl⟩ := own_any1 hr
    obtain ⟨oa, oc, rfl⟩ := own_any1 hk
    clear hr hk hd hB
    have k2 := KK.out _ HB.out
    by_cases hlt : i < n
    · have hii : (i : Int) < (n : Int) := by omega
      by_cases h1 : i < rn
      · have h1' : (i : Int) < (rn : Int) := by omega
        obtain ⟨hx, b1, o1, rfl, c1⟩ := HQC.out wr i (HBA.out.trans (HB.out.mono HBA.out.size)) h1
        have HX := Lib.hid (HRQ1.out i h1)
        clear HRQ1 HRQ0 HQC
        generalize ti rs i = x at *
        by_cases h2 : i < km
        · have h2' : (i : Int) < (km : Int) := by omega
          obtain ⟨hy, b2, o2, rfl, c2⟩ := HKC.out wr i (HBA.out.trans (HB.out.mono HBA.out.size)) h2
          have HY := Lib.hid (HRK1.out i h2)
          have hy8 : (ti ks i).tmod 8 = ti ks i % 8 := Int.tmod_eq_emod_of_nonneg hy.1
          clear HRK1 HRK0 HKC
          generalize ti ks i % 8 = y at *
          generalize ti ks i = y0 at *
          go_upto_region 12 with (at_builtin; refine wpList_append_own_at _ rfl _ _ 50 rfl A.heap.size 2 i2 (.int .i64 0) 1 8 Try.underlying50 hi2 hz20 hz21 hz22 rfl (by decide) _ _ _ rfl (HR.out.alloc _) ⟨wr.heap.size, 0, none⟩ 1 1 [.int .i64 x] rfl rfl (one_newT _ _ _) (by simp [Value.oneCell']) (by unfold maxLen; omega) (by omega) (by have := HB.out.size; simp; omega) ?_; intro v1 w5 hown' hgrow _ hob; have HG := Lib.hid hgrow; have HO := Lib.hid hown'; have HOB := Lib.hid hob; clear hown' hgrow hob)
          have HR5 := Lib.hid (show w5.ownsRow A.heap.size 2 1 v1 (i + 1) (fI (rqF rs) (i + 1)) by rw [fI_succ, HX.out]; exact HO.out)
          have HK5 := Lib.hid (show w5.ownsRow A.heap.size 3 1 (.slice oa i oc) i (fI (rkF ks) i) from (HK.out.alloc _).kept HG.out (dist_symS HD.out))
          have HB5 := Lib.hid (show Below A.heap.size A w5 from (HB.out.alloc HB.out.size _).grown HG.out (by have := HB.out.size; simp; omega) (fun r e => (((HR.out.alloc (.cells #[.int .i64 x] 2)).lt r e).1)))
          have HD5 := Lib.hid (show v1.ownBlock = none ∨ v1.ownBlock ≠ (Value.slice oa i oc).ownBlock from dist_newS HD.out HOB.out (fun r e => ((HK.out.alloc (.cells #[.int .i64 x] 2)).lt r e).2))
          clear HR HK HD HG HO HOB HB
          go_wp2_with (at_builtin; refine wpList_append_own_at _ rfl _ _ 29 rfl A.heap.size 3 i3 (.int .i64 0) 1 8 Try.underlying29 hi3 hz30 hz31 hz32 rfl (by decide) _ _ _ rfl (HK5.out.alloc _) ⟨w5.heap.size, 0, none⟩ 1 1 [.int .i64 y] rfl rfl (one_newT _ _ _) (by simp [Value.oneCell']) (by unfold maxLen; omega) (by omega) (by have := HB5.out.size; simp; omega) ?_; intro v2 w6 hown' hgrow _ hob; have HG := Lib.hid hgrow; have HO := Lib.hid hown'; have HOB := Lib.hid hob; clear hown' hgrow hob)
          have HK6 := Lib.hid (show w6.ownsRow A.heap.size 3 1 v2 (i + 1) (fI (rkF ks) (i + 1)) by rw [fI_succ, HY.out]; exact HO.out)
          have HR6 := Lib.hid (show w6.ownsRow A.heap.size 2 1 v1 (i + 1) (fI (rqF rs) (i + 1)) from (HR5.out.alloc _).kept HG.out HD5.out)
          have HB6 := Lib.hid (show Below A.heap.size A w6 from (HB5.out.alloc HB5.out.size _).grown HG.out (by have := HB5.out.size; simp; omega) (fun r e => (((HK5.out.alloc (.cells #[.int .i64 y] 3)).lt r e).1)))
          have HD6 := Lib.hid (show v1.ownBlock = none ∨ v1.ownBlock ≠ v2.ownBlock from dist_symS (dist_newS (dist_symS HD5.out) HOB.out (fun r e => ((HR5.out.alloc (.cells #[.int .i64 y] 3)).lt r e).2)))
          go_roundw
          case rel => exact ⟨i + 1, by omega, by go_num, HR6.out, HK6.out, HD6.out, HB6.out⟩
          case measure => simp [intOf]; omega
        · have h2' : ¬ (i : Int) < (km : Int) := by omega
          have HY := Lib.hid (HRK0.out i h2)
          clear HRK1 HRK0 HKC
          go_upto_region 12 with (at_builtin; refine wpList_append_own_at _ rfl _ _ 50 rfl A.heap.size 2 i2 (.int .i64 0) 1 8 Try.underlying50 hi2 hz20 hz21 hz22 rfl (by decide) _ _ _ rfl (HR.out.alloc _) ⟨wr.heap.size, 0, none⟩ 1 1 [.int .i64 x] rfl rfl (one_newT _ _ _) (by simp [Value.oneCell']) (by unfold maxLen; omega) (by omega) (by have := HB.out.size; simp; omega) ?_; intro v1 w5 hown' hgrow _ hob; have HG := Lib.hid hgrow; have HO := Lib.hid hown'; have HOB := Lib.hid hob; clear hown' hgrow hob)
          have HR5 := Lib.hid (show w5.ownsRow A.heap.size 2 1 v1 (i + 1) (fI (rqF rs) (i + 1)) by rw [fI_succ, HX.out]; exact HO.out)
          have HK5 := Lib.hid (show w5.ownsRow A.heap.size 3 1 (.slice oa i oc) i (fI (rkF ks) i) from (HK.out.alloc _).kept HG.out (dist_symS HD.out))
          have HB5 := Lib.hid (show Below A.heap.size A w5 from (HB.out.alloc HB.out.size _).grown HG.out (by have := HB.out.size; simp; omega) (fun r e => (((HR.out.alloc (.cells #[.int .i64 x] 2)).lt r e).1)))
          have HD5 := Lib.hid (show v1.ownBlock = none ∨ v1.ownBlock ≠ (Value.slice oa i oc).ownBlock from dist_newS HD.out HOB.out (fun r e => ((HK.out.alloc (.cells #[.int .i64 x] 2)).lt r e).2))
          clear HR HK HD HG HO HOB HB
          go_wp2_with (at_builtin; refine wpList_append_own_at _ rfl _ _ 29 rfl A.heap.size 3 i3 (.int .i64 0) 1 8 Try.underlying29 hi3 hz30 hz31 hz32 rfl (by decide) _ _ _ rfl (HK5.out.alloc _) ⟨w5.heap.size, 0, none⟩ 1 1 [.int .i64 0] rfl rfl (one_newT _ _ _) (by simp [Value.oneCell']) (by unfold maxLen; omega) (by omega) (by have := HB5.out.size; simp; omega) ?_; intro v2 w6 hown' hgrow _ hob; have HG := Lib.hid hgrow; have HO := Lib.hid hown'; have HOB := Lib.hid hob; clear hown' hgrow hob)
          have HK6 := Lib.hid (show w6.ownsRow A.heap.size 3 1 v2 (i + 1) (fI (rkF ks) (i + 1)) by rw [fI_succ, HY.out]; exact HO.out)
          have HR6 := Lib.hid (show w6.ownsRow A.heap.size 2 1 v1 (i + 1) (fI (rqF rs) (i + 1)) from (HR5.out.alloc _).kept HG.out HD5.out)
          have HB6 := Lib.hid (show Below A.heap.size A w6 from (HB5.out.alloc HB5.out.size _).grown HG.out (by have := HB5.out.size; simp; omega) (fun r e => (((HK5.out.alloc (.cells #[.int .i64 0] 3)).lt r e).1)))
          have HD6 := Lib.hid (show v1.ownBlock = none ∨ v1.ownBlock ≠ v2.ownBlock from dist_symS (dist_newS (dist_symS HD5.out) HOB.out (fun r e => ((HR5.out.alloc (.cells #[.int .i64 0] 3)).lt r e).2)))
          go_roundw
          case rel => exact ⟨i + 1, by omega, by go_num, HR6.out, HK6.out, HD6.out, HB6.out⟩
          case measure => simp [intOf]; omega
      · have h1' : ¬ (i : Int) < (rn : Int) := by omega
        have HX := Lib.hid (HRQ0.out i h1)
        clear HRQ1 HRQ0 HQC
        by_cases h2 : i < km
        · have h2' : (i : Int) < (km : Int) := by omega
          obtain ⟨hy, b2, o2, rfl, c2⟩ := HKC.out wr i (HBA.out.trans (HB.out.mono HBA.out.size)) h2
          have HY := Lib.hid (HRK1.out i h2)
          have hy8 : (ti ks i).tmod 8 = ti ks i % 8 := Int.tmod_eq_emod_of_nonneg hy.1
          clear HRK1 HRK0 HKC
          generalize ti ks i % 8 = y at *
          generalize ti ks i = y0 at *
          go_upto_region 12 with (at_builtin; refine wpList_append_own_at _ rfl _ _ 50 rfl A.heap.size 2 i2 (.int .i64 0) 1 8 Try.underlying50 hi2 hz20 hz21 hz22 rfl (by decide) _ _ _ rfl (HR.out.alloc _) ⟨wr.heap.size, 0, none⟩ 1 1 [.int .i64 0] rfl rfl (one_newT _ _ _) (by simp [Value.oneCell']) (by unfold maxLen; omega) (by omega) (by have := HB.out.size; simp; omega) ?_; intro v1 w5 hown' hgrow _ hob; have HG := Lib.hid hgrow; have HO := Lib.hid hown'; have HOB := Lib.hid hob; clear hown' hgrow hob)
          have HR5 := Lib.hid (show w5.ownsRow A.heap.size 2 1 v1 (i + 1) (fI (rqF rs) (i + 1)) by rw [fI_succ, HX.out]; exact HO.out)
          have HK5 := Lib.hid (show w5.ownsRow A.heap.size 3 1 (.slice oa i oc) i (fI (rkF ks) i) from (HK.out.alloc _).kept HG.out (dist_symS HD.out))
          have HB5 := Lib.hid (show Below A.heap.size A w5 from (HB.out.alloc HB.out.size _).grown HG.out (by have := HB.out.size; simp; omega) (fun r e => (((HR.out.alloc (.cells #[.int .i64 0] 2)).lt r e).1)))
          have HD5 := Lib.hid (show v1.ownBlock = none ∨ v1.ownBlock ≠ (Value.slice oa i oc).ownBlock from dist_newS HD.out HOB.out (fun r e => ((HK.out.alloc (.cells #[.int .i64 0] 2)).lt r e).2))
          clear HR HK HD HG HO HOB HB
          go_wp2_with (at_builtin; refine wpList_append_own_at _ rfl _ _ 29 rfl A.heap.size 3 i3 (.int .i64 0) 1 8 Try.underlying29 hi3 hz30 hz31 hz32 rfl (by decide) _ _ _ rfl (HK5.out.alloc _) ⟨w5.heap.size, 0, none⟩ 1 1 [.int .i64 y] rfl rfl (one_newT _ _ _) (by simp [Value.oneCell']) (by unfold maxLen; omega) (by omega) (by have := HB5.out.size; simp; omega) ?_; intro v2 w6 hown' hgrow _ hob; have HG := Lib.hid hgrow; have HO := Lib.hid hown'; have HOB := Lib.hid hob; clear hown' hgrow hob)
          have HK6 := Lib.hid (show w6.ownsRow A.heap.size 3 1 v2 (i + 1) (fI (rkF ks) (i + 1)) by rw [fI_succ, HY.out]; exact HO.out)
          have HR6 := Lib.hid (show w6.ownsRow A.heap.size 2 1 v1 (i + 1) (fI (rqF rs) (i + 1)) from (HR5.out.alloc _).kept HG.out HD5.out)
          have HB6 := Lib.hid (show Below A.heap.size A w6 from (HB5.out.alloc HB5.out.size _).grown HG.out (by have := HB5.out.size; simp; omega) (fun r e => (((HK5.out.alloc (.cells #[.int .i64 y] 3)).lt r e).1)))
          have HD6 := Lib.hid (show v1.ownBlock = none ∨ v1.ownBlock ≠ v2.ownBlock from dist_symS (dist_newS (dist_symS HD5.out) HOB.out (fun r e => ((HR5.out.alloc (.cells #[.int .i64 y] 3)).lt r e).2)))
          go_roundw
          case rel => exact ⟨i + 1, by omega, by go_num, HR6.out, HK6.out, HD6.out, HB6.out⟩
          case measure => simp [intOf]; omega
        · have h2' : ¬ (i : Int) < (km : Int) := by omega
          have HY := Lib.hid (HRK0.out i h2)
          clear HRK1 HRK0 HKC
          go_upto_region 12 with (at_builtin; refine wpList_append_own_at _ rfl _ _ 50 rfl A.heap.size 2 i2 (.int .i64 0) 1 8 Try.underlying50 hi2 hz20 hz21 hz22 rfl (by decide) _ _ _ rfl (HR.out.alloc _) ⟨wr.heap.size, 0, none⟩ 1 1 [.int .i64 0] rfl rfl (one_newT _ _ _) (by simp [Value.oneCell']) (by unfold maxLen; omega) (by omega) (by have := HB.out.size; simp; omega) ?_; intro v1 w5 hown' hgrow _ hob; have HG := Lib.hid hgrow; have HO := Lib.hid hown'; have HOB := Lib.hid hob; clear hown' hgrow hob)
          have HR5 := Lib.hid (show w5.ownsRow A.heap.size 2 1 v1 (i + 1) (fI (rqF rs) (i + 1)) by rw [fI_succ, HX.out]; exact HO.out)
          have HK5 := Lib.hid (show w5.ownsRow A.heap.size 3 1 (.slice oa i oc) i (fI (rkF ks) i) from (HK.out.alloc _).kept HG.out (dist_symS HD.out))
          have HB5 := Lib.hid (show Below A.heap.size A w5 from (HB.out.alloc HB.out.size _).grown HG.out (by have := HB.out.size; simp; omega) (fun r e => (((HR.out.alloc (.cells #[.int .i64 0] 2)).lt r e).1)))
          have HD5 := Lib.hid (show v1.ownBlock = none ∨ v1.ownBlock ≠ (Value.slice oa i oc).ownBlock from dist_newS HD.out HOB.out (fun r e => ((HK.out.alloc (.cells #[.int .i64 0] 2)).lt r e).2))
          clear HR HK HD HG HO HOB HB
          go_wp2_with (at_builtin; refine wpList_append_own_at _ rfl _ _ 29 rfl A.heap.size 3 i3 (.int .i64 0) 1 8 Try.underlying29 hi3 hz30 hz31 hz32 rfl (by decide) _ _ _ rfl (HK5.out.alloc _) ⟨w5.heap.size, 0, none⟩ 1 1 [.int .i64 0] rfl rfl (one_newT _ _ _) (by simp [Value.oneCell']) (by unfold maxLen; omega) (by omega) (by have := HB5.out.size; simp; omega) ?_; intro v2 w6 hown' hgrow _ hob; have HG := Lib.hid hgrow; have HO := Lib.hid hown'; have HOB := Lib.hid hob; clear hown' hgrow hob)
          have HK6 := Lib.hid (show w6.ownsRow A.heap.size 3 1 v2 (i + 1) (fI (rkF ks) (i + 1)) by rw [fI_succ, HY.out]; exact HO.out)
          have HR6 := Lib.hid (show w6.ownsRow A.heap.size 2 1 v1 (i + 1) (fI (rqF rs) (i + 1)) from (HR5.out.alloc _).kept HG.out HD5.out)
          have HB6 := Lib.hid (show Below A.heap.size A w6 from (HB5.out.alloc HB5.out.size _).grown HG.out (by have := HB5.out.size; simp; omega) (fun r e => (((HK5.out.alloc (.cells #[.int .i64 0] 3)).lt r e).1)))
          have HD6 := Lib.hid (show v1.ownBlock = none ∨ v1.ownBlock ≠ v2.ownBlock from dist_symS (dist_newS (dist_symS HD5.out) HOB.out (fun r e => ((HR5.out.alloc (.cells #[.int .i64 0] 3)).lt r e).2)))
          go_roundw
          case rel => exact ⟨i + 1, by omega, by go_num, HR6.out, HK6.out, HD6.out, HB6.out⟩
          case measure => simp [intOf]; omega
    · obtain rfl : i = n := by omega
      have HRF := Lib.hid (own_base HR.out HBA.out.size)
      have HKF := Lib.hid (own_base HK.out HBA.out.size)
      go_wp2_with fail
      go_ret2
      exact ⟨_, _, rfl, HRF.out, HKF.out, HD.out, HBA.out.trans (HB.out.mono HBA.out.size)⟩
end Go.Proofs.Ytdohfpnnmppdkaa

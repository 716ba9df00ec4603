/-
  Cables: the nodes in the order in which they are taken.
-/
import Derived.Test.YtdohfpnnmppdkaaShC
import Derived.Test.YtdohfpnnmppdkaaLeA
namespace Go.Proofs.Ytdohfpnnmppdkaa
open Go.RowKit Go.Shelf Go.Lib Go.Sort
set_option linter.unusedSimpArgs false
attribute [local go_sem] Oper.semAt_some
set_option maxRecDepth 100000 in
set_option maxHeartbeats 8000000 in
theorem sortBy_any (rk : Nat → Int) (m base R RB RO n c g cap : Nat) (cur : Array Value) (hmn : m + 1 = n) (hn : m < 1000) (w : World) (hbg : base ≤ g) (hg : w.heap[g]? = some (.cells cur 3 (0, 0))) (hc1 : m + 1 ≤ cap) (hc2 : cap ≤ maxLen) (hc3 : cur.size = cap * 1) (hc4 : cur.toList.take (m + 1) = flatN (List.range (m + 1)))
    (KR : ∀ Z, Below base w Z → Z.cell? ⟨R, 0, none⟩ = some (.slice (some ⟨RB, RO, none⟩) n c) ∧ ∀ k, k < n → Z.cell? ⟨RB, RO + k, none⟩ = some (.int .i64 (rk k))) :
    Calls Try.prog 166 #[.slice (some ⟨g, 0, none⟩) (m + 1) cap, .func (.func 164) #[] #[.pointer (some ⟨R, 0, none⟩)], .func (.func 165) #[] #[]] w fun e w' => ∃ od : List Nat, e = .returned (.tuple #[]) ∧ w'.ownsRow base 3 1 (.slice (some ⟨g, 0, none⟩) (m + 1) cap) (m + 1) (flatN od) ∧ Turn rk (m + 1) od ∧ Below base w w' := by
  subst hmn
  have hgl : g < w.heap.size := (Array.getElem?_eq_some_iff.1 hg).1
  obtain ⟨A, hA⟩ : ∃ A, A = (w.alloc (.cells #[.func (.func 164) #[] #[.pointer (some ⟨R, 0, none⟩)]] 201)).alloc (.cells #[.func (.func 165) #[] #[]] 201) := ⟨_, rfl⟩
  have HBA := Lib.hid (show Below base w A by rw [hA]; exact ((Below.refl _ _).alloc (by omega) _).alloc (by simp; omega) _)
  have q0 : A.cell? ⟨w.heap.size, 0, none⟩ = some (.func (.func 164) #[] #[.pointer (some ⟨R, 0, none⟩)]) := by rw [hA]; simp [go_sem]
  have q1 : A.cell? ⟨w.heap.size + 1, 0, none⟩ = some (.func (.func 165) #[] #[]) := by rw [hA]; simp [go_sem]
  have hz : A.heap.size = w.heap.size + 2 := by rw [hA]; simp
  have hgA : A.heap[g]? = some (.cells cur 3 (0, 0)) := by
    rw [hA, Below.heap_alloc _ _ _ (by simp; omega), Below.heap_alloc _ _ _ hgl]
    exact hg
  have cS := sortF_any rk m base w.heap.size (w.heap.size + 1) R RB RO (m + 1) c g cap cur rfl hn A hbg hgA hc1 hc2 hc3 hc4 (by omega) (by omega) q0 q1 (by omega) (by omega) (fun Z h => KR Z (HBA.out.trans h))
  clear q0 q1 hz hgA KR hc4 hc3 hc2 hc1 hg hgl hbg
  go_enter Try.func166, Try.ntmps166
  go_upto_region 1 with fail
  rw [← hA]
  clear hA
  go_wp2_with fail
  refine cS.mono ?_
  rintro e w1 ⟨od, rfl, h1, h2, h3⟩
  go_wp2_with fail
  go_end0

  exact ⟨od, rfl, h1, h2, HBA.out.trans h3⟩
set_option maxRecDepth 100000 in
set_option maxHeartbeats 16000000 in
/-- the nodes in the order in which they are taken -/
theorem turns_any (kv : Value) (ks : List Int) (n : Nat) (hm : ks.length = n) (h0 : 0 < n) (hn : n ≤ 1000) (w : World) (hK : Il w.heap.size w kv ks) :
    Calls Try.prog 123 #[kv] w fun e w' => ∃ (v : Value) (od : List Nat), e = .returned v ∧ w'.ownsRow w.heap.size 3 1 v n (flatN od) ∧ Turn (ti ks) n od ∧ Below w.heap.size w w' := by
  obtain ⟨i3, hi3, hz30, hz31, hz32⟩ := info_parts infoI3
  obtain ⟨ka, kc, rfl, -, hkc⟩ := hK
  rw [hm] at hkc ⊢
  obtain ⟨RB, RO, rfl, hRB, -⟩ := hkc 0 h0
  have HC := Lib.hid (show ∀ Z, Below w.heap.size w Z → ∀ k, k < n → Z.cell? ⟨RB, RO + k, none⟩ = some (.int .i64 (ti ks k)) from fun Z h k hk => by
    obtain ⟨b, off, h1, h2, h3⟩ := hkc k hk
    simp only [Option.some.injEq, Addr.mk.injEq] at h1
    obtain ⟨rfl, rfl, -⟩ := h1
    exact (h.cell (p := ⟨_, _, none⟩) h2).trans h3)
  clear hkc hm
  generalize ti ks = rk at *
  obtain ⟨A, hA⟩ : ∃ A, A = w.alloc (.cells #[.slice (some ⟨RB, RO, none⟩) n kc] 29) := ⟨_, rfl⟩
  have HBA := Lib.hid (show Below w.heap.size w A by rw [hA]; exact (Below.refl _ _).alloc (Nat.le_refl _) _)
  have hz : A.heap.size = w.heap.size + 1 := by rw [hA]; simp
  have q0 : A.cell? ⟨w.heap.size, 0, none⟩ = some (.slice (some ⟨RB, RO, none⟩) n kc) := by rw [hA]; simp [go_sem]
  have KR := Lib.hid (show ∀ Z, Below A.heap.size A Z → Z.cell? ⟨w.heap.size, 0, none⟩ = some (.slice (some ⟨RB, RO, none⟩) n kc) ∧ ∀ k, k < n → Z.cell? ⟨RB, RO + k, none⟩ = some (.int .i64 (rk k)) from fun Z h => ⟨(h.cell (p := ⟨w.heap.size, 0, none⟩) (by show w.heap.size < _; omega)).trans q0, HC.out Z (HBA.out.trans (h.mono (by omega)))⟩)
  have HZ := Lib.hid (show w.heap.size ≤ A.heap.size by omega)
  have HN1 := Lib.hid h0
  have cS := Lib.hid (show ∀ g cap cur W, A.heap.size ≤ g → W.heap[g]? = some (.cells cur 3 (0, 0)) → n ≤ cap → cap ≤ maxLen → cur.size = cap * 1 → cur.toList.take n = flatN (List.range n) → (∀ Z, Below A.heap.size W Z → Z.cell? ⟨w.heap.size, 0, none⟩ = some (.slice (some ⟨RB, RO, none⟩) n kc) ∧ ∀ k, k < n → Z.cell? ⟨RB, RO + k, none⟩ = some (.int .i64 (rk k))) →
    Calls Try.prog 166 #[.slice (some ⟨g, 0, none⟩) n cap, .func (.func 164) #[] #[.pointer (some ⟨w.heap.size, 0, none⟩)], .func (.func 165) #[] #[]] W fun e w' => ∃ od : List Nat, e = .returned (.tuple #[]) ∧ w'.ownsRow A.heap.size 3 1 (.slice (some ⟨g, 0, none⟩) n cap) n (flatN od) ∧ Turn rk n od ∧ Below A.heap.size W w' from fun g cap cur W h1 h2 h3 h4 h5 h6 h7 => by
      obtain ⟨m, rfl⟩ : ∃ m, n = m + 1 := ⟨n - 1, by omega⟩
      exact sortBy_any rk m A.heap.size w.heap.size RB RO (m + 1) kc g cap cur rfl (by omega) W h1 h2 h3 h4 h5 h6 h7)
  clear q0 hz HC h0
  go_enter Try.func123, Try.ntmps123
  go_upto_region 1 with fail
  rw [← hA]
  clear hA
  have k0 := (KR.out _ (Below.refl _ _)).1
  go_wp2_with fail
  go_loopw [3, 8] (fun pv iv wr => ∃ i : Nat, i ≤ n ∧ iv = .int .i64 i ∧ wr.ownsRow A.heap.size 3 1 pv i (flatN (List.range i)) ∧ Below A.heap.size A wr) (fun _ iv _ => n - (intOf iv).toNat)
  case atStart => exact ⟨0, Nat.zero_le _, rfl, World.ownsRow_nil _ _ _ _, Below.refl _ _⟩
  case round =>
    obtain ⟨i, hi, rfl, hr, hB⟩ := hrel
    have HR := Lib.hid hr
    have HB := Lib.hid hB
    obtain ⟨pa, pc, rfl⟩ := own_any1 hr
    clear hr hB k0
    by_cases hlt : i < n
    · have hii : (i : Int) < (n : Int) := by omega
      go_wp2_with (at_builtin; refine wpList_append_own _ rfl _ _ 29 rfl A.heap.size 3 i3 (.int .i64 0) 1 8 Try.underlying29 hi3 hz30 hz31 hz32 rfl (by decide) _ _ _ rfl (HR.out.alloc _) ⟨wr.heap.size, 0, none⟩ 1 1 [.int .i64 (i : Int)] rfl rfl (one_new3 _ _) (by simp [Value.oneCell']) (by unfold maxLen; omega) (by omega) (by have := HB.out.size; simp; omega) ?_; intro v1 w5 hown' hgrow _; have HG := Lib.hid hgrow; have HO := Lib.hid hown'; clear hown' hgrow)
      have HR5 := Lib.hid (show w5.ownsRow A.heap.size 3 1 v1 (i + 1) (flatN (List.range (i + 1))) by rw [List.range_succ, flatN_snoc]; exact HO.out)
      have HB5 := Lib.hid (show Below A.heap.size A w5 from (HB.out.alloc HB.out.size _).grown HG.out (by have := HB.out.size; simp; omega) (fun r e => (((HR.out.alloc (.cells #[.int .i64 (i : Int)] 3)).lt r e).1)))
      go_roundw
      case rel => exact ⟨i + 1, by omega, by go_num, HR5.out, HB5.out⟩
      case measure => simp [intOf]; omega
    · have hin : i = n := by omega
      subst hin
      obtain ⟨g, cap, cur, hf, h1, h2, h3, h4, h5, h6⟩ : ∃ g cap cur, (Value.slice pa i pc) = .slice (some ⟨g, 0, none⟩) i cap ∧ A.heap.size ≤ g ∧ wr.heap[g]? = some (.cells cur 3 (0, 0)) ∧ i ≤ cap ∧ cap ≤ maxLen ∧ cur.size = cap * 1 ∧ cur.toList.take i = flatN (List.range i) := by
        rcases HR.out.2 with ⟨_, e⟩ | ⟨g, cap, cur, e, h1, h2, h3, h4, h5, h6⟩
        · exact absurd e (by have := HN1.out; omega)
        · exact ⟨g, cap, cur, e, h1, h2, h3, h4, h5, by rw [Nat.mul_one] at h6; exact h6⟩
      simp only [Value.slice.injEq] at hf
      obtain ⟨rfl, -, rfl⟩ := hf
      have cW := cS.out g pc cur wr h1 h2 h3 h4 h5 h6 (fun Z h => KR.out Z (HB.out.trans h))
      clear h1 h2 h3 h4 h5 h6 cS
      go_wp2_with fail
      refine cW.mono ?_
      rintro e w6 ⟨od, rfl, h1, h2, h3⟩
      have H1 := Lib.hid h1
      have H3 := Lib.hid h3
      clear h1 h3
      go_wp2_with fail
      go_ret
      exact ⟨_, od, rfl, ⟨H1.out.1, by
        rcases H1.out.2 with h0 | ⟨g', cap', cur', e, h1, h2⟩
        · exact .inl h0
        · exact .inr ⟨g', cap', cur', e, Nat.le_trans HZ.out h1, h2⟩⟩, h2, HBA.out.trans ((HB.out.trans H3.out).mono HZ.out)⟩
end Go.Proofs.Ytdohfpnnmppdkaa

/-
  Clock: a house is entered.
-/
import Derived.Test.YtcchmjbedppfnaaCkV
import Derived.Deep.Cut
import Derived.Deep.AppendLies
namespace Go.Proofs.Ytcchmjbedppfnaa
open Go.RowKit Go.Shelf
set_option linter.unusedSimpArgs false
/-- what entering a house gives -/
def EntR (cs : List Cl) (w : World) (e : Ending) (w' : World) : Prop :=
  ∃ v E, e = .returned (.tuple #[v, .int .i64 E]) ∧ E = entE cs ∧ (E = 0 → Kcs w'.heap.size w' v (cs.map knC)) ∧ (∃ a n c, v = .slice a n c) ∧ Below w.heap.size w w'
set_option maxRecDepth 100000 in
set_option maxHeartbeats 8000000 in
theorem enter_any (lv : Value) (cs : List Cl) (w : World) (hC : Cls w.heap.size w lv cs) :
    Calls Try.prog 98 #[lv] w (EntR cs w) := by
  obtain ⟨i0, hi0, hz0, hz1, hz2⟩ := info_parts infoKc
  have c95 := fun W => withinI_any (cs.length : Int) 1 32 W
  have HR := Lib.hid (show ∀ E w', E = entE cs → E ≠ 0 → Below w.heap.size w w' → EntR cs w (.returned (.tuple #[.slice none 0 0, .int .i64 E])) w' from fun E w' h1 h2 h3 => ⟨_, E, rfl, h1, fun h => absurd h h2, ⟨_, _, _, rfl⟩, h3⟩)
  have HR0 := Lib.hid (show ∀ v w', 0 = entE cs → Kcs w'.heap.size w' v (cs.map knC) → (∃ a n c, v = .slice a n c) → Below w.heap.size w w' → EntR cs w (.returned (.tuple #[v, .int .i64 0])) w' from fun v w' h1 h2 h3 h4 => ⟨v, 0, rfl, h1, fun _ => h2, h3, h4⟩)
  generalize EntR cs w = POST at *
  have HE := Lib.hid (show entE cs = if cs.length < 1 then 6 else if 32 < cs.length then 6 else if fstE cs ≠ 0 then fstE cs else if jnB (cs.map knC) = false then 2 else if shB (cs.map knC) = false then 5 else 0 from rfl)
  generalize entE cs = E at *
  obtain ⟨a, cap, rfl, -, hcc⟩ := hC
  by_cases h1 : (1 : Int) ≤ (cs.length : Int) ∧ (cs.length : Int) ≤ 32
  rotate_left
  · have c95' : ∀ W, Calls Try.prog 95 #[.int .i64 (cs.length : Int), .int .i64 1, .int .i64 32] W fun e w' => e = .returned (.bool false) ∧ w' = W := fun W => by have q := c95 W; rwa [decide_eq_false h1] at q
    have HE6 := Lib.hid (show (6 : Int) = E by rw [HE.out]; by_cases q : cs.length < 1; rw [if_pos q]; rw [if_neg q, if_pos (by omega)])
    clear c95 h1 HE HR0 hcc
    generalize cs.length = len at *
    go_enter Try.func98, Try.ntmps98
    go_wp2_with fail
    refine (c95' _).mono ?_
    rintro e w1 ⟨rfl, hw⟩
    have hw2 := hw.symm
    subst hw2
    go_wp2_with fail
    exact (HR.out 6 _ HE6.out (by decide) (Below.refl _ _))
  have hl1 : 1 ≤ cs.length := by omega
  have hl2 : cs.length ≤ 32 := by omega
  have c95' : ∀ W, Calls Try.prog 95 #[.int .i64 (cs.length : Int), .int .i64 1, .int .i64 32] W fun e w' => e = .returned (.bool true) ∧ w' = W := fun W => by have q := c95 W; rwa [decide_eq_true h1] at q
  have HE1 := Lib.hid (show E = if fstE cs ≠ 0 then fstE cs else if jnB (cs.map knC) = false then 2 else if shB (cs.map knC) = false then 5 else 0 by rw [HE.out, if_neg (by omega), if_neg (by omega)])
  have HBAD := Lib.hid (show ∀ k, k < cs.length → (∀ j, j < k → lrnE (cl cs j).p (cl cs j).r (cl cs j).xs = 0) → lrnE (cl cs k).p (cl cs k).r (cl cs k).xs ≠ 0 → lrnE (cl cs k).p (cl cs k).r (cl cs k).xs = E from fun k hk hj h => by have q := fstE_bad hk hj h; rw [HE1.out, q, if_pos h])
  have HGOOD := Lib.hid (show (∀ j, j < cs.length → lrnE (cl cs j).p (cl cs j).r (cl cs j).xs = 0) → E = if jnB (cs.map knC) = false then 2 else if shB (cs.map knC) = false then 5 else 0 from fun h => by rw [HE1.out, fstE_ok h, if_neg (by simp)])
  have HVAL := Lib.hid (show (∀ j, j < cs.length → lrnE (cl cs j).p (cl cs j).r (cl cs j).xs = 0) → ∀ k, k < (cs.map knC).length → Valid (kc (cs.map knC) k).r (kc (cs.map knC) k).os from fun h k hk => by rw [List.length_map] at hk; rw [kc_map cs k hk]; exact valid_of (h k hk))
  have HALL := Lib.hid (knTo_all cs)
  have HKS := Lib.hid (fun k => show knTo cs (k + 1) = knTo cs k ++ [knC (cl cs k)] from rfl)
  have HK0 := Lib.hid (show knTo cs 0 = [] from rfl)
  have HLM := Lib.hid (show (cs.map knC).length ≤ 64 by rw [List.length_map]; omega)
  have HC := Lib.hid hcc
  clear c95 h1 HE HE1 hcc
  generalize cs.length = len at *
  go_enter Try.func98, Try.ntmps98
  go_wp2_with fail
  refine (c95' _).mono ?_
  rintro e w1 ⟨rfl, hw⟩
  have hw2 := hw.symm
  subst hw2
  clear c95'
  go_wp2_with fail
  go_loopw [4, 15] (fun h i wr => ∃ (k : Nat) (ks : List (Kc × Value)), k ≤ len ∧ i = .int .i64 k ∧ ks.length = k ∧ ks.map Prod.fst = knTo cs k ∧ HouseAt w.heap.size w.heap.size wr h ks ∧ (∀ j, j < k → lrnE (cl cs j).p (cl cs j).r (cl cs j).xs = 0) ∧ Below w.heap.size w wr) (fun _ i _ => len - (intOf i).toNat)
  case atStart => exact ⟨0, [], Nat.zero_le _, rfl, rfl, by rw [HK0.out]; rfl, HouseAt.nil _ _ _, fun j hj => absurd hj (Nat.not_lt_zero _), Below.refl _ _⟩
  case round =>
    obtain ⟨k, ks, hk, rfl, hkl, hkm, hH, hin, hB⟩ := hrel
    obtain ⟨a0, c0, hv0⟩ := own_form hH.1
    rw [hkl] at hv0
    subst hv0
    have HIN := Lib.hid hin
    have HKM := Lib.hid hkm
    have HKL := Lib.hid hkl
    have HH := Lib.hid hH
    have HB := Lib.hid hB
    have hzw := hB.size
    clear hin hkm hH hkl
    by_cases hlt : k < len
    · have hki : (k : Int) < (len : Int) := by omega
      obtain ⟨b, off, s, hab, hb, e0, e1, e2, hx⟩ := HC.out k hlt
      subst hab
      have m0 := (hB.cell (p := ⟨b, off + k * 3, none⟩) hb).trans e0
      have m1 := (hB.cell (p := ⟨b, off + k * 3 + 1, none⟩) hb).trans e1
      have m2 := (hB.cell (p := ⟨b, off + k * 3 + 2, none⟩) hb).trans e2
      obtain ⟨a5, c5, hs⟩ := hx.form
      subst hs
      have HX := Lib.hid (hx.mono hB hB.size)
      have HBk := Lib.hid (HBAD.out k hlt HIN.out)
      have HKk := Lib.hid (HKS.out k)
      have HKN := Lib.hid (show knC (cl cs k) = ⟨(cl cs k).p, (cl cs k).r, ofTo (cl cs k).r (cl cs k).xs (cl cs k).xs.length⟩ from rfl)
      have HIN2 := Lib.hid (show lrnE (cl cs k).p (cl cs k).r (cl cs k).xs = 0 → ∀ j, j < k + 1 → lrnE (cl cs j).p (cl cs j).r (cl cs j).xs = 0 from fun h j hj => by by_cases e : j = k; (subst e; exact h); exact HIN.out j (by omega))
      clear e0 e1 e2 hx hB
      generalize (cl cs k).p = p at *
      generalize (cl cs k).r = r at *
      generalize (cl cs k).xs = xs at *
      have c79 := Lib.hid (fun W (hbw : Below wr.heap.size wr W) => learnO_any p r (.slice a5 xs.length c5) xs W (HX.out.at hbw))
      unfold LrnO at c79
      generalize lrnE p r xs = E1 at *
      generalize hos : ofTo r xs xs.length = os at *
      clear hos HX
      generalize xs.length = n5 at *
      have hA1 : Below wr.heap.size wr (wr.alloc (.cells #[.int .i64 p, .int .i64 r, .slice a5 n5 c5] 28)) := (Below.refl _ _).alloc (Nat.le_refl _) _
      have HH1 := Lib.hid (HH.out.below hA1)
      have HB1 := Lib.hid (HB.out.trans (hA1.mono hzw))
      have HC1 := Lib.hid (c79.out _ hA1)
      clear hA1 c79
      go_wp2_with fail
      refine HC1.out.mono ?_
      rintro e w2 ⟨p', r', v, E', rfl, hE, hok, ⟨a1, n1, c1, rfl⟩, hb2⟩
      have hE2 := hE.symm
      subst hE2
      have HH2 := Lib.hid (HH1.out.below hb2)
      have hz2' := hb2.size
      simp at hz2'
      have HB2 := Lib.hid (HB1.out.trans (hb2.mono (by simp; omega)))
      have HOK := Lib.hid hok
      clear hb2 hok HC1
      have hA2 : Below w2.heap.size w2 (w2.alloc (.cells #[.int .i64 p', .int .i64 r', .slice a1 n1 c1] 129)) := (Below.refl _ _).alloc (Nat.le_refl _) _
      have HB3 := Lib.hid (HB2.out.trans (hA2.mono (by omega)))
      have HH3 := Lib.hid (HH2.out.below hA2)
      by_cases h0 : E1 = 0
      rotate_left
      · have hb0 : (E1 != 0) = true := by simpa using h0
        clear hA2
        go_wp2_with fail
        exact (HR.out E1 _ (HBk.out h0) h0 HB3.out)
      subst h0
      obtain ⟨hp, hr, hO⟩ := HOK.out rfl
      subst hp hr
      have HO := Lib.hid ((hO.le (m := w.heap.size) (by simp; omega)).below hA2)
      have hz3 : (w2.alloc (.cells #[.int .i64 p', .int .i64 r', .slice a1 n1 c1] 129)).heap.size = w2.heap.size + 1 := by simp
      have hc3 : (w2.alloc (.cells #[.int .i64 p', .int .i64 r', .slice a1 n1 c1] 129)).cell? ⟨w2.heap.size, 0, none⟩ = some (.int .i64 p') ∧ (w2.alloc (.cells #[.int .i64 p', .int .i64 r', .slice a1 n1 c1] 129)).cell? ⟨w2.heap.size, 1, none⟩ = some (.int .i64 r') ∧ (w2.alloc (.cells #[.int .i64 p', .int .i64 r', .slice a1 n1 c1] 129)).cell? ⟨w2.heap.size, 2, none⟩ = some (.slice a1 n1 c1) := by refine ⟨?_, ?_, ?_⟩ <;> simp [go_sem]
      obtain ⟨d0, d1, d2⟩ := hc3
      have hA3 : Below (w2.alloc (.cells #[.int .i64 p', .int .i64 r', .slice a1 n1 c1] 129)).heap.size (w2.alloc (.cells #[.int .i64 p', .int .i64 r', .slice a1 n1 c1] 129)) ((w2.alloc (.cells #[.int .i64 p', .int .i64 r', .slice a1 n1 c1] 129)).alloc (.cells #[.int .i64 p', .int .i64 r', .slice a1 n1 c1] 129)) := (Below.refl _ _).alloc (Nat.le_refl _) _
      have HH4 := Lib.hid (HH3.out.below hA3)
      have HO4 := Lib.hid (HO.out.below hA3)
      have HB4 := Lib.hid (HB3.out.trans (hA3.mono (by simp; omega)))
      clear hO hA2 hA3
      have hrow := HH4.out.1
      rw [HKL.out] at hrow
      have HROW := Lib.hid hrow
      clear hrow
      go_upto_region 10 with fail
      iterate 10 go_step
      refine wpList_append_own _ rfl _ _ 146 rfl w.heap.size 129 i0 (.agg #[.int .i64 0, .int .i64 0, .slice none 0 0]) 3 40 Try.underlying146 hi0 hz0 hz1 hz2 rfl (by decide) _ _ _ rfl HROW.out ⟨w2.heap.size + 1, 0, none⟩ 1 1 [.int .i64 p', .int .i64 r', .slice a1 n1 c1] rfl rfl (fun j u hj => by have q := three_newK (w2.alloc (.cells #[.int .i64 p', .int .i64 r', .slice a1 n1 c1] 129)) (.int .i64 p') (.int .i64 r') (.slice a1 n1 c1) j u hj; rwa [hz3] at q) (by simp [Value.oneCell']) (by unfold maxLen; omega) (by omega) (by simp; omega) ?_
      intro v' w5 hrow' hgrow _
      have HG := Lib.hid hgrow
      have HROW5 := Lib.hid hrow'
      obtain ⟨a6, c6, rfl⟩ := own_form hrow'
      clear hrow' hgrow
      have HH5 := Lib.hid (show HouseAt w.heap.size w.heap.size w5 (.slice a6 (k + 1) c6) (ks ++ [(⟨p', r', os⟩, .slice a1 n1 c1)]) from HH4.out.grown HO4.out HG.out (by rw [HKL.out]; exact HROW5.out))
      have HB5 := Lib.hid (HB4.out.grown HG.out (by simp; omega) (fun j hj => (HROW.out.lt j hj).1))
      go_wp2_with fail
      go_roundw
      case rel => exact ⟨k + 1, _, by omega, by go_num, by rw [List.length_append, HKL.out]; rfl, by rw [HKk.out, List.map_append, HKM.out]; congr 1; exact congrArg (fun x => [x]) (HKN.out.symm), HH5.out, HIN2.out (by first | rfl | trivial), HB5.out⟩
      case measure => simp [intOf]; omega
    · obtain rfl : k = len := by omega
      have HG := Lib.hid (HGOOD.out HIN.out)
      have hv := HVAL.out HIN.out
      have hkc := HH.out.kcs
      rw [HKM.out, HALL.out] at hkc
      have c138 := Lib.hid (joined_any _ _ HLM.out wr hkc)
      have c139 := Lib.hid (fun W (hb : Below wr.heap.size wr W) => hsound_any _ _ HLM.out hv W (hkc.at hb))
      have HKC := Lib.hid hkc
      clear hv hkc hB HC HH HKM
      generalize jnB (cs.map knC) = jn at *
      generalize shB (cs.map knC) = sh at *
      go_wp2_with fail
      refine c138.out.mono ?_
      rintro e w2 ⟨rfl, hb2⟩
      have HB2 := Lib.hid (HB.out.trans (hb2.mono hzw))
      have HC2 := Lib.hid (c139.out _ hb2)
      have HKC2 := Lib.hid (HKC.out.at hb2)
      have hz2 := hb2.size
      clear hb2
      cases jn
      · have hE := HG.out
        rw [if_pos rfl] at hE
        go_wp2_with fail
        exact (HR.out 2 _ hE.symm (by decide) HB2.out)
      have hE := HG.out
      rw [if_neg (by decide)] at hE
      have HG2 := Lib.hid hE
      clear hE
      go_wp2_with fail
      refine HC2.out.mono ?_
      rintro e w3 ⟨rfl, hb3⟩
      have HB3 := Lib.hid (HB2.out.trans (hb3.mono (by omega)))
      have HKC3 := Lib.hid (HKC2.out.at hb3)
      clear hb3
      cases sh
      · have hE := HG2.out
        rw [if_pos rfl] at hE
        go_wp2_with fail
        exact (HR.out 5 _ hE.symm (by decide) HB3.out)
      have hE := HG2.out
      rw [if_neg (by decide)] at hE
      go_wp2_with fail
      exact (HR0.out (.slice a0 k c0) _ hE.symm HKC3.out ⟨_, _, _, rfl⟩ HB3.out)
end Go.Proofs.Ytcchmjbedppfnaa

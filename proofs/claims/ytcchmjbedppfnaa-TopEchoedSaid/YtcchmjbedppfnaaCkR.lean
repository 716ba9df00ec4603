/-
  Clock: CheckContradiction.
-/
import Derived.Test.YtcchmjbedppfnaaCkQ
namespace Go.Proofs.Ytcchmjbedppfnaa
open Go.RowKit Go.Shelf
set_option linter.unusedSimpArgs false
/-- what CheckContradiction returns -/
def cckE (p r : Int) (xs : List Xc) (i k : Int) : Int :=
  if lrnE p r xs = 0 then (if (0 ≤ i ∧ i ≤ (xs.length : Int) - 1) then (if (0 ≤ k ∧ k ≤ (xs.length : Int) - 1) then (if cdB r (ofA r xs) i.toNat k.toNat = true then 0 else 16) else 3) else 3) else lrnE p r xs
set_option maxRecDepth 100000 in
set_option maxHeartbeats 4000000 in
theorem cck_any (p r i k : Int) (sv : Value) (xs : List Xc) (w : World) (hX : Xcs w.heap.size w sv xs) :
    Calls Try.prog 34 #[.agg #[.int .i64 p, .int .i64 r, sv], .int .i64 i, .int .i64 k] w fun e w' => e = .returned (.int .i64 (cckE p r xs i k)) ∧ Below w.heap.size w w' := by
  have c79 := Lib.hid (fun W (hb : Below w.heap.size w W) => learn_any p r sv xs W (hX.at hb))
  have hla : (ofA r xs).length = xs.length := ofTo_len r xs _
  have c96 := Lib.hid (fun v (h0 : lrnE p r xs = 0) (hi : 0 ≤ i ∧ i ≤ (xs.length : Int) - 1) (hk : 0 ≤ k ∧ k ≤ (xs.length : Int) - 1) W (hO : Ofs W.heap.size W v (ofA r xs)) => by
    have q := contradict_any p r v (ofA r xs) (valid_of h0) i.toNat k.toNat (by rw [hla]; omega) (by rw [hla]; omega) W hO
    rwa [Int.toNat_of_nonneg hi.1, Int.toNat_of_nonneg hk.1] at q)
  have hl1 := Lib.hid (fun (h0 : lrnE p r xs = 0) => (lrnE_ok h0).1)
  have ci := fun W => withinI_any i 0 ((xs.length : Int) - 1) W
  have ck := fun W => withinI_any k 0 ((xs.length : Int) - 1) W
  have HCE := Lib.hid (show cckE p r xs i k = if lrnE p r xs = 0 then (if (0 ≤ i ∧ i ≤ (xs.length : Int) - 1) then (if (0 ≤ k ∧ k ≤ (xs.length : Int) - 1) then (if cdB r (ofA r xs) i.toNat k.toNat = true then 0 else 16) else 3) else 3) else lrnE p r xs from rfl)
  generalize cckE p r xs i k = R at *
  obtain ⟨a, cap, hsv⟩ := hX.form
  subst hsv
  unfold LrnR at c79
  have HOA := Lib.hid (show ofA r xs = ofTo r xs xs.length from rfl)
  have HBA := Lib.hid (show Below w.heap.size w (w.alloc (.cells #[.int .i64 p, .int .i64 r, .slice a xs.length cap] 28)) from (Below.refl _ _).alloc (Nat.le_refl _) _)
  have HLEN := Lib.hid (show (ofTo r xs xs.length).length = xs.length from ofTo_len r xs _)
  clear hX hla
  generalize hE : lrnE p r xs = E0 at *
  clear hE
  generalize ofA r xs = oa at *
  generalize cdB r oa i.toNat k.toNat = cd at *
  go_enter Try.func34, Try.ntmps34
  go_wp2_with fail
  refine (c79.out _ HBA.out).mono ?_
  rintro e w1 ⟨p', r', v, E, rfl, hE1, hok, ⟨a1, n1, c1, rfl⟩, hb⟩
  have hE2 := hE1.symm
  subst hE2
  have HB1 := Lib.hid (HBA.out.trans (hb.mono (by simp)))
  have HOK := Lib.hid hok
  clear hb hok
  have HB1a := Lib.hid (HB1.out.alloc HB1.out.size (.cells #[.int .i64 p', .int .i64 r', .slice a1 n1 c1] 129))
  by_cases h0 : E0 = 0
  rotate_left
  · have hb0 : (E0 != 0) = true := by simpa using h0
    go_wp2_with fail
    refine bodyPost_ret (v := .int .i64 E0) (by simp [results, Try.results34, go_sem]) rfl ⟨?_, HB1a.out⟩
    rw [HCE.out, if_neg h0]
  obtain ⟨hp, hr, hO⟩ := HOK.out h0
  subst hp hr
  obtain ⟨hl1, hl2⟩ := hl1.out h0
  have hn1 : n1 = xs.length := by
    obtain ⟨a5, c5, e5⟩ := hO.form
    simp only [Value.slice.injEq] at e5
    rw [e5.2.1, HLEN.out]
  have hO1 : Ofs w1.heap.size w1 (.slice a1 n1 c1) oa := by rw [HOA.out]; exact hO
  have hA1 : Below w1.heap.size w1 (w1.alloc (.cells #[.int .i64 p', .int .i64 r', .slice a1 n1 c1] 129)) := (Below.refl _ _).alloc (Nat.le_refl _) _
  have HC1 := Lib.hid (fun hi hk => c96.out _ h0 hi hk _ (hO1.at hA1))
  have HCE2 := Lib.hid (show R = if (0 ≤ i ∧ i ≤ (xs.length : Int) - 1) then (if (0 ≤ k ∧ k ≤ (xs.length : Int) - 1) then (if cd = true then 0 else 16) else 3) else 3 from by rw [HCE.out, if_pos h0])
  subst h0
  clear hO hO1 hA1
  subst hn1
  have v1 : wrap64 ((xs.length : Int) - 1) = (xs.length : Int) - 1 := by unfold wrap64; omega
  generalize xs.length = len at *
  by_cases hi : 0 ≤ i ∧ i ≤ (len : Int) - 1
  rotate_left
  · have ci' : ∀ W, Calls Try.prog 95 #[.int .i64 i, .int .i64 0, .int .i64 ((len : Int) - 1)] W fun e w' => e = .returned (.bool false) ∧ w' = W := fun W => by have q := ci W; rwa [decide_eq_false hi] at q
    clear ci ck
    go_wp2_with fail
    refine (ci' _).mono ?_
    rintro e w2 ⟨rfl, hw2⟩
    have hw3 := hw2.symm
    subst hw3
    go_wp2_with fail
    refine bodyPost_ret (v := .int .i64 3) (by simp [results, Try.results34, go_sem]) rfl ⟨?_, HB1a.out⟩
    rw [HCE2.out, if_neg hi]
  have ci' : ∀ W, Calls Try.prog 95 #[.int .i64 i, .int .i64 0, .int .i64 ((len : Int) - 1)] W fun e w' => e = .returned (.bool true) ∧ w' = W := fun W => by have q := ci W; rwa [decide_eq_true hi] at q
  clear ci
  by_cases hk : 0 ≤ k ∧ k ≤ (len : Int) - 1
  rotate_left
  · have ck' : ∀ W, Calls Try.prog 95 #[.int .i64 k, .int .i64 0, .int .i64 ((len : Int) - 1)] W fun e w' => e = .returned (.bool false) ∧ w' = W := fun W => by have q := ck W; rwa [decide_eq_false hk] at q
    clear ck
    go_wp2_with fail
    refine (ci' _).mono ?_
    rintro e w2 ⟨rfl, hw2⟩
    have hw3 := hw2.symm
    subst hw3
    go_wp2_with fail
    refine (ck' _).mono ?_
    rintro e w2 ⟨rfl, hw2⟩
    have hw3 := hw2.symm
    subst hw3
    go_wp2_with fail
    refine bodyPost_ret (v := .int .i64 3) (by simp [results, Try.results34, go_sem]) rfl ⟨?_, HB1a.out⟩
    rw [HCE2.out, if_pos hi, if_neg hk]
  have ck' : ∀ W, Calls Try.prog 95 #[.int .i64 k, .int .i64 0, .int .i64 ((len : Int) - 1)] W fun e w' => e = .returned (.bool true) ∧ w' = W := fun W => by have q := ck W; rwa [decide_eq_true hk] at q
  have HC2 := Lib.hid (HC1.out hi hk)
  have HCE3 := Lib.hid (show R = if cd = true then 0 else 16 from by rw [HCE2.out, if_pos hi, if_pos hk])
  clear ck
  go_wp2_with fail
  refine (ci' _).mono ?_
  rintro e w2 ⟨rfl, hw2⟩
  have hw3 := hw2.symm
  subst hw3
  go_wp2_with fail
  refine (ck' _).mono ?_
  rintro e w2 ⟨rfl, hw2⟩
  have hw3 := hw2.symm
  subst hw3
  clear hi hk ci' ck'
  go_wp2_with fail
  refine HC2.out.mono ?_
  rintro e w4 ⟨rfl, hb4⟩
  have HB4 := Lib.hid (HB1a.out.trans (hb4.mono HB1a.out.size))
  clear hb4
  cases cd
  · go_wp2_with fail
    refine bodyPost_ret (v := .int .i64 16) (by simp [results, Try.results34, go_sem]) rfl ⟨?_, HB4.out⟩
    rw [HCE3.out]; rfl
  · go_wp2_with fail
    refine bodyPost_ret (v := .int .i64 0) (by simp [results, Try.results34, go_sem]) rfl ⟨?_, HB4.out⟩
    rw [HCE3.out]; rfl
end Go.Proofs.Ytcchmjbedppfnaa

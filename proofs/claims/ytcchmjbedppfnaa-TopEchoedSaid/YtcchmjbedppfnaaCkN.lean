/-
  Clock: At.
-/
import Derived.Test.YtcchmjbedppfnaaCkM
namespace Go.Proofs.Ytcchmjbedppfnaa
open Go.RowKit Go.Shelf
set_option linter.unusedSimpArgs false
/-- the offsets of a clock -/
def ofA (r : Int) (xs : List Xc) : List Of := ofTo r xs xs.length
/-- what At returns -/
noncomputable def atR (p r : Int) (xs : List Xc) (t : Int) : R3 :=
  if lrnE p r xs = 0 then (if tmB t = true then (if sdB r (ofA r xs) = true then ⟨(atS r t (ofA r xs)).1, (atS r t (ofA r xs)).2, 0⟩ else ⟨0, 0, 5⟩) else ⟨0, 0, 3⟩) else ⟨0, 0, lrnE p r xs⟩
set_option maxRecDepth 100000 in
set_option maxHeartbeats 4000000 in
theorem at24_any (p r t : Int) (sv : Value) (xs : List Xc) (w : World) (hX : Xcs w.heap.size w sv xs) :
    Calls Try.prog 24 #[.agg #[.int .i64 p, .int .i64 r, sv], .int .i64 t] w fun e w' => e = .returned (atR p r xs t).out ∧ Below w.heap.size w w' := by
  have c79 := Lib.hid (fun W (hb : Below w.heap.size w W) => learn_any p r sv xs W (hX.at hb))
  have c80 := fun W => isTime_any t W
  have c81 := Lib.hid (fun v (h0 : lrnE p r xs = 0) W (hO : Ofs W.heap.size W v (ofA r xs)) => sound_any p r v (ofA r xs) (valid_of h0) W hO)
  have c82 := Lib.hid (fun v (h0 : lrnE p r xs = 0) (ht : tmB t = true) W (hO : Ofs W.heap.size W v (ofA r xs)) => atc_any p r t v (ofA r xs) (valid_of h0).2.1 (valid_of h0).1 (small_of (valid_of h0) (by have := (tmB_iff t).1 ht; omega)) W hO)
  unfold atR
  obtain ⟨a, cap, hsv⟩ := hX.form
  subst hsv
  unfold LrnR at c79
  have HOA := Lib.hid (show ofA r xs = ofTo r xs xs.length from rfl)
  obtain ⟨A, hA⟩ : ∃ A, A = (w.alloc (.cells #[.int .i64 p, .int .i64 r, .slice a xs.length cap] 28)).alloc (.cells #[.int .i64 0, .int .i64 0] 23) := ⟨_, rfl⟩
  have hzA : A.heap.size = w.heap.size + 2 := by rw [hA]; simp
  have HBA := Lib.hid (show Below w.heap.size w A by rw [hA]; exact ((Below.refl _ _).alloc (Nat.le_refl _) _).alloc (by simp) _)
  have hRA : Bx2 A (w.heap.size + 1) (.int .i64 0) (.int .i64 0) := by
    rw [hA]
    have q := Bx2.new (w.alloc (.cells #[.int .i64 p, .int .i64 r, .slice a xs.length cap] 28)) (.int .i64 0) (.int .i64 0)
    rwa [World.size_alloc] at q
  have KR := Lib.hid (show ∀ W, Below A.heap.size A W → (W.cell? ⟨w.heap.size + 1, 0, none⟩ = some (.int .i64 0) ∧ W.cell? ⟨w.heap.size + 1, 1, none⟩ = some (.int .i64 0)) ∧ W.frozen? ⟨w.heap.size + 1, 0, none⟩ = false ∧ W.frozen? ⟨w.heap.size + 1, 1, none⟩ = false from fun W h => ⟨⟨(hRA.keep h).c0, (hRA.keep h).c1⟩, (hRA.keep h).f0 0, (hRA.keep h).f0 1⟩)
  have HEND := Lib.hid (show ∀ W v0 v1, Below A.heap.size A W → Below w.heap.size w ((W.setCell ⟨w.heap.size + 1, 0, none⟩ v0).setCell ⟨w.heap.size + 1, 1, none⟩ v1) from fun W v0 v1 h =>
    ((HBA.out.trans (h.mono HBA.out.size)).setCell (p := ⟨w.heap.size + 1, 0, none⟩) (by show w.heap.size ≤ w.heap.size + 1; omega) _).setCell (p := ⟨w.heap.size + 1, 1, none⟩) (by show w.heap.size ≤ w.heap.size + 1; omega) _)
  have HZA := Lib.hid hzA
  clear hX hRA hzA
  generalize hE : lrnE p r xs = E0 at *
  have HE := Lib.hid hE
  clear hE
  generalize ofA r xs = oa at *
  generalize hsd : sdB r oa = sd at *
  generalize atS r t oa = z at *
  generalize htm : tmB t = tm at *
  clear hsd htm
  obtain ⟨q, hq⟩ : ∃ q : R3, q = if E0 = 0 then (if tm = true then (if sd = true then ⟨z.1, z.2, 0⟩ else ⟨0, 0, 5⟩) else ⟨0, 0, 3⟩) else ⟨0, 0, E0⟩ := ⟨_, rfl⟩
  rw [← hq]
  have HQ := Lib.hid hq
  clear hq
  generalize hqo : q.out = qo at *
  have HQO := Lib.hid (show qo = .tuple #[.agg #[.int .i64 q.lo, .int .i64 q.hi], .int .i64 q.e] from hqo.symm)
  clear hqo
  go_enter Try.func24, Try.ntmps24
  go_wp2_with fail
  try rw [← hA]
  clear hA
  refine (c79.out _ HBA.out).mono ?_
  rintro e w1 ⟨p', r', v, E, rfl, hE1, hok, ⟨a1, n1, c1, rfl⟩, hb⟩
  have hE2 := hE1.symm
  subst hE2
  have HB1 := Lib.hid hb
  have HOK := Lib.hid hok
  obtain ⟨⟨r0, r1⟩, r2, r3⟩ := KR.out _ hb
  clear hb hok
  have HB1a := Lib.hid (HB1.out.alloc HB1.out.size (.cells #[.int .i64 p', .int .i64 r', .slice a1 n1 c1] 129))
  by_cases h0 : E0 = 0
  rotate_left
  · have hb0 : (E0 != 0) = true := by simpa using h0
    obtain ⟨⟨r0, r1⟩, r2, r3⟩ := KR.out _ HB1a.out
    go_wp2_with fail
    refine bodyPost_ret (v := .tuple #[.agg #[.int .i64 0, .int .i64 0], .int .i64 E0]) (by simp [results, Try.results24, go_sem, r0, r1]) rfl ⟨?_, HEND.out _ _ _ HB1a.out⟩
    rw [HQO.out, HQ.out, if_neg h0]
  obtain ⟨hp, hr, hO⟩ := HOK.out h0
  subst hp hr
  subst h0
  have hO1 : Ofs w1.heap.size w1 (.slice a1 n1 c1) oa := by rw [HOA.out]; exact hO
  have HO1 := Lib.hid hO1
  obtain ⟨⟨r0, r1⟩, r2, r3⟩ := KR.out _ HB1a.out
  clear hO hO1
  go_wp2_with fail
  refine (c80 _).mono ?_
  rintro e w2 ⟨rfl, hw2⟩
  have hw3 := hw2.symm
  subst hw3
  cases tm
  · go_wp2_with fail
    refine bodyPost_ret (v := .tuple #[.agg #[.int .i64 0, .int .i64 0], .int .i64 3]) (by simp [results, Try.results24, go_sem, r0, r1]) rfl ⟨?_, HEND.out _ _ _ HB1a.out⟩
    rw [HQO.out, HQ.out]; rfl
  have hA1 : Below w1.heap.size w1 (w1.alloc (.cells #[.int .i64 p', .int .i64 r', .slice a1 n1 c1] 129)) := (Below.refl _ _).alloc (Nat.le_refl _) _
  have HO2 := Lib.hid (HO1.out.at hA1)
  have HC1 := Lib.hid (c81.out _ trivial _ HO2.out)
  have hz1 := HB1.out.size
  clear hA1
  go_wp2_with fail
  refine HC1.out.mono ?_
  rintro e w3 ⟨rfl, hb3⟩
  have hz3 := hb3.size
  simp at hz3
  have k0 := hb3.cell (p := ⟨w1.heap.size, 0, none⟩) (by simp)
  have k1 := hb3.cell (p := ⟨w1.heap.size, 1, none⟩) (by simp)
  have k2 := hb3.cell (p := ⟨w1.heap.size, 2, none⟩) (by simp)
  simp [go_sem] at k0 k1 k2
  have HB3 := Lib.hid (HB1a.out.trans (hb3.mono (by simp; omega)))
  have HO3 := Lib.hid (HO2.out.at hb3)
  obtain ⟨⟨r0, r1⟩, r2, r3⟩ := KR.out _ HB3.out
  clear hb3
  cases sd
  · go_wp2_with fail
    refine bodyPost_ret (v := .tuple #[.agg #[.int .i64 0, .int .i64 0], .int .i64 5]) (by simp [results, Try.results24, go_sem, r0, r1]) rfl ⟨?_, HEND.out _ _ _ HB3.out⟩
    rw [HQO.out, HQ.out]; rfl
  have hc4 := c82.out _ trivial trivial _ HO3.out
  unfold spv at hc4
  have HC4 := Lib.hid hc4
  clear hc4
  go_wp2_with fail
  refine HC4.out.mono ?_
  rintro e w4 ⟨rfl, hb4⟩
  have HB4 := Lib.hid (HB3.out.trans (hb4.mono HB3.out.size))
  obtain ⟨⟨r0, r1⟩, r2, r3⟩ := KR.out _ HB4.out
  clear hb4
  go_wp2_with fail
  refine bodyPost_ret (v := .tuple #[.agg #[.int .i64 z.1, .int .i64 z.2], .int .i64 0]) (by simp [results, Try.results24, go_sem, r0, r1]) rfl ⟨?_, HEND.out _ _ _ HB4.out⟩
  rw [HQO.out, HQ.out]; rfl
end Go.Proofs.Ytcchmjbedppfnaa

/-
  The reference's Top, Circle, Knock.
-/
import Derived.Test.YthogahdnidjelaaRefShape
import Derived.Test.YthogahdnidjelaaRefSum
import Derived.Test.YthogahdnidjelaaKnock
import Derived.Test.YthogahdnidjelaaForms
namespace Go.Proofs.Ythogahdnidjelaa
open Go.RowKit Go.Shelf
set_option linter.unusedSimpArgs false
/-- what Top and Knock keep in memory: the mooring, and a result -/
structure TopAt (B : Nat) (d : Int) (a : Option Addr) (len cap : Nat) (W : World) : Prop where
  lt : B + 1 < W.heap.size
  c0 : W.cell? ⟨B, 0, none⟩ = some (.int .i64 d)
  c1 : W.cell? ⟨B, 1, none⟩ = some (.slice a len cap)
  r0 : W.cell? ⟨B + 1, 0, none⟩ = some (.int .i64 0)
  r1 : W.cell? ⟨B + 1, 1, none⟩ = some (.int .i64 0)
  g0 : W.frozen? ⟨B + 1, 0, none⟩ = false
  g1 : W.frozen? ⟨B + 1, 1, none⟩ = false
theorem TopAt.start (w : World) (d : Int) (a : Option Addr) (len cap : Nat) (an fr : Int) :
    TopAt w.heap.size d a len cap ((w.alloc (.cells #[.int .i64 d, .slice a len cap, .int .i64 an, .int .i64 fr] 24)).alloc (.cells #[.int .i64 0, .int .i64 0] 41)) := by
  constructor <;> simp [go_sem]
theorem TopAt.at {B : Nat} {d : Int} {a : Option Addr} {len cap : Nat} {W W' : World} (h : TopAt B d a len cap W) {n : Nat} (hn : B + 2 ≤ n) (hb : Below n W W') : TopAt B d a len cap W' := by
  have hs := hb.size
  have hl := h.lt
  exact ⟨by omega, (hb.cell (p := ⟨B, 0, none⟩) (by show B < n; omega)).trans h.c0, (hb.cell (p := ⟨B, 1, none⟩) (by show B < n; omega)).trans h.c1,
    (hb.cell (p := ⟨B + 1, 0, none⟩) (by show B + 1 < n; omega)).trans h.r0, (hb.cell (p := ⟨B + 1, 1, none⟩) (by show B + 1 < n; omega)).trans h.r1,
    (hb.frozen (p := ⟨B + 1, 0, none⟩) (by show B + 1 < n; omega)).trans h.g0, (hb.frozen (p := ⟨B + 1, 1, none⟩) (by show B + 1 < n; omega)).trans h.g1⟩
theorem risV_bd (d : Int) (zs : List El) (an fr : Int) (cs : List Pr) (free : Bool) : (risV d zs an fr cs free).length ≤ 40 ∧ ∀ k, k < (risV d zs an fr cs free).length → 0 ≤ (pr (risV d zs an fr cs free) k).lo ∧ (pr (risV d zs an fr cs free) k).lo ≤ 1048576 ∧ 0 ≤ (pr (risV d zs an fr cs free) k).hi ∧ (pr (risV d zs an fr cs free) k).hi ≤ 1048576 := by
  by_cases hE : staE d zs an fr cs = 0
  · obtain ⟨hr, hs, -, -⟩ := staE_ok hE
    have hst := (standB_iff hr.pos).1 hs
    rw [show risV d zs an fr cs free = rises free zs cs from if_pos hE]
    exact ⟨by unfold rises; rw [rowL_len]; exact hr.most, rises_bd hr hst free⟩
  · rw [show risV d zs an fr cs free = [] from if_neg hE]
    exact ⟨by simp, fun k hk => by simp at hk⟩
theorem risV_tot {d : Int} {zs : List El} {an fr : Int} {cs : List Pr} (free : Bool) (h : staE d zs an fr cs = 0) :
    (risV d zs an fr cs free).length = zs.length ∧ topS d zs an fr cs free = ⟨d - totHi (risV d zs an fr cs free) zs.length, d - totLo (risV d zs an fr cs free) zs.length⟩ ∧
    knockS d zs an fr cs free = ⟨lenTo zs zs.length - totHi (risV d zs an fr cs free) zs.length, lenTo zs zs.length - totLo (risV d zs an fr cs free) zs.length⟩ ∧
    0 ≤ totLo (risV d zs an fr cs free) zs.length ∧ totLo (risV d zs an fr cs free) zs.length ≤ 41943040 ∧ 0 ≤ totHi (risV d zs an fr cs free) zs.length ∧ totHi (risV d zs an fr cs free) zs.length ≤ 41943040 ∧ 1 ≤ d ∧ d ≤ 1048576 := by
  obtain ⟨hr, hs, hm, -⟩ := staE_ok h
  have hst := (standB_iff hr.pos).1 hs
  have e : risV d zs an fr cs free = rises free zs cs := if_pos h
  have b := rises_tot hr hst free
  have hd : 1 ≤ d ∧ d ≤ 1048576 := by
    have := (mooE_ok hm).2.2.2
    simp only [mooOk, btw, Bool.and_eq_true, decide_eq_true_eq] at this
    omega
  rw [e]
  refine ⟨by unfold rises; rw [rowL_len], by unfold topS; rw [if_pos h], by unfold knockS; rw [if_pos h], ?_⟩
  omega
set_option maxRecDepth 100000 in
set_option maxHeartbeats 8000000 in
theorem rtop_any (d an fr : Int) (sv cv : Value) (zs : List El) (cs : List Pr) (free : Bool) (w : World) (hI : Els w.heap.size w sv zs) (hC : Prs w.heap.size w cv cs) :
    Calls Try.prog 30 #[.agg #[.int .i64 d, sv, .int .i64 an, .int .i64 fr], cv, .bool free] w fun e w' => e = .returned (.tuple #[prv (topS d zs an fr cs free), .int .i64 (staE d zs an fr cs)]) ∧ Below w.heap.size w w' := by
  have c1 := fun w' (hb : Below w.heap.size w w') => rshape_any d an fr sv cv zs cs free w' (hI.at hb) (hC.at hb)
  have c2 := Lib.hid (fun v W hP => rsum_any v (risV d zs an fr cs free) (risV_bd d zs an fr cs free).1 (risV_bd d zs an fr cs free).2 W hP)
  have HOK := Lib.hid (fun (h : staE d zs an fr cs = 0) => risV_tot free h)
  have HT := Lib.hid (fun (h : ¬ staE d zs an fr cs = 0) => show topS d zs an fr cs free = ⟨0, 0⟩ from if_neg h)
  obtain ⟨a, cap, rfl, -, hIc⟩ := hI
  have HIc := Lib.hid hIc
  clear hIc
  obtain ⟨c, cap2, rfl, -, -⟩ := hC
  unfold prv
  generalize offV d zs an fr cs free = O at *
  generalize risV d zs an fr cs free = R at *
  generalize topS d zs an fr cs free = T at *
  generalize knockS d zs an fr cs free = N at *
  generalize staE d zs an fr cs = E at *
  generalize hlen : zs.length = len at *
  generalize cs.length = len2 at *
  have HA := TopAt.start w d a len cap an fr
  have hBA : Below w.heap.size w ((w.alloc (.cells #[.int .i64 d, .slice a len cap, .int .i64 an, .int .i64 fr] 24)).alloc (.cells #[.int .i64 0, .int .i64 0] 41)) := ((Below.refl _ _).alloc (Nat.le_refl _) _).alloc (by simp) _
  obtain ⟨A, hA⟩ : ∃ A, A = (w.alloc (.cells #[.int .i64 d, .slice a len cap, .int .i64 an, .int .i64 fr] 24)).alloc (.cells #[.int .i64 0, .int .i64 0] 41) := ⟨_, rfl⟩
  rw [← hA] at HA hBA
  have HH := Lib.hid HA
  have HB := Lib.hid hBA
  have hzA : w.heap.size + 2 ≤ A.heap.size := HA.lt
  clear HA hBA
  by_cases hE : E = 0
  rotate_left
  · obtain rfl := HT.out hE
    have hbq : (E != 0) = true := by simpa using hE
    clear hE HOK HT HIc
    go_enter Try.func30, Try.ntmps30
    go_wp2_with fail
    rw [← hA]
    refine (c1 _ HB.out).mono ?_
    rintro e w1 ⟨v1, v2, rfl, -, -, hb⟩
    have HH1 := HH.out.at hzA hb
    have HB1 := Lib.hid (HB.out.trans (hb.mono HB.out.size))
    clear hb hA c1
    obtain ⟨l, c0, k1, r0, r1, g0, g1⟩ := HH1
    go_wp2_with fail
    refine bodyPost_ret (v := .tuple #[.agg #[.int .i64 0, .int .i64 0], .int .i64 E]) (by simp [results, Try.results30, go_sem, *]) rfl ⟨rfl, ?_⟩
    repeat (first | refine Below.setCell ?_ (by first | omega | (simp; done) | (simp; omega)) _ | refine Below.alloc ?_ (by first | omega | (simp; done) | (simp; omega)) _ | refine Below.drew ?_ | exact HB1.out)
  subst hE
  obtain ⟨hl, hT, hN, t0, t1, t2, t3, d0, d1⟩ := HOK.out rfl
  obtain rfl := hT
  rw [hl] at c2
  have HL := Lib.hid hl
  clear HOK HT hN hlen HIc hl
  generalize totHi R len = th at *
  generalize totLo R len = tl at *
  have W1 : IntKind.i64.wrap (d - th) = d - th := by rw [IntKind.wrap_i64]; omega
  have W2 : IntKind.i64.wrap (d - tl) = d - tl := by rw [IntKind.wrap_i64]; omega
  go_enter Try.func30, Try.ntmps30
  go_wp2_with fail
  rw [← hA]
  refine (c1 _ HB.out).mono ?_
  rintro e w1 ⟨v1, v2, rfl, -, hR, hb⟩
  have HH1 := HH.out.at hzA hb
  have HB1 := Lib.hid (HB.out.trans (hb.mono HB.out.size))
  have HR := Lib.hid (fun W (h : Below w1.heap.size w1 W) => hR.at h)
  obtain ⟨ar, cr, rfl⟩ := hR.form
  clear hb hA c1 hR
  have HHh := Lib.hid HH1
  obtain ⟨l, c0, k1, r0, r1, g0, g1⟩ := HH1
  go_wp2_with fail
  refine (c2.out _ _ (HR.out _ (Below.refl _ _))).mono ?_
  rintro e w2 ⟨rfl, hb⟩
  have HB2 := Lib.hid (HB1.out.trans (hb.mono HB1.out.size))
  have HH2 := HHh.out.at l hb
  clear hb c0 k1 r0 r1 g0 g1
  obtain ⟨l3, c0, k1, r0, r1, g0, g1⟩ := HH2
  have y0 : w.heap.size < w2.heap.size := by omega
  have y1 : ¬ w.heap.size = w2.heap.size := by omega
  have y2 : ¬ w.heap.size + 1 = w2.heap.size := by omega
  have y3 : w.heap.size + 1 < w2.heap.size := by omega
  have y4 : ¬ w2.heap.size = w.heap.size + 1 := by omega
  have hz : w.heap.size ≤ w2.heap.size := by omega
  go_wp2_with fail
  refine bodyPost_ret (v := .tuple #[.agg #[.int .i64 (d - th), .int .i64 (d - tl)], .int .i64 0]) (by simp [results, Try.results30, go_sem, *]) rfl ⟨rfl, ?_⟩
  repeat (first | refine Below.setCell ?_ (by first | omega | (simp; done) | (simp; omega)) _ | refine Below.alloc ?_ (by first | omega | (simp; done) | (simp; omega)) _ | refine Below.drew ?_ | exact HB2.out)
set_option maxRecDepth 100000 in
set_option maxHeartbeats 8000000 in
theorem rknock_any (d an fr : Int) (sv cv : Value) (zs : List El) (cs : List Pr) (free : Bool) (w : World) (hI : Els w.heap.size w sv zs) (hC : Prs w.heap.size w cv cs) :
    Calls Try.prog 34 #[.agg #[.int .i64 d, sv, .int .i64 an, .int .i64 fr], cv, .bool free] w fun e w' => e = .returned (.tuple #[prv (knockS d zs an fr cs free), .int .i64 (staE d zs an fr cs)]) ∧ Below w.heap.size w w' := by
  have c1 := fun w' (hb : Below w.heap.size w w') => rshape_any d an fr sv cv zs cs free w' (hI.at hb) (hC.at hb)
  have c2 := Lib.hid (fun v W hP => rsum_any v (risV d zs an fr cs free) (risV_bd d zs an fr cs free).1 (risV_bd d zs an fr cs free).2 W hP)
  have HOK := Lib.hid (fun (h : staE d zs an fr cs = 0) => risV_tot free h)
  have HT := Lib.hid (fun (h : ¬ staE d zs an fr cs = 0) => show knockS d zs an fr cs free = ⟨0, 0⟩ from if_neg h)
  have HLB := Lib.hid (fun (h : staE d zs an fr cs = 0) k (hk : k ≤ zs.length) => lenTo_bd (staE_ok h).1 k hk)
  have HEL := Lib.hid (fun (h : staE d zs an fr cs = 0) k (hk : k < zs.length) => ((vE_iff _).1 ((staE_ok h).1.els k hk)).1)
  have HMO := Lib.hid (fun (h : staE d zs an fr cs = 0) => (staE_ok h).1.most)
  obtain ⟨a, cap, rfl, -, hIc⟩ := hI
  have HIc := Lib.hid hIc
  clear hIc
  obtain ⟨c, cap2, rfl, -, -⟩ := hC
  unfold prv
  generalize offV d zs an fr cs free = O at *
  generalize risV d zs an fr cs free = R at *
  generalize topS d zs an fr cs free = T at *
  generalize knockS d zs an fr cs free = N at *
  generalize staE d zs an fr cs = E at *
  generalize hlen : zs.length = len at *
  generalize cs.length = len2 at *
  have HA := TopAt.start w d a len cap an fr
  have hBA : Below w.heap.size w ((w.alloc (.cells #[.int .i64 d, .slice a len cap, .int .i64 an, .int .i64 fr] 24)).alloc (.cells #[.int .i64 0, .int .i64 0] 41)) := ((Below.refl _ _).alloc (Nat.le_refl _) _).alloc (by simp) _
  obtain ⟨A, hA⟩ : ∃ A, A = (w.alloc (.cells #[.int .i64 d, .slice a len cap, .int .i64 an, .int .i64 fr] 24)).alloc (.cells #[.int .i64 0, .int .i64 0] 41) := ⟨_, rfl⟩
  rw [← hA] at HA hBA
  have HH := Lib.hid HA
  have HB := Lib.hid hBA
  have hzA : w.heap.size + 2 ≤ A.heap.size := HA.lt
  clear HA hBA
  by_cases hE : E = 0
  rotate_left
  · obtain rfl := HT.out hE
    have hbq : (E != 0) = true := by simpa using hE
    clear hE HOK HT HIc
    go_enter Try.func34, Try.ntmps34
    go_wp2_with fail
    rw [← hA]
    refine (c1 _ HB.out).mono ?_
    rintro e w1 ⟨v1, v2, rfl, -, -, hb⟩
    have HH1 := HH.out.at hzA hb
    have HB1 := Lib.hid (HB.out.trans (hb.mono HB.out.size))
    clear hb hA c1
    obtain ⟨l, c0, k1, r0, r1, g0, g1⟩ := HH1
    go_wp2_with fail
    refine bodyPost_ret (v := .tuple #[.agg #[.int .i64 0, .int .i64 0], .int .i64 E]) (by simp [results, Try.results34, go_sem, *]) rfl ⟨rfl, ?_⟩
    repeat (first | refine Below.setCell ?_ (by first | omega | (simp; done) | (simp; omega)) _ | refine Below.alloc ?_ (by first | omega | (simp; done) | (simp; omega)) _ | refine Below.drew ?_ | exact HB1.out)
  subst hE
  obtain ⟨hl, hT, hN, t0, t1, t2, t3, d0, d1⟩ := HOK.out rfl
  obtain rfl := hN
  have HLB2 := Lib.hid (HLB.out rfl)
  have HEL2 := Lib.hid (HEL.out rfl)
  have hmo := HMO.out rfl
  have hLL := HLB.out rfl len (by omega)
  clear HLB HEL HMO hT
  rw [hl] at c2
  have HL := Lib.hid hl
  clear HOK HT hl
  generalize totHi R len = th at *
  generalize totLo R len = tl at *
  have W1 : IntKind.i64.wrap (lenTo zs len - th) = lenTo zs len - th := by rw [IntKind.wrap_i64]; omega
  have W2 : IntKind.i64.wrap (lenTo zs len - tl) = lenTo zs len - tl := by rw [IntKind.wrap_i64]; omega
  go_enter Try.func34, Try.ntmps34
  go_wp2_with fail
  rw [← hA]
  refine (c1 _ HB.out).mono ?_
  rintro e w1 ⟨v1, v2, rfl, -, hR, hb⟩
  have HH1 := HH.out.at hzA hb
  have HB1 := Lib.hid (HB.out.trans (hb.mono HB.out.size))
  have HR := Lib.hid (fun W (h : Below w1.heap.size w1 W) => hR.at h)
  obtain ⟨ar, cr, rfl⟩ := hR.form
  clear hb hA c1 hR
  have HHh := Lib.hid HH1
  obtain ⟨l, c0, k1, r0, r1, g0, g1⟩ := HH1
  go_wp2_with fail
  go_loopw [11, 12] (fun x i wr => ∃ k : Nat, k ≤ len ∧ i = .int .i64 k ∧ x = .int .i64 (lenTo zs k) ∧ Below w1.heap.size w1 wr) (fun _ i _ => len - (intOf i).toNat)
  case atStart => exact ⟨0, Nat.zero_le _, rfl, rfl, Below.refl _ _⟩
  case round =>
    obtain ⟨k, hk, rfl, rfl, hB⟩ := hrel
    clear c0 k1 r0 r1 g0 g1
    obtain ⟨l2, c0, k1, r0, r1, g0, g1⟩ := HHh.out.at l hB
    by_cases hlt : k < len
    · obtain ⟨b, off, rfl, hb, e0, -, -, -⟩ := HIc.out k (by omega)
      have n0 := ((HB1.out.trans (hB.mono HB1.out.size)).cell (p := ⟨b, off + k * 4, none⟩) hb).trans e0
      have q1 := HLB2.out k hk
      have q2 := HEL2.out k (by omega)
      have HT1 := Lib.hid (show lenTo zs (k + 1) = lenTo zs k + (el zs k).len from rfl)
      have W3 : IntKind.i64.wrap (lenTo zs k + (el zs k).len) = lenTo zs k + (el zs k).len := by rw [IntKind.wrap_i64]; omega
      generalize (el zs k).len = X at *
      have hli : (k : Int) < (len : Int) := by omega
      have HBr := Lib.hid hB
      clear e0 hB
      go_wp2_with fail
      go_roundw
      case rel => exact ⟨k + 1, by omega, by go_num, by rw [HT1.out], HBr.out⟩
      case measure => simp [intOf]; omega
    · obtain rfl : k = len := by omega
      have HBr := Lib.hid hB
      clear hB
      go_wp2_with fail
      refine (c2.out _ _ (HR.out _ HBr.out)).mono ?_
      rintro e w2 ⟨rfl, hb⟩
      have HB2 := Lib.hid (HB1.out.trans ((HBr.out.trans (hb.mono HBr.out.size)).mono HB1.out.size))
      have HH2 := HHh.out.at l (HBr.out.trans (hb.mono HBr.out.size))
      clear hb c0 k1 r0 r1 g0 g1
      obtain ⟨l3, c0, k1, r0, r1, g0, g1⟩ := HH2
      have y0 : w.heap.size < w2.heap.size := by omega
      have y1 : ¬ w.heap.size = w2.heap.size := by omega
      have y2 : ¬ w.heap.size + 1 = w2.heap.size := by omega
      have y3 : w.heap.size + 1 < w2.heap.size := by omega
      have y4 : ¬ w2.heap.size = w.heap.size + 1 := by omega
      have hz : w.heap.size ≤ w2.heap.size := by omega
      clear hlt
      go_wp2_with fail
      refine bodyPost_ret (v := .tuple #[.agg #[.int .i64 (lenTo zs k - th), .int .i64 (lenTo zs k - tl)], .int .i64 0]) (by simp [results, Try.results34, go_sem, *]) rfl ⟨rfl, ?_⟩
      repeat (first | refine Below.setCell ?_ (by first | omega | (simp; done) | (simp; omega)) _ | refine Below.alloc ?_ (by first | omega | (simp; done) | (simp; omega)) _ | refine Below.drew ?_ | exact HB2.out)
set_option maxRecDepth 100000 in
set_option maxHeartbeats 8000000 in
theorem rcircle_any (d an fr : Int) (sv cv : Value) (zs : List El) (cs : List Pr) (free : Bool) (w : World) (hI : Els w.heap.size w sv zs) (hC : Prs w.heap.size w cv cs) :
    Calls Try.prog 32 #[.agg #[.int .i64 d, sv, .int .i64 an, .int .i64 fr], cv, .bool free] w fun e w' => e = .returned (.tuple #[.int .i64 (totHi (offV d zs an fr cs free) (offV d zs an fr cs free).length), .int .i64 (staE d zs an fr cs)]) ∧ Below w.heap.size w w' := by
  have c1 := fun w' (hb : Below w.heap.size w w') => rshape_any d an fr sv cv zs cs free w' (hI.at hb) (hC.at hb)
  have c2 := Lib.hid (fun v W hP => rsum_any v (offV d zs an fr cs free) (offV_bd d zs an fr cs free).1 (offV_bd d zs an fr cs free).2 W hP)
  have HT := Lib.hid (fun (h : ¬ staE d zs an fr cs = 0) => show offV d zs an fr cs free = [] from if_neg h)
  obtain ⟨a, cap, rfl, -, -⟩ := hI
  obtain ⟨c, cap2, rfl, -, -⟩ := hC
  generalize offV d zs an fr cs free = O at *
  generalize risV d zs an fr cs free = R at *
  generalize staE d zs an fr cs = E at *
  generalize zs.length = len at *
  generalize cs.length = len2 at *
  have HA := Lib.hid (show Below w.heap.size w (w.alloc (.cells #[.int .i64 d, .slice a len cap, .int .i64 an, .int .i64 fr] 24)) from (Below.refl _ _).alloc (Nat.le_refl _) _)
  by_cases hE : E = 0
  rotate_left
  · obtain rfl := HT.out hE
    have hbq : (E != 0) = true := by simpa using hE
    clear hE HT c2
    go_enter Try.func32, Try.ntmps32
    go_wp2_with fail
    refine (c1 _ HA.out).mono ?_
    rintro e w1 ⟨v1, v2, rfl, -, -, hb⟩
    have HB1 := Lib.hid (HA.out.trans (hb.mono (by simp)))
    clear hb c1
    go_wp2_with fail
    go_ret2
    exact ⟨rfl, HB1.out⟩
  subst hE
  generalize totHi O O.length = th at *
  generalize totLo O O.length = tl at *
  have hfld := field_hi tl th
  go_enter Try.func32, Try.ntmps32
  go_wp2_with fail
  refine (c1 _ HA.out).mono ?_
  rintro e w1 ⟨v1, v2, rfl, hO, -, hb⟩
  have HB1 := Lib.hid (HA.out.trans (hb.mono (by simp)))
  have HO := Lib.hid hO
  obtain ⟨ao, co, rfl⟩ := hO.form
  clear hb c1 hO
  go_wp2_with fail
  refine (c2.out _ _ HO.out).mono ?_
  rintro e w2 ⟨rfl, hb⟩
  have HB2 := Lib.hid (HB1.out.trans (hb.mono HB1.out.size))
  clear hb
  go_wp2_with fail
  go_ret2
  exact ⟨rfl, HB2.out⟩
end Go.Proofs.Ythogahdnidjelaa

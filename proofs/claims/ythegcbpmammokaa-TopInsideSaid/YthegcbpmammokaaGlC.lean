/-
  Glider in this seat: what is checked of boxes, pickups and runs.
-/
import Derived.Test.YthegcbpmammokaaGlB
namespace Go.Proofs.Ythegcbpmammokaa
open Go.RowKit
set_option linter.unusedSimpArgs false
set_option maxHeartbeats 1000000
theorem chkX_two (a b c d : Int) : chkX a b c d = 0 ∨ chkX a b c d = 2 := by unfold chkX; split <;> simp
def bxB (z : Q4) : Bool := decide (chkX z.a z.b z.c z.d = 0)
/-- what is wrong with some boxes -/
def boxE (zs : List Q4) : Int := if 64 < zs.length then 6 else if zs.all bxB = true then 0 else 2
theorem boxE_bad {zs : List Q4} {k : Nat} (hl : ¬ 64 < zs.length) (hk : k < zs.length) (h : chkX (q4 zs k).a (q4 zs k).b (q4 zs k).c (q4 zs k).d = 2) : boxE zs = 2 := by
  unfold boxE
  rw [if_neg hl, if_neg]
  intro q
  have := List.all_eq_true.1 q zs[k] (List.getElem_mem hk)
  unfold q4 at h
  rw [List.getElem?_eq_getElem hk, Option.getD_some] at h
  unfold bxB at this
  rw [h] at this
  exact absurd this (by decide)
theorem boxE_ok {zs : List Q4} (hl : ¬ 64 < zs.length) (h : ∀ k, k < zs.length → chkX (q4 zs k).a (q4 zs k).b (q4 zs k).c (q4 zs k).d = 0) : boxE zs = 0 := by
  unfold boxE
  rw [if_neg hl, if_pos]
  refine List.all_eq_true.2 fun z hz => ?_
  obtain ⟨k, hk, rfl⟩ := List.getElem_of_mem hz
  have := h k hk
  unfold q4 at this
  rw [List.getElem?_eq_getElem hk, Option.getD_some] at this
  unfold bxB
  rw [this]
  rfl
theorem boxE_get {zs : List Q4} (h : boxE zs = 0) : zs.length ≤ 64 ∧ ∀ k, k < zs.length → chkX (q4 zs k).a (q4 zs k).b (q4 zs k).c (q4 zs k).d = 0 := by
  unfold boxE at h
  by_cases hl : 64 < zs.length
  · rw [if_pos hl] at h; exact absurd h (by decide)
  · rw [if_neg hl] at h
    by_cases ha : zs.all bxB = true
    · refine ⟨by omega, fun k hk => ?_⟩
      have := List.all_eq_true.1 ha zs[k] (List.getElem_mem hk)
      unfold q4
      rw [List.getElem?_eq_getElem hk, Option.getD_some]
      exact of_decide_eq_true this
    · rw [if_neg ha] at h; exact absurd h (by decide)
def bxE (zs : List Q4) (k : Nat) : Int := chkX (q4 zs k).a (q4 zs k).b (q4 zs k).c (q4 zs k).d
theorem checkBoxes_any (sv : Value) (zs : List Q4) (w : World) (hZ : Q4s w.heap.size w sv zs) :
    Calls Try.prog 34 #[sv] w fun e w' => e = .returned (.int .i64 (boxE zs)) ∧ Below w.heap.size w w' := by
  obtain ⟨a, cap, rfl⟩ := hZ.form
  have HG := Lib.hid hZ.get
  have HBAD := Lib.hid (fun k hl hk (h : bxE zs k = 2) => boxE_bad (zs := zs) (k := k) hl hk h)
  have HOK := Lib.hid (fun hl (h : ∀ k, k < zs.length → bxE zs k = 0) => boxE_ok (zs := zs) hl h)
  have H64 := Lib.hid (show 64 < zs.length → boxE zs = 6 from fun h => if_pos h)
  have HTW := Lib.hid (fun k => show bxE zs k = 0 ∨ bxE zs k = 2 from chkX_two _ _ _ _)
  have c20 := Lib.hid (fun k W => show Calls Try.prog 20 #[.agg #[.int .i64 (q4 zs k).a, .int .i64 (q4 zs k).b, .int .i64 (q4 zs k).c, .int .i64 (q4 zs k).d]] W (fun e w' => e = .returned (.int .i64 (bxE zs k)) ∧ Below W.heap.size W w') from checkBox_any (q4 zs k).a (q4 zs k).b (q4 zs k).c (q4 zs k).d W)
  clear hZ
  generalize boxE zs = E at *
  generalize zs.length = len at *
  by_cases h64 : 64 < len
  · have h6 : (64 : Int) < (len : Int) := by omega
    obtain rfl : E = 6 := H64.out h64
    go_enter Try.func34, Try.ntmps34
    go_wp2_with fail
    go_ret
    exact ⟨rfl, Below.refl _ _⟩
  have h6 : ¬ (64 : Int) < (len : Int) := by omega
  go_enter Try.func34, Try.ntmps34
  go_wp2_with fail
  go_loopw [11] (fun i wr => ∃ k : Nat, k ≤ len ∧ i = .int .i64 k ∧ (∀ j, j < k → bxE zs j = 0) ∧ Below w.heap.size w wr) (fun i _ => len - (intOf i).toNat)
  case atStart => exact ⟨0, Nat.zero_le _, rfl, fun j h => absurd h (Nat.not_lt_zero _), Below.refl _ _⟩
  case round =>
    obtain ⟨k, hk, rfl, hin, hB⟩ := hrel
    have HIN := Lib.hid hin
    have HB := Lib.hid hB
    have hsz := hB.size
    clear hin hB
    by_cases hlt : k < len
    · have hki : (k : Int) < (len : Int) := by omega
      obtain ⟨b, off, rfl, hb, g0, g1, g2, g3⟩ := HG.out k hlt
      have m0 := (HB.out.cell (p := ⟨b, _, none⟩) hb).trans g0
      have m1 := (HB.out.cell (p := ⟨b, _, none⟩) hb).trans g1
      have m2 := (HB.out.cell (p := ⟨b, _, none⟩) hb).trans g2
      have m3 := (HB.out.cell (p := ⟨b, _, none⟩) hb).trans g3
      have htw := HTW.out k
      have hc := c20.out k
      have HBD := Lib.hid (HBAD.out k h64 hlt)
      clear g0 g1 g2 g3
      generalize hch : bxE zs k = q at hc htw HBD
      have HCH := Lib.hid hch
      clear hch
      generalize (q4 zs k).a = x0 at *
      generalize (q4 zs k).b = x1 at *
      generalize (q4 zs k).c = x2 at *
      generalize (q4 zs k).d = x3 at *
      rcases htw with rfl | rfl
      · go_wp2_with fail
        refine (hc _).mono ?_
        rintro e w5 ⟨rfl, hb5⟩
        have HB5 := Lib.hid (HB.out.trans (((Below.refl _ _).alloc (Nat.le_refl _) (.cells #[.int .i64 x0, .int .i64 x1, .int .i64 x2, .int .i64 x3] 29)).trans (hb5.mono (by simp)) |>.mono hsz))
        clear hb5 hc
        go_wp2_with fail
        go_roundw
        case rel => exact ⟨k + 1, by omega, by go_num, fun j hj => (by by_cases e : j = k; (subst e; exact HCH.out); exact HIN.out j (by omega)), HB5.out⟩
        case measure => simp [intOf]; omega
      · obtain rfl : E = 2 := HBD.out rfl
        go_wp2_with fail
        refine (hc _).mono ?_
        rintro e w5 ⟨rfl, hb5⟩
        have HB5 := Lib.hid (HB.out.trans (((Below.refl _ _).alloc (Nat.le_refl _) (.cells #[.int .i64 x0, .int .i64 x1, .int .i64 x2, .int .i64 x3] 29)).trans (hb5.mono (by simp)) |>.mono hsz))
        clear hb5 hc
        go_wp2_with fail
        go_ret
        exact ⟨rfl, HB5.out⟩
    · obtain rfl : k = len := by omega
      obtain rfl : E = 0 := HOK.out h64 HIN.out
      go_wp2_with fail
      go_ret
      exact ⟨rfl, HB.out⟩
/-- what is wrong with some runs -/
def runM (rs : List (List Q4)) : Bool := rs.any fun r => decide (64 < r.length)
def rn (rs : List (List Q4)) (k : Nat) : List Q4 := rs[k]?.getD []
def runE (rs : List (List Q4)) : Int := if 8 < rs.length then 6 else if runM rs = true then 6 else fstE (fun k => boxE (rn rs k)) rs.length
theorem runM_yes {rs : List (List Q4)} {k : Nat} (hk : k < rs.length) (h : 64 < (rn rs k).length) : runM rs = true := by
  unfold rn at h
  rw [List.getElem?_eq_getElem hk, Option.getD_some] at h
  exact List.any_eq_true.2 ⟨_, List.getElem_mem hk, decide_eq_true h⟩
theorem runM_no {rs : List (List Q4)} (h : ∀ k, k < rs.length → ¬ 64 < (rn rs k).length) : runM rs = false := by
  refine List.any_eq_false.2 fun r hr => ?_
  obtain ⟨k, hk, rfl⟩ := List.getElem_of_mem hr
  have := h k hk
  unfold rn at this
  rw [List.getElem?_eq_getElem hk, Option.getD_some] at this
  simpa using this
theorem runE_get {rs : List (List Q4)} (h : runE rs = 0) : rs.length ≤ 8 ∧ ∀ k, k < rs.length → boxE (rn rs k) = 0 := by
  unfold runE at h
  by_cases h8 : 8 < rs.length
  · rw [if_pos h8] at h; exact absurd h (by decide)
  · rw [if_neg h8] at h
    by_cases hm : runM rs = true
    · rw [if_pos hm] at h; exact absurd h (by decide)
    · rw [if_neg hm] at h
      exact ⟨by omega, fun k hk => fstE_zero h k hk⟩
/-- a valid pickup -/
def pkB (a b c d f t : Int) : Bool := decide (chkX a b c d = 0) && (decide (0 ≤ f) && (decide (f ≤ t) && decide (t ≤ 1073741824)))
def pkE (a b c d f t : Int) : Int := if pkB a b c d f t = true then 0 else 2
theorem pkE_get {a b c d f t : Int} (h : pkE a b c d f t = 0) : chkX a b c d = 0 ∧ 0 ≤ f ∧ f ≤ t ∧ t ≤ 1073741824 := by
  unfold pkE at h
  by_cases hp : pkB a b c d f t = true
  · unfold pkB at hp
    simpa using hp
  · rw [if_neg hp] at h
    exact absurd h (by decide)
theorem pickup_any (a b c d f t : Int) (w : World) :
    Calls Try.prog 35 #[.agg #[.int .i64 a, .int .i64 b, .int .i64 c, .int .i64 d, .int .i64 f, .int .i64 t]] w fun e w' => e = .returned (.int .i64 (pkE a b c d f t)) ∧ Below w.heap.size w w' := by
  have c1 := fun W => checkBox_any a b c d W
  have htw := chkX_two a b c d
  unfold pkE pkB
  generalize chkX a b c d = q at *
  have c6 := fun b W => unless_any b 2 W
  obtain ⟨A, hA⟩ : ∃ A, A = w.alloc (.cells #[.int .i64 a, .int .i64 b, .int .i64 c, .int .i64 d, .int .i64 f, .int .i64 t] 44) := ⟨_, rfl⟩
  have HBA := Lib.hid (show Below w.heap.size w A by rw [hA]; exact (Below.refl _ _).alloc (Nat.le_refl _) _)
  have hlt : w.heap.size < A.heap.size := by rw [hA]; simp
  have k : ∀ o, A.cell? ⟨w.heap.size, o, none⟩ = (#[.int .i64 a, .int .i64 b, .int .i64 c, .int .i64 d, .int .i64 f, .int .i64 t] : Array Value)[o]? := fun o => cellHB (by rw [hA]; exact World.alloc_heap_new w _) o
  have KK := Lib.hid (show ∀ W, Below A.heap.size A W → W.cell? ⟨w.heap.size, 0, none⟩ = some (.int .i64 a) ∧ W.cell? ⟨w.heap.size, 1, none⟩ = some (.int .i64 b) ∧ W.cell? ⟨w.heap.size, 2, none⟩ = some (.int .i64 c) ∧ W.cell? ⟨w.heap.size, 3, none⟩ = some (.int .i64 d) ∧ W.cell? ⟨w.heap.size, 4, none⟩ = some (.int .i64 f) ∧ W.cell? ⟨w.heap.size, 5, none⟩ = some (.int .i64 t) from fun W h => ⟨(h.cell (p := ⟨w.heap.size, 0, none⟩) hlt).trans (k 0), (h.cell (p := ⟨w.heap.size, 1, none⟩) hlt).trans (k 1), (h.cell (p := ⟨w.heap.size, 2, none⟩) hlt).trans (k 2), (h.cell (p := ⟨w.heap.size, 3, none⟩) hlt).trans (k 3), (h.cell (p := ⟨w.heap.size, 4, none⟩) hlt).trans (k 4), (h.cell (p := ⟨w.heap.size, 5, none⟩) hlt).trans (k 5)⟩)
  clear hlt k
  obtain ⟨k0, k1, k2, k3, k4, k5⟩ := KK.out _ (Below.refl _ _)
  rcases htw with rfl | rfl
  · by_cases h1 : 0 ≤ f
    · by_cases h2 : f ≤ t
      · by_cases h3 : t ≤ 1073741824
        · rw [show (decide ((0 : Int) = 0) && (decide (0 ≤ f) && (decide (f ≤ t) && decide (t ≤ 1073741824)))) = true by simp [h1, h2, h3]]
          go_enter Try.func35, Try.ntmps35
          go_upto_region 1 with fail
          rw [← hA]
          clear hA
          go_wp2_with fail
          refine (c1 _).mono ?_
          rintro e w1 ⟨rfl, hb⟩
          have HB1 := Lib.hid hb
          have k0 := KK.out _ HB1.out
          obtain ⟨k0, k1, k2, k3, k4, k5⟩ := k0
          clear hb
          go_wp2_with fail
          refine (c6 _ _).mono ?_
          rintro e w6 ⟨rfl, hw⟩
          subst hw
          go_wp2_with fail
          go_ret
          exact ⟨by first | rfl | simp, HBA.out.trans (HB1.out.mono HBA.out.size)⟩
        · rw [show (decide ((0 : Int) = 0) && (decide (0 ≤ f) && (decide (f ≤ t) && decide (t ≤ 1073741824)))) = false by simp [h3]]
          go_enter Try.func35, Try.ntmps35
          go_upto_region 1 with fail
          rw [← hA]
          clear hA
          go_wp2_with fail
          refine (c1 _).mono ?_
          rintro e w1 ⟨rfl, hb⟩
          have HB1 := Lib.hid hb
          have k0 := KK.out _ HB1.out
          obtain ⟨k0, k1, k2, k3, k4, k5⟩ := k0
          clear hb
          go_wp2_with fail
          refine (c6 _ _).mono ?_
          rintro e w6 ⟨rfl, hw⟩
          subst hw
          go_wp2_with fail
          go_ret
          exact ⟨by first | rfl | simp, HBA.out.trans (HB1.out.mono HBA.out.size)⟩
      · rw [show (decide ((0 : Int) = 0) && (decide (0 ≤ f) && (decide (f ≤ t) && decide (t ≤ 1073741824)))) = false by simp [h2]]
        go_enter Try.func35, Try.ntmps35
        go_upto_region 1 with fail
        rw [← hA]
        clear hA
        go_wp2_with fail
        refine (c1 _).mono ?_
        rintro e w1 ⟨rfl, hb⟩
        have HB1 := Lib.hid hb
        have k0 := KK.out _ HB1.out
        obtain ⟨k0, k1, k2, k3, k4, k5⟩ := k0
        clear hb
        go_wp2_with fail
        refine (c6 _ _).mono ?_
        rintro e w6 ⟨rfl, hw⟩
        subst hw
        go_wp2_with fail
        go_ret
        exact ⟨by first | rfl | simp, HBA.out.trans (HB1.out.mono HBA.out.size)⟩
    · rw [show (decide ((0 : Int) = 0) && (decide (0 ≤ f) && (decide (f ≤ t) && decide (t ≤ 1073741824)))) = false by simp [h1]]
      go_enter Try.func35, Try.ntmps35
      go_upto_region 1 with fail
      rw [← hA]
      clear hA
      go_wp2_with fail
      refine (c1 _).mono ?_
      rintro e w1 ⟨rfl, hb⟩
      have HB1 := Lib.hid hb
      have k0 := KK.out _ HB1.out
      obtain ⟨k0, k1, k2, k3, k4, k5⟩ := k0
      clear hb
      go_wp2_with fail
      refine (c6 _ _).mono ?_
      rintro e w6 ⟨rfl, hw⟩
      subst hw
      go_wp2_with fail
      go_ret
      exact ⟨by first | rfl | simp, HBA.out.trans (HB1.out.mono HBA.out.size)⟩
  · rw [show (decide ((2 : Int) = 0) && (decide (0 ≤ f) && (decide (f ≤ t) && decide (t ≤ 1073741824)))) = false by simp]
    go_enter Try.func35, Try.ntmps35
    go_upto_region 1 with fail
    rw [← hA]
    clear hA
    go_wp2_with fail
    refine (c1 _).mono ?_
    rintro e w1 ⟨rfl, hb⟩
    have HB1 := Lib.hid hb
    have k0 := KK.out _ HB1.out
    obtain ⟨k0, k1, k2, k3, k4, k5⟩ := k0
    clear hb
    go_wp2_with fail
    refine (c6 _ _).mono ?_
    rintro e w6 ⟨rfl, hw⟩
    subst hw
    go_wp2_with fail
    go_ret
    exact ⟨by first | rfl | simp, HBA.out.trans (HB1.out.mono HBA.out.size)⟩
theorem checkRuns_any (sv : Value) (rs : List (List Q4)) (w : World) (hR : Rns w.heap.size w sv rs) :
    Calls Try.prog 40 #[sv] w fun e w' => e = .returned (.int .i64 (runE rs)) ∧ Below w.heap.size w w' := by
  obtain ⟨a, cap, rfl⟩ := hR.form
  have HG := Lib.hid (fun k hk => show ∃ b off s, a = some ⟨b, off, none⟩ ∧ b < w.heap.size ∧ w.cell? ⟨b, off + k, none⟩ = some s ∧ Q4s w.heap.size w s (rn rs k) from hR.get k hk)
  have HMY := Lib.hid (fun k hk h => runM_yes (rs := rs) (k := k) hk h)
  have HMN := Lib.hid (fun h => runM_no (rs := rs) h)
  have H8 := Lib.hid (show 8 < rs.length → runE rs = 6 from fun h => if_pos h)
  have HM6 := Lib.hid (show ¬ 8 < rs.length → runM rs = true → runE rs = 6 from fun h h2 => by unfold runE; rw [if_neg h, if_pos h2])
  have HMF := Lib.hid (show ¬ 8 < rs.length → runM rs = false → runE rs = fstE (fun k => boxE (rn rs k)) rs.length from fun h h2 => by unfold runE; rw [if_neg h, h2, if_neg (by decide)])
  have HFS := Lib.hid (fun k (h : fstE (fun k => boxE (rn rs k)) k ≠ 0) => fstE_stays h rs.length)
  have HFU := Lib.hid (fun k => show fstE (fun k => boxE (rn rs k)) (k + 1) = if fstE (fun k => boxE (rn rs k)) k = 0 then boxE (rn rs k) else fstE (fun k => boxE (rn rs k)) k from rfl)
  have HFZ := Lib.hid (show fstE (fun k => boxE (rn rs k)) 0 = 0 from rfl)
  clear hR
  generalize fstE (fun k => boxE (rn rs k)) = F at *
  generalize runE rs = E at *
  generalize runM rs = M at *
  generalize rs.length = len at *
  by_cases h8 : 8 < len
  · have h6 : (8 : Int) < (len : Int) := by omega
    obtain rfl : E = 6 := H8.out h8
    go_enter Try.func40, Try.ntmps40
    go_wp2_with fail
    go_ret
    exact ⟨rfl, Below.refl _ _⟩
  have h6 : ¬ (8 : Int) < (len : Int) := by omega
  go_enter Try.func40, Try.ntmps40
  go_wp2_with fail
  go_loopw [13] (fun i wr => ∃ k : Nat, k ≤ len ∧ i = .int .i64 k ∧ (∀ j, j < k → ¬ 64 < (rn rs j).length) ∧ wr = w) (fun i _ => len - (intOf i).toNat)
  case atStart => exact ⟨0, Nat.zero_le _, rfl, fun j h => absurd h (Nat.not_lt_zero _), rfl⟩
  case round =>
    obtain ⟨k, hk, rfl, hin, hw⟩ := hrel
    subst hw
    have HIN := Lib.hid hin
    clear hin
    by_cases hlt : k < len
    · have hki : (k : Int) < (len : Int) := by omega
      obtain ⟨b, off, s, rfl, hb, g0, g1⟩ := HG.out k hlt
      obtain ⟨a1, c1, rfl⟩ := g1.form
      have HMY2 := Lib.hid (HMY.out k hlt)
      generalize hln : (rn rs k).length = ln at *
      have HLN := Lib.hid hln
      clear hln g1
      by_cases h64 : 64 < ln
      · have h7 : (64 : Int) < (ln : Int) := by omega
        obtain rfl : E = 6 := HM6.out h8 (HMY2.out h64)
        go_wp2_with fail
        go_ret
        exact ⟨rfl, Below.refl _ _⟩
      · have h7 : ¬ (64 : Int) < (ln : Int) := by omega
        go_wp2_with fail
        go_roundw
        case rel => exact ⟨k + 1, by omega, by go_num, fun j hj => (by by_cases e : j = k; (subst e; rw [HLN.out]; exact h64); exact HIN.out j (by omega)), by first | rfl | trivial⟩
        case measure => simp [intOf]; omega
    · obtain rfl : k = len := by omega
      have hE := HMF.out h8 (HMN.out HIN.out)
      have HE := Lib.hid hE
      clear hE hlt hk
      go_wp2_with fail
      go_loopw [23] (fun i wr2 => ∃ m : Nat, m ≤ k ∧ i = .int .i64 m ∧ F m = 0 ∧ Below wr.heap.size wr wr2) (fun i _ => k - (intOf i).toNat)
      case atStart => exact ⟨0, Nat.zero_le _, rfl, HFZ.out, Below.refl _ _⟩
      case round =>
        obtain ⟨m, hm, rfl, hF, hB⟩ := hrel
        have HF := Lib.hid hF
        have HB := Lib.hid hB
        clear hF hB
        by_cases hlt : m < k
        · have hki : (m : Int) < (k : Int) := by omega
          obtain ⟨b, off, s, rfl, hb, g0, g1⟩ := HG.out m hlt
          have m0 := (HB.out.cell (p := ⟨b, off + m, none⟩) hb).trans g0
          have hu := HFU.out m
          rw [if_pos HF.out] at hu
          have HUU := Lib.hid hu
          have hc := checkBoxes_any s (rn rs m) wr (g1.at HB.out)
          obtain ⟨a1, c1, rfl⟩ := g1.form
          clear g0 g1 hu
          generalize (rn rs m).length = ln at *
          generalize hbe : boxE (rn rs m) = q at *
          clear hbe
          by_cases hz : q = 0
          · subst hz
            go_wp2_with fail
            refine hc.mono ?_
            rintro e w5 ⟨rfl, hb5⟩
            have HB5 := Lib.hid (HB.out.trans (hb5.mono HB.out.size))
            clear hb5 hc
            go_wp2_with fail
            go_roundw
            case rel => exact ⟨m + 1, by omega, by go_num, HUU.out, HB5.out⟩
            case measure => simp [intOf]; omega
          · have hne : (q != 0) = true := by simpa using hz
            have HEQ := Lib.hid (HE.out.trans ((HFS.out (m + 1) (by rw [HUU.out]; exact hz) (by omega)).trans HUU.out))
            clear hz
            go_wp2_with fail
            refine hc.mono ?_
            rintro e w5 ⟨rfl, hb5⟩
            have HB5 := Lib.hid (HB.out.trans (hb5.mono HB.out.size))
            clear hb5 hc
            go_wp2_with fail
            go_ret
            exact ⟨by rw [HEQ.out]; rfl, HB5.out⟩
        · obtain rfl : m = k := by omega
          have HEQ := Lib.hid (HE.out.trans HF.out)
          go_wp2_with fail
          go_ret
          exact ⟨by rw [HEQ.out]; rfl, HB.out⟩
end Go.Proofs.Ythegcbpmammokaa

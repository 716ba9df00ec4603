/-
  Glider in this seat: whether a run is fetched; what some runs visited.
-/
import Derived.Test.YthegcbpmammokaaGlF
namespace Go.Proofs.Ythegcbpmammokaa
open Go.RowKit
set_option linter.unusedSimpArgs false
set_option maxHeartbeats 4000000
set_option maxRecDepth 100000
theorem inTime_any (a b c d f t x : Int) (w : World) :
    Calls Try.prog 58 #[.agg #[.int .i64 a, .int .i64 b, .int .i64 c, .int .i64 d, .int .i64 f, .int .i64 t], .int .i64 x] w fun e w' => e = .returned (.bool (decide (f ≤ x ∧ x ≤ t))) ∧ Below w.heap.size w w' := by
  have c1 := fun W => within46 x f t W
  generalize decide (f ≤ x ∧ x ≤ t) = p at *
  go_enter Try.func58, Try.ntmps58
  go_wp2_with fail
  refine (c1 _).mono ?_
  rintro e w1 ⟨rfl, rfl⟩
  go_wp2_with fail
  go_ret
  exact ⟨rfl, (Below.refl _ _).alloc (Nat.le_refl _) _⟩
/-- when a dive ends -/
def tmD (t d : Int) (k : Nat) : Int := t + (k : Int) * d
theorem tmD_succ (t d : Int) (k : Nat) : tmD t d (k + 1) = tmD t d k + d := by unfold tmD; push_cast; rw [Int.add_mul, Int.one_mul]; omega
theorem tmD_bd {t d : Int} (ht : 0 ≤ t ∧ t ≤ 1073741824) (hd : 1 ≤ d ∧ d ≤ 131072) {k : Nat} (hk : k ≤ 65) : 0 ≤ tmD t d k ∧ tmD t d k ≤ 1082261504 := by
  unfold tmD
  have h1 : 0 ≤ (k : Int) * d := Int.mul_nonneg (by omega) (by omega)
  have h2 : (k : Int) * d ≤ 65 * 131072 := Int.mul_le_mul (by omega) hd.2 (by omega) (by omega)
  omega
/-- the boxes of the first k dives that end in time -/
def fetT (t d f u : Int) (zs : List Q4) : Nat → List Q4
  | 0 => []
  | k + 1 => if decide (f ≤ tmD t d (k + 1) ∧ tmD t d (k + 1) ≤ u) = true then fetT t d f u zs k ++ [q4 zs k] else fetT t d f u zs k
theorem fetT_len (t d f u : Int) (zs : List Q4) : ∀ k, (fetT t d f u zs k).length ≤ k
  | 0 => Nat.le_refl _
  | k + 1 => by
    have := fetT_len t d f u zs k
    simp only [fetT]
    split
    · simp; omega
    · omega
def fetV (t d f u : Int) (zs : List Q4) (y : Q4) : Int := anyV (fetT t d f u zs zs.length) y
theorem fetched_any (vs vd v0 v1 v2 v3 vr t pf pu : Int) (y : Q4) (sv : Value) (zs : List Q4) (ht : 0 ≤ t ∧ t ≤ 1073741824) (hd : 1 ≤ vd ∧ vd ≤ 131072) (hl : zs.length ≤ 64) (w : World) (hZ : Q4s w.heap.size w sv zs) :
    Calls Try.prog 36 #[.agg #[.int .i64 vs, .int .i64 vd, .int .i64 v0, .int .i64 v1, .int .i64 v2, .int .i64 v3, .int .i64 vr], .int .i64 t, sv, .agg #[.int .i64 y.a, .int .i64 y.b, .int .i64 y.c, .int .i64 y.d, .int .i64 pf, .int .i64 pu]] w fun e w' => e = .returned (.int .i64 (fetV t vd pf pu zs y)) ∧ Below w.heap.size w w' := by
  obtain ⟨a, cap, rfl⟩ := hZ.form
  have HG := Lib.hid hZ.get
  clear hZ
  have HTU := Lib.hid (fun k => show fetT t vd pf pu zs (k + 1) = if decide (pf ≤ tmD t vd (k + 1) ∧ tmD t vd (k + 1) ≤ pu) = true then fetT t vd pf pu zs k ++ [q4 zs k] else fetT t vd pf pu zs k from rfl)
  have HTL := Lib.hid (fun k => fetT_len t vd pf pu zs k)
  have HT0 := Lib.hid (show fetT t vd pf pu zs 0 = [] from rfl)
  have HV := Lib.hid (show fetV t vd pf pu zs y = anyV (fetT t vd pf pu zs zs.length) y from rfl)
  have HMS := Lib.hid (fun k => tmD_succ t vd k)
  have HMB := Lib.hid (fun k (hk : k ≤ 65) => tmD_bd ht hd hk)
  have HM0 := Lib.hid (show t = tmD t vd 0 by unfold tmD; simp)
  have c58 := Lib.hid (fun x W => inTime_any y.a y.b y.c y.d pf pu x W)
  have c59 := Lib.hid (fun v zs' (h : zs'.length ≤ 1000) W hW => anyInside_any v zs' y h W hW)
  generalize fetV t vd pf pu zs y = fv at *
  generalize fetT t vd pf pu zs = T at *
  generalize tmD t vd = TM at *
  generalize hAV : (fun l => anyV l y) = AV
  have HAV := Lib.hid (show ∀ l, anyV l y = AV l from fun l => by rw [← hAV])
  clear hAV
  generalize y.a = ya at *
  generalize y.b = yb at *
  generalize y.c = yc at *
  generalize y.d = yd at *
  generalize zs.length = len at *
  obtain ⟨i0, hi0, hz0, hz1, hz2⟩ := info_parts infoB
  obtain ⟨A, hA⟩ : ∃ A, A = (w.alloc (.cells #[.int .i64 vs, .int .i64 vd, .int .i64 v0, .int .i64 v1, .int .i64 v2, .int .i64 v3, .int .i64 vr] 41)).alloc (.cells #[.int .i64 ya, .int .i64 yb, .int .i64 yc, .int .i64 yd, .int .i64 pf, .int .i64 pu] 44) := ⟨_, rfl⟩
  obtain ⟨k, j, hzA, hBA⟩ := boxed_two w #[.int .i64 vs, .int .i64 vd, .int .i64 v0, .int .i64 v1, .int .i64 v2, .int .i64 v3, .int .i64 vr] #[.int .i64 ya, .int .i64 yb, .int .i64 yc, .int .i64 yd, .int .i64 pf, .int .i64 pu] 41 44
  rw [← hA] at k j hzA hBA
  have HBA := Lib.hid hBA
  have KK := Lib.hid (show ∀ W, Below A.heap.size A W → W.cell? ⟨w.heap.size, 1, none⟩ = some (.int .i64 vd) ∧ W.cell? ⟨w.heap.size + 1, 0, none⟩ = some (.int .i64 ya) ∧ W.cell? ⟨w.heap.size + 1, 1, none⟩ = some (.int .i64 yb) ∧ W.cell? ⟨w.heap.size + 1, 2, none⟩ = some (.int .i64 yc) ∧ W.cell? ⟨w.heap.size + 1, 3, none⟩ = some (.int .i64 yd) ∧ W.cell? ⟨w.heap.size + 1, 4, none⟩ = some (.int .i64 pf) ∧ W.cell? ⟨w.heap.size + 1, 5, none⟩ = some (.int .i64 pu) from fun W h => ⟨(h.cell (p := ⟨w.heap.size, 1, none⟩) (by show w.heap.size < A.heap.size; omega)).trans (k 1), (h.cell (p := ⟨w.heap.size + 1, 0, none⟩) (by show w.heap.size + 1 < A.heap.size; omega)).trans (j 0), (h.cell (p := ⟨w.heap.size + 1, 1, none⟩) (by show w.heap.size + 1 < A.heap.size; omega)).trans (j 1), (h.cell (p := ⟨w.heap.size + 1, 2, none⟩) (by show w.heap.size + 1 < A.heap.size; omega)).trans (j 2), (h.cell (p := ⟨w.heap.size + 1, 3, none⟩) (by show w.heap.size + 1 < A.heap.size; omega)).trans (j 3), (h.cell (p := ⟨w.heap.size + 1, 4, none⟩) (by show w.heap.size + 1 < A.heap.size; omega)).trans (j 4), (h.cell (p := ⟨w.heap.size + 1, 5, none⟩) (by show w.heap.size + 1 < A.heap.size; omega)).trans (j 5)⟩)
  clear k j hzA hBA
  go_enter Try.func36, Try.ntmps36
  go_upto_region 1 with fail
  rw [← hA]
  clear hA
  go_wp2_with fail
  go_loopw [1, 9, 14] (fun tv v i wr => ∃ k : Nat, k ≤ len ∧ i = .int .i64 k ∧ tv = .int .i64 (TM k) ∧ wr.ownsRow A.heap.size 29 4 v (T k).length (flatQ (T k)) ∧ Below A.heap.size A wr) (fun _ _ i _ => len - (intOf i).toNat)
  case atStart => exact ⟨0, Nat.zero_le _, rfl, by rw [← HM0.out], by rw [HT0.out]; exact World.ownsRow_nil _ _ _ _, Below.refl _ _⟩
  case round =>
    obtain ⟨k, hk, rfl, rfl, hrow, hB⟩ := hrel
    have HB := Lib.hid hB
    have HRow := Lib.hid hrow
    have hsz := hB.size
    obtain ⟨k0, j0, j1, j2, j3, j4, j5⟩ := KK.out _ hB
    clear hrow hB
    by_cases hlt : k < len
    · have hki : (k : Int) < (len : Int) := by omega
      obtain ⟨b, off, rfl, hb, q0, q1, q2, q3⟩ := HG.out k hlt
      have HWA := Lib.hid (HBA.out.trans (HB.out.mono HBA.out.size))
      have m0 := (HWA.out.cell (p := ⟨b, _, none⟩) hb).trans q0
      have m1 := (HWA.out.cell (p := ⟨b, _, none⟩) hb).trans q1
      have m2 := (HWA.out.cell (p := ⟨b, _, none⟩) hb).trans q2
      have m3 := (HWA.out.cell (p := ⟨b, _, none⟩) hb).trans q3
      have hms := HMS.out k
      have hmb := HMB.out k (by omega)
      have hmb2 := HMB.out (k + 1) (by omega)
      have hc := c58.out (TM (k + 1))
      have ht2 := HTU.out k
      have hl2 := HTL.out k
      clear q0 q1 q2 q3
      generalize decide (pf ≤ TM (k + 1) ∧ TM (k + 1) ≤ pu) = bb at *
      generalize q4 zs k = qk at *
      obtain ⟨xa, xb, xc, xd⟩ := qk
      dsimp only at m0 m1 m2 m3
      generalize hm1 : TM (k + 1) = M1 at *
      have HM1 := Lib.hid hm1
      generalize TM k = M0 at *
      rw [hms] at hc
      have HMM := Lib.hid hms
      clear hms hm1
      go_upto_region 5 with fail
      obtain ⟨V, hV⟩ : ∃ V, V = wr.alloc (.cells #[.int .i64 xa, .int .i64 xb, .int .i64 xc, .int .i64 xd] 29) := ⟨_, rfl⟩
      try rw [← hV]
      have HVB := Lib.hid (show Below A.heap.size A V by rw [hV]; exact HB.out.alloc hsz _)
      have HVR := Lib.hid (show Below wr.heap.size wr V by rw [hV]; exact (Below.refl _ _).alloc (Nat.le_refl _) _)
      have hzv : wr.heap.size < V.heap.size := by rw [hV]; simp
      have kv : ∀ o, V.cell? ⟨wr.heap.size, o, none⟩ = (#[.int .i64 xa, .int .i64 xb, .int .i64 xc, .int .i64 xd] : Array Value)[o]? := fun o => cellHB (by rw [hV]; exact World.alloc_heap_new wr _) o
      have KV := Lib.hid (show ∀ W, Below V.heap.size V W → W.cell? ⟨wr.heap.size, 0, none⟩ = some (.int .i64 xa) ∧ W.cell? ⟨wr.heap.size, 1, none⟩ = some (.int .i64 xb) ∧ W.cell? ⟨wr.heap.size, 2, none⟩ = some (.int .i64 xc) ∧ W.cell? ⟨wr.heap.size, 3, none⟩ = some (.int .i64 xd) from fun W h => ⟨(h.cell (p := ⟨wr.heap.size, 0, none⟩) hzv).trans (kv 0), (h.cell (p := ⟨wr.heap.size, 1, none⟩) hzv).trans (kv 1), (h.cell (p := ⟨wr.heap.size, 2, none⟩) hzv).trans (kv 2), (h.cell (p := ⟨wr.heap.size, 3, none⟩) hzv).trans (kv 3)⟩)
      clear hV kv k0 j0 j1 j2 j3 j4 j5 m0 m1 m2 m3 hzv
      obtain ⟨k0, j0, j1, j2, j3, j4, j5⟩ := KK.out _ HVB.out
      go_wp2_with fail
      refine (hc _).mono ?_
      rintro e w5 ⟨rfl, hb5⟩
      have HB5 := Lib.hid (HVB.out.trans (hb5.mono HVB.out.size))
      have HRow5 := Lib.hid (own_below HRow.out (HVR.out.trans (hb5.mono HVR.out.size)))
      have hs5 := HB5.out.size
      obtain ⟨n0, n1, n2, n3⟩ := KV.out _ hb5
      clear hb5 hc k0 j0 j1 j2 j3 j4 j5
      cases bb
      · rw [if_neg (by decide)] at ht2
        have HT2 := Lib.hid ht2
        clear ht2
        go_wp2_with fail
        go_roundw
        case rel => exact ⟨k + 1, by omega, by go_num, by rw [HM1.out, HMM.out], by rw [HT2.out]; exact HRow5.out, HB5.out⟩
        case measure => simp [intOf]; omega
      · rw [if_pos rfl] at ht2
        have HT2 := Lib.hid ht2
        generalize hnl : flatQ (T k) = nl at *
        have HNL := Lib.hid hnl
        generalize htl : (T k).length = tl at *
        have HTLk := Lib.hid htl
        clear hnl htl ht2
        go_wp2_with (at_builtin; refine wpList_append_own _ rfl _ _ 45 rfl A.heap.size 29 i0 (.agg #[.int .i64 0, .int .i64 0, .int .i64 0, .int .i64 0]) 4 32 Try.underlying45 hi0 hz0 hz1 hz2 rfl (by decide) _ _ _ rfl (HRow5.out.alloc _) ⟨w5.heap.size, 0, none⟩ 1 1 [.int .i64 xa, .int .i64 xb, .int .i64 xc, .int .i64 xd] rfl rfl (four_newB _ _ _ _ _) (by simp [Value.oneCell']) (by unfold maxLen; omega) (by omega) (by simp; omega) ?_; intro v' w6 hrow' hgrow _)
        have hB6 : Below A.heap.size A w6 := (HB5.out.alloc hs5 _).grown hgrow (by simp; omega) (fun j hj => (HRow5.out.lt j hj).1)
        go_roundw
        case rel => exact ⟨k + 1, by omega, by go_num, by rw [HM1.out, HMM.out], by rw [HT2.out, flatQ_snoc, HNL.out, List.length_append, HTLk.out]; exact hrow', hB6⟩
        case measure => simp [intOf]; omega
    · obtain rfl : k = len := by omega
      have hq := q4s_of_owns HRow.out
      have hc := c59.out u9 (T k) (by have := HTL.out k; omega) wr hq
      rw [HAV.out] at hc
      have HVV := Lib.hid (HV.out.trans (HAV.out _))
      obtain ⟨a1, c1, rfl⟩ := hq.form
      clear hq c59 HV
      generalize AV (T k) = rv at *
      go_wp2_with fail
      refine hc.mono ?_
      rintro e w5 ⟨rfl, hb⟩
      have HB5 := Lib.hid (HB.out.trans (hb.mono HB.out.size))
      clear hc hb
      go_wp2_with fail
      go_ret
      exact ⟨by rw [HVV.out]; rfl, HBA.out.trans (HB5.out.mono HBA.out.size)⟩
/-- the answers of some runs -/
def visR (rs : List (List Q4)) (y : Q4) : List Int := rs.map (anyV · y)
def visT (rs : List (List Q4)) (y : Q4) (k : Nat) : List Int := (rs.take k).map (anyV · y)
theorem visT_succ {rs : List (List Q4)} {y : Q4} {k : Nat} (hk : k < rs.length) : visT rs y (k + 1) = visT rs y k ++ [anyV (rn rs k) y] := by
  unfold visT rn
  rw [List.take_add_one, List.getElem?_eq_getElem hk, List.map_append]
  simp
theorem visT_all (rs : List (List Q4)) (y : Q4) : visT rs y rs.length = visR rs y := by simp [visT, visR]
theorem visT_len (rs : List (List Q4)) (y : Q4) (k : Nat) : (visT rs y k).length ≤ rs.length := by simp [visT]; omega
def visV (rs : List (List Q4)) (y : Q4) : Int := (anyS (visR rs y)).v
theorem visited_any (sv : Value) (rs : List (List Q4)) (y : Q4) (hl : rs.length ≤ 8) (hl2 : ∀ k, k < rs.length → (rn rs k).length ≤ 64) (w : World) (hR : Rns w.heap.size w sv rs) :
    Calls Try.prog 41 #[.agg #[.int .i64 y.a, .int .i64 y.b, .int .i64 y.c, .int .i64 y.d], sv] w fun e w' => e = .returned (.int .i64 (visV rs y)) ∧ Below w.heap.size w w' := by
  obtain ⟨a, cap, rfl⟩ := hR.form
  have HG := Lib.hid (fun k hk => show ∃ b off s, a = some ⟨b, off, none⟩ ∧ b < w.heap.size ∧ w.cell? ⟨b, off + k, none⟩ = some s ∧ Q4s w.heap.size w s (rn rs k) from hR.get k hk)
  clear hR
  have HTS := Lib.hid (fun k (hk : k < rs.length) => visT_succ (y := y) hk)
  have HTL := Lib.hid (fun k => visT_len rs y k)
  have HTA := Lib.hid (visT_all rs y)
  have HT0 := Lib.hid (show visT rs y 0 = [] from rfl)
  have HV := Lib.hid (show visV rs y = (anyS (visR rs y)).v from rfl)
  have c59 := Lib.hid (fun v k (hk : k < rs.length) W hW => anyInside_any v (rn rs k) y (by have := hl2 k hk; omega) W hW)
  have c13 := Lib.hid (fun v W hv => any_any (visR rs y) v W hv)
  clear hl2
  generalize visV rs y = av at *
  generalize visT rs y = T at *
  generalize visR rs y = R at *
  have hRL : R.length ≤ rs.length := by rw [← HTA.out]; exact HTL.out _
  have HRL := Lib.hid hRL
  clear hRL
  generalize hIV : (fun k => anyV (rn rs k) y) = IV
  have HIV := Lib.hid (show ∀ k, anyV (rn rs k) y = IV k from fun k => by rw [← hIV])
  clear hIV
  generalize y.a = ya at *
  generalize y.b = yb at *
  generalize y.c = yc at *
  generalize y.d = yd at *
  generalize rs.length = len at *
  obtain ⟨i0, hi0, hz0, hz1, hz2⟩ := info_parts infoA
  obtain ⟨A, hA⟩ : ∃ A, A = w.alloc (.cells #[.int .i64 ya, .int .i64 yb, .int .i64 yc, .int .i64 yd] 29) := ⟨_, rfl⟩
  have HBA := Lib.hid (show Below w.heap.size w A by rw [hA]; exact (Below.refl _ _).alloc (Nat.le_refl _) _)
  have hzA : A.heap.size = w.heap.size + 1 := by rw [hA]; simp
  have k : ∀ o, A.cell? ⟨w.heap.size, o, none⟩ = (#[.int .i64 ya, .int .i64 yb, .int .i64 yc, .int .i64 yd] : Array Value)[o]? := fun o => cellHB (by rw [hA]; exact World.alloc_heap_new w _) o
  have KK := Lib.hid (show ∀ W, Below A.heap.size A W → W.cell? ⟨w.heap.size, 0, none⟩ = some (.int .i64 ya) ∧ W.cell? ⟨w.heap.size, 1, none⟩ = some (.int .i64 yb) ∧ W.cell? ⟨w.heap.size, 2, none⟩ = some (.int .i64 yc) ∧ W.cell? ⟨w.heap.size, 3, none⟩ = some (.int .i64 yd) from fun W h => ⟨(h.cell (p := ⟨w.heap.size, 0, none⟩) (by show w.heap.size < A.heap.size; omega)).trans (k 0), (h.cell (p := ⟨w.heap.size, 1, none⟩) (by show w.heap.size < A.heap.size; omega)).trans (k 1), (h.cell (p := ⟨w.heap.size, 2, none⟩) (by show w.heap.size < A.heap.size; omega)).trans (k 2), (h.cell (p := ⟨w.heap.size, 3, none⟩) (by show w.heap.size < A.heap.size; omega)).trans (k 3)⟩)
  clear k hzA
  go_enter Try.func41, Try.ntmps41
  go_upto_region 1 with fail
  rw [← hA]
  clear hA
  go_wp2_with fail
  go_loopw [5, 12] (fun v i wr => ∃ k : Nat, k ≤ len ∧ i = .int .i64 k ∧ wr.ownsRow A.heap.size 46 1 v (T k).length (numv (T k)) ∧ Below A.heap.size A wr) (fun _ i _ => len - (intOf i).toNat)
  case atStart => exact ⟨0, Nat.zero_le _, rfl, by rw [HT0.out]; exact World.ownsRow_nil _ _ _ _, Below.refl _ _⟩
  case round =>
    obtain ⟨k, hk, rfl, hrow, hB⟩ := hrel
    have HB := Lib.hid hB
    have HRow := Lib.hid hrow
    have hsz := hB.size
    obtain ⟨k0, k1, k2, k3⟩ := KK.out _ hB
    clear hrow hB
    by_cases hlt : k < len
    · have hki : (k : Int) < (len : Int) := by omega
      obtain ⟨b, off, s, rfl, hb, q0, q1⟩ := HG.out k hlt
      have HWA := Lib.hid (HBA.out.trans (HB.out.mono HBA.out.size))
      have m0 := (HWA.out.cell (p := ⟨b, off + k, none⟩) hb).trans q0
      have hc := c59.out s k hlt wr (q1.mono HWA.out HWA.out.size)
      have ht := HTS.out k hlt
      have hl3 := HTL.out k
      rw [HIV.out] at hc ht
      have HT := Lib.hid ht
      obtain ⟨a1, c1, rfl⟩ := q1.form
      clear q0 q1 ht
      generalize (rn rs k).length = ln at *
      generalize IV k = iv at *
      generalize hnl : numv (T k) = nl at *
      have HNL := Lib.hid hnl
      generalize htl : (T k).length = tl at *
      have HTLk := Lib.hid htl
      clear hnl htl
      go_wp2_with fail
      refine hc.mono ?_
      rintro e w5 ⟨rfl, hb5⟩
      have HB5 := Lib.hid (HB.out.trans (hb5.mono HB.out.size))
      have HRow5 := Lib.hid (own_below HRow.out hb5)
      have hs5 := HB5.out.size
      clear hb5 hc k0 k1 k2 k3
      go_wp2_with (at_builtin; refine wpList_append_own _ rfl _ _ 49 rfl A.heap.size 46 i0 (.int .i64 0) 1 8 Try.underlying49 hi0 hz0 hz1 hz2 rfl (by decide) _ _ _ rfl (HRow5.out.alloc _) ⟨w5.heap.size, 0, none⟩ 1 1 [.int .i64 iv] rfl rfl (one_newA _ _) (by simp [Value.oneCell']) (by unfold maxLen; omega) (by omega) (by simp; omega) ?_; intro v' w6 hrow' hgrow _)
      have hB6 : Below A.heap.size A w6 := (HB5.out.alloc hs5 _).grown hgrow (by simp; omega) (fun j hj => (HRow5.out.lt j hj).1)
      go_roundw
      case rel => exact ⟨k + 1, by omega, by go_num, by rw [HT.out, numv_snoc, HNL.out, List.length_append, HTLk.out]; exact hrow', hB6⟩
      case measure => simp [intOf]; omega
    · obtain rfl : k = len := by omega
      have hr := HRow.out
      rw [HTA.out] at hr
      have hsl := sla_of_owns (by have := HRL.out; omega) hr
      have hc := c13.out _ _ hsl
      obtain ⟨a1, c1, rfl⟩ := own_form hr
      clear hr hsl c13
      generalize (anyS R).v = rv at *
      generalize (anyS R).e = re at *
      go_wp2_with fail
      refine hc.mono ?_
      rintro e w5 ⟨rfl, hw⟩
      subst hw
      clear hc
      go_wp2_with fail
      go_ret
      exact ⟨by rw [HV.out]; rfl, HBA.out.trans (HB.out.mono HBA.out.size)⟩
end Go.Proofs.Ythegcbpmammokaa

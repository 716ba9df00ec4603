/-
  Glider in this seat: whether any box is in a box; which boxes count; what some runs visited.
-/
import Derived.Test.YthegcbpmammokaaGlE
namespace Go.Proofs.Ythegcbpmammokaa
open Go.RowKit
set_option linter.unusedSimpArgs false
set_option maxHeartbeats 4000000
set_option maxRecDepth 100000
/-- the answers of the boxes of a run -/
def ansR (zs : List Q4) (y : Q4) : List Int := zs.map (insV · y)
def ansT (zs : List Q4) (y : Q4) (k : Nat) : List Int := (zs.take k).map (insV · y)
theorem ansT_zero (zs : List Q4) (y : Q4) : ansT zs y 0 = [] := rfl
theorem ansT_succ {zs : List Q4} {y : Q4} {k : Nat} (hk : k < zs.length) : ansT zs y (k + 1) = ansT zs y k ++ [insV (q4 zs k) y] := by
  unfold ansT q4
  rw [List.take_add_one, List.getElem?_eq_getElem hk, List.map_append]
  simp
theorem ansT_all (zs : List Q4) (y : Q4) : ansT zs y zs.length = ansR zs y := by simp [ansT, ansR]
theorem ansT_len (zs : List Q4) (y : Q4) (k : Nat) : (ansT zs y k).length ≤ zs.length := by simp [ansT]; omega
def anyV (zs : List Q4) (y : Q4) : Int := (anyS (ansR zs y)).v
theorem anyInside_any (sv : Value) (zs : List Q4) (y : Q4) (hl : zs.length ≤ 1000) (w : World) (hZ : Q4s w.heap.size w sv zs) :
    Calls Try.prog 59 #[sv, .agg #[.int .i64 y.a, .int .i64 y.b, .int .i64 y.c, .int .i64 y.d]] w fun e w' => e = .returned (.int .i64 (anyV zs y)) ∧ Below w.heap.size w w' := by
  obtain ⟨a, cap, rfl⟩ := hZ.form
  have HG := Lib.hid hZ.get
  clear hZ
  have HTS := Lib.hid (fun k (hk : k < zs.length) => ansT_succ (y := y) hk)
  have HTL := Lib.hid (fun k => ansT_len zs y k)
  have HTA := Lib.hid (ansT_all zs y)
  have HT0 := Lib.hid (ansT_zero zs y)
  have HV := Lib.hid (show anyV zs y = (anyS (ansR zs y)).v from rfl)
  have c49 := Lib.hid (fun k W => inside_any (q4 zs k) y W)
  have c13 := Lib.hid (fun v W hv => any_any (ansR zs y) v W hv)
  generalize anyV zs y = av at *
  generalize ansT zs y = T at *
  generalize ansR zs y = R at *
  have hRL : R.length ≤ zs.length := by rw [← HTA.out]; exact HTL.out _
  have HRL := Lib.hid hRL
  clear hRL
  generalize hIV : (fun k => insV (q4 zs k) y) = IV
  have HIV := Lib.hid (show ∀ k, insV (q4 zs k) y = IV k from fun k => by rw [← hIV])
  clear hIV
  generalize y.a = ya at *
  generalize y.b = yb at *
  generalize y.c = yc at *
  generalize y.d = yd at *
  generalize zs.length = len at *
  obtain ⟨i0, hi0, hz0, hz1, hz2⟩ := info_parts infoA
  obtain ⟨A, hA⟩ : ∃ A, A = w.alloc (.cells #[.int .i64 ya, .int .i64 yb, .int .i64 yc, .int .i64 yd] 29) := ⟨_, rfl⟩
  have HBA := Lib.hid (show Below w.heap.size w A by rw [hA]; exact (Below.refl _ _).alloc (Nat.le_refl _) _)
  have hzA : A.heap.size = w.heap.size + 1 := by rw [hA]; simp
  have k : ∀ o, A.cell? ⟨w.heap.size, o, none⟩ = (#[.int .i64 ya, .int .i64 yb, .int .i64 yc, .int .i64 yd] : Array Value)[o]? := fun o => cellHB (by rw [hA]; exact World.alloc_heap_new w _) o
  have KK := Lib.hid (show ∀ W, Below A.heap.size A W → W.cell? ⟨w.heap.size, 0, none⟩ = some (.int .i64 ya) ∧ W.cell? ⟨w.heap.size, 1, none⟩ = some (.int .i64 yb) ∧ W.cell? ⟨w.heap.size, 2, none⟩ = some (.int .i64 yc) ∧ W.cell? ⟨w.heap.size, 3, none⟩ = some (.int .i64 yd) from fun W h => ⟨(h.cell (p := ⟨w.heap.size, 0, none⟩) (by show w.heap.size < A.heap.size; omega)).trans (k 0), (h.cell (p := ⟨w.heap.size, 1, none⟩) (by show w.heap.size < A.heap.size; omega)).trans (k 1), (h.cell (p := ⟨w.heap.size, 2, none⟩) (by show w.heap.size < A.heap.size; omega)).trans (k 2), (h.cell (p := ⟨w.heap.size, 3, none⟩) (by show w.heap.size < A.heap.size; omega)).trans (k 3)⟩)
  clear k hzA
  go_enter Try.func59, Try.ntmps59
  go_upto_region 1 with fail
  rw [← hA]
  clear hA
  go_wp2_with fail
  go_loopw [5, 12] (fun v i wr => ∃ k : Nat, k ≤ len ∧ i = .int .i64 k ∧ wr.ownsRow A.heap.size 46 1 v (T k).length (numv (T k)) ∧ Below A.heap.size A wr) (fun _ i _ => len - (intOf i).toNat)
  case atStart => exact ⟨0, Nat.zero_le _, rfl, by rw [HT0.out]; exact World.ownsRow_nil _ _ _ _, Below.refl _ _⟩
  case round =>
    obtain ⟨k, hk, rfl, hrow, hB⟩ := hrel
    have HB := Lib.hid hB
    have HRow := Lib.hid hrow
    have hsz := hB.size
    obtain ⟨k0, k1, k2, k3⟩ := KK.out _ hB
    clear hrow hB
    by_cases hlt : k < len
    · have hki : (k : Int) < (len : Int) := by omega
      obtain ⟨b, off, rfl, hb, q0, q1, q2, q3⟩ := HG.out k hlt
      have HWA := Lib.hid (HBA.out.trans (HB.out.mono HBA.out.size))
      have m0 := (HWA.out.cell (p := ⟨b, _, none⟩) hb).trans q0
      have m1 := (HWA.out.cell (p := ⟨b, _, none⟩) hb).trans q1
      have m2 := (HWA.out.cell (p := ⟨b, _, none⟩) hb).trans q2
      have m3 := (HWA.out.cell (p := ⟨b, _, none⟩) hb).trans q3
      have hc := c49.out k
      have ht := HTS.out k hlt
      have hl := HTL.out k
      rw [HIV.out] at hc ht
      have HT := Lib.hid ht
      clear q0 q1 q2 q3 ht
      generalize IV k = iv at *
      generalize (q4 zs k).a = xa at *
      generalize (q4 zs k).b = xb at *
      generalize (q4 zs k).c = xc at *
      generalize (q4 zs k).d = xd at *
      generalize hnl : numv (T k) = nl at *
      have HNL := Lib.hid hnl
      generalize htl : (T k).length = tl at *
      have HTLk := Lib.hid htl
      clear hnl htl
      go_upto_region 5 with fail
      obtain ⟨V, hV⟩ : ∃ V, V = wr.alloc (.cells #[.int .i64 xa, .int .i64 xb, .int .i64 xc, .int .i64 xd] 29) := ⟨_, rfl⟩
      try rw [← hV]
      have HVB := Lib.hid (show Below A.heap.size A V by rw [hV]; exact HB.out.alloc hsz _)
      have HVR := Lib.hid (show Below wr.heap.size wr V by rw [hV]; exact (Below.refl _ _).alloc (Nat.le_refl _) _)
      have kv : ∀ o, V.cell? ⟨wr.heap.size, o, none⟩ = (#[.int .i64 xa, .int .i64 xb, .int .i64 xc, .int .i64 xd] : Array Value)[o]? := fun o => cellHB (by rw [hV]; exact World.alloc_heap_new wr _) o
      have v0 := kv 0
      have v1 := kv 1
      have v2 := kv 2
      have v3 := kv 3
      simp only [List.getElem?_toArray, List.getElem?_cons_zero, List.getElem?_cons_succ] at v0 v1 v2 v3
      clear hV kv k0 k1 k2 k3 m0 m1 m2 m3
      obtain ⟨k0, k1, k2, k3⟩ := KK.out _ HVB.out
      go_wp2_with fail
      refine (hc _).mono ?_
      rintro e w5 ⟨rfl, hb5⟩
      have HB5 := Lib.hid (HVB.out.trans (hb5.mono HVB.out.size))
      have HRow5 := Lib.hid (own_below HRow.out (HVR.out.trans (hb5.mono HVR.out.size)))
      have hs5 := HB5.out.size
      clear hb5 hc v0 v1 v2 v3 k0 k1 k2 k3
      go_wp2_with (at_builtin; refine wpList_append_own _ rfl _ _ 49 rfl A.heap.size 46 i0 (.int .i64 0) 1 8 Try.underlying49 hi0 hz0 hz1 hz2 rfl (by decide) _ _ _ rfl (HRow5.out.alloc _) ⟨w5.heap.size, 0, none⟩ 1 1 [.int .i64 iv] rfl rfl (one_newA _ _) (by simp [Value.oneCell']) (by unfold maxLen; omega) (by omega) (by simp; omega) ?_; intro v' w6 hrow' hgrow _)
      have hB6 : Below A.heap.size A w6 := (HB5.out.alloc hs5 _).grown hgrow (by simp; omega) (fun j hj => (HRow5.out.lt j hj).1)
      go_roundw
      case rel => exact ⟨k + 1, by omega, by go_num, by rw [HT.out, numv_snoc, HNL.out, List.length_append, HTLk.out]; exact hrow', hB6⟩
      case measure => simp [intOf]; omega
    · obtain rfl : k = len := by omega
      have hr := HRow.out
      rw [HTA.out] at hr
      have hsl := sla_of_owns (by have := HRL.out; omega) hr
      have hc := c13.out _ _ hsl
      obtain ⟨a1, c1, rfl⟩ := own_form hr
      clear hr hsl c13
      generalize (anyS R).v = rv at *
      generalize (anyS R).e = re at *
      go_wp2_with fail
      refine hc.mono ?_
      rintro e w5 ⟨rfl, hw⟩
      subst hw
      clear hc
      go_wp2_with fail
      go_ret
      exact ⟨by rw [HV.out]; rfl, HBA.out.trans (HB.out.mono HBA.out.size)⟩
end Go.Proofs.Ythegcbpmammokaa

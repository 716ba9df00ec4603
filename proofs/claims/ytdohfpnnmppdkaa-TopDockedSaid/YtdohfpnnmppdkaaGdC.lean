/-
  GdC: Energy of a plan of dives that all take the use (layer 3), in the cable seat.
-/
import Derived.Test.YtdohfpnnmppdkaaGdB
import Derived.Maps.AppendAt
namespace Go.Proofs.Ytdohfpnnmppdkaa.Gd
open Go.RowKit Go.Shelf
set_option linter.unusedSimpArgs false
set_option maxHeartbeats 4000000
attribute [local go_sem] Oper.semAt_some
theorem infoE23 : (Try.prog.info? 23).map (fun i => (i.zero, i.size, i.bytes)) = some (some (.agg #[.int .i64 0, .int .i64 0]), 2, 16) := by kernel_rfl
theorem plan140 (pb m cap : Nat) (hm : m ≤ 64) (w : World) (hpb : pb < w.heap.size) (hc : ∀ j, j < m * 2 → w.cell? ⟨pb, j, none⟩ = some (.int .i64 0)) : Calls Try.prog 140 #[.slice (some ⟨pb, 0, none⟩) m cap, .int .i64 9223372036854775807] w fun e w' => e = .returned (.int .i64 0) ∧ Below w.heap.size w w' := by
  have c1 := fun W => within176 0 0 8 W
  have c2 := fun W => within176 0 0 9223372036854775807 W
  rw [show decide ((0 : Int) ≤ 0 ∧ (0 : Int) ≤ 8) = true by decide] at c1
  rw [show decide ((0 : Int) ≤ 0 ∧ (0 : Int) ≤ 9223372036854775807) = true by decide] at c2
  have HC := Lib.hid (show ∀ W j, Below w.heap.size w W → j < m * 2 → W.cell? ⟨pb, j, none⟩ = some (.int .i64 0) from fun W j h hj => (h.cell (p := ⟨pb, j, none⟩) hpb).trans (hc j hj))
  clear hc
  go_enter Try.func140, Try.ntmps140
  go_wp2_with fail
  go_loopw [12] (fun iv wr => ∃ k : Nat, k ≤ m ∧ iv = .int .i64 k ∧ Below w.heap.size w wr) (fun iv _ => m - (intOf iv).toNat)
  case atStart => exact ⟨0, Nat.zero_le _, rfl, Below.refl _ _⟩
  case round =>
    obtain ⟨k, hk, rfl, hB⟩ := hrel
    have HB := Lib.hid hB
    clear hB
    by_cases hlt : k < m
    · have hki : (k : Int) < (m : Int) := by omega
      have m0 := HC.out _ (k * 2) HB.out (by omega)
      have m1 := HC.out _ (k * 2 + 1) HB.out (by omega)
      obtain ⟨V1, hV1⟩ : ∃ V1, V1 = wr.alloc (.cells #[.int .i64 0, .int .i64 0] 211) := ⟨_, rfl⟩
      have HB1 := Lib.hid (show Below w.heap.size w V1 by rw [hV1]; exact HB.out.alloc HB.out.size _)
      have x0 : V1.cell? ⟨wr.heap.size, 0, none⟩ = some (.int .i64 0) := by rw [hV1]; simp [go_sem]
      have x1 : V1.cell? ⟨wr.heap.size, 1, none⟩ = some (.int .i64 0) := by rw [hV1]; simp [go_sem]
      go_upto_region 6 with fail
      rw [← hV1]
      clear hV1 m0 m1 HC
      go_wp2_with fail
      refine (c1 _).mono ?_
      rintro e w1 ⟨rfl, rfl⟩
      go_wp2_with fail
      refine (c2 _).mono ?_
      rintro e w2 ⟨rfl, rfl⟩
      go_wp2_with fail
      go_roundw
      case rel => exact ⟨k + 1, by omega, by go_num, HB1.out⟩
      case measure => simp [intOf]; omega
    · obtain rfl : k = m := by omega
      go_wp2_with fail
      go_ret
      exact ⟨rfl, HB.out⟩
/-- what is left after each dive -/
def enL (a b u0 u1 : Int) : Nat → List Value
  | 0 => []
  | k + 1 => enL a b u0 u1 k ++ [.int .i64 (a - ((k + 1 : Nat) : Int) * u1), .int .i64 (b - ((k + 1 : Nat) : Int) * u0)]
theorem own_formE {W : World} {base n size : Nat} {t : TypeId} {v : Value} {xs : List Value} (h : W.ownsRow base t size v n xs) : ∃ a c, v = .slice a n c := by
  rcases h.2 with ⟨hv, h0⟩ | ⟨g, cap, cur, hv, _⟩
  · exact ⟨none, 0, by rw [h0]; exact hv⟩
  · exact ⟨_, cap, hv⟩
theorem two_newE (W : World) (y0 y1 : Value) (t : TypeId) : ∀ (j : Nat) (u : Value), [y0, y1][j]? = some u → (W.alloc (.cells #[y0, y1] t)).cell? ((⟨W.heap.size, 0, none⟩ : Addr).add j) = some u := by
  intro j u hj
  match j, hj with
  | 0, h => simp at h; subst h; simp [Addr.add, go_sem]
  | 1, h => simp at h; subst h; simp [Addr.add, go_sem]
theorem en_step {a b u0 u1 r : Int} {m k : Nat} (hu0 : 0 ≤ u0) (hu : u0 ≤ u1) (hab : a ≤ b) (hb : b ≤ 1073741824) (hr : 0 ≤ r) (hm : (m : Int) * u1 ≤ a - r) (hk : k < m) :
    vB (a - (k : Int) * u1) (b - (k : Int) * u0) = true ∧ 0 ≤ a - (k : Int) * u1 - u1 ∧ r ≤ a - (k : Int) * u1 - u1 ∧ a - (k : Int) * u1 - u1 = a - ((k + 1 : Nat) : Int) * u1 ∧ b - (k : Int) * u0 - u0 = b - ((k + 1 : Nat) : Int) * u0 := by
  have e1 : ((k + 1 : Nat) : Int) * u1 = (k : Int) * u1 + u1 := by rw [Int.natCast_add, Int.add_mul]; simp
  have e0 : ((k + 1 : Nat) : Int) * u0 = (k : Int) * u0 + u0 := by rw [Int.natCast_add, Int.add_mul]; simp
  have h1 : ((k + 1 : Nat) : Int) * u1 ≤ (m : Int) * u1 := Int.mul_le_mul_of_nonneg_right (by omega) (by omega)
  have h0 : 0 ≤ (k : Int) * u0 := Int.mul_nonneg (by omega) hu0
  have h2 : (k : Int) * u0 ≤ (k : Int) * u1 := Int.mul_le_mul_of_nonneg_left hu (by omega)
  rw [e1] at h1
  rw [e1, e0]
  generalize (k : Int) * u1 = p at *
  generalize (k : Int) * u0 = q at *
  generalize (m : Int) * u1 = s at *
  refine ⟨(vB_iff _ _).2 (by omega), by omega, by omega, by omega, by omega⟩
set_option maxRecDepth 100000 in
theorem energy141 (u0 u1 t0 t1 r a b : Int) (hu : vB u0 u1 = true) (hu0 : 0 ≤ u0) (hr : 0 ≤ r) (hab : vB a b = true) (pb m cap : Nat) (hm : m ≤ 64) (hme : (m : Int) * u1 ≤ a - r) (w : World) (hpb : pb < w.heap.size) (hc : ∀ j, j < m * 2 → w.cell? ⟨pb, j, none⟩ = some (.int .i64 0)) : Calls Try.prog 141 #[.agg #[.int .i64 0, .int .i64 1, .int .i64 u0, .int .i64 u1, .int .i64 t0, .int .i64 t1, .int .i64 r], .agg #[.int .i64 a, .int .i64 b], .slice (some ⟨pb, 0, none⟩) m cap] w fun e w' => ∃ la lc, e = .returned (.tuple #[.slice la m lc, .int .i64 (m : Int), .int .i64 0]) ∧ Below w.heap.size w w' := by
  obtain ⟨i2, hi2, hz20, hz21, hz22⟩ := info_parts infoE23
  have hu2 := (vB_iff _ _).1 hu
  have hab2 := (vB_iff _ _).1 hab
  have HS := Lib.hid (show ∀ k, k < m → (∀ W, Calls Try.prog 177 #[.agg #[.int .i64 0, .int .i64 1, .int .i64 u0, .int .i64 u1, .int .i64 t0, .int .i64 t1, .int .i64 r], .agg #[.int .i64 (a - (k : Int) * u1), .int .i64 (b - (k : Int) * u0)], .agg #[.int .i64 0, .int .i64 0]] W fun e w' => e = .returned (.tuple #[.agg #[.int .i64 (a - ((k + 1 : Nat) : Int) * u1), .int .i64 (b - ((k + 1 : Nat) : Int) * u0)], .bool true]) ∧ Below W.heap.size W w') from fun k hk W => by
    obtain ⟨s1, s2, s3, s4, s5⟩ := en_step (r := r) hu0 hu2.1 hab2.1 hab2.2.2 hr hme hk
    have q := spend177 u0 u1 t0 t1 r _ _ hu hu0 s1 s2 s3 W
    rw [s4, s5] at q
    exact q)
  have HEN := Lib.hid (show ∀ k, enL a b u0 u1 (k + 1) = enL a b u0 u1 k ++ [.int .i64 (a - ((k + 1 : Nat) : Int) * u1), .int .i64 (b - ((k + 1 : Nat) : Int) * u0)] from fun _ => rfl)
  have HE0 := Lib.hid (show enL a b u0 u1 0 = [] ∧ a - ((0 : Nat) : Int) * u1 = a ∧ b - ((0 : Nat) : Int) * u0 = b from ⟨rfl, by simp, by simp⟩)
  obtain ⟨LO, hLO⟩ : ∃ f : Nat → Int, f = fun (k : Nat) => a - (k : Int) * u1 := ⟨_, rfl⟩
  obtain ⟨HI, hHI⟩ : ∃ f : Nat → Int, f = fun (k : Nat) => b - (k : Int) * u0 := ⟨_, rfl⟩
  replace HS := Lib.hid (show ∀ k, k < m → (∀ W, Calls Try.prog 177 #[.agg #[.int .i64 0, .int .i64 1, .int .i64 u0, .int .i64 u1, .int .i64 t0, .int .i64 t1, .int .i64 r], .agg #[.int .i64 (LO k), .int .i64 (HI k)], .agg #[.int .i64 0, .int .i64 0]] W fun e w' => e = .returned (.tuple #[.agg #[.int .i64 (LO (k + 1)), .int .i64 (HI (k + 1))], .bool true]) ∧ Below W.heap.size W w') by rw [hLO, hHI]; exact HS.out)
  replace HEN := Lib.hid (show ∀ k, enL a b u0 u1 (k + 1) = enL a b u0 u1 k ++ [.int .i64 (LO (k + 1)), .int .i64 (HI (k + 1))] by rw [hLO, hHI]; exact HEN.out)
  replace HE0 := Lib.hid (show enL a b u0 u1 0 = [] ∧ LO 0 = a ∧ HI 0 = b by rw [hLO, hHI]; exact HE0.out)
  generalize enL a b u0 u1 = EN at *
  clear hLO hHI hu hab hu2 hab2 hme hr hu0
  obtain ⟨A, hA⟩ : ∃ A, A = (w.alloc (.cells #[.int .i64 0, .int .i64 1, .int .i64 u0, .int .i64 u1, .int .i64 t0, .int .i64 t1, .int .i64 r] 110)).alloc (.cells #[.int .i64 a, .int .i64 b] 23) := ⟨_, rfl⟩
  have HBA := Lib.hid (show Below w.heap.size w A by rw [hA]; exact ((Below.refl _ _).alloc (Nat.le_refl _) _).alloc (by simp) _)
  have HXA := Lib.hid (show Bx2 A (w.heap.size + 1) (.int .i64 a) (.int .i64 b) by
    have h := World.alloc_heap_new (w.alloc (.cells #[.int .i64 0, .int .i64 1, .int .i64 u0, .int .i64 u1, .int .i64 t0, .int .i64 t1, .int .i64 r] 110)) (.cells #[.int .i64 a, .int .i64 b] 23)
    rw [show (w.alloc (.cells #[.int .i64 0, .int .i64 1, .int .i64 u0, .int .i64 u1, .int .i64 t0, .int .i64 t1, .int .i64 r] 110)).heap.size = w.heap.size + 1 by simp] at h
    rw [hA]; exact h)
  have HVA := Lib.hid (show A.heap[w.heap.size]? = some (.cells #[.int .i64 0, .int .i64 1, .int .i64 u0, .int .i64 u1, .int .i64 t0, .int .i64 t1, .int .i64 r] 110 (0, 0)) by
    rw [hA]
    exact (Below.heap_alloc _ _ _ (by simp)).trans (World.alloc_heap_new w _))
  have HC := Lib.hid (show ∀ W j, Below w.heap.size w W → j < m * 2 → W.cell? ⟨pb, j, none⟩ = some (.int .i64 0) from fun W j h hj => (h.cell (p := ⟨pb, j, none⟩) hpb).trans (hc j hj))
  clear hc
  go_enter Try.func141, Try.ntmps141
  go_upto_region 1 with fail
  rw [← hA]
  clear hA
  go_wp2_with fail
  go_loopw [9, 16] (fun lv iv wr => ∃ k : Nat, k ≤ m ∧ iv = .int .i64 k ∧ wr.ownsRow w.heap.size 23 2 lv k (EN k) ∧ Bx2 wr (w.heap.size + 1) (.int .i64 (LO k)) (.int .i64 (HI k)) ∧ lv.ownBlock ≠ some (w.heap.size + 1) ∧ wr.heap[w.heap.size]? = some (.cells #[.int .i64 0, .int .i64 1, .int .i64 u0, .int .i64 u1, .int .i64 t0, .int .i64 t1, .int .i64 r] 110 (0, 0)) ∧ Below w.heap.size w wr) (fun _ iv _ => m - (intOf iv).toNat)
  case atStart => exact ⟨0, Nat.zero_le _, rfl, by rw [HE0.out.1]; exact World.ownsRow_nil _ _ _ _, by rw [HE0.out.2.1, HE0.out.2.2]; exact HXA.out, by simp [Value.ownBlock], HVA.out, HBA.out⟩
  case round =>
    obtain ⟨k, hk, rfl, hrow, hX, hd, hV, hB⟩ := hrel
    have HR := Lib.hid hrow
    have HX := Lib.hid hX
    have HD := Lib.hid hd
    have HV := Lib.hid hV
    have HB := Lib.hid hB
    obtain ⟨la, lc, rfl⟩ := own_formE hrow
    clear hrow hX hd hV hB HXA HVA HBA HE0
    by_cases hlt : k < m
    · have hki : (k : Int) < (m : Int) := by omega
      have m0 := HC.out _ (k * 2) HB.out (by omega)
      have m1 := HC.out _ (k * 2 + 1) HB.out (by omega)
      have c177 := HS.out k hlt
      have HENk := Lib.hid (HEN.out k)
      clear HS HEN
      generalize hp : LO (k + 1) = p at *
      generalize hq : HI (k + 1) = q at *
      have HPE := Lib.hid hp
      have HQE := Lib.hid hq
      clear hp hq
      generalize hx : LO k = x at *
      generalize hy : HI k = y at *
      clear hx hy
      have hlt1 : w.heap.size + 1 < wr.heap.size := HX.out.lt
      obtain ⟨V1, hV1⟩ : ∃ V1, V1 = wr.alloc (.cells #[.int .i64 0, .int .i64 0] 211) := ⟨_, rfl⟩
      have HB1 := Lib.hid (show Below wr.heap.size wr V1 by rw [hV1]; exact (Below.refl _ _).alloc (Nat.le_refl _) _)
      have x0 : V1.cell? ⟨wr.heap.size, 0, none⟩ = some (.int .i64 0) := by rw [hV1]; simp [go_sem]
      have x1 : V1.cell? ⟨wr.heap.size, 1, none⟩ = some (.int .i64 0) := by rw [hV1]; simp [go_sem]
      have hX1 := HX.out.keep HB1.out
      have hV1b := (HB1.out.block _ (Array.getElem?_eq_some_iff.1 HV.out).1).trans HV.out
      have e0 := hX1.c0
      have e1 := hX1.c1
      have v0 := cellHB hV1b 0
      have v1 := cellHB hV1b 1
      have v2 := cellHB hV1b 2
      have v3 := cellHB hV1b 3
      have v4 := cellHB hV1b 4
      have v5 := cellHB hV1b 5
      have v6 := cellHB hV1b 6
      clear hX1 hV1b
      go_upto_region 5 with fail
      rw [← hV1]
      clear hV1 m0 m1 HC
      go_wp2_with fail
      refine (c177 _).mono ?_
      rintro e w5 ⟨rfl, hb⟩
      have HB5 := Lib.hid (show Below wr.heap.size wr w5 from HB1.out.trans (hb.mono HB1.out.size))
      clear hb c177 x0 x1 e0 e1 v0 v1 v2 v3 v4 v5 v6 HB1
      obtain ⟨V6, hV6⟩ : ∃ V6, V6 = w5.alloc (.cells #[.int .i64 p, .int .i64 q] 23) := ⟨_, rfl⟩
      have HL6 := Lib.hid (show Bx2 V6 w5.heap.size (.int .i64 p) (.int .i64 q) by rw [hV6]; exact Bx2.new _ _ _)
      have HB6 := Lib.hid (show Below wr.heap.size wr V6 by rw [hV6]; exact HB5.out.alloc HB5.out.size _)
      have HR6 := Lib.hid (show V6.ownsRow w.heap.size 23 2 (.slice la k lc) k (EN k) from HR.out.kept (row := none) ⟨HB6.out.os, HB6.out.tape, HB6.out.output, HB6.out.size, fun k hk _ => HB6.out.block k hk⟩ (by rcases Decidable.em ((Value.slice la k lc).ownBlock = none) with h | h; exact .inl h; exact .inr h))
      have HX6 := Lib.hid (HX.out.keep HB6.out)
      have HV6 := Lib.hid ((HB6.out.block _ (Array.getElem?_eq_some_iff.1 HV.out).1).trans HV.out)
      have HBW6 := Lib.hid (show Below w.heap.size w V6 from HB.out.trans (HB6.out.mono HB.out.size))
      have hq5 : wr.heap.size ≤ w5.heap.size := HB5.out.size
      have HLT := Lib.hid (show ∀ z, (Value.slice la k lc).ownBlock = some z → z < wr.heap.size from fun z e => (HR.out.lt z e).2)
      go_upto_region 8 with fail
      rw [← hV6]
      clear hV6 HR HX HV HB5 HB6 HB
      generalize w5.heap.size = B12 at *
      have z0 := HL6.out.c0
      have z1 := HL6.out.c1
      go_upto_region 9 with (at_builtin; refine wpList_append_own_at _ rfl _ _ 36 rfl w.heap.size 23 i2 (.agg #[.int .i64 0, .int .i64 0]) 2 16 Try.underlying36 hi2 hz20 hz21 hz22 rfl (by decide) _ _ _ rfl (HR6.out.alloc _) ⟨V6.heap.size, 0, none⟩ 1 1 [.int .i64 p, .int .i64 q] rfl rfl (two_newE _ _ _ _) (by simp [Value.oneCell']) (by unfold maxLen; omega) (by omega) (by have := HBW6.out.size; simp; omega) ?_; intro v7 w7 hown' hgrow _ hob; obtain ⟨ga, gc, rfl⟩ : ∃ a c, v7 = Value.slice a (k + 1) c := (by rcases hown'.2 with ⟨_, h0⟩ | ⟨g, c, _, hv, _⟩; exact absurd h0 (by omega); exact ⟨_, c, hv⟩); have HG := Lib.hid (show World.grownBy _ w7 (Value.slice la k lc).ownBlock from hgrow); have HO := Lib.hid hown'; have HOB := Lib.hid (show (Value.slice ga (k + 1) gc).ownBlock = (Value.slice la k lc).ownBlock ∨ (Value.slice ga (k + 1) gc).ownBlock = some (V6.alloc (.cells #[.int .i64 p, .int .i64 q] 23)).heap.size from hob); clear hown' hgrow hob)
      have HR7 := Lib.hid (show w7.ownsRow w.heap.size 23 2 (.slice ga (k + 1) gc) (k + 1) (EN (k + 1)) by rw [HENk.out]; exact HO.out)
      have hkp : ∀ b, (Value.slice la k lc).ownBlock ≠ some b → ∀ x : Obj, V6.heap[b]? = some x → w7.heap[b]? = some x := fun b hb x hx => (HG.out.block b (by have := (Array.getElem?_eq_some_iff.1 hx).1; simp; omega) (fun e => hb e.symm)).trans ((Below.heap_alloc V6 _ b (Array.getElem?_eq_some_iff.1 hx).1).trans hx)
      have HX7 := Lib.hid (show Bx2 w7 (w.heap.size + 1) (.int .i64 x) (.int .i64 y) from hkp _ HD.out _ HX6.out)
      have HL7 := Lib.hid (show Bx2 w7 B12 (.int .i64 p) (.int .i64 q) from hkp _ (fun e => by have := HLT.out _ e; omega) _ HL6.out)
      have HV7 := Lib.hid (hkp _ (fun e => by
        have q1 := (HR6.out.lt _ e)
        rcases HR6.out.2 with ⟨hv, h0⟩ | ⟨g, cp, cur, hv, _, hg, _⟩
        · rw [hv] at e; cases e
        · rw [hv] at e
          have e' : g = w.heap.size := by simpa [Value.ownBlock] using e
          rw [e', HV6.out] at hg
          simp at hg) _ HV6.out)
      have HB7 := Lib.hid (show Below w.heap.size w w7 from (HBW6.out.alloc HBW6.out.size _).grown HG.out (by have := HBW6.out.size; simp; omega) (fun z e => (HR6.out.lt z e).1))
      have HD7 := Lib.hid (show (Value.slice ga (k + 1) gc).ownBlock ≠ some (w.heap.size + 1) from fun e => by
        rcases HOB.out with h | h
        · exact HD.out (h.symm.trans e)
        · rw [h] at e
          have := HX6.out.lt
          simp at e
          omega)
      clear HR6 HX6 HV6 HL6 HBW6 HG HO HOB HLT HD hkp z0 z1
      have z0 := HL7.out.c0
      have z1 := HL7.out.c1
      have f0 := HX7.out.f0 0
      have f1 := HX7.out.f0 1
      have y0 := HX7.out.c0
      have y1 := HX7.out.c1
      go_wp2_with fail
      go_roundw
      case rel =>
        have hgs : ∀ (W : World) (o : Nat) (u : Value), W.grownBy (W.setCell ⟨w.heap.size + 1, o, none⟩ u) (some (w.heap.size + 1)) := fun W o u => ⟨rfl, rfl, rfl, (KeepsWalks.setCell W _ u).size, fun k _ hk => Below.heap_setCell _ _ _ k (fun e => hk (by rw [e]))⟩
        have hne : w.heap.size ≠ w.heap.size + 1 := Nat.ne_of_lt (Nat.lt_succ_self _)
        exact ⟨k + 1, by omega, by go_num, (HR7.out.kept (hgs _ _ _) (.inr HD7.out)).kept (hgs _ _ _) (.inr HD7.out), by rw [HPE.out, HQE.out]; exact HX7.out.set _ _, HD7.out, (Below.heap_setCell _ _ _ _ hne).trans ((Below.heap_setCell _ _ _ _ hne).trans HV7.out), (HB7.out.setCell (p := ⟨w.heap.size + 1, 0, none⟩) (Nat.le_succ _) _).setCell (p := ⟨w.heap.size + 1, 1, none⟩) (Nat.le_succ _) _⟩
      case measure => simp [intOf]; omega
    · obtain rfl : k = m := by omega
      clear HC HS HEN
      go_wp2_with fail
      go_ret3
      exact ⟨_, _, rfl, HB.out⟩
set_option maxRecDepth 100000 in
theorem energy75 (u0 u1 t0 t1 r a b : Int) (hu : vB u0 u1 = true) (hu0 : 0 ≤ u0) (ht : vB t0 t1 = true) (ht0 : 0 ≤ t0) (hr : 0 ≤ r ∧ r ≤ 1073741824) (hab : vB a b = true) (ha : 0 ≤ a) (pb m cap : Nat) (hm : m ≤ 64) (hme : (m : Int) * u1 ≤ a - r) (w : World) (hpb : pb < w.heap.size) (hc : ∀ j, j < m * 2 → w.cell? ⟨pb, j, none⟩ = some (.int .i64 0)) : Calls Try.prog 75 #[.agg #[.int .i64 0, .int .i64 1, .int .i64 u0, .int .i64 u1, .int .i64 t0, .int .i64 t1, .int .i64 r], .agg #[.int .i64 a, .int .i64 b], .slice (some ⟨pb, 0, none⟩) m cap] w fun e w' => ∃ la lc, e = .returned (.tuple #[.slice la m lc, .int .i64 (m : Int), .int .i64 0]) ∧ Below w.heap.size w w' := by
  have c1 := fun W => vehicle137 0 1 u0 u1 t0 t1 r ⟨by decide, by decide⟩ ⟨by decide, by decide⟩ hu hu0 ht ht0 hr W
  have c2 := fun W => energy138 a b hab ha W
  have HP := Lib.hid (fun W (h : Below w.heap.size w W) => plan140 pb m cap hm W (Nat.lt_of_lt_of_le hpb h.size) (fun j hj => (h.cell (p := ⟨pb, j, none⟩) hpb).trans (hc j hj)))
  have HEG := Lib.hid (fun W (h : Below w.heap.size w W) => energy141 u0 u1 t0 t1 r a b hu hu0 hr.1 hab pb m cap hm hme W (Nat.lt_of_lt_of_le hpb h.size) (fun j hj => (h.cell (p := ⟨pb, j, none⟩) hpb).trans (hc j hj)))
  clear hc hme hab hu ht
  obtain ⟨A, hA⟩ : ∃ A, A = (w.alloc (.cells #[.int .i64 0, .int .i64 1, .int .i64 u0, .int .i64 u1, .int .i64 t0, .int .i64 t1, .int .i64 r] 110)).alloc (.cells #[.int .i64 a, .int .i64 b] 23) := ⟨_, rfl⟩
  have HBA := Lib.hid (show Below w.heap.size w A by rw [hA]; exact ((Below.refl _ _).alloc (Nat.le_refl _) _).alloc (by simp) _)
  have hzA : A.heap.size = w.heap.size + 2 := by rw [hA]; simp
  have k0 : A.cell? ⟨w.heap.size, 0, none⟩ = some (Value.int .i64 0) := by rw [hA]; simp [go_sem]
  have k1 : A.cell? ⟨w.heap.size, 1, none⟩ = some (Value.int .i64 1) := by rw [hA]; simp [go_sem]
  have k2 : A.cell? ⟨w.heap.size, 2, none⟩ = some (Value.int .i64 u0) := by rw [hA]; simp [go_sem]
  have k3 : A.cell? ⟨w.heap.size, 3, none⟩ = some (Value.int .i64 u1) := by rw [hA]; simp [go_sem]
  have k4 : A.cell? ⟨w.heap.size, 4, none⟩ = some (Value.int .i64 t0) := by rw [hA]; simp [go_sem]
  have k5 : A.cell? ⟨w.heap.size, 5, none⟩ = some (Value.int .i64 t1) := by rw [hA]; simp [go_sem]
  have k6 : A.cell? ⟨w.heap.size, 6, none⟩ = some (Value.int .i64 r) := by rw [hA]; simp [go_sem]
  have k7 : A.cell? ⟨w.heap.size + 1, 0, none⟩ = some (Value.int .i64 a) := by rw [hA]; simp [go_sem]
  have k8 : A.cell? ⟨w.heap.size + 1, 1, none⟩ = some (Value.int .i64 b) := by rw [hA]; simp [go_sem]
  have KK := Lib.hid (show ∀ W, Below A.heap.size A W → W.cell? ⟨w.heap.size, 0, none⟩ = some (Value.int .i64 0) ∧ W.cell? ⟨w.heap.size, 1, none⟩ = some (Value.int .i64 1) ∧ W.cell? ⟨w.heap.size, 2, none⟩ = some (Value.int .i64 u0) ∧ W.cell? ⟨w.heap.size, 3, none⟩ = some (Value.int .i64 u1) ∧ W.cell? ⟨w.heap.size, 4, none⟩ = some (Value.int .i64 t0) ∧ W.cell? ⟨w.heap.size, 5, none⟩ = some (Value.int .i64 t1) ∧ W.cell? ⟨w.heap.size, 6, none⟩ = some (Value.int .i64 r) ∧ W.cell? ⟨w.heap.size + 1, 0, none⟩ = some (Value.int .i64 a) ∧ W.cell? ⟨w.heap.size + 1, 1, none⟩ = some (Value.int .i64 b) from fun W h => ⟨(h.cell (p := ⟨w.heap.size, 0, none⟩) (by show w.heap.size < A.heap.size; omega)).trans k0, (h.cell (p := ⟨w.heap.size, 1, none⟩) (by show w.heap.size < A.heap.size; omega)).trans k1, (h.cell (p := ⟨w.heap.size, 2, none⟩) (by show w.heap.size < A.heap.size; omega)).trans k2, (h.cell (p := ⟨w.heap.size, 3, none⟩) (by show w.heap.size < A.heap.size; omega)).trans k3, (h.cell (p := ⟨w.heap.size, 4, none⟩) (by show w.heap.size < A.heap.size; omega)).trans k4, (h.cell (p := ⟨w.heap.size, 5, none⟩) (by show w.heap.size < A.heap.size; omega)).trans k5, (h.cell (p := ⟨w.heap.size, 6, none⟩) (by show w.heap.size < A.heap.size; omega)).trans k6, (h.cell (p := ⟨w.heap.size + 1, 0, none⟩) (by show w.heap.size + 1 < A.heap.size; omega)).trans k7, (h.cell (p := ⟨w.heap.size + 1, 1, none⟩) (by show w.heap.size + 1 < A.heap.size; omega)).trans k8⟩)
  have HUP := Lib.hid (show ∀ W, Below A.heap.size A W → Below w.heap.size w W from fun W h => HBA.out.trans (h.mono HBA.out.size))
  clear hzA
  go_enter Try.func75, Try.ntmps75
  go_upto_region 1 with fail
  rw [← hA]
  clear hA
  refine wp_region_held_drew (S := fun w' => w'.cell? ⟨w.heap.size, 0, none⟩ = some (Value.int .i64 0) ∧ w'.cell? ⟨w.heap.size, 1, none⟩ = some (Value.int .i64 1) ∧ w'.cell? ⟨w.heap.size, 2, none⟩ = some (Value.int .i64 u0) ∧ w'.cell? ⟨w.heap.size, 3, none⟩ = some (Value.int .i64 u1) ∧ w'.cell? ⟨w.heap.size, 4, none⟩ = some (Value.int .i64 t0) ∧ w'.cell? ⟨w.heap.size, 5, none⟩ = some (Value.int .i64 t1) ∧ w'.cell? ⟨w.heap.size, 6, none⟩ = some (Value.int .i64 r) ∧ w'.cell? ⟨w.heap.size + 1, 0, none⟩ = some (Value.int .i64 a) ∧ w'.cell? ⟨w.heap.size + 1, 1, none⟩ = some (Value.int .i64 b)) (by kernel_rfl) ⟨by simpa [go_sem] using k0, by simpa [go_sem] using k1, by simpa [go_sem] using k2, by simpa [go_sem] using k3, by simpa [go_sem] using k4, by simpa [go_sem] using k5, by simpa [go_sem] using k6, by simpa [go_sem] using k7, by simpa [go_sem] using k8⟩ (fun hHeld => ?_)
  refine wpAnyH_take (i := 0) (oi := _) (v := Value.agg #[Value.int .i64 0, Value.int .i64 1, Value.int .i64 u0, Value.int .i64 u1, Value.int .i64 t0, Value.int .i64 t1, Value.int .i64 r]) rfl (by kernel_rfl) (by kernel_rfl) (by kernel_rfl) (fun _ _ _ h => h) (Or.inl ⟨by rfl, fun w' hSw => ?_⟩) hHeld ?_
  · obtain ⟨t0, t1, t2, t3, t4, t5, t6, t7, t8⟩ := hSw
    go_simp
    try simp [*]
    try (intro hh; exfalso; omega)
    try omega
  try simp only [Act.put, List.setIfInBounds_toArray, List.set_cons_zero, List.set_cons_succ, List.getElem_toArray, List.getElem_cons_succ, List.getElem_cons_zero]
  refine wpAnyH_take (i := 2) (oi := _) (v := Value.agg #[Value.int .i64 a, Value.int .i64 b]) rfl (by kernel_rfl) (by kernel_rfl) (by kernel_rfl) (fun _ _ _ h => h) (Or.inl ⟨by rfl, fun w' hSw => ?_⟩) hHeld ?_
  · obtain ⟨t0, t1, t2, t3, t4, t5, t6, t7, t8⟩ := hSw
    go_simp
    try simp [*]
    try (intro hh; exfalso; omega)
    try omega
  try simp only [Act.put, List.setIfInBounds_toArray, List.set_cons_zero, List.set_cons_succ, List.getElem_toArray, List.getElem_cons_succ, List.getElem_cons_zero]
  refine wpAnyH_take (i := 4) (oi := _) (v := Value.slice (some ⟨pb, 0, none⟩) m cap) rfl (by kernel_rfl) (by kernel_rfl) (by kernel_rfl) (fun _ _ _ h => h) (Or.inl ⟨by rfl, fun w' hSw => ?_⟩) hHeld ?_
  · obtain ⟨t0, t1, t2, t3, t4, t5, t6, t7, t8⟩ := hSw
    go_simp
    try simp [*]
    try (intro hh; exfalso; omega)
    try omega
  try simp only [Act.put, List.setIfInBounds_toArray, List.set_cons_zero, List.set_cons_succ, List.getElem_toArray, List.getElem_cons_succ, List.getElem_cons_zero]
  have HD := Lib.hid (show Below A.heap.size A A.drew from (Below.refl _ _).drew)
  refine wpAnyH_ready (rs := [1]) (by kernel_rfl) (by simp) ?_
  refine AllReadyH.cons (o := _) rfl (fun K hK => ?_) AllReadyH.nil
  go_simp
  go_at_call 137
  refine Calls.mono (c1 _) ?_
  rintro e v1 ⟨rfl, hb⟩
  have HV1 := Lib.hid (show Below A.heap.size A v1 from HD.out.trans (hb.mono (Below.size HD.out)))
  clear hb
  clear hHeld
  refine hK.out _ _ (KK.out _ HV1.out) (fun hHeld => ?_)
  clear hK K
  try simp only [Act.put, List.setIfInBounds_toArray, List.set_cons_zero, List.set_cons_succ, List.getElem_toArray, List.getElem_cons_succ, List.getElem_cons_zero]
  refine wpAnyH_ready (rs := [3]) (by kernel_rfl) (by simp) ?_
  refine AllReadyH.cons (o := _) rfl (fun K hK => ?_) AllReadyH.nil
  go_simp
  go_at_call 138
  refine Calls.mono (c2 _) ?_
  rintro e v2 ⟨rfl, hb⟩
  have HV2 := Lib.hid (show Below A.heap.size A v2 from HV1.out.trans (hb.mono (Below.size HV1.out)))
  clear hb
  clear hHeld
  refine hK.out _ _ (KK.out _ HV2.out) (fun hHeld => ?_)
  clear hK K
  try simp only [Act.put, List.setIfInBounds_toArray, List.set_cons_zero, List.set_cons_succ, List.getElem_toArray, List.getElem_cons_succ, List.getElem_cons_zero]
  refine wpAnyH_ready (rs := [5]) (by kernel_rfl) (by simp) ?_
  refine AllReadyH.cons (o := _) rfl (fun K hK => ?_) AllReadyH.nil
  go_simp
  go_at_call 140
  refine Calls.mono (HP.out _ (HUP.out _ HV2.out)) ?_
  rintro e v3 ⟨rfl, hb⟩
  have HV3 := Lib.hid (show Below A.heap.size A v3 from HV2.out.trans (hb.mono (Below.size HV2.out)))
  clear hb
  clear hHeld
  refine hK.out _ _ (KK.out _ HV3.out) (fun hHeld => ?_)
  clear hK K
  try simp only [Act.put, List.setIfInBounds_toArray, List.set_cons_zero, List.set_cons_succ, List.getElem_toArray, List.getElem_cons_succ, List.getElem_cons_zero]
  refine wpAnyH_ready (rs := [6]) (by kernel_rfl) (by simp) ?_
  refine AllReadyH.cons (o := _) rfl (fun K hK => ?_) AllReadyH.nil
  go_simp
  have HV5 := Lib.hid (show Below A.heap.size A (v3.alloc (.cells #[.int .i64 0, .int .i64 0, .int .i64 0] 30)) from HV3.out.alloc HV3.out.size _)
  clear hHeld
  refine hK.out _ _ (KK.out _ HV5.out) (fun hHeld => ?_)
  clear hK K
  try simp only [Act.put, List.setIfInBounds_toArray, List.set_cons_zero, List.set_cons_succ, List.getElem_toArray, List.getElem_cons_succ, List.getElem_cons_zero]
  have c5 := first136 v3.heap.size 3 3 (by decide) (v3.alloc (.cells #[.int .i64 0, .int .i64 0, .int .i64 0] 30)) (fun k hk => by
    match k, hk with
    | 0, _ => simp [go_sem]
    | 1, _ => simp
    | 2, _ => simp)
  refine wpAnyH_ready (rs := [7]) (by kernel_rfl) (by simp) ?_
  refine AllReadyH.cons (o := _) rfl (fun K hK => ?_) AllReadyH.nil
  go_simp
  go_at_call 136
  refine Calls.mono c5 ?_
  rintro e v6 ⟨rfl, hw6⟩
  have hw7 := hw6.symm
  subst hw7
  clear hHeld
  refine hK.out _ _ (KK.out _ HV5.out) (fun hHeld => ?_)
  clear hK K
  try simp only [Act.put, List.setIfInBounds_toArray, List.set_cons_zero, List.set_cons_succ, List.getElem_toArray, List.getElem_cons_succ, List.getElem_cons_zero]
  refine wpAnyH_take (i := 8) (oi := _) (v := Value.int .i64 0) rfl (by kernel_rfl) (by kernel_rfl) (by kernel_rfl) (fun _ _ _ h => h) (Or.inl ⟨by rfl, fun w' hSw => ?_⟩) hHeld ?_
  · obtain ⟨t0, t1, t2, t3, t4, t5, t6, t7, t8⟩ := hSw
    go_simp
    try simp [*]
    try (intro hh; exfalso; omega)
    try omega
  try simp only [Act.put, List.setIfInBounds_toArray, List.set_cons_zero, List.set_cons_succ, List.getElem_toArray, List.getElem_cons_succ, List.getElem_cons_zero]
  refine wpAnyH_done (by kernel_rfl) ?_ _
  clear hHeld
  clear c5
  obtain ⟨k0, k1, k2, k3, k4, k5, k6, k7, k8⟩ := KK.out _ HV5.out
  go_wp2_with fail
  refine (HEG.out _ (HUP.out _ HV5.out)).mono ?_
  rintro e w9 ⟨la, lc, rfl, hb⟩
  have HB9 := Lib.hid (show Below w.heap.size w w9 from (HUP.out _ HV5.out).trans (hb.mono (HUP.out _ HV5.out).size))
  clear hb
  go_wp2_with fail
  go_ret3
  exact ⟨_, _, rfl, HB9.out⟩
end Go.Proofs.Ytdohfpnnmppdkaa.Gd

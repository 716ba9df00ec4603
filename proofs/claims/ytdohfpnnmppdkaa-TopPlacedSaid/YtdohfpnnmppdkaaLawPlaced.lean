/-
  TopPlaced: from distances to sets.
-/
import Derived.Test.YtdohfpnnmppdkaaPlMath
import Derived.Test.YtdohfpnnmppdkaaLdB
import Derived.Test.YtdohfpnnmppdkaaLcC
import Derived.Test.YtdohfpnnmppdkaaCbDi
import Derived.Test.YtdohfpnnmppdkaaCutOwn
import Derived.Test.YtdohfpnnmppdkaaOpenWir
import Derived.Test.YtdohfpnnmppdkaaCcA
import Derived.Test.YtdohfpnnmppdkaaWkB
import Derived.Maps.AppendAt
namespace Go.Proofs.Ytdohfpnnmppdkaa
open Go.RowKit Go.Shelf
set_option linter.unusedSimpArgs false
attribute [local go_sem] Oper.semAt_some
/-- what the round of echo i makes -/
theorem ech_round {W : World} {es : List Ec} {i b off : Nat} (h : EchC W (ec es i) b off) :
    ∃ (k0 a0 a1 b0 b1 r : Int), (W.cell? ⟨b, off, none⟩ = some (.int .u8 k0) ∧ W.cell? ⟨b, off + 1, none⟩ = some (.int .u16 a0) ∧ W.cell? ⟨b, off + 2, none⟩ = some (.int .u16 a1) ∧ W.cell? ⟨b, off + 3, none⟩ = some (.int .u8 b0) ∧ W.cell? ⟨b, off + 4, none⟩ = some (.int .u8 b1)) ∧
      ((0 ≤ k0 ∧ k0 ≤ 255) ∧ (0 ≤ a0 ∧ a0 ≤ 65535) ∧ (0 ≤ a1 ∧ a1 ≤ 65535) ∧ (0 ≤ b0 ∧ b0 ≤ 255) ∧ (0 ≤ b1 ∧ b1 ≤ 255)) ∧
      k0.tmod 3 = r ∧ (0 ≤ r ∧ r ≤ 2) ∧ (r = 2 → flM (echL es (i + 1)) = flM (echL es i) ++ [.int .i64 3, .int .i64 (min a0 a1), .int .i64 (max a0 a1), .int .i64 (1 + min b0 b1 + 70000), .int .i64 (1 + max b0 b1 + 70000)]) ∧
      (r ≠ 2 → flM (echL es (i + 1)) = flM (echL es i) ++ [.int .i64 (1 + r), .int .i64 (min a0 a1), .int .i64 (max a0 a1), .int .i64 (1 + min b0 b1), .int .i64 (1 + max b0 b1)]) := by
  obtain ⟨⟨h0, h1, h2, h3, h4⟩, c0, c1, c2, c3, c4⟩ := h
  refine ⟨_, _, _, _, _, (ec es i).kd % 3, ⟨c0, c1, c2, c3, c4⟩, ⟨h0, h1, h2, h3, h4⟩, Int.tmod_eq_emod_of_nonneg h0.1, by omega, fun hr => ?_, fun hr => ?_⟩
  · rw [echL_succ, flM_snoc]
    unfold msV echM
    rw [if_pos hr, hr]
    rfl
  · rw [echL_succ, flM_snoc]
    unfold msV echM
    rw [if_neg hr]
    simp only [Int.add_zero]
theorem five_newP (W : World) (y0 y1 y2 y3 y4 : Value) (t : TypeId) : ∀ (j : Nat) (u : Value), [y0, y1, y2, y3, y4][j]? = some u → (W.alloc (.cells #[y0, y1, y2, y3, y4] t)).cell? ((⟨W.heap.size, 0, none⟩ : Addr).add j) = some u := by
  intro j u hj
  match j, hj with
  | 0, h => simp at h; subst h; simp [Addr.add, go_sem]
  | 1, h => simp at h; subst h; simp [Addr.add, go_sem]
  | 2, h => simp at h; subst h; simp [Addr.add, go_sem]
  | 3, h => simp at h; subst h; simp [Addr.add, go_sem]
  | 4, h => simp at h; subst h; simp [Addr.add, go_sem]
theorem two_newP (W : World) (y0 y1 : Value) (t : TypeId) : ∀ (j : Nat) (u : Value), [y0, y1][j]? = some u → (W.alloc (.cells #[y0, y1] t)).cell? ((⟨W.heap.size, 0, none⟩ : Addr).add j) = some u := by
  intro j u hj
  match j, hj with
  | 0, h => simp at h; subst h; simp [Addr.add, go_sem]
  | 1, h => simp at h; subst h; simp [Addr.add, go_sem]
theorem keepBP {W : World} {b : Nat} {x : Obj} (h : W.heap[b]? = some x) (o : Obj) : (W.alloc o).heap[b]? = some x := by
  have hb := (Array.getElem?_eq_some_iff.1 h).1
  exact (Below.heap_alloc W o b hb).trans h
theorem keepGP {W W' : World} {row : Option Nat} {b : Nat} {x : Obj} (h : W.heap[b]? = some x) (hg : W.grownBy W' row) (hn : some b ≠ row) : W'.heap[b]? = some x :=
  (hg.block b (Array.getElem?_eq_some_iff.1 h).1 hn).trans h
theorem grown_setP (W : World) (b o : Nat) (v : Value) : W.grownBy (W.setCell ⟨b, o, none⟩ v) (some b) :=
  ⟨rfl, rfl, rfl, (KeepsWalks.setCell W _ v).size, fun k _ hk => Below.heap_setCell _ _ _ k (fun e => hk (by rw [e]))⟩
theorem set52P {W : World} {b : Nat} {x0 x1 x2 x3 x4 : Value} {t : TypeId} (h : W.heap[b]? = some (.cells #[x0, x1, x2, x3, x4] t (0, 0))) (u v : Value) : ((W.setCell ⟨b, 1, none⟩ u).setCell ⟨b, 2, none⟩ v).heap[b]? = some (.cells #[x0, u, v, x3, x4] t (0, 0)) := by
  simp [World.setCell, Array.getElem?_modify, h]
theorem set54P {W : World} {b : Nat} {x0 x1 x2 x3 x4 : Value} {t : TypeId} (h : W.heap[b]? = some (.cells #[x0, x1, x2, x3, x4] t (0, 0))) (u v : Value) : ((W.setCell ⟨b, 3, none⟩ u).setCell ⟨b, 4, none⟩ v).heap[b]? = some (.cells #[x0, x1, x2, u, v] t (0, 0)) := by
  simp [World.setCell, Array.getElem?_modify, h]
theorem set53P {W : World} {b : Nat} {x0 x1 x2 x3 x4 : Value} {t : TypeId} (h : W.heap[b]? = some (.cells #[x0, x1, x2, x3, x4] t (0, 0))) (u : Value) : (W.setCell ⟨b, 3, none⟩ u).heap[b]? = some (.cells #[x0, x1, x2, u, x4] t (0, 0)) := by
  simp [World.setCell, Array.getElem?_modify, h]
theorem set5eP {W : World} {b : Nat} {x0 x1 x2 x3 x4 : Value} {t : TypeId} (h : W.heap[b]? = some (.cells #[x0, x1, x2, x3, x4] t (0, 0))) (u : Value) : (W.setCell ⟨b, 4, none⟩ u).heap[b]? = some (.cells #[x0, x1, x2, x3, u] t (0, 0)) := by
  simp [World.setCell, Array.getElem?_modify, h]
theorem own_dropP {W : World} {base n size : Nat} {t : TypeId} {v : Value} {xs : List Value} (h : W.ownsRow base t size v n xs) : ∃ a c, v = .slice a n c := by
  rcases h.2 with ⟨hv, h0⟩ | ⟨g, cap, cur, hv, _⟩
  · exact ⟨none, 0, by rw [h0]; exact hv⟩
  · exact ⟨_, cap, hv⟩
theorem msA_open {W : World} {v : Value} {l : List Ms} {n : Nat} (hl : l.length = n) (hn : 0 < n) (h : MsA W.heap.size W v l) :
    ∃ b o c, v = .slice (some ⟨b, o, none⟩) n c ∧ b < W.heap.size ∧ ∀ Z k, Below W.heap.size W Z → k < n → Z.cell? ⟨b, o + k * 5, none⟩ = some (.int .i64 (ms l k).kd) ∧ Z.cell? ⟨b, o + k * 5 + 1, none⟩ = some (.int .i64 (ms l k).v0) ∧ Z.cell? ⟨b, o + k * 5 + 2, none⟩ = some (.int .i64 (ms l k).v1) ∧ Z.cell? ⟨b, o + k * 5 + 3, none⟩ = some (.int .i64 (ms l k).b0) ∧ Z.cell? ⟨b, o + k * 5 + 4, none⟩ = some (.int .i64 (ms l k).b1) := by
  subst hl
  obtain ⟨a, c, rfl, -, hc⟩ := h
  obtain ⟨b, o, rfl, hb, -⟩ := hc 0 hn
  refine ⟨b, o, c, rfl, hb, fun Z k hZ hk => ?_⟩
  obtain ⟨b', o', e, hb', c0, c1, c2, c3, c4⟩ := hc k hk
  simp only [Option.some.injEq, Addr.mk.injEq] at e
  obtain ⟨rfl, rfl, -⟩ := e
  exact ⟨(hZ.cell (p := ⟨b, _, none⟩) hb).trans c0, (hZ.cell (p := ⟨b, _, none⟩) hb).trans c1, (hZ.cell (p := ⟨b, _, none⟩) hb).trans c2, (hZ.cell (p := ⟨b, _, none⟩) hb).trans c3, (hZ.cell (p := ⟨b, _, none⟩) hb).trans c4⟩
theorem spans_lit {W : World} {B : Nat} {t : TypeId} {lo hi : Int} (h : W.heap[B]? = some (.cells #[.int .i64 lo, .int .i64 hi] t (0, 0))) : Bd.Spans W.heap.size W (.slice (some ⟨B, 0, none⟩) 1 1) [(lo, hi)] :=
  .inr ⟨B, 0, 1, rfl, (Array.getElem?_eq_some_iff.1 h).1, fun j hj => by
    obtain rfl : j = 0 := by simpa using hj
    exact ⟨(cellHB h 0).trans rfl, (cellHB h 1).trans rfl⟩⟩
/-- spans outside of a row that grows stay as they are -/
theorem spans_grown {W W' : World} {v : Value} {row : Option Nat} {z : List (Int × Int)} (h : Bd.Spans W.heap.size W v z) (hg : W.grownBy W' row) (hn : v.ownBlock = none ∨ v.ownBlock ≠ row) : Bd.Spans W'.heap.size W' v z := by
  rcases h with h | ⟨b, off, cap, rfl, hb, hr⟩
  · exact .inl h
  · have hne : some b ≠ row := by
      rcases hn with hn | hn
      · cases hn
      · exact hn
    have hk := hg.block b hb hne
    exact .inr ⟨b, off, cap, rfl, Nat.lt_of_lt_of_le hb hg.size, fun j hj => by
      obtain ⟨c0, c1⟩ := hr j hj
      refine ⟨?_, ?_⟩
      · rw [← c0]; simp only [World.cell?, hk]
      · rw [← c1]; simp only [World.cell?, hk]⟩
theorem spans_alloc {W : World} {v : Value} {z : List (Int × Int)} (h : Bd.Spans W.heap.size W v z) (o : Obj) : Bd.Spans (W.alloc o).heap.size (W.alloc o) v z :=
  h.at ((Below.refl _ _).alloc (Nat.le_refl _) _)
theorem dist_symP {a b : Option Nat} (h : a = none ∨ a ≠ b) : b = none ∨ b ≠ a := by
  cases b with
  | none => exact .inl rfl
  | some k => exact .inr fun e => by subst e; rcases h with h | h; cases h; exact h rfl
/-- what Locate returns -/
theorem locR_bad {l : List Ms} (h0 : 0 < l.length) (h : ¬ 32 < l.length) (he : errL l ≠ 0) : locR l = ⟨0, 0, errL l⟩ := by
  rw [locR_def, if_neg (by omega), if_neg h, if_neg he]
theorem sv_openP {W : World} {v : Value} {n : Nat} {f : Nat → Int × Int} (hn : 0 < n) (h : Sv W.heap.size W v n f) :
    ∃ b o c, v = .slice (some ⟨b, o, none⟩) n c ∧ b < W.heap.size ∧ ∀ Z k, Below W.heap.size W Z → k < n → Z.cell? ⟨b, o + k * 2, none⟩ = some (.int .i64 (f k).1) ∧ Z.cell? ⟨b, o + k * 2 + 1, none⟩ = some (.int .i64 (f k).2) := by
  obtain ⟨a, c, rfl, -, hc⟩ := h
  obtain ⟨b, o, rfl, hb, -⟩ := hc 0 hn
  refine ⟨b, o, c, rfl, hb, fun Z k hZ hk => ?_⟩
  obtain ⟨b', o', e, hb', c0, c1⟩ := hc k hk
  simp only [Option.some.injEq, Addr.mk.injEq] at e
  obtain ⟨rfl, rfl, -⟩ := e
  exact ⟨(hZ.cell (p := ⟨b, _, none⟩) hb).trans c0, (hZ.cell (p := ⟨b, _, none⟩) hb).trans c1⟩
theorem place_bd {L : List Ms} {j : Nat} (hj : j < L.length) (he : errL (L.take (j + 1)) = 0) : (-1073741824 ≤ (msF L j).1 ∧ (msF L j).2 ≤ 1073741824) ∧ (-1073741824 ≤ (comA L j).1 ∧ (comA L j).2 ≤ 1073741824) ∧ ¬ (msF L j).2 < (msF L j).1 ∧ comA L (j + 1) = (max (comA L j).1 (msF L j).1, min (comA L j).2 (msF L j).2) := by
  have hv : ∀ k, k < j + 1 → vB (msF L k).1 (msF L k).2 = true := fun k hk => dsM_valid (errL_zero.1 he _ (by
    unfold ms
    rw [List.getElem?_eq_getElem (show k < L.length by omega), Option.getD_some]
    exact List.mem_take_iff_getElem.2 ⟨k, by omega, rfl⟩))
  have q := (vB_iff _ _).1 (hv j (by omega))
  refine ⟨by omega, ?_, by omega, comA_succ hj⟩
  have key : ∀ i, i ≤ j → -1073741824 ≤ (comA L i).1 ∧ (comA L i).2 ≤ 1073741824 := by
    intro i
    induction i with
    | zero =>
      intro _
      have q := (vB_iff _ _).1 (hv 0 (by omega))
      rw [comA_zero]
      omega
    | succ i ih =>
      intro h
      have q := ih (by omega)
      rw [comA_succ (by omega)]
      show _ ≤ max _ _ ∧ min _ _ ≤ _
      omega
  exact key j (Nat.le_refl _)
set_option maxRecDepth 100000 in
set_option maxHeartbeats 32000000 in
theorem placedLaw_any (lv : Value) (es : List Ec) (x : Int) (hx : 0 ≤ x ∧ x ≤ 65535) (w : World) (hI : EchA w.heap.size w lv es) :
    Calls Try.prog 18 #[lv, .int .u16 x] w fun e w' => e = .returned (.bool true) ∧ Below w.heap.size w w' := by
  have c69 := Lib.hid (fun W => works04_any W)
  obtain ⟨i5, hi5, hz50, hz51, hz52⟩ := info_parts infoI52
  obtain ⟨i2, hi2, hz20, hz21, hz22⟩ := info_parts infoI23
  obtain ⟨a, cap, rfl, -, hcc⟩ := hI
  have HC := Lib.hid hcc
  clear hcc
  generalize hen : es.length = en at *
  clear hen
  obtain ⟨n, hn⟩ : ∃ n, n = min en 8 := ⟨_, rfl⟩
  go_enter Try.func18, Try.ntmps18
  go_wp2_with fail
  go_loopw [5, 6] (fun mv iv wr => ∃ i : Nat, i ≤ n ∧ iv = .int .i64 i ∧ wr.ownsRow w.heap.size 52 5 mv i (flM (echL es i)) ∧ Below w.heap.size w wr) (fun _ iv _ => n - (intOf iv).toNat)
  case atStart => exact ⟨0, Nat.zero_le _, rfl, World.ownsRow_nil _ _ _ _, Below.refl _ _⟩
  case round =>
    obtain ⟨i, hi, rfl, hrow, hB⟩ := hrel
    have HM := Lib.hid hrow
    have HB := Lib.hid hB
    obtain ⟨ma, mc, rfl⟩ := own_dropP hrow
    clear hrow hB
    by_cases hlt : i < n
    · have h1 : (i : Int) < (en : Int) := by omega
      have h2 : (i : Int) < 8 := by omega
      obtain ⟨wb, wo, rfl, hwb, hE⟩ := HC.out i (by omega)
      obtain ⟨k0, a0, a1, b0, b1, r, ⟨c0, c1, c2, c3, c4⟩, ⟨hk0, ha0, ha1, hb0, hb1⟩, hr, hrb, hR2, hR1⟩ := ech_round hE
      have HR2 := Lib.hid hR2
      have HR1 := Lib.hid hR1
      have z0 := (HB.out.cell (p := ⟨wb, _, none⟩) hwb).trans c0
      have z1 := (HB.out.cell (p := ⟨wb, _, none⟩) hwb).trans c1
      have z2 := (HB.out.cell (p := ⟨wb, _, none⟩) hwb).trans c2
      have z3 := (HB.out.cell (p := ⟨wb, _, none⟩) hwb).trans c3
      have z4 := (HB.out.cell (p := ⟨wb, _, none⟩) hwb).trans c4
      clear hE hR2 hR1 c0 c1 c2 c3 c4 HC hx
      have HROW := Lib.hid (show ∀ q, (Value.slice ma i mc).ownBlock = some q → q < wr.heap.size from fun q e => (HM.out.lt q e).2)
      obtain ⟨V1, hV1⟩ : ∃ V1, V1 = wr.alloc (.cells #[.int .u8 k0, .int .u16 a0, .int .u16 a1, .int .u8 b0, .int .u8 b1] 119) := ⟨_, rfl⟩
      have HM1 := Lib.hid (show V1.ownsRow w.heap.size 52 5 (.slice ma i mc) i (flM (echL es i)) by rw [hV1]; exact HM.out.alloc _)
      have HQ1 := Lib.hid (show V1.heap[wr.heap.size]? = some (.cells #[.int .u8 k0, .int .u16 a0, .int .u16 a1, .int .u8 b0, .int .u8 b1] 119 (0, 0)) by rw [hV1]; exact World.alloc_heap_new _ _)
      have HB1 := Lib.hid (show Below w.heap.size w V1 by rw [hV1]; exact HB.out.alloc HB.out.size _)
      have hs1 : wr.heap.size < V1.heap.size := by rw [hV1]; simp
      have HSB := Lib.hid HB.out.size
      go_upto_region 6 with fail
      rw [← hV1]
      clear hV1 HM HB z0 z1 z2 z3 z4
      generalize wr.heap.size = Q1 at *
      have y0 := cellHB HQ1.out 0
      obtain ⟨V2, hV2⟩ : ∃ V2, V2 = V1.alloc (.cells #[.int .i64 (1 + r), .int .i64 0, .int .i64 0, .int .i64 0, .int .i64 0] 52) := ⟨_, rfl⟩
      have HM2 := Lib.hid (show V2.ownsRow w.heap.size 52 5 (.slice ma i mc) i (flM (echL es i)) by rw [hV2]; exact HM1.out.alloc _)
      have HQ2 := Lib.hid (show V2.heap[Q1]? = some (.cells #[.int .u8 k0, .int .u16 a0, .int .u16 a1, .int .u8 b0, .int .u8 b1] 119 (0, 0)) by rw [hV2]; exact keepBP HQ1.out _)
      have HN2 := Lib.hid (show V2.heap[V1.heap.size]? = some (.cells #[.int .i64 (1 + r), .int .i64 0, .int .i64 0, .int .i64 0, .int .i64 0] 52 (0, 0)) by rw [hV2]; exact World.alloc_heap_new _ _)
      have HB2 := Lib.hid (show Below w.heap.size w V2 by rw [hV2]; exact HB1.out.alloc HB1.out.size _)
      have hq12 : Q1 < V1.heap.size := hs1
      have hwq : w.heap.size ≤ V1.heap.size := HB1.out.size
      go_upto_region 7 with fail
      rw [← hV2]
      clear hV2 HM1 HQ1 HB1 y0 hs1
      generalize V1.heap.size = Q2 at *
      have n1 : Q1 ≠ Q2 := by omega
      have n4 : (Value.slice ma i mc).ownBlock = none ∨ (Value.slice ma i mc).ownBlock ≠ some Q2 := .inr fun e => by have := HROW.out _ e; omega
      have y1 := cellHB HQ2.out 1
      have y2 := cellHB HQ2.out 2
      have e1 := cellHB HN2.out 1
      have e2 := cellHB HN2.out 2
      have f1 := frozH HN2.out 1
      have f2 := frozH HN2.out 2
      obtain ⟨V3, hV3⟩ : ∃ V3, V3 = (V2.setCell ⟨Q2, 1, none⟩ (.int .i64 (min a0 a1))).setCell ⟨Q2, 2, none⟩ (.int .i64 (max a0 a1)) := ⟨_, rfl⟩
      have HM3 := Lib.hid (show V3.ownsRow w.heap.size 52 5 (.slice ma i mc) i (flM (echL es i)) by rw [hV3]; exact (HM2.out.kept (grown_setP _ _ _ _) n4).kept (grown_setP _ _ _ _) n4)
      have HQ3 := Lib.hid (show V3.heap[Q1]? = some (.cells #[.int .u8 k0, .int .u16 a0, .int .u16 a1, .int .u8 b0, .int .u8 b1] 119 (0, 0)) by rw [hV3]; exact keepGP (keepGP HQ2.out (grown_setP _ _ _ _) (by simpa using n1)) (grown_setP _ _ _ _) (by simpa using n1))
      have HN3 := Lib.hid (show V3.heap[Q2]? = some (.cells #[.int .i64 (1 + r), .int .i64 (min a0 a1), .int .i64 (max a0 a1), .int .i64 0, .int .i64 0] 52 (0, 0)) by rw [hV3]; exact set52P HN2.out _ _)
      have HB3 := Lib.hid (show Below w.heap.size w V3 by rw [hV3]; exact (HB2.out.setCell (p := ⟨Q2, 1, none⟩) hwq _).setCell (p := ⟨Q2, 2, none⟩) hwq _)
      go_upto_region 8 with fail
      rw [← hV3]
      clear hV3 HM2 HQ2 HN2 HB2 y1 y2 e1 e2 f1 f2
      have y3 := cellHB HQ3.out 3
      have y4 := cellHB HQ3.out 4
      have e3 := cellHB HN3.out 3
      have e4 := cellHB HN3.out 4
      have f3 := frozH HN3.out 3
      have f4 := frozH HN3.out 4
      obtain ⟨V4, hV4⟩ : ∃ V4, V4 = (V3.setCell ⟨Q2, 3, none⟩ (.int .i64 (1 + min b0 b1))).setCell ⟨Q2, 4, none⟩ (.int .i64 (1 + max b0 b1)) := ⟨_, rfl⟩
      have HM4 := Lib.hid (show V4.ownsRow w.heap.size 52 5 (.slice ma i mc) i (flM (echL es i)) by rw [hV4]; exact (HM3.out.kept (grown_setP _ _ _ _) n4).kept (grown_setP _ _ _ _) n4)
      have HN4 := Lib.hid (show V4.heap[Q2]? = some (.cells #[.int .i64 (1 + r), .int .i64 (min a0 a1), .int .i64 (max a0 a1), .int .i64 (1 + min b0 b1), .int .i64 (1 + max b0 b1)] 52 (0, 0)) by rw [hV4]; exact set54P HN3.out _ _)
      have HB4 := Lib.hid (show Below w.heap.size w V4 by rw [hV4]; exact (HB3.out.setCell (p := ⟨Q2, 3, none⟩) hwq _).setCell (p := ⟨Q2, 4, none⟩) hwq _)
      go_upto_region 9 with fail
      rw [← hV4]
      clear hV4 HM3 HQ3 HN3 HB3 y3 y4 e3 e4 f3 f4
      by_cases hr2 : r = 2
      · have HST := Lib.hid (HR2.out hr2)
        subst hr2
        clear HR1 HR2
        have e0 := cellHB HN4.out 0
        have e3 := cellHB HN4.out 3
        have f3 := frozH HN4.out 3
        obtain ⟨V5, hV5⟩ : ∃ V5, V5 = V4.setCell ⟨Q2, 3, none⟩ (.int .i64 (1 + min b0 b1 + 70000)) := ⟨_, rfl⟩
        have HM5 := Lib.hid (show V5.ownsRow w.heap.size 52 5 (.slice ma i mc) i (flM (echL es i)) by rw [hV5]; exact HM4.out.kept (grown_setP _ _ _ _) n4)
        have HN5 := Lib.hid (show V5.heap[Q2]? = some (.cells #[.int .i64 (1 + 2), .int .i64 (min a0 a1), .int .i64 (max a0 a1), .int .i64 (1 + min b0 b1 + 70000), .int .i64 (1 + max b0 b1)] 52 (0, 0)) by rw [hV5]; exact set53P HN4.out _)
        have HB5 := Lib.hid (show Below w.heap.size w V5 by rw [hV5]; exact HB4.out.setCell (p := ⟨Q2, 3, none⟩) hwq _)
        go_upto_region 11 with fail
        rw [← hV5]
        clear hV5 HM4 HN4 HB4 e0 e3 f3
        have e4 := cellHB HN5.out 4
        have f4 := frozH HN5.out 4
        obtain ⟨V6, hV6⟩ : ∃ V6, V6 = V5.setCell ⟨Q2, 4, none⟩ (.int .i64 (1 + max b0 b1 + 70000)) := ⟨_, rfl⟩
        have HM6 := Lib.hid (show V6.ownsRow w.heap.size 52 5 (.slice ma i mc) i (flM (echL es i)) by rw [hV6]; exact HM5.out.kept (grown_setP _ _ _ _) n4)
        have HN6 := Lib.hid (show V6.heap[Q2]? = some (.cells #[.int .i64 3, .int .i64 (min a0 a1), .int .i64 (max a0 a1), .int .i64 (1 + min b0 b1 + 70000), .int .i64 (1 + max b0 b1 + 70000)] 52 (0, 0)) by rw [hV6]; exact set5eP HN5.out _)
        have HB6 := Lib.hid (show Below w.heap.size w V6 by rw [hV6]; exact HB5.out.setCell (p := ⟨Q2, 4, none⟩) hwq _)
        go_upto_region 12 with fail
        rw [← hV6]
        clear hV6 HM5 HN5 HB5 e4 f4
        have e0 := cellHB HN6.out 0
        have e1 := cellHB HN6.out 1
        have e2 := cellHB HN6.out 2
        have e3 := cellHB HN6.out 3
        have e4 := cellHB HN6.out 4
        go_wp2_with (at_builtin; refine wpList_append_own_at _ rfl _ _ 53 rfl w.heap.size 52 i5 (.agg #[.int .i64 0, .int .i64 0, .int .i64 0, .int .i64 0, .int .i64 0]) 5 40 Try.underlying53 hi5 hz50 hz51 hz52 rfl (by decide) _ _ _ rfl (HM6.out.alloc _) ⟨V6.heap.size, 0, none⟩ 1 1 [.int .i64 3, .int .i64 (min a0 a1), .int .i64 (max a0 a1), .int .i64 (1 + min b0 b1 + 70000), .int .i64 (1 + max b0 b1 + 70000)] rfl rfl (five_newP _ _ _ _ _ _ _) (by simp [Value.oneCell']) (by unfold maxLen; omega) (by omega) (by have := HB6.out.size; simp; omega) ?_; intro v2 wz hown' hgrow _ hob; have HG := Lib.hid (show World.grownBy _ wz (Value.slice ma i mc).ownBlock from hgrow); have HO := Lib.hid hown'; clear hown' hgrow hob)
        go_roundw
        case rel => exact ⟨i + 1, by omega, by go_num, by rw [HST.out]; exact HO.out, (HB6.out.alloc HB6.out.size _).grown HG.out (by have := HB6.out.size; simp; omega) (fun q e => (HM6.out.lt q e).1)⟩
        case measure => simp [intOf]; omega
      · have HST := Lib.hid (HR1.out hr2)
        have hr3 : ¬ (1 + r = 3) := by omega
        clear HR1 HR2
        have e0 := cellHB HN4.out 0
        go_upto_region 12 with fail
        clear e0
        have e0 := cellHB HN4.out 0
        have e1 := cellHB HN4.out 1
        have e2 := cellHB HN4.out 2
        have e3 := cellHB HN4.out 3
        have e4 := cellHB HN4.out 4
        go_wp2_with (at_builtin; refine wpList_append_own_at _ rfl _ _ 53 rfl w.heap.size 52 i5 (.agg #[.int .i64 0, .int .i64 0, .int .i64 0, .int .i64 0, .int .i64 0]) 5 40 Try.underlying53 hi5 hz50 hz51 hz52 rfl (by decide) _ _ _ rfl (HM4.out.alloc _) ⟨V4.heap.size, 0, none⟩ 1 1 [.int .i64 (1 + r), .int .i64 (min a0 a1), .int .i64 (max a0 a1), .int .i64 (1 + min b0 b1), .int .i64 (1 + max b0 b1)] rfl rfl (five_newP _ _ _ _ _ _ _) (by simp [Value.oneCell']) (by unfold maxLen; omega) (by omega) (by have := HB4.out.size; simp; omega) ?_; intro v2 wz hown' hgrow _ hob; have HG := Lib.hid (show World.grownBy _ wz (Value.slice ma i mc).ownBlock from hgrow); have HO := Lib.hid hown'; clear hown' hgrow hob)
        go_roundw
        case rel => exact ⟨i + 1, by omega, by go_num, by rw [HST.out]; exact HO.out, (HB4.out.alloc HB4.out.size _).grown HG.out (by have := HB4.out.size; simp; omega) (fun q e => (HM4.out.lt q e).1)⟩
        case measure => simp [intOf]; omega
    · obtain rfl : i = n := by omega
      clear hlt
      have hi8 : i ≤ 8 := by omega
      obtain ⟨W0, hW0⟩ : ∃ W0, W0 = wr := ⟨_, rfl⟩
      go_upto_region 3 with fail
      go_cut [27] from 20 to 27 (fun sc wc => sc = Value.bool false ∧ wc = W0)
      case first =>
        subst hW0
        clear HM HC HB
        by_cases h8 : i < en
        · have a1 : (i : Int) < (en : Int) := by omega
          have a2 : ¬ (i : Int) < 8 := by omega
          clear hn
          go_wp2_with fail
          go_meet
          case rel => exact ⟨rfl, rfl⟩
        · have a1 : ¬ (i : Int) < (en : Int) := by omega
          clear hn
          go_wp2_with fail
          go_meet
          case rel => exact ⟨rfl, rfl⟩
      case rest =>
        obtain ⟨rfl, rfl⟩ := hcut
        subst hW0
        obtain ⟨W0, rfl⟩ : ∃ W0, W0 = wc := ⟨_, rfl⟩
        clear hn
        obtain ⟨L, hL⟩ : ∃ L, L = echL es i := ⟨_, rfl⟩
        have hLl : L.length = i := by rw [hL]; exact echL_len _ _
        have HMS := Lib.hid (msA_of_own hLl (by rw [hL]; exact HM.out))
        clear hL HM HC
        have cL := Lib.hid (locate_any _ L W0 HMS.out)
        by_cases hn0 : i = 0
        · have HE := Lib.hid (locR_nil (l := L) (by omega))
          rw [HE.out] at cL
          clear HMS HE hLl hi8
          subst hn0
          go_wp2_with fail
          refine cL.out.mono ?_
          rintro e w1 ⟨rfl, hb⟩
          have HB1 := Lib.hid (HB.out.trans (hb.mono HB.out.size))
          clear hb cL HB
          obtain ⟨V, hV⟩ : ∃ V, V = w1.alloc (.cells #[.int .i64 0, .int .i64 0] 23) := ⟨_, rfl⟩
          have HX := Lib.hid (show Bx2 V w1.heap.size (.int .i64 0) (.int .i64 0) by rw [hV]; exact Bx2.new _ _ _)
          have HB2 := Lib.hid (show Below w.heap.size w V by rw [hV]; exact HB1.out.alloc HB1.out.size _)
          have x0 := HX.out.c0
          have x1 := HX.out.c1
          go_upto_region 14 with fail
          rw [← hV]
          clear hV
          go_wp2_with fail
          refine (c69.out _).mono ?_
          rintro e wf ⟨rfl, hbf⟩
          have HBF := Lib.hid (HB2.out.trans (hbf.mono HB2.out.size))
          clear hbf
          go_wp2_with fail
          go_ret
          exact ⟨by first | rfl | simp, HBF.out⟩
        have hn0i : ((i : Int) == 0) = false := beq_eq_false_iff_ne.2 (by omega)
        have HLB := Lib.hid (fun (h : errL L ≠ 0) => locR_bad (l := L) (by omega) (by omega) h)
        have HLO := Lib.hid (fun (h : errL L = 0) => locR_ok (l := L) (by omega) (by omega) h)
        obtain ⟨pl, ph, pe, hLR⟩ : ∃ pl ph pe, locR L = ⟨pl, ph, pe⟩ := ⟨_, _, _, rfl⟩
        rw [hLR] at cL HLB HLO
        clear hLR
        obtain ⟨mb, mo, mc2, hmv, hmb, hmc⟩ := msA_open hLl (by omega) HMS.out
        simp only [Value.slice.injEq] at hmv
        obtain ⟨rfl, -, rfl⟩ := hmv
        have HMC := Lib.hid hmc
        clear hmc hmb HMS
        have HDS := Lib.hid (show ∀ j W, Calls Try.prog 44 #[.agg #[.int .i64 (ms L j).kd, .int .i64 (ms L j).v0, .int .i64 (ms L j).v1, .int .i64 (ms L j).b0, .int .i64 (ms L j).b1]] W fun e w' => e = .returned (.tuple #[.agg #[.int .i64 (msF L j).1, .int .i64 (msF L j).2], .int .i64 (dsM (ms L j)).e]) ∧ Below W.heap.size W w' from fun j W => distance_any _ _ _ _ _ W)
        have HFIRST := Lib.hid (fun (j : Nat) (hj : j < i) (h0 : errL (L.take j) = 0) (h1 : (dsM (ms L j)).e ≠ 0) => errL_first (l := L) (k := j) (by omega) h0 h1)
        have HSTEP := Lib.hid (fun (j : Nat) (hj : j < i) (h0 : errL (L.take j) = 0) (h1 : (dsM (ms L j)).e = 0) => errL_step (l := L) (k := j) (by omega) h0 h1)
        have HALL := Lib.hid (show L.take i = L by rw [← hLl]; exact List.take_length)
        have HBDD := Lib.hid (show ∀ j, errL (L.take (j + 1)) = 0 → j < i → (-1073741824 ≤ (msF L j).1 ∧ (msF L j).2 ≤ 1073741824) ∧ (-1073741824 ≤ (comA L j).1 ∧ (comA L j).2 ≤ 1073741824) ∧ ¬ (msF L j).2 < (msF L j).1 ∧ comA L (j + 1) = (max (comA L j).1 (msF L j).1, min (comA L j).2 (msF L j).2) from fun j he hj => place_bd (by omega) he)
        have HC0 := Lib.hid (comA_zero L)
        have HCN := Lib.hid (show comA L i = comL L by rw [← hLl]; exact comA_all (by omega))
        have HIN := Lib.hid (show inAll L x i = decide ((comL L).1 ≤ x ∧ x ≤ (comL L).2) by rw [← hLl]; exact inAll_com (by omega) x)
        have HINS := Lib.hid (inAll_succ L x)
        have HIN0 := Lib.hid (show inAll L x 0 = true from rfl)
        have HCB := Lib.hid (show errL L = 0 → -1073741824 ≤ (comL L).1 ∧ (comL L).2 ≤ 1073741824 from fun he => by have q := comA_bd he (by omega) L.length (Nat.le_refl _); rw [comA_all (by omega)] at q; exact q)
        clear hLl
        go_wp2_with fail
        refine cL.out.mono ?_
        rintro e w1 ⟨rfl, hb⟩
        have HB1 := Lib.hid hb
        clear hb cL
        obtain ⟨V, hV⟩ : ∃ V, V = w1.alloc (.cells #[.int .i64 pl, .int .i64 ph] 23) := ⟨_, rfl⟩
        have HX := Lib.hid (show Bx2 V w1.heap.size (.int .i64 pl) (.int .i64 ph) by rw [hV]; exact Bx2.new _ _ _)
        have HBV := Lib.hid (show Below W0.heap.size W0 V by rw [hV]; exact HB1.out.alloc HB1.out.size _)
        have HUP := Lib.hid (show ∀ W, Below V.heap.size V W → Below w.heap.size w W from fun W h => HB.out.trans ((HBV.out.trans (h.mono HBV.out.size)).mono HB.out.size))
        have KM := Lib.hid (show ∀ W k, Below V.heap.size V W → k < i → W.cell? ⟨mb, mo + k * 5, none⟩ = some (.int .i64 (ms L k).kd) ∧ W.cell? ⟨mb, mo + k * 5 + 1, none⟩ = some (.int .i64 (ms L k).v0) ∧ W.cell? ⟨mb, mo + k * 5 + 2, none⟩ = some (.int .i64 (ms L k).v1) ∧ W.cell? ⟨mb, mo + k * 5 + 3, none⟩ = some (.int .i64 (ms L k).b0) ∧ W.cell? ⟨mb, mo + k * 5 + 4, none⟩ = some (.int .i64 (ms L k).b1) from fun W k h hk => HMC.out W k (HBV.out.trans (h.mono HBV.out.size)) hk)
        have KP := Lib.hid (show ∀ W, Below V.heap.size V W → W.cell? ⟨w1.heap.size, 0, none⟩ = some (.int .i64 pl) ∧ W.cell? ⟨w1.heap.size, 1, none⟩ = some (.int .i64 ph) from fun W h => by have q := HX.out.keep h; exact ⟨q.c0, q.c1⟩)
        clear HB1 HX HBV HB HMC
        go_upto_region 14 with fail
        rw [← hV]
        clear hV
        generalize w1.heap.size = B9 at *
        go_wp2_with fail
        go_loopw [11, 12, 13] (fun cv av iv wr => ∃ j : Nat, j ≤ i ∧ iv = .int .i64 j ∧ wr.ownsRow V.heap.size 23 2 av j (spL (msF L) j) ∧ (0 < j → Bd.Spans wr.heap.size wr cv (comS (comA L j))) ∧ (cv.ownBlock = none ∨ cv.ownBlock ≠ av.ownBlock) ∧ errL (L.take j) = 0 ∧ (∃ ca cl cc, cv = .slice ca cl cc) ∧ Below V.heap.size V wr) (fun _ _ iv _ => i - (intOf iv).toNat)
        case atStart => exact ⟨0, Nat.zero_le _, rfl, World.ownsRow_nil _ _ _ _, fun h => absurd h (Nat.lt_irrefl _), .inl rfl, rfl, ⟨_, _, _, rfl⟩, Below.refl _ _⟩
        case round =>
          obtain ⟨j, hj, rfl, hrow, hsp, hdist, herr, ⟨ca, cl, cc, rfl⟩, hB⟩ := hrel
          have HR := Lib.hid hrow
          have HSP := Lib.hid hsp
          have HD := Lib.hid hdist
          have HE := Lib.hid herr
          have HB := Lib.hid hB
          obtain ⟨aa, ac, rfl⟩ := own_dropP hrow
          clear hrow hsp hdist herr hB
          obtain ⟨W2, rfl⟩ : ∃ W2, W2 = wr := ⟨_, rfl⟩
          by_cases hjl : j < i
          · have hji : (j : Int) < (i : Int) := by omega
            obtain ⟨m0, m1, m2, m3, m4⟩ := KM.out _ j HB.out hjl
            have cD := Lib.hid (HDS.out j)
            have HF := Lib.hid (HFIRST.out j hjl HE.out)
            have HS := Lib.hid (HSTEP.out j hjl HE.out)
            have HBQ := Lib.hid (HBDD.out j)
            have HSPL := Lib.hid (show spL (msF L) (j + 1) = spL (msF L) j ++ [.int .i64 (msF L j).1, .int .i64 (msF L j).2] from spL_succ _ _)
            clear HFIRST HSTEP HBDD HDS HIN HINS HIN0 KM hx
            generalize hde : (dsM (ms L j)).e = de at *
            generalize (ms L j).kd = x0 at *
            generalize (ms L j).v0 = x1 at *
            generalize (ms L j).v1 = x2 at *
            generalize (ms L j).b0 = x3 at *
            generalize (ms L j).b1 = x4 at *
            obtain ⟨dl, dh, hdlh⟩ : ∃ dl dh, msF L j = (dl, dh) := ⟨_, _, rfl⟩
            rw [hdlh] at cD HBQ HSPL
            have HDL := Lib.hid hdlh
            clear hdlh hde
            go_wp2_with fail
            refine (cD.out _).mono ?_
            rintro e w2 ⟨rfl, hb⟩
            have HB2 := Lib.hid hb
            clear hb cD m0 m1 m2 m3 m4
            obtain ⟨V1, hV1⟩ : ∃ V1, V1 = w2.alloc (.cells #[.int .i64 dl, .int .i64 dh] 23) := ⟨_, rfl⟩
            have HX1 := Lib.hid (show Bx2 V1 w2.heap.size (.int .i64 dl) (.int .i64 dh) by rw [hV1]; exact Bx2.new _ _ _)
            have HB3 := Lib.hid (show Below W2.heap.size W2 V1 by rw [hV1]; exact HB2.out.alloc HB2.out.size _)
            have HB4 := Lib.hid (show Below V.heap.size V V1 from HB.out.trans (HB3.out.mono HB.out.size))
            have hsz : W2.heap.size ≤ w2.heap.size := HB2.out.size
            go_upto_region 22 with fail
            rw [← hV1]
            clear hV1 HB2
            generalize w2.heap.size = B14 at *
            by_cases hde : de = 0
            rotate_left
            · have hne : (de != 0) = true := by simpa using hde
              have HER := Lib.hid (HF.out hde)
              have hpe : pe = de := by
                have q := HLB.out (by rw [HER.out]; exact hde)
                have q2 := (R3.mk.inj q).2.2
                rw [q2]; exact HER.out
              subst hpe
              clear HLB HLO HF HS HER HBQ HSPL HDL
              go_wp2_with fail
              have HBT := Lib.hid (HUP.out _ HB4.out)
              refine (c69.out _).mono ?_
              rintro e wf ⟨rfl, hbf⟩
              have HBF := Lib.hid (HBT.out.trans (hbf.mono HBT.out.size))
              clear hbf
              go_wp2_with fail
              go_ret
              exact ⟨by first | rfl | simp, HBF.out⟩
            subst hde
            have HES := Lib.hid (HS.out rfl)
            obtain ⟨hq1, hq2, hq3, hq4⟩ := HBQ.out HES.out hjl
            try dsimp only at hq1 hq3 hq4
            have HCUT := Lib.hid (cut_com hq2.1 hq2.2 (b := (dl, dh)) hq1.1 hq1.2)
            rw [show comS (dl, dh) = [(dl, dh)] from if_neg (by omega)] at HCUT
            have HC4 := Lib.hid hq4
            clear HF HS HBQ hq4 HLB HLO HCB
            have y0 := HX1.out.c0
            have y1 := HX1.out.c1
            have HR1 := Lib.hid (show V1.ownsRow V.heap.size 23 2 (.slice aa j ac) j (spL (msF L) j) from Bd.own_keepB HR.out HB3.out)
            have HLT := Lib.hid (show ∀ q, (Value.slice aa j ac).ownBlock = some q → q < W2.heap.size from fun q e => (HR.out.lt q e).2)
            have HSP1 := Lib.hid (show 0 < j → Bd.Spans V1.heap.size V1 (.slice ca cl cc) (comS (comA L j)) from fun h => (HSP.out h).at HB3.out)
            clear HR HSP HB3
            go_upto_region 25 with (at_builtin; refine wpList_append_own_at _ rfl _ _ 36 rfl V.heap.size 23 i2 (.agg #[.int .i64 0, .int .i64 0]) 2 16 Try.underlying36 hi2 hz20 hz21 hz22 rfl (by decide) _ _ _ rfl (HR1.out.alloc _) ⟨V1.heap.size, 0, none⟩ 1 1 [.int .i64 dl, .int .i64 dh] rfl rfl (two_newP _ _ _ _) (by simp [Value.oneCell']) (by unfold maxLen; omega) (by omega) (by have := HB4.out.size; simp; omega) ?_; intro v5 w5 hown' hgrow _ hob; obtain ⟨ga, gc, rfl⟩ := own_dropP hown'; have HG := Lib.hid (show World.grownBy _ w5 (Value.slice aa j ac).ownBlock from hgrow); have HO := Lib.hid hown'; have HOB := Lib.hid (show (Value.slice ga (j + 1) gc).ownBlock = (Value.slice aa j ac).ownBlock ∨ (Value.slice ga (j + 1) gc).ownBlock = some (V1.alloc (.cells #[.int .i64 dl, .int .i64 dh] 23)).heap.size from hob); clear hown' hgrow hob)
            have HR5 := Lib.hid (show w5.ownsRow V.heap.size 23 2 (.slice ga (j + 1) gc) (j + 1) (spL (msF L) (j + 1)) by rw [HSPL.out]; exact HO.out)
            have HB5 := Lib.hid (show Below V.heap.size V w5 from (HB4.out.alloc HB4.out.size _).grown HG.out (by have := HB4.out.size; simp; omega) (fun q e => (HR1.out.lt q e).1))
            have HX5 := Lib.hid (show Bx2 w5 B14 (.int .i64 dl) (.int .i64 dh) from keepGP (keepBP HX1.out _) HG.out (fun e => by have := HLT.out _ e.symm; omega))
            have HSP5 := Lib.hid (show 0 < j → Bd.Spans w5.heap.size w5 (.slice ca cl cc) (comS (comA L j)) from fun h => spans_grown (spans_alloc (HSP1.out h) _) HG.out HD.out)
            have HLT5 := Lib.hid (show ∀ q, (Value.slice ga (j + 1) gc).ownBlock = some q → q < w5.heap.size from fun q e => (HR5.out.lt q e).2)
            clear HR1 HSP1 HX1 HB4 HG HO HOB HLT HD y0 y1 HSPL
            by_cases hj0 : j = 0
            · have hj0i : ((j : Int) == 0) = true := by rw [hj0]; rfl
              have HA0 := Lib.hid (show comA L j = (dl, dh) by have hz := HDL.out; rw [hj0] at hz ⊢; rw [HC0.out, hz])
              clear hj0
              have z0 := HX5.out.c0
              have z1 := HX5.out.c1
              obtain ⟨U0, hU0⟩ : ∃ U0, U0 = w5.alloc (.cells #[.int .i64 dl, .int .i64 dh] 23) := ⟨_, rfl⟩
              have HL0 := Lib.hid (show U0.heap[w5.heap.size]? = some (.cells #[.int .i64 dl, .int .i64 dh] 23 (0, 0)) by rw [hU0]; exact World.alloc_heap_new _ _)
              have HU0 := Lib.hid (show Below w5.heap.size w5 U0 by rw [hU0]; exact (Below.refl _ _).alloc (Nat.le_refl _) _)
              have HS0 := Lib.hid (show Bd.Spans U0.heap.size U0 (.slice (some ⟨w5.heap.size, 0, none⟩) 1 1) (comS (comA L j)) by rw [HA0.out, show comS (dl, dh) = [(dl, dh)] from if_neg (by omega)]; exact spans_lit HL0.out)
              go_upto_region 27 with fail
              try rw [← hU0]
              clear hU0 z0 z1
              have HX6 := Lib.hid (HX5.out.keep HU0.out)
              have z0 := HX6.out.c0
              have z1 := HX6.out.c1
              have HZ0 := Lib.hid (show w5.heap.size ≤ U0.heap.size from HU0.out.size)
              obtain ⟨U1, hU1⟩ : ∃ U1, U1 = U0.alloc (.cells #[.int .i64 dl, .int .i64 dh] 23) := ⟨_, rfl⟩
              have HL1 := Lib.hid (show U1.heap[U0.heap.size]? = some (.cells #[.int .i64 dl, .int .i64 dh] 23 (0, 0)) by rw [hU1]; exact World.alloc_heap_new _ _)
              have HU1 := Lib.hid (show Below U0.heap.size U0 U1 by rw [hU1]; exact (Below.refl _ _).alloc (Nat.le_refl _) _)
              have cC := Lib.hid (Bd.cut_own _ _ _ _ U1 (HS0.out.at HU1.out) (spans_lit HL1.out))
              rw [HCUT.out.1, HCUT.out.2] at cC
              clear HCUT
              go_wp2_with fail
              try rw [← hU1]
              clear hU1
              refine cC.out.mono ?_
              rintro e w8 ⟨v8, rfl, hr8, hb8⟩
              obtain ⟨da, dc, hv8⟩ := own_dropP hr8
              have HU8 := Lib.hid (show Below U0.heap.size U0 w8 from HU1.out.trans (hb8.mono HU1.out.size))
              have HSZ := Lib.hid (show U0.heap.size ≤ U1.heap.size from HU1.out.size)
              have HS8 := Lib.hid (show Bd.Spans w8.heap.size w8 v8 (comS (comA L (j + 1))) by rw [HC4.out]; exact Bd.spans_of_owns hr8)
              have HD8 := Lib.hid (show v8.ownBlock = none ∨ v8.ownBlock ≠ (Value.slice ga (j + 1) gc).ownBlock from by
                cases h : v8.ownBlock with
                | none => exact .inl rfl
                | some q =>
                  refine .inr fun e => ?_
                  have a := (hr8.lt q h).1
                  have b := HLT5.out q e.symm
                  have := HSZ.out
                  have := HZ0.out
                  omega)
              subst hv8
              clear hr8 hb8 cC HL1 HU1
              go_wp2_with fail
              go_roundw
              case rel => exact ⟨j + 1, by omega, by go_num, Bd.own_keepB (Bd.own_keepB HR5.out HU0.out) HU8.out, fun _ => HS8.out, HD8.out, HES.out, ⟨_, _, _, rfl⟩, (HB5.out.trans (HU0.out.mono HB5.out.size)).trans (HU8.out.mono (HB5.out.trans (HU0.out.mono HB5.out.size)).size)⟩
              case measure => simp [intOf]; omega
            · have hj0i : ((j : Int) == 0) = false := beq_eq_false_iff_ne.2 (by omega)
              have z0 := HX5.out.c0
              have z1 := HX5.out.c1
              have HS0 := Lib.hid (HSP5.out (by omega))
              go_upto_region 27 with fail
              obtain ⟨U1, hU1⟩ : ∃ U1, U1 = w5.alloc (.cells #[.int .i64 dl, .int .i64 dh] 23) := ⟨_, rfl⟩
              have HL1 := Lib.hid (show U1.heap[w5.heap.size]? = some (.cells #[.int .i64 dl, .int .i64 dh] 23 (0, 0)) by rw [hU1]; exact World.alloc_heap_new _ _)
              have HU1 := Lib.hid (show Below w5.heap.size w5 U1 by rw [hU1]; exact (Below.refl _ _).alloc (Nat.le_refl _) _)
              have cC := Lib.hid (Bd.cut_own _ _ _ _ U1 (HS0.out.at HU1.out) (spans_lit HL1.out))
              rw [HCUT.out.1, HCUT.out.2] at cC
              clear HCUT
              go_wp2_with fail
              try rw [← hU1]
              clear hU1
              refine cC.out.mono ?_
              rintro e w8 ⟨v8, rfl, hr8, hb8⟩
              obtain ⟨da, dc, hv8⟩ := own_dropP hr8
              have HU8 := Lib.hid (show Below w5.heap.size w5 w8 from HU1.out.trans (hb8.mono HU1.out.size))
              have HSZ := Lib.hid (show w5.heap.size ≤ U1.heap.size from HU1.out.size)
              have HS8 := Lib.hid (show Bd.Spans w8.heap.size w8 v8 (comS (comA L (j + 1))) by rw [HC4.out]; exact Bd.spans_of_owns hr8)
              have HD8 := Lib.hid (show v8.ownBlock = none ∨ v8.ownBlock ≠ (Value.slice ga (j + 1) gc).ownBlock from by
                cases h : v8.ownBlock with
                | none => exact .inl rfl
                | some q =>
                  refine .inr fun e => ?_
                  have a := (hr8.lt q h).1
                  have b := HLT5.out q e.symm
                  have := HSZ.out
                  have := Nat.le_refl w5.heap.size
                  omega)
              subst hv8
              clear hr8 hb8 cC HL1 HU1
              go_wp2_with fail
              go_roundw
              case rel => exact ⟨j + 1, by omega, by go_num, Bd.own_keepB HR5.out HU8.out, fun _ => HS8.out, HD8.out, HES.out, ⟨_, _, _, rfl⟩, HB5.out.trans (HU8.out.mono HB5.out.size)⟩
              case measure => simp [intOf]; omega
          · have hji : i = j := by omega
            subst hji
            have HEL := Lib.hid (show errL L = 0 by have h := HE.out; rw [HALL.out] at h; exact h)
            have HLR := Lib.hid (HLO.out HEL.out)
            have HCBB := Lib.hid (HCB.out HEL.out)
            have HSPN := Lib.hid (show Bd.Spans W2.heap.size W2 (.slice ca cl cc) (comS (comL L)) by have h := HSP.out (by omega); rw [HCN.out] at h; exact h)
            clear HLB HLO HCB HFIRST HSTEP HBDD HDS KM HSP HD HE HC0 HALL HCN HEL hjl
            obtain ⟨sl, sh, hcl⟩ : ∃ sl sh, comL L = (sl, sh) := ⟨_, _, rfl⟩
            rw [hcl] at HLR HCBB HSPN HIN
            clear hcl
            by_cases hcs : sh < sl
            · rw [show comS (sl, sh) = [] from if_pos hcs] at HSPN
              have hpe : pe = 16 := by
                have q := HLR.out
                rw [if_pos hcs] at q
                exact (R3.mk.inj q).2.2
              subst hpe
              obtain ⟨a9, c9, hsv, -⟩ := HSPN.out.slice
              simp only [Value.slice.injEq, List.length_nil] at hsv
              obtain ⟨rfl, rfl, rfl⟩ := hsv
              clear HLR HCBB HSPN HIN HINS HIN0 hcs
              have HBT := Lib.hid (HUP.out _ HB.out)
              go_wp2_with fail
              refine (c69.out _).mono ?_
              rintro e wf ⟨rfl, hbf⟩
              have HBF := Lib.hid (HBT.out.trans (hbf.mono HBT.out.size))
              clear hbf
              go_wp2_with fail
              go_ret
              exact ⟨by first | rfl | simp, HBF.out⟩
            · have hcom : comS (sl, sh) = [(sl, sh)] := if_neg hcs
              obtain ⟨hpl, hph, hpe⟩ : pl = sl ∧ ph = sh ∧ pe = 0 := by
                have q := HLR.out
                rw [if_neg hcs] at q
                exact R3.mk.inj q
              subst hpl hph hpe
              have HH := Lib.hid (has_com (a := (pl, ph)) HCBB.out.1 HCBB.out.2 x)
              rw [hcom] at HH HSPN
              obtain ⟨a9, c9, hsv, hsc⟩ := HSPN.out.slice
              simp only [Value.slice.injEq, List.length_cons, List.length_nil, Nat.zero_add] at hsv
              obtain ⟨rfl, rfl, rfl⟩ := hsv
              obtain ⟨cb, co, rfl, hcb, y0, y1⟩ := hsc 0 (by simp)
              have cH := Lib.hid (fun W (h : Below W2.heap.size W2 W) => Bd.has_any _ _ x W (HSPN.out.at h))
              rw [HH.out.1, HH.out.2] at cH
              obtain ⟨sb, so, sc, hsl, hsb, hsc2⟩ := sv_openP (by omega) (sv_of_own HR.out)
              simp only [Value.slice.injEq] at hsl
              obtain ⟨rfl, -, rfl⟩ := hsl
              have HSC := Lib.hid hsc2
              simp only [Nat.zero_mul, Nat.add_zero] at y0 y1
              replace y0 : W2.cell? ⟨cb, co, none⟩ = some (.int .i64 pl) := y0
              replace y1 : W2.cell? ⟨cb, co + 1, none⟩ = some (.int .i64 ph) := y1
              clear hsc hsc2 hsb hcb HSPN HH HLR HCBB hcom hcs HR
              obtain ⟨bb, hbb⟩ : ∃ bb, bb = decide ((pl, ph).1 ≤ x ∧ x ≤ (pl, ph).2) := ⟨_, rfl⟩
              rw [← hbb] at cH HIN
              clear hbb
              obtain ⟨y2, y3⟩ := KP.out _ HB.out
              go_upto_region 31 with fail
              go_upto_region 33 with fail
              refine wp_region_held_drew (S := fun w' => w'.cell? ⟨cb, co, none⟩ = some (Value.int .i64 pl) ∧ w'.cell? ⟨cb, co + 1, none⟩ = some (Value.int .i64 ph) ∧ w'.cell? ⟨B9, 0, none⟩ = some (Value.int .i64 pl) ∧ w'.cell? ⟨B9, 1, none⟩ = some (Value.int .i64 ph)) (by kernel_rfl) ⟨by simpa [go_sem] using y0, by simpa [go_sem] using y1, by simpa [go_sem] using y2, by simpa [go_sem] using y3⟩ (fun hHeld => ?_)
              refine wpAnyH_take (i := 0) (oi := _) (v := Value.int .i64 0) rfl (by kernel_rfl) (by kernel_rfl) (by kernel_rfl) (fun _ _ _ h => h) (Or.inl ⟨by rfl, fun w' hSw => ?_⟩) hHeld ?_
              · obtain ⟨t0, t1, t2, t3⟩ := hSw
                go_simp
                try simp [*]
                try (intro hh; exfalso; omega)
                try omega
                try rfl
              try simp only [Act.put, List.setIfInBounds_toArray, List.set_cons_zero, List.set_cons_succ, List.getElem_toArray, List.getElem_cons_succ, List.getElem_cons_zero]
              refine wpAnyH_take (i := 1) (oi := _) (v := Value.bool false) rfl (by kernel_rfl) (by kernel_rfl) (by kernel_rfl) (fun _ _ _ h => h) (Or.inl ⟨by rfl, fun w' hSw => ?_⟩) hHeld ?_
              · obtain ⟨t0, t1, t2, t3⟩ := hSw
                go_simp
                try simp [*]
                try (intro hh; exfalso; omega)
                try omega
                try rfl
              try simp only [Act.put, List.setIfInBounds_toArray, List.set_cons_zero, List.set_cons_succ, List.getElem_toArray, List.getElem_cons_succ, List.getElem_cons_zero]
              refine wpAnyH_take (i := 2) (oi := _) (v := Value.bool false) rfl (by kernel_rfl) (by kernel_rfl) (by kernel_rfl) (fun _ _ _ h => h) (Or.inl ⟨by rfl, fun w' hSw => ?_⟩) hHeld ?_
              · obtain ⟨t0, t1, t2, t3⟩ := hSw
                go_simp
                try simp [*]
                try (intro hh; exfalso; omega)
                try omega
                try rfl
              try simp only [Act.put, List.setIfInBounds_toArray, List.set_cons_zero, List.set_cons_succ, List.getElem_toArray, List.getElem_cons_succ, List.getElem_cons_zero]
              refine wpAnyH_take (i := 3) (oi := _) (v := Value.slice (some ⟨cb, co, none⟩) 1 cc) rfl (by kernel_rfl) (by kernel_rfl) (by kernel_rfl) (fun _ _ _ h => h) (Or.inl ⟨by rfl, fun w' hSw => ?_⟩) hHeld ?_
              · obtain ⟨t0, t1, t2, t3⟩ := hSw
                go_simp
                try simp [*]
                try (intro hh; exfalso; omega)
                try omega
                try rfl
              try simp only [Act.put, List.setIfInBounds_toArray, List.set_cons_zero, List.set_cons_succ, List.getElem_toArray, List.getElem_cons_succ, List.getElem_cons_zero]
              refine wpAnyH_take (i := 4) (oi := _) (v := Value.int .i64 1) rfl (by kernel_rfl) (by kernel_rfl) (by kernel_rfl) (fun _ _ _ h => h) (Or.inl ⟨by rfl, fun w' hSw => ?_⟩) hHeld ?_
              · obtain ⟨t0, t1, t2, t3⟩ := hSw
                go_simp
                try simp [*]
                try (intro hh; exfalso; omega)
                try omega
                try rfl
              try simp only [Act.put, List.setIfInBounds_toArray, List.set_cons_zero, List.set_cons_succ, List.getElem_toArray, List.getElem_cons_succ, List.getElem_cons_zero]
              refine wpAnyH_take (i := 5) (oi := _) (v := Value.bool false) rfl (by kernel_rfl) (by kernel_rfl) (by kernel_rfl) (fun _ _ _ h => h) (Or.inl ⟨by rfl, fun w' hSw => ?_⟩) hHeld ?_
              · obtain ⟨t0, t1, t2, t3⟩ := hSw
                go_simp
                try simp [*]
                try (intro hh; exfalso; omega)
                try omega
                try rfl
              try simp only [Act.put, List.setIfInBounds_toArray, List.set_cons_zero, List.set_cons_succ, List.getElem_toArray, List.getElem_cons_succ, List.getElem_cons_zero]
              refine wpAnyH_take (i := 6) (oi := _) (v := Value.bool false) rfl (by kernel_rfl) (by kernel_rfl) (by kernel_rfl) (fun _ _ _ h => h) (Or.inl ⟨by rfl, fun w' hSw => ?_⟩) hHeld ?_
              · obtain ⟨t0, t1, t2, t3⟩ := hSw
                go_simp
                try simp [*]
                try (intro hh; exfalso; omega)
                try omega
                try rfl
              try simp only [Act.put, List.setIfInBounds_toArray, List.set_cons_zero, List.set_cons_succ, List.getElem_toArray, List.getElem_cons_succ, List.getElem_cons_zero]
              refine wpAnyH_take (i := 7) (oi := _) (v := Value.bool false) rfl (by kernel_rfl) (by kernel_rfl) (by kernel_rfl) (fun _ _ _ h => h) (Or.inl ⟨by rfl, fun w' hSw => ?_⟩) hHeld ?_
              · obtain ⟨t0, t1, t2, t3⟩ := hSw
                go_simp
                try simp [*]
                try (intro hh; exfalso; omega)
                try omega
                try rfl
              try simp only [Act.put, List.setIfInBounds_toArray, List.set_cons_zero, List.set_cons_succ, List.getElem_toArray, List.getElem_cons_succ, List.getElem_cons_zero]
              refine wpAnyH_take (i := 8) (oi := _) (v := Value.slice (some ⟨cb, co, none⟩) 1 cc) rfl (by kernel_rfl) (by kernel_rfl) (by kernel_rfl) (fun _ _ _ h => h) (Or.inl ⟨by rfl, fun w' hSw => ?_⟩) hHeld ?_
              · obtain ⟨t0, t1, t2, t3⟩ := hSw
                go_simp
                try simp [*]
                try (intro hh; exfalso; omega)
                try omega
                try rfl
              try simp only [Act.put, List.setIfInBounds_toArray, List.set_cons_zero, List.set_cons_succ, List.getElem_toArray, List.getElem_cons_succ, List.getElem_cons_zero]
              refine wpAnyH_take (i := 9) (oi := _) (v := Value.pointer (some ⟨cb, co, none⟩)) rfl (by kernel_rfl) (by kernel_rfl) (by kernel_rfl) (fun _ _ _ h => h) (Or.inl ⟨by rfl, fun w' hSw => ?_⟩) hHeld ?_
              · obtain ⟨t0, t1, t2, t3⟩ := hSw
                go_simp
                try simp [*]
                try (intro hh; exfalso; omega)
                try omega
                try rfl
              try simp only [Act.put, List.setIfInBounds_toArray, List.set_cons_zero, List.set_cons_succ, List.getElem_toArray, List.getElem_cons_succ, List.getElem_cons_zero]
              refine wpAnyH_take (i := 10) (oi := _) (v := Value.agg #[Value.int .i64 pl, Value.int .i64 ph]) rfl (by kernel_rfl) (by kernel_rfl) (by kernel_rfl) (fun _ _ _ h => h) (Or.inl ⟨by rfl, fun w' hSw => ?_⟩) hHeld ?_
              · obtain ⟨t0, t1, t2, t3⟩ := hSw
                go_simp
                try simp [*]
                try (intro hh; exfalso; omega)
                try omega
                try rfl
              try simp only [Act.put, List.setIfInBounds_toArray, List.set_cons_zero, List.set_cons_succ, List.getElem_toArray, List.getElem_cons_succ, List.getElem_cons_zero]
              refine wpAnyH_take (i := 11) (oi := _) (v := Value.agg #[Value.int .i64 pl, Value.int .i64 ph]) rfl (by kernel_rfl) (by kernel_rfl) (by kernel_rfl) (fun _ _ _ h => h) (Or.inl ⟨by rfl, fun w' hSw => ?_⟩) hHeld ?_
              · obtain ⟨t0, t1, t2, t3⟩ := hSw
                go_simp
                try simp [*]
                try (intro hh; exfalso; omega)
                try omega
                try rfl
              try simp only [Act.put, List.setIfInBounds_toArray, List.set_cons_zero, List.set_cons_succ, List.getElem_toArray, List.getElem_cons_succ, List.getElem_cons_zero]
              refine wpAnyH_take (i := 12) (oi := _) (v := Value.bool false) rfl (by kernel_rfl) (by kernel_rfl) (by kernel_rfl) (fun _ _ _ h => h) (Or.inl ⟨by rfl, fun w' hSw => ?_⟩) hHeld ?_
              · obtain ⟨t0, t1, t2, t3⟩ := hSw
                go_simp
                try simp [*]
                try (intro hh; exfalso; omega)
                try omega
                try rfl
              try simp only [Act.put, List.setIfInBounds_toArray, List.set_cons_zero, List.set_cons_succ, List.getElem_toArray, List.getElem_cons_succ, List.getElem_cons_zero]
              refine wpAnyH_take (i := 13) (oi := _) (v := Value.bool false) rfl (by kernel_rfl) (by kernel_rfl) (by kernel_rfl) (fun _ _ _ h => h) (Or.inl ⟨by rfl, fun w' hSw => ?_⟩) hHeld ?_
              · obtain ⟨t0, t1, t2, t3⟩ := hSw
                go_simp
                try simp [*]
                try (intro hh; exfalso; omega)
                try omega
                try rfl
              try simp only [Act.put, List.setIfInBounds_toArray, List.set_cons_zero, List.set_cons_succ, List.getElem_toArray, List.getElem_cons_succ, List.getElem_cons_zero]
              refine wpAnyH_done (by kernel_rfl) ?_ _
              clear hHeld
              have HD0 := Lib.hid (show Below W2.heap.size W2 W2.drew from (Below.refl _ _).drew)
              go_wp2_with fail
              refine (cH.out _ HD0.out).mono ?_
              rintro e w4 ⟨rfl, hb4⟩
              have HB4 := Lib.hid (show Below W2.heap.size W2 w4 from HD0.out.trans (hb4.mono HD0.out.size))
              clear hb4 cH y0 y1 y2 y3 HD0
              go_wp2_with fail
              go_loopw [18, 19] (fun ev iv wr => ∃ j : Nat, j ≤ i ∧ iv = .int .i64 j ∧ ev = .bool (inAll L x j) ∧ Below W2.heap.size W2 wr) (fun _ iv _ => i - (intOf iv).toNat)
              case atStart => exact ⟨0, Nat.zero_le _, rfl, by rw [HIN0.out], HB4.out⟩
              case round =>
                obtain ⟨j, hj2, rfl, rfl, hB3⟩ := hrel
                have HB3 := Lib.hid hB3
                clear hB3
                by_cases hjl : j < i
                · have hji : (j : Int) < (i : Int) := by omega
                  obtain ⟨s0, s1⟩ := HSC.out _ j HB3.out hjl
                  have HST := Lib.hid (HINS.out j)
                  clear HIN HINS HIN0 HSC
                  generalize inAll L x j = bj at *
                  obtain ⟨dl, dh, hd⟩ : ∃ dl dh, msF L j = (dl, dh) := ⟨_, _, rfl⟩
                  rw [hd] at s0 s1 HST
                  dsimp only at s0 s1
                  clear hd
                  cases bj
                  · have HBN := Lib.hid (show inAll L x (j + 1) = false by rw [HST.out]; rfl)
                    clear HST
                    go_wp2_with fail
                    go_roundw
                    case rel => exact ⟨j + 1, by omega, by go_num, by rw [HBN.out], HB3.out⟩
                    case measure => simp [intOf]; omega
                  · by_cases h1 : dl ≤ x
                    · by_cases h2 : x ≤ dh
                      · have HBN := Lib.hid (show inAll L x (j + 1) = true by rw [HST.out]; simp [h1, h2])
                        clear HST
                        go_wp2_with fail
                        go_roundw
                        case rel => exact ⟨j + 1, by omega, by go_num, by rw [HBN.out], HB3.out⟩
                        case measure => simp [intOf]; omega
                      · have HBN := Lib.hid (show inAll L x (j + 1) = false by rw [HST.out]; simp [h2])
                        clear HST
                        go_wp2_with fail
                        go_roundw
                        case rel => exact ⟨j + 1, by omega, by go_num, by rw [HBN.out], HB3.out⟩
                        case measure => simp [intOf]; omega
                    · have HBN := Lib.hid (show inAll L x (j + 1) = false by rw [HST.out]; simp [h1])
                      clear HST
                      go_wp2_with fail
                      go_roundw
                      case rel => exact ⟨j + 1, by omega, by go_num, by rw [HBN.out], HB3.out⟩
                      case measure => simp [intOf]; omega
                · have hji : i = j := by omega
                  subst hji
                  rw [HIN.out]
                  have hbe : (bb == bb) = true := by simp
                  have HBT := Lib.hid (HUP.out _ (HB.out.trans (HB3.out.mono HB.out.size)))
                  clear HIN HINS HIN0 HSC hjl
                  go_wp2_with fail
                  refine (c69.out _).mono ?_
                  rintro e wf ⟨rfl, hbf⟩
                  have HBF := Lib.hid (HBT.out.trans (hbf.mono HBT.out.size))
                  clear hbf
                  go_wp2_with fail
                  go_ret
                  exact ⟨by first | rfl | simp, HBF.out⟩
end Go.Proofs.Ytdohfpnnmppdkaa

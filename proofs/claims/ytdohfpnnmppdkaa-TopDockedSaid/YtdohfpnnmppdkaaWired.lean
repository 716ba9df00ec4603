/-
  wired (65): the cable of wires.
-/
import Derived.Test.YtdohfpnnmppdkaaWiRow
import Derived.Test.YtdohfpnnmppdkaaOpenWir
import Derived.Test.YtdohfpnnmppdkaaCbF
import Derived.Maps.AppendAt
namespace Go.Proofs.Ytdohfpnnmppdkaa
open Go.RowKit Go.Shelf
set_option linter.unusedSimpArgs false
attribute [local go_sem] Oper.semAt_some
theorem grown_set (W : World) (b o : Nat) (v : Value) : W.grownBy (W.setCell ⟨b, o, none⟩ v) (some b) :=
  ⟨rfl, rfl, rfl, (KeepsWalks.setCell W _ v).size, fun k _ hk => Below.heap_setCell _ _ _ k (fun e => hk (by rw [e]))⟩
theorem infoN62 : (Try.prog.info? 62).map (fun i => (i.zero, i.size, i.bytes)) = some (some (.agg #[.int .i64 0, .int .i64 0, .int .i64 0, .int .i64 0, .int .i64 0, .int .i64 0, .int .i64 0, .int .i64 0]), 8, 64) := by kernel_rfl
theorem one_newW (W : World) (x : Value) (t : TypeId) : ∀ (j : Nat) (u : Value), [x][j]? = some u → (W.alloc (.cells #[x] t)).cell? ((⟨W.heap.size, 0, none⟩ : Addr).add j) = some u := by
  intro j u hj
  match j, hj with
  | 0, h => simp at h; subst h; simp [Addr.add, go_sem]
/-- what the round of wire i makes -/
theorem wir_round {W : World} {ws : List Wr} {i b off : Nat} (h : WirC W (Go.Proofs.Ytdohfpnnmppdkaa.wr ws i) b off) :
    ∃ (x0 x1 x2 x3 x4 x5 x6 dp : Int) (pn : Nat), (W.cell? ⟨b, off, none⟩ = some (.int .u8 x0) ∧ W.cell? ⟨b, off + 1, none⟩ = some (.int .u8 x1) ∧ W.cell? ⟨b, off + 2, none⟩ = some (.int .u8 x2) ∧ W.cell? ⟨b, off + 3, none⟩ = some (.int .u8 x3) ∧ W.cell? ⟨b, off + 4, none⟩ = some (.int .u8 x4) ∧ W.cell? ⟨b, off + 5, none⟩ = some (.int .u8 x5) ∧ W.cell? ⟨b, off + 6, none⟩ = some (.int .u16 x6)) ∧
      ((0 ≤ x0 ∧ x0 ≤ 255) ∧ (0 ≤ x1 ∧ x1 ≤ 255) ∧ (0 ≤ x2 ∧ x2 ≤ 255) ∧ (0 ≤ x3 ∧ x3 ≤ 255) ∧ (0 ≤ x4 ∧ x4 ≤ 255) ∧ (0 ≤ x5 ∧ x5 ≤ 255) ∧ (0 ≤ x6 ∧ x6 ≤ 65535)) ∧
      x0.tmod ((i : Int) + 1) = (pn : Int) ∧ pn ≤ i ∧ dAt (depF ws i) pn = dp ∧ (0 ≤ dp ∧ dp ≤ i) ∧ flDp (depF ws (i + 1)) = flDp (depF ws i) ++ [.int .i64 (dp + 1)] ∧
      flNd (wirF ws (i + 1)) = flNd (wirF ws i) ++ [.int .i64 (pn : Int), .int .i64 (10 * min x1 x2), .int .i64 (10 * max x1 x2), .int .i64 x6, .int .i64 (min x3 x4), .int .i64 (max x3 x4), .int .i64 19000, .int .i64 (if 0 < x5 % 3 then 100 - 2 * (dp + 1) else -1)] := by
  obtain ⟨hok, c0, c1, c2, c3, c4, c5, c6⟩ := h
  obtain ⟨p1, p2⟩ := wrP_bd (ws := ws) i
  obtain ⟨q1, q2⟩ := dAt_bd ws i (wrP ws i).toNat (by omega)
  refine ⟨_, _, _, _, _, _, _, dAt (depF ws i) (wrP ws i).toNat, (wrP ws i).toNat, ⟨c0, c1, c2, c3, c4, c5, c6⟩, ⟨hok.par, hok.o0, hok.o1, hok.l0, hok.l1, hok.dl, hok.lim⟩, ?_, by omega, rfl, ⟨q1, by omega⟩, (dep_step ws i).symm, ?_⟩
  · rw [Int.tmod_eq_emod_of_nonneg hok.par.1, Int.toNat_of_nonneg p1]; rfl
  · rw [← wir_step, Int.toNat_of_nonneg p1, ← dAt_new]; rfl
theorem eight_new (W : World) (y0 y1 y2 y3 y4 y5 y6 y7 : Value) (t : TypeId) : ∀ (j : Nat) (u : Value), [y0, y1, y2, y3, y4, y5, y6, y7][j]? = some u → (W.alloc (.cells #[y0, y1, y2, y3, y4, y5, y6, y7] t)).cell? ((⟨W.heap.size, 0, none⟩ : Addr).add j) = some u := by
  intro j u hj
  match j, hj with
  | 0, h => simp at h; subst h; simp [Addr.add, go_sem]
  | 1, h => simp at h; subst h; simp [Addr.add, go_sem]
  | 2, h => simp at h; subst h; simp [Addr.add, go_sem]
  | 3, h => simp at h; subst h; simp [Addr.add, go_sem]
  | 4, h => simp at h; subst h; simp [Addr.add, go_sem]
  | 5, h => simp at h; subst h; simp [Addr.add, go_sem]
  | 6, h => simp at h; subst h; simp [Addr.add, go_sem]
  | 7, h => simp at h; subst h; simp [Addr.add, go_sem]
theorem keepB {W : World} {b : Nat} {x : Obj} (h : W.heap[b]? = some x) (o : Obj) : (W.alloc o).heap[b]? = some x := by
  have hb := (Array.getElem?_eq_some_iff.1 h).1
  exact (Below.heap_alloc W o b hb).trans h
theorem keepS {W : World} {b c o : Nat} {x : Obj} (h : W.heap[b]? = some x) (hn : b ≠ c) (u : Value) : (W.setCell ⟨c, o, none⟩ u).heap[b]? = some x :=
  (Below.heap_setCell W ⟨c, o, none⟩ u b hn).trans h
theorem keepG {W W' : World} {row : Option Nat} {b : Nat} {x : Obj} (h : W.heap[b]? = some x) (hg : W.grownBy W' row) (hn : some b ≠ row) : W'.heap[b]? = some x :=
  (hg.block b (Array.getElem?_eq_some_iff.1 h).1 hn).trans h
theorem set8a {W : World} {b : Nat} {x0 x1 x2 x3 x4 x5 x6 x7 : Value} {t : TypeId} (h : W.heap[b]? = some (.cells #[x0, x1, x2, x3, x4, x5, x6, x7] t (0, 0))) (u v : Value) : ((W.setCell ⟨b, 1, none⟩ u).setCell ⟨b, 2, none⟩ v).heap[b]? = some (.cells #[x0, u, v, x3, x4, x5, x6, x7] t (0, 0)) := by
  simp [World.setCell, Array.getElem?_modify, h]
theorem set8b {W : World} {b : Nat} {x0 x1 x2 x3 x4 x5 x6 x7 : Value} {t : TypeId} (h : W.heap[b]? = some (.cells #[x0, x1, x2, x3, x4, x5, x6, x7] t (0, 0))) (u v : Value) : ((W.setCell ⟨b, 4, none⟩ u).setCell ⟨b, 5, none⟩ v).heap[b]? = some (.cells #[x0, x1, x2, x3, u, v, x6, x7] t (0, 0)) := by
  simp [World.setCell, Array.getElem?_modify, h]
theorem set8c {W : World} {b : Nat} {x0 x1 x2 x3 x4 x5 x6 x7 : Value} {t : TypeId} (h : W.heap[b]? = some (.cells #[x0, x1, x2, x3, x4, x5, x6, x7] t (0, 0))) (u : Value) : (W.setCell ⟨b, 7, none⟩ u).heap[b]? = some (.cells #[x0, x1, x2, x3, x4, x5, x6, u] t (0, 0)) := by
  simp [World.setCell, Array.getElem?_modify, h]
theorem set3c {W : World} {b : Nat} {x0 x1 x2 : Value} {t : TypeId} (h : W.heap[b]? = some (.cells #[x0, x1, x2] t (0, 0))) (u : Value) : (W.setCell ⟨b, 2, none⟩ u).heap[b]? = some (.cells #[x0, x1, u] t (0, 0)) := by
  simp [World.setCell, Array.getElem?_modify, h]
set_option maxRecDepth 100000 in
set_option maxHeartbeats 16000000 in
theorem wired_any (sv : Value) (ws : List Wr) (w : World) (hI : WirA w.heap.size w sv ws) :
    Calls Try.prog 65 #[sv] w fun e w' => ∃ v, e = .returned (.agg #[.int .i64 20000, .int .i64 20500, v]) ∧ Nds w'.heap.size w' v (wirF ws (min ws.length 10)) ∧ Below w.heap.size w w' := by
  obtain ⟨i2, hi2, hz20, hz21, hz22⟩ := info_parts (t := 2) (z := .int .i64 0) (size := 1) (bytes := 8) (by kernel_rfl)
  obtain ⟨i6, hi6, hz60, hz61, hz62⟩ := info_parts infoN62
  obtain ⟨a, cap, rfl, -, hk⟩ := hI
  have HK := Lib.hid hk
  clear hk
  generalize hn : ws.length = n at *
  obtain ⟨A, hA⟩ : ∃ A, A = (((w.alloc (.cells #[.int .i64 0, .int .i64 0, .slice none 0 0] 26)).alloc (.cells #[.int .i64 (-1), .int .i64 0, .int .i64 0, .int .i64 100000, .int .i64 0, .int .i64 0, .int .i64 0, .int .i64 (-1)] 62)).alloc (.cells #[.int .i64 20000, .int .i64 20500, .slice (some ⟨w.heap.size + 1, 0, none⟩) 1 1] 26)).alloc (.cells #[.int .i64 0] 2) := ⟨_, rfl⟩
  have HBA := Lib.hid (show Below w.heap.size w A by rw [hA]; exact ((((Below.refl _ _).alloc (Nat.le_refl _) _).alloc (by simp) _).alloc (by simp; omega) _).alloc (by simp; omega) _)
  have HSN := Lib.hid (show A.ownsRow w.heap.size 62 8 (.slice (some ⟨w.heap.size + 1, 0, none⟩) 1 1) 1 (flNd (wirF ws 0)) by
    have h := (World.ownsRow_lit (base := w.heap.size) (e := 62) (size := 8) (w.alloc (.cells #[.int .i64 0, .int .i64 0, .slice none 0 0] 26)) #[.int .i64 (-1), .int .i64 0, .int .i64 0, .int .i64 100000, .int .i64 0, .int .i64 0, .int .i64 0, .int .i64 (-1)] 1 (by simp) (by unfold maxLen; omega) rfl)
    rw [show (w.alloc (.cells #[.int .i64 0, .int .i64 0, .slice none 0 0] 26)).heap.size = w.heap.size + 1 by simp] at h
    rw [hA]
    exact (h.alloc _).alloc _)
  have HSD := Lib.hid (show A.ownsRow w.heap.size 2 1 (.slice (some ⟨w.heap.size + 1 + 1 + 1, 0, none⟩) 1 1) 1 (flDp (depF ws 0)) by
    have h := (World.ownsRow_lit (base := w.heap.size) (e := 2) (size := 1) (((w.alloc (.cells #[.int .i64 0, .int .i64 0, .slice none 0 0] 26)).alloc (.cells #[.int .i64 (-1), .int .i64 0, .int .i64 0, .int .i64 100000, .int .i64 0, .int .i64 0, .int .i64 0, .int .i64 (-1)] 62)).alloc (.cells #[.int .i64 20000, .int .i64 20500, .slice (some ⟨w.heap.size + 1, 0, none⟩) 1 1] 26)) #[.int .i64 0] 1 (by simp; omega) (by unfold maxLen; omega) rfl)
    rw [show (((w.alloc (.cells #[.int .i64 0, .int .i64 0, .slice none 0 0] 26)).alloc (.cells #[.int .i64 (-1), .int .i64 0, .int .i64 0, .int .i64 100000, .int .i64 0, .int .i64 0, .int .i64 0, .int .i64 (-1)] 62)).alloc (.cells #[.int .i64 20000, .int .i64 20500, .slice (some ⟨w.heap.size + 1, 0, none⟩) 1 1] 26)).heap.size = w.heap.size + 1 + 1 + 1 by simp] at h
    rw [hA]
    exact h)
  have HSC := Lib.hid (show A.heap[w.heap.size + 1 + 1]? = some (.cells #[.int .i64 20000, .int .i64 20500, .slice (some ⟨w.heap.size + 1, 0, none⟩) 1 1] 26 (0, 0)) by
    have h := World.alloc_heap_new ((w.alloc (.cells #[.int .i64 0, .int .i64 0, .slice none 0 0] 26)).alloc (.cells #[.int .i64 (-1), .int .i64 0, .int .i64 0, .int .i64 100000, .int .i64 0, .int .i64 0, .int .i64 0, .int .i64 (-1)] 62)) (.cells #[.int .i64 20000, .int .i64 20500, .slice (some ⟨w.heap.size + 1, 0, none⟩) 1 1] 26)
    rw [show ((w.alloc (.cells #[.int .i64 0, .int .i64 0, .slice none 0 0] 26)).alloc (.cells #[.int .i64 (-1), .int .i64 0, .int .i64 0, .int .i64 100000, .int .i64 0, .int .i64 0, .int .i64 0, .int .i64 (-1)] 62)).heap.size = w.heap.size + 1 + 1 by simp] at h
    rw [hA]
    exact (((Below.refl _ _).alloc (Nat.le_refl _) _).block (w.heap.size + 1 + 1) (by simp)).trans h)
  have HSR := Lib.hid (show A.heap[w.heap.size]? = some (.cells #[.int .i64 0, .int .i64 0, .slice none 0 0] 26 (0, 0)) by
    have h := World.alloc_heap_new w (.cells #[.int .i64 0, .int .i64 0, .slice none 0 0] 26)
    rw [hA]
    exact ((((((Below.refl _ _).alloc (Nat.le_refl _) _).alloc (by simp) _).alloc (by first | (simp; done) | (simp; omega)) _).block w.heap.size (by simp))).trans h)
  go_enter Try.func65, Try.ntmps65
  go_upto_region 3 with fail
  rw [← hA]
  go_wp2_with fail
  go_loopw [4, 5] (fun dv iv wr => ∃ i : Nat, i ≤ min n 10 ∧ iv = .int .i64 i ∧ ∃ nv, wr.ownsRow w.heap.size 62 8 nv (i + 1) (flNd (wirF ws i)) ∧ wr.ownsRow w.heap.size 2 1 dv (i + 1) (flDp (depF ws i)) ∧ wr.heap[w.heap.size + 1 + 1]? = some (.cells #[.int .i64 20000, .int .i64 20500, nv] 26 (0, 0)) ∧ wr.heap[w.heap.size]? = some (.cells #[.int .i64 0, .int .i64 0, .slice none 0 0] 26 (0, 0)) ∧ nv.ownBlock ≠ some (w.heap.size + 1 + 1) ∧ nv.ownBlock ≠ some w.heap.size ∧ dv.ownBlock ≠ some (w.heap.size + 1 + 1) ∧ dv.ownBlock ≠ some w.heap.size ∧ dv.ownBlock ≠ nv.ownBlock ∧ Below w.heap.size w wr) (fun _ iv _ => n - (intOf iv).toNat)
  case atStart =>
    refine ⟨0, Nat.zero_le _, rfl, .slice (some ⟨w.heap.size + 1, 0, none⟩) 1 1, HSN.out, HSD.out, HSC.out, HSR.out, ?_, ?_, ?_, ?_, ?_, HBA.out⟩
    all_goals (simp [Value.ownBlock]; try omega)
  case round =>
    obtain ⟨i, hi, rfl, nv, h1, h2, h3, h4, h5, h6, h7, h8, h9, hB⟩ := hrel
    obtain ⟨g1, p1, rfl⟩ : ∃ g c, nv = .slice (some ⟨g, 0, none⟩) (i + 1) c := by
      rcases h1.2 with ⟨_, h0⟩ | ⟨g, c, _, hv, _⟩
      · omega
      · exact ⟨g, c, hv⟩
    obtain ⟨g2, p2, rfl⟩ : ∃ g c, u4 = .slice (some ⟨g, 0, none⟩) (i + 1) c := by
      rcases h2.2 with ⟨_, h0⟩ | ⟨g, c, _, hv, _⟩
      · omega
      · exact ⟨g, c, hv⟩
    have hfin : ∀ W, Below w.heap.size w W → W.ownsRow w.heap.size 62 8 (.slice (some ⟨g1, 0, none⟩) (i + 1) p1) (i + 1) (flNd (wirF ws i)) → i = min n 10 → Nds W.heap.size W (.slice (some ⟨g1, 0, none⟩) (i + 1) p1) (wirF ws (min n 10)) := fun W _ h e => by
      rw [← e]; exact nds_of_own (wirF_len ws i) h
    have HF := Lib.hid hfin
    clear hfin
    have k0 := (cellHB h3 0).trans (show _ = some (.int .i64 20000) from rfl)
    have k1 := (cellHB h3 1).trans (show _ = some (.int .i64 20500) from rfl)
    have k2 := (cellHB h3 2).trans (show _ = some (.slice (some ⟨g1, 0, none⟩) (i + 1) p1) from rfl)
    have HNV := Lib.hid h1
    have HDV := Lib.hid h2
    have HBOX := Lib.hid h3
    have HRES := Lib.hid h4
    have HB := Lib.hid hB
    have fz0 : wr.frozen? ⟨w.heap.size, 0, none⟩ = false := by simp [World.frozen?, h4]
    have fz1 : wr.frozen? ⟨w.heap.size, 1, none⟩ = false := by simp [World.frozen?, h4]
    have fz2 : wr.frozen? ⟨w.heap.size, 2, none⟩ = false := by simp [World.frozen?, h4]
    have q0 := (cellHB h4 0).trans (show _ = some (.int .i64 0) from rfl)
    have q1 := (cellHB h4 1).trans (show _ = some (.int .i64 0) from rfl)
    have q2 := (cellHB h4 2).trans (show _ = some (.slice none 0 0) from rfl)
    have HEND := Lib.hid (show i = min n 10 → Nds (((wr.setCell ⟨w.heap.size, 0, none⟩ (.int .i64 20000)).setCell ⟨w.heap.size, 1, none⟩ (.int .i64 20500)).setCell ⟨w.heap.size, 2, none⟩ (.slice (some ⟨g1, 0, none⟩) (i + 1) p1)).heap.size (((wr.setCell ⟨w.heap.size, 0, none⟩ (.int .i64 20000)).setCell ⟨w.heap.size, 1, none⟩ (.int .i64 20500)).setCell ⟨w.heap.size, 2, none⟩ (.slice (some ⟨g1, 0, none⟩) (i + 1) p1)) (.slice (some ⟨g1, 0, none⟩) (i + 1) p1) (wirF ws (min n 10)) ∧ Below w.heap.size w (((wr.setCell ⟨w.heap.size, 0, none⟩ (.int .i64 20000)).setCell ⟨w.heap.size, 1, none⟩ (.int .i64 20500)).setCell ⟨w.heap.size, 2, none⟩ (.slice (some ⟨g1, 0, none⟩) (i + 1) p1)) ∧ (((wr.setCell ⟨w.heap.size, 0, none⟩ (.int .i64 20000)).setCell ⟨w.heap.size, 1, none⟩ (.int .i64 20500)).setCell ⟨w.heap.size, 2, none⟩ (.slice (some ⟨g1, 0, none⟩) (i + 1) p1)).heap[w.heap.size]? = some (.cells #[.int .i64 20000, .int .i64 20500, .slice (some ⟨g1, 0, none⟩) (i + 1) p1] 26 (0, 0)) from fun e =>
      have hb : Below w.heap.size w (((wr.setCell ⟨w.heap.size, 0, none⟩ (.int .i64 20000)).setCell ⟨w.heap.size, 1, none⟩ (.int .i64 20500)).setCell ⟨w.heap.size, 2, none⟩ (.slice (some ⟨g1, 0, none⟩) (i + 1) p1)) := ((hB.setCell (Nat.le_refl _) _).setCell (Nat.le_refl _) _).setCell (Nat.le_refl _) _
      ⟨HF.out _ hb (World.ownsRow.kept (World.ownsRow.kept (World.ownsRow.kept h1 (grown_set wr _ _ _) (.inr h6)) (grown_set _ _ _ _) (.inr h6)) (grown_set _ _ _ _) (.inr h6)) e, hb, by simp [World.setCell, Array.getElem?_modify, h4]⟩)
    clear h1 h2 h3 h4 hB HSN HSD HSC HSR
    by_cases hlt : i < n
    · have hii : (i : Int) < (n : Int) := by omega
      by_cases h10 : i < 10
      · have h10' : (i : Int) < 10 := by omega
        obtain ⟨wb, wo, rfl, hwb, hC⟩ := HK.out i hlt
        obtain ⟨x0, x1, x2, x3, x4, x5, x6, dp, pn, ⟨c0, c1, c2, c3, c4, c5, c6⟩, ⟨hx0, hx1, hx2, hx3, hx4, hx5, hx6⟩, hmod, hpn, hdp, hdb, hDP, hND⟩ := wir_round hC
        have HDP := Lib.hid hDP
        have HNDP := Lib.hid hND
        have z0 := (HB.out.cell (p := ⟨wb, _, none⟩) hwb).trans c0
        have z1 := (HB.out.cell (p := ⟨wb, _, none⟩) hwb).trans c1
        have z2 := (HB.out.cell (p := ⟨wb, _, none⟩) hwb).trans c2
        have z3 := (HB.out.cell (p := ⟨wb, _, none⟩) hwb).trans c3
        have z4 := (HB.out.cell (p := ⟨wb, _, none⟩) hwb).trans c4
        have z5 := (HB.out.cell (p := ⟨wb, _, none⟩) hwb).trans c5
        have z6 := (HB.out.cell (p := ⟨wb, _, none⟩) hwb).trans c6
        clear c0 c1 c2 c3 c4 c5 c6 hDP hND hC HF HEND k0 k1 k2 fz0 fz1 fz2 q0 q1 q2
        have hi0 : ((i : Int) + 1 == 0) = false := beq_eq_false_iff_ne.2 (by omega)
        obtain ⟨V1, hV1⟩ : ∃ V1, V1 = wr.alloc (.cells #[.int .u8 x0, .int .u8 x1, .int .u8 x2, .int .u8 x3, .int .u8 x4, .int .u8 x5, .int .u16 x6] 167) := ⟨_, rfl⟩
        have HL := Lib.hid (show g1 < wr.heap.size ∧ g2 < wr.heap.size ∧ w.heap.size + 1 + 1 < wr.heap.size from ⟨HNV.out.lt _ rfl |>.2, HDV.out.lt _ rfl |>.2, (Array.getElem?_eq_some_iff.1 HBOX.out).1⟩)
        have HL0 := Lib.hid (show w.heap.size ≤ g1 ∧ w.heap.size ≤ g2 from ⟨HNV.out.lt _ rfl |>.1, HDV.out.lt _ rfl |>.1⟩)
        have HN := Lib.hid (show g1 ≠ w.heap.size + 1 + 1 ∧ g1 ≠ w.heap.size ∧ g2 ≠ w.heap.size + 1 + 1 ∧ g2 ≠ w.heap.size ∧ g2 ≠ g1 from ⟨fun e => h5 (by rw [e]; rfl), fun e => h6 (by rw [e]; rfl), fun e => h7 (by rw [e]; rfl), fun e => h8 (by rw [e]; rfl), fun e => h9 (by rw [e]; rfl)⟩)
        clear h5 h6 h7 h8 h9
        have HNV1 := Lib.hid (show V1.ownsRow w.heap.size 62 8 (.slice (some ⟨g1, 0, none⟩) (i + 1) p1) (i + 1) (flNd (wirF ws i)) by rw [hV1]; exact HNV.out.alloc _)
        have HDV1 := Lib.hid (show V1.ownsRow w.heap.size 2 1 (.slice (some ⟨g2, 0, none⟩) (i + 1) p2) (i + 1) (flDp (depF ws i)) by rw [hV1]; exact HDV.out.alloc _)
        have HBOX1 := Lib.hid (show V1.heap[w.heap.size + 1 + 1]? = some (.cells #[.int .i64 20000, .int .i64 20500, .slice (some ⟨g1, 0, none⟩) (i + 1) p1] 26 (0, 0)) by rw [hV1]; exact keepB HBOX.out _)
        have HRES1 := Lib.hid (show V1.heap[w.heap.size]? = some (.cells #[.int .i64 0, .int .i64 0, .slice none 0 0] 26 (0, 0)) by rw [hV1]; exact keepB HRES.out _)
        have HW1 := Lib.hid (show V1.heap[wr.heap.size]? = some (.cells #[.int .u8 x0, .int .u8 x1, .int .u8 x2, .int .u8 x3, .int .u8 x4, .int .u8 x5, .int .u16 x6] 167 (0, 0)) by rw [hV1]; exact World.alloc_heap_new _ _)
        have HB1 := Lib.hid (show Below w.heap.size w V1 by rw [hV1]; exact HB.out.alloc HB.out.size _)
        have HS1 := Lib.hid (show wr.heap.size < V1.heap.size ∧ V1.heap.size ≤ wr.heap.size + 1 by rw [hV1]; simp)
        go_upto_region 7 with fail
        rw [← hV1]
        clear hV1 HNV HDV HBOX HRES HB z0 z1 z2 z3 z4 z5 z6
        generalize hQ1 : wr.heap.size = Q1 at *
        have dc := dp_cell (depF_len ws i) HDV1.out pn (by omega)
        rw [hdp] at dc
        have y0 := cellHB HW1.out 0
        go_upto_region 8 with fail
        clear y0
        go_upto_region 9 with (at_builtin; refine wpList_append_own_at _ rfl _ _ 50 rfl w.heap.size 2 i2 (.int .i64 0) 1 8 Try.underlying50 hi2 hz20 hz21 hz22 rfl (by decide) _ _ _ rfl (HDV1.out.alloc _) ⟨V1.heap.size, 0, none⟩ 1 1 [.int .i64 (dp + 1)] rfl rfl (one_newW _ _ _) (by simp [Value.oneCell']) (by unfold maxLen; omega) (by omega) (by have := HB1.out.size; simp; omega) ?_; intro v1 w5 hown' hgrow _ hob; have HG := Lib.hid (show World.grownBy _ w5 (some g2) from hgrow); have HO := Lib.hid hown'; have HOB := Lib.hid (show v1.ownBlock = some g2 ∨ v1.ownBlock = some (V1.alloc (.cells #[.int .i64 (dp + 1)] 2)).heap.size from hob); clear hown' hgrow hob)
        have HD5 := Lib.hid (show w5.ownsRow w.heap.size 2 1 v1 (i + 1 + 1) (flDp (depF ws (i + 1))) by rw [HDP.out]; exact HO.out)
        have hgn : ∀ b, b ≠ g2 → some b ≠ some g2 := fun b hb e => hb (by simpa using e)
        have HNV5 := Lib.hid (show w5.ownsRow w.heap.size 62 8 (.slice (some ⟨g1, 0, none⟩) (i + 1) p1) (i + 1) (flNd (wirF ws i)) from (HNV1.out.alloc _).kept HG.out (.inr fun e => HN.out.2.2.2.2 (by simpa [Value.ownBlock] using e.symm)))
        have HBOX5 := Lib.hid (keepG (keepB HBOX1.out _) HG.out (hgn _ (fun e => HN.out.2.2.1 e.symm)))
        have HRES5 := Lib.hid (keepG (keepB HRES1.out _) HG.out (hgn _ (fun e => HN.out.2.2.2.1 e.symm)))
        have HW5 := Lib.hid (keepG (keepB HW1.out _) HG.out (hgn _ (by have := HL.out.2.1; omega)))
        have HB5 := Lib.hid (show Below w.heap.size w w5 from (HB1.out.alloc HB1.out.size _).grown HG.out (by have := HB1.out.size; simp; omega) (fun r e => (((HDV1.out.alloc (.cells #[.int .i64 (dp + 1)] 2)).lt r e).1)))
        obtain ⟨g3, p3, rfl⟩ : ∃ g c, v1 = .slice (some ⟨g, 0, none⟩) (i + 1 + 1) c := by
          rcases HD5.out.2 with ⟨_, h0⟩ | ⟨g, c, _, hv, _⟩
          · omega
          · exact ⟨g, c, hv⟩
        have HN5 := Lib.hid (show g3 ≠ w.heap.size + 1 + 1 ∧ g3 ≠ w.heap.size ∧ g3 ≠ g1 ∧ g3 ≠ Q1 by
          have q1 := HL.out
          have q2 := HS1.out
          have q3 := HN.out
          have q4 : w.heap.size ≤ g2 := HL0.out.2
          rcases HOB.out with e | e
          · have e' : g3 = g2 := by simpa [Value.ownBlock] using e
            subst e'
            exact ⟨q3.2.2.1, q3.2.2.2.1, q3.2.2.2.2, by omega⟩
          · have e' : g3 = V1.heap.size + 1 := by simpa [Value.ownBlock] using e
            refine ⟨?_, ?_, ?_, ?_⟩ <;> omega)
        have HS5 := Lib.hid (show Q1 < w5.heap.size ∧ g1 < w5.heap.size ∧ g3 < w5.heap.size ∧ w.heap.size + 1 + 1 < w5.heap.size by
          have q1 := HL.out
          have q2 : V1.heap.size + 1 ≤ w5.heap.size := by have := HG.out.size; simpa using this
          have q3 := HS1.out
          have q4 := (HD5.out.lt _ rfl).2
          refine ⟨by omega, by omega, by omega, by omega⟩)
        clear HNV1 HDV1 HBOX1 HRES1 HW1 HB1 HG HO HOB hgn dc HS1 HL
        obtain ⟨V6, hV6⟩ : ∃ V6, V6 = w5.alloc (.cells #[.int .i64 (pn : Int), .int .i64 0, .int .i64 0, .int .i64 x6, .int .i64 0, .int .i64 0, .int .i64 19000, .int .i64 (-1)] 62) := ⟨_, rfl⟩
        have HD6 := Lib.hid (show V6.ownsRow w.heap.size 2 1 (.slice (some ⟨g3, 0, none⟩) (i + 1 + 1) p3) (i + 1 + 1) (flDp (depF ws (i + 1))) by rw [hV6]; exact HD5.out.alloc _)
        have HNV6 := Lib.hid (show V6.ownsRow w.heap.size 62 8 (.slice (some ⟨g1, 0, none⟩) (i + 1) p1) (i + 1) (flNd (wirF ws i)) by rw [hV6]; exact HNV5.out.alloc _)
        have HBOX6 := Lib.hid (show V6.heap[w.heap.size + 1 + 1]? = some (.cells #[.int .i64 20000, .int .i64 20500, .slice (some ⟨g1, 0, none⟩) (i + 1) p1] 26 (0, 0)) by rw [hV6]; exact keepB HBOX5.out _)
        have HRES6 := Lib.hid (show V6.heap[w.heap.size]? = some (.cells #[.int .i64 0, .int .i64 0, .slice none 0 0] 26 (0, 0)) by rw [hV6]; exact keepB HRES5.out _)
        have HW6 := Lib.hid (show V6.heap[Q1]? = some (.cells #[.int .u8 x0, .int .u8 x1, .int .u8 x2, .int .u8 x3, .int .u8 x4, .int .u8 x5, .int .u16 x6] 167 (0, 0)) by rw [hV6]; exact keepB HW5.out _)
        have HM6 := Lib.hid (show V6.heap[w5.heap.size]? = some (.cells #[.int .i64 (pn : Int), .int .i64 0, .int .i64 0, .int .i64 x6, .int .i64 0, .int .i64 0, .int .i64 19000, .int .i64 (-1)] 62 (0, 0)) by rw [hV6]; exact World.alloc_heap_new _ _)
        have HB6 := Lib.hid (show Below w.heap.size w V6 by rw [hV6]; exact HB5.out.alloc HB5.out.size _)
        have HBS := Lib.hid (show w.heap.size ≤ w5.heap.size from HB5.out.size)
        have y4 := cellHB HW5.out 6
        go_upto_region 10 with fail
        rw [← hV6]
        clear hV6 y4 HD5 HNV5 HBOX5 HRES5 HW5 HB5
        generalize hQ2 : w5.heap.size = Q2 at *
        have y1 := cellHB HW6.out 1
        have y2 := cellHB HW6.out 2
        have e1 := cellHB HM6.out 1
        have e2 := cellHB HM6.out 2
        have f1 := frozH HM6.out 1
        have f2 := frozH HM6.out 2
        obtain ⟨V7, hV7⟩ : ∃ V7, V7 = (V6.setCell ⟨Q2, 1, none⟩ (.int .i64 (10 * min x1 x2))).setCell ⟨Q2, 2, none⟩ (.int .i64 (10 * max x1 x2)) := ⟨_, rfl⟩
        have n1 : Q1 ≠ Q2 := by have := HS5.out; omega
        have n2 : w.heap.size + 1 + 1 ≠ Q2 := by have := HS5.out; omega
        have n3 : w.heap.size ≠ Q2 := by have := HS5.out; omega
        have n4 : (Value.slice (some ⟨g1, 0, none⟩) (i + 1) p1).ownBlock ≠ some Q2 := fun e => by
          have e' : g1 = Q2 := by simpa [Value.ownBlock] using e
          have := HS5.out; omega
        have n5 : (Value.slice (some ⟨g3, 0, none⟩) (i + 1 + 1) p3).ownBlock ≠ some Q2 := fun e => by
          have e' : g3 = Q2 := by simpa [Value.ownBlock] using e
          have := HS5.out; omega
        have hq2 : w.heap.size ≤ Q2 := HBS.out
        have HD7 := Lib.hid (show V7.ownsRow w.heap.size 2 1 (.slice (some ⟨g3, 0, none⟩) (i + 1 + 1) p3) (i + 1 + 1) (flDp (depF ws (i + 1))) by rw [hV7]; exact (HD6.out.kept (grown_set _ _ _ _) (.inr n5)).kept (grown_set _ _ _ _) (.inr n5))
        have HNV7 := Lib.hid (show V7.ownsRow w.heap.size 62 8 (.slice (some ⟨g1, 0, none⟩) (i + 1) p1) (i + 1) (flNd (wirF ws i)) by rw [hV7]; exact (HNV6.out.kept (grown_set _ _ _ _) (.inr n4)).kept (grown_set _ _ _ _) (.inr n4))
        have HBOX7 := Lib.hid (show V7.heap[w.heap.size + 1 + 1]? = some (.cells #[.int .i64 20000, .int .i64 20500, .slice (some ⟨g1, 0, none⟩) (i + 1) p1] 26 (0, 0)) by rw [hV7]; exact keepS (keepS HBOX6.out n2 _) n2 _)
        have HRES7 := Lib.hid (show V7.heap[w.heap.size]? = some (.cells #[.int .i64 0, .int .i64 0, .slice none 0 0] 26 (0, 0)) by rw [hV7]; exact keepS (keepS HRES6.out n3 _) n3 _)
        have HW7 := Lib.hid (show V7.heap[Q1]? = some (.cells #[.int .u8 x0, .int .u8 x1, .int .u8 x2, .int .u8 x3, .int .u8 x4, .int .u8 x5, .int .u16 x6] 167 (0, 0)) by rw [hV7]; exact keepS (keepS HW6.out n1 _) n1 _)
        have HM7 := Lib.hid (show V7.heap[Q2]? = some (.cells #[.int .i64 (pn : Int), .int .i64 (10 * min x1 x2), .int .i64 (10 * max x1 x2), .int .i64 x6, .int .i64 0, .int .i64 0, .int .i64 19000, .int .i64 (-1)] 62 (0, 0)) by rw [hV7]; exact set8a HM6.out _ _)
        have HB7 := Lib.hid (show Below w.heap.size w V7 by rw [hV7]; exact (HB6.out.setCell (p := ⟨Q2, 1, none⟩) hq2 _).setCell (p := ⟨Q2, 2, none⟩) hq2 _)
        go_upto_region 11 with fail
        rw [← hV7]
        clear hV7 y1 y2 e1 e2 f1 f2 HD6 HNV6 HBOX6 HRES6 HW6 HM6 HB6
        have y3 := cellHB HW7.out 3
        have y4 := cellHB HW7.out 4
        have e4 := cellHB HM7.out 4
        have e5 := cellHB HM7.out 5
        have f4 := frozH HM7.out 4
        have f5 := frozH HM7.out 5
        obtain ⟨V8, hV8⟩ : ∃ V8, V8 = (V7.setCell ⟨Q2, 4, none⟩ (.int .i64 (min x3 x4))).setCell ⟨Q2, 5, none⟩ (.int .i64 (max x3 x4)) := ⟨_, rfl⟩
        have HD8 := Lib.hid (show V8.ownsRow w.heap.size 2 1 (.slice (some ⟨g3, 0, none⟩) (i + 1 + 1) p3) (i + 1 + 1) (flDp (depF ws (i + 1))) by rw [hV8]; exact (HD7.out.kept (grown_set _ _ _ _) (.inr n5)).kept (grown_set _ _ _ _) (.inr n5))
        have HNV8 := Lib.hid (show V8.ownsRow w.heap.size 62 8 (.slice (some ⟨g1, 0, none⟩) (i + 1) p1) (i + 1) (flNd (wirF ws i)) by rw [hV8]; exact (HNV7.out.kept (grown_set _ _ _ _) (.inr n4)).kept (grown_set _ _ _ _) (.inr n4))
        have HBOX8 := Lib.hid (show V8.heap[w.heap.size + 1 + 1]? = some (.cells #[.int .i64 20000, .int .i64 20500, .slice (some ⟨g1, 0, none⟩) (i + 1) p1] 26 (0, 0)) by rw [hV8]; exact keepS (keepS HBOX7.out n2 _) n2 _)
        have HRES8 := Lib.hid (show V8.heap[w.heap.size]? = some (.cells #[.int .i64 0, .int .i64 0, .slice none 0 0] 26 (0, 0)) by rw [hV8]; exact keepS (keepS HRES7.out n3 _) n3 _)
        have HW8 := Lib.hid (show V8.heap[Q1]? = some (.cells #[.int .u8 x0, .int .u8 x1, .int .u8 x2, .int .u8 x3, .int .u8 x4, .int .u8 x5, .int .u16 x6] 167 (0, 0)) by rw [hV8]; exact keepS (keepS HW7.out n1 _) n1 _)
        have HM8 := Lib.hid (show V8.heap[Q2]? = some (.cells #[.int .i64 (pn : Int), .int .i64 (10 * min x1 x2), .int .i64 (10 * max x1 x2), .int .i64 x6, .int .i64 (min x3 x4), .int .i64 (max x3 x4), .int .i64 19000, .int .i64 (-1)] 62 (0, 0)) by rw [hV8]; exact set8b HM7.out _ _)
        have HB8 := Lib.hid (show Below w.heap.size w V8 by rw [hV8]; exact (HB7.out.setCell (p := ⟨Q2, 4, none⟩) hq2 _).setCell (p := ⟨Q2, 5, none⟩) hq2 _)
        go_upto_region 12 with fail
        rw [← hV8]
        clear hV8 y3 y4 e4 e5 f4 f5 HD7 HNV7 HBOX7 HRES7 HW7 HM7 HB7
        have y5 := cellHB HW8.out 5
        obtain ⟨r, hr⟩ : ∃ r, r = x5 % 3 := ⟨_, rfl⟩
        have hr1 : x5.tmod 3 = r := by rw [Int.tmod_eq_emod_of_nonneg hx5.1, hr]
        have hr2 : 0 ≤ r ∧ r ≤ 2 := by omega
        rw [← hr] at HNDP
        clear hr
        have hdd : dAt (depF ws (i + 1)) (i + 1) = dp + 1 := by
          have h := HDP.out
          have q := congrArg (fun l => l[i + 1]?) h
          have e := flDp_get (depF ws (i + 1)) (i + 1) (by rw [depF_len]; omega)
          have hl : (flDp (depF ws i)).length = i + 1 := by unfold flDp; rw [List.length_map, depF_len]
          simp only [e] at q
          rw [List.getElem?_append_right (by omega), hl] at q
          simpa using q
        have dc := dp_cell (depF_len ws (i + 1)) HD8.out (i + 1) (by omega)
        rw [hdd] at dc
        by_cases hrp : 0 < r
        · rw [if_pos hrp] at HNDP
          have e7 := cellHB HM8.out 7
          have f7 := frozH HM8.out 7
          obtain ⟨V9, hV9⟩ : ∃ V9, V9 = V8.setCell ⟨Q2, 7, none⟩ (.int .i64 (100 - 2 * (dp + 1))) := ⟨_, rfl⟩
          have HD9 := Lib.hid (show V9.ownsRow w.heap.size 2 1 (.slice (some ⟨g3, 0, none⟩) (i + 1 + 1) p3) (i + 1 + 1) (flDp (depF ws (i + 1))) by rw [hV9]; exact HD8.out.kept (grown_set _ _ _ _) (.inr n5))
          have HNV9 := Lib.hid (show V9.ownsRow w.heap.size 62 8 (.slice (some ⟨g1, 0, none⟩) (i + 1) p1) (i + 1) (flNd (wirF ws i)) by rw [hV9]; exact HNV8.out.kept (grown_set _ _ _ _) (.inr n4))
          have HBOX9 := Lib.hid (show V9.heap[w.heap.size + 1 + 1]? = some (.cells #[.int .i64 20000, .int .i64 20500, .slice (some ⟨g1, 0, none⟩) (i + 1) p1] 26 (0, 0)) by rw [hV9]; exact keepS HBOX8.out n2 _)
          have HRES9 := Lib.hid (show V9.heap[w.heap.size]? = some (.cells #[.int .i64 0, .int .i64 0, .slice none 0 0] 26 (0, 0)) by rw [hV9]; exact keepS HRES8.out n3 _)
          have HM9 := Lib.hid (show V9.heap[Q2]? = some (.cells #[.int .i64 (pn : Int), .int .i64 (10 * min x1 x2), .int .i64 (10 * max x1 x2), .int .i64 x6, .int .i64 (min x3 x4), .int .i64 (max x3 x4), .int .i64 19000, .int .i64 (100 - 2 * (dp + 1))] 62 (0, 0)) by rw [hV9]; exact set8c HM8.out _)
          have HB9 := Lib.hid (show Below w.heap.size w V9 by rw [hV9]; exact HB8.out.setCell (p := ⟨Q2, 7, none⟩) hq2 _)
          go_upto_region 14 with fail
          try rw [← hV9]
          clear hV9 y5 dc e7 f7 HD8 HNV8 HBOX8 HRES8 HW8 HM8 HB8
          have b2 := cellHB HBOX9.out 2
          have m0 := cellHB HM9.out 0
          have m1 := cellHB HM9.out 1
          have m2 := cellHB HM9.out 2
          have m3 := cellHB HM9.out 3
          have m4 := cellHB HM9.out 4
          have m5 := cellHB HM9.out 5
          have m6 := cellHB HM9.out 6
          have m7 := cellHB HM9.out 7
          go_wp2_with (at_builtin; refine wpList_append_own_at _ rfl _ _ 24 rfl w.heap.size 62 i6 (.agg #[.int .i64 0, .int .i64 0, .int .i64 0, .int .i64 0, .int .i64 0, .int .i64 0, .int .i64 0, .int .i64 0]) 8 64 Try.underlying24 hi6 hz60 hz61 hz62 rfl (by decide) _ _ _ rfl (HNV9.out.alloc _) ⟨V9.heap.size, 0, none⟩ 1 1 [.int .i64 (pn : Int), .int .i64 (10 * min x1 x2), .int .i64 (10 * max x1 x2), .int .i64 x6, .int .i64 (min x3 x4), .int .i64 (max x3 x4), .int .i64 19000, .int .i64 (100 - 2 * (dp + 1))] rfl rfl (eight_new _ _ _ _ _ _ _ _ _ _) (by simp [Value.oneCell']) (by unfold maxLen; omega) (by omega) (by have := HB9.out.size; simp; omega) ?_; intro v2 wz hown' hgrow _ hob; obtain ⟨g4, p4, rfl⟩ : ∃ g c, v2 = Value.slice (some ⟨g, 0, none⟩) (i + 1 + 1) c := (by rcases hown'.2 with ⟨_, h0⟩ | ⟨g, c, _, hv, _⟩; exact absurd h0 (by omega); exact ⟨g, c, hv⟩); have HG := Lib.hid (show World.grownBy _ wz (some g1) from hgrow); have HO := Lib.hid hown'; have HOB := Lib.hid (show some g4 = some g1 ∨ some g4 = some (V9.alloc (.cells #[.int .i64 (pn : Int), .int .i64 (10 * min x1 x2), .int .i64 (10 * max x1 x2), .int .i64 x6, .int .i64 (min x3 x4), .int .i64 (max x3 x4), .int .i64 19000, .int .i64 (100 - 2 * (dp + 1))] 62)).heap.size from hob); clear hown' hgrow hob; have HBZ := Lib.hid (keepG (keepB HBOX9.out _) HG.out (fun e => HN.out.1 (by simpa [Value.ownBlock] using e.symm))); have bz := cellHB HBZ.out 2; have fz := frozH HBZ.out 2)
          have HNZ := Lib.hid (show wz.ownsRow w.heap.size 62 8 (.slice (some ⟨g4, 0, none⟩) (i + 1 + 1) p4) (i + 1 + 1) (flNd (wirF ws (i + 1))) by rw [HNDP.out]; exact HO.out)
          have HDZ := Lib.hid (show wz.ownsRow w.heap.size 2 1 (.slice (some ⟨g3, 0, none⟩) (i + 1 + 1) p3) (i + 1 + 1) (flDp (depF ws (i + 1))) from (HD9.out.alloc _).kept HG.out (.inr fun e => HN5.out.2.2.1 (by simpa [Value.ownBlock] using e)))
          have HRZ := Lib.hid (keepG (keepB HRES9.out _) HG.out (fun e => HN.out.2.1 (by simpa [Value.ownBlock] using e.symm)))
          have HBZB := Lib.hid (show Below w.heap.size w wz from (HB9.out.alloc HB9.out.size _).grown HG.out (by have := HB9.out.size; simp; omega) (fun r e => (((HNV9.out.alloc (.cells #[.int .i64 (pn : Int), .int .i64 (10 * min x1 x2), .int .i64 (10 * max x1 x2), .int .i64 x6, .int .i64 (min x3 x4), .int .i64 (max x3 x4), .int .i64 19000, .int .i64 (100 - 2 * (dp + 1))] 62)).lt r e).1)))
          have HN6 := Lib.hid (show g4 ≠ w.heap.size + 1 + 1 ∧ g4 ≠ w.heap.size ∧ g3 ≠ g4 by
            have q1 := HN.out
            have q2 := HN5.out
            have q3 := HS5.out
            have q5 : w.heap.size ≤ g1 := HL0.out.1
            have q4 : Q2 < V9.heap.size := (Array.getElem?_eq_some_iff.1 HM9.out).1
            rcases HOB.out with e | e
            · have e' : g4 = g1 := by simpa [Value.ownBlock] using e
              subst e'
              exact ⟨q1.1, q1.2.1, q2.2.2.1⟩
            · have e' : g4 = V9.heap.size + 1 := by simpa [Value.ownBlock] using e
              refine ⟨?_, ?_, ?_⟩ <;> omega)
          go_roundw
          case rel =>
            refine ⟨i + 1, by omega, by go_num, .slice (some ⟨g4, 0, none⟩) (i + 1 + 1) p4, HNZ.out.kept (grown_set _ _ _ _) (.inr fun e => HN6.out.1 (by simpa [Value.ownBlock] using e)), HDZ.out.kept (grown_set _ _ _ _) (.inr fun e => HN5.out.1 (by simpa [Value.ownBlock] using e)), set3c HBZ.out _, keepS (c := w.heap.size + 1 + 1) HRZ.out (Nat.ne_of_lt (Nat.lt_succ_of_lt (Nat.lt_succ_self _))) _, fun e => HN6.out.1 (by simpa [Value.ownBlock] using e), fun e => HN6.out.2.1 (by simpa [Value.ownBlock] using e), fun e => HN5.out.1 (by simpa [Value.ownBlock] using e), fun e => HN5.out.2.1 (by simpa [Value.ownBlock] using e), fun e => HN6.out.2.2 (by simpa [Value.ownBlock] using e), HBZB.out.setCell (p := ⟨w.heap.size + 1 + 1, 2, none⟩) (Nat.le_add_right_of_le (Nat.le_succ _)) _⟩
          case measure => simp [intOf]; omega
        · rw [if_neg hrp] at HNDP
          go_upto_region 14 with fail
          clear y5 dc
          have b2 := cellHB HBOX8.out 2
          have m0 := cellHB HM8.out 0
          have m1 := cellHB HM8.out 1
          have m2 := cellHB HM8.out 2
          have m3 := cellHB HM8.out 3
          have m4 := cellHB HM8.out 4
          have m5 := cellHB HM8.out 5
          have m6 := cellHB HM8.out 6
          have m7 := cellHB HM8.out 7
          go_wp2_with (at_builtin; refine wpList_append_own_at _ rfl _ _ 24 rfl w.heap.size 62 i6 (.agg #[.int .i64 0, .int .i64 0, .int .i64 0, .int .i64 0, .int .i64 0, .int .i64 0, .int .i64 0, .int .i64 0]) 8 64 Try.underlying24 hi6 hz60 hz61 hz62 rfl (by decide) _ _ _ rfl (HNV8.out.alloc _) ⟨V8.heap.size, 0, none⟩ 1 1 [.int .i64 (pn : Int), .int .i64 (10 * min x1 x2), .int .i64 (10 * max x1 x2), .int .i64 x6, .int .i64 (min x3 x4), .int .i64 (max x3 x4), .int .i64 19000, .int .i64 (-1)] rfl rfl (eight_new _ _ _ _ _ _ _ _ _ _) (by simp [Value.oneCell']) (by unfold maxLen; omega) (by omega) (by have := HB8.out.size; simp; omega) ?_; intro v2 wz hown' hgrow _ hob; obtain ⟨g4, p4, rfl⟩ : ∃ g c, v2 = Value.slice (some ⟨g, 0, none⟩) (i + 1 + 1) c := (by rcases hown'.2 with ⟨_, h0⟩ | ⟨g, c, _, hv, _⟩; exact absurd h0 (by omega); exact ⟨g, c, hv⟩); have HG := Lib.hid (show World.grownBy _ wz (some g1) from hgrow); have HO := Lib.hid hown'; have HOB := Lib.hid (show some g4 = some g1 ∨ some g4 = some (V8.alloc (.cells #[.int .i64 (pn : Int), .int .i64 (10 * min x1 x2), .int .i64 (10 * max x1 x2), .int .i64 x6, .int .i64 (min x3 x4), .int .i64 (max x3 x4), .int .i64 19000, .int .i64 (-1)] 62)).heap.size from hob); clear hown' hgrow hob; have HBZ := Lib.hid (keepG (keepB HBOX8.out _) HG.out (fun e => HN.out.1 (by simpa [Value.ownBlock] using e.symm))); have bz := cellHB HBZ.out 2; have fz := frozH HBZ.out 2)
          have HNZ := Lib.hid (show wz.ownsRow w.heap.size 62 8 (.slice (some ⟨g4, 0, none⟩) (i + 1 + 1) p4) (i + 1 + 1) (flNd (wirF ws (i + 1))) by rw [HNDP.out]; exact HO.out)
          have HDZ := Lib.hid (show wz.ownsRow w.heap.size 2 1 (.slice (some ⟨g3, 0, none⟩) (i + 1 + 1) p3) (i + 1 + 1) (flDp (depF ws (i + 1))) from (HD8.out.alloc _).kept HG.out (.inr fun e => HN5.out.2.2.1 (by simpa [Value.ownBlock] using e)))
          have HRZ := Lib.hid (keepG (keepB HRES8.out _) HG.out (fun e => HN.out.2.1 (by simpa [Value.ownBlock] using e.symm)))
          have HBZB := Lib.hid (show Below w.heap.size w wz from (HB8.out.alloc HB8.out.size _).grown HG.out (by have := HB8.out.size; simp; omega) (fun r e => (((HNV8.out.alloc (.cells #[.int .i64 (pn : Int), .int .i64 (10 * min x1 x2), .int .i64 (10 * max x1 x2), .int .i64 x6, .int .i64 (min x3 x4), .int .i64 (max x3 x4), .int .i64 19000, .int .i64 (-1)] 62)).lt r e).1)))
          have HN6 := Lib.hid (show g4 ≠ w.heap.size + 1 + 1 ∧ g4 ≠ w.heap.size ∧ g3 ≠ g4 by
            have q1 := HN.out
            have q2 := HN5.out
            have q3 := HS5.out
            have q5 : w.heap.size ≤ g1 := HL0.out.1
            have q4 : Q2 < V8.heap.size := (Array.getElem?_eq_some_iff.1 HM8.out).1
            rcases HOB.out with e | e
            · have e' : g4 = g1 := by simpa [Value.ownBlock] using e
              subst e'
              exact ⟨q1.1, q1.2.1, q2.2.2.1⟩
            · have e' : g4 = V8.heap.size + 1 := by simpa [Value.ownBlock] using e
              refine ⟨?_, ?_, ?_⟩ <;> omega)
          go_roundw
          case rel =>
            refine ⟨i + 1, by omega, by go_num, .slice (some ⟨g4, 0, none⟩) (i + 1 + 1) p4, HNZ.out.kept (grown_set _ _ _ _) (.inr fun e => HN6.out.1 (by simpa [Value.ownBlock] using e)), HDZ.out.kept (grown_set _ _ _ _) (.inr fun e => HN5.out.1 (by simpa [Value.ownBlock] using e)), set3c HBZ.out _, keepS (c := w.heap.size + 1 + 1) HRZ.out (Nat.ne_of_lt (Nat.lt_succ_of_lt (Nat.lt_succ_self _))) _, fun e => HN6.out.1 (by simpa [Value.ownBlock] using e), fun e => HN6.out.2.1 (by simpa [Value.ownBlock] using e), fun e => HN5.out.1 (by simpa [Value.ownBlock] using e), fun e => HN5.out.2.1 (by simpa [Value.ownBlock] using e), fun e => HN6.out.2.2 (by simpa [Value.ownBlock] using e), HBZB.out.setCell (p := ⟨w.heap.size + 1 + 1, 2, none⟩) (Nat.le_add_right_of_le (Nat.le_succ _)) _⟩
          case measure => simp [intOf]; omega
      · obtain rfl : i = 10 := by omega
        go_wp2_with fail
        obtain ⟨e1, e2, e3⟩ := HEND.out (by omega)
        refine bodyPost_ret (v := .agg #[.int .i64 20000, .int .i64 20500, .slice (some ⟨g1, 0, none⟩) (10 + 1) p1]) (by simp [results, Try.results65, go_sem, World.cell?, World.setCell, Array.getElem?_modify, HRES.out]) rfl ⟨_, rfl, e1, e2⟩
    · have hii : ¬ (i : Int) < (n : Int) := by omega
      go_wp2_with fail
      obtain ⟨e1, e2, e3⟩ := HEND.out (by omega)
      refine bodyPost_ret (v := .agg #[.int .i64 20000, .int .i64 20500, .slice (some ⟨g1, 0, none⟩) (i + 1) p1]) (by simp [results, Try.results65, go_sem, World.cell?, World.setCell, Array.getElem?_modify, HRES.out]) rfl ⟨_, rfl, e1, e2⟩
end Go.Proofs.Ytdohfpnnmppdkaa

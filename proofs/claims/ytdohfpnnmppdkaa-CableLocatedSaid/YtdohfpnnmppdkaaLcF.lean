/-
  Cables: reversed in place; the way from the shore.
-/
import Derived.Test.YtdohfpnnmppdkaaLcE
import Derived.Shelf.RegionOpenPlain
namespace Go.Proofs.Ytdohfpnnmppdkaa
open Go.RowKit Go.Shelf
set_option linter.unusedSimpArgs false
open Go.RowKit Go.Shelf
set_option linter.unusedSimpArgs false
attribute [local go_sem] Oper.semAt_some
set_option maxRecDepth 100000 in
set_option maxHeartbeats 4000000 in
theorem reverse_any (g m cap : Nat) (L : List Nat) (hL : L.length = m) (hm : 0 < m) (hm2 : m ≤ 100) (n₀ : Nat) (w : World) (hrow : w.ownsRow n₀ 3 1 (.slice (some ⟨g, 0, none⟩) m cap) m (flatN L)) :
    Calls Try.prog 163 #[.slice (some ⟨g, 0, none⟩) m cap] w fun e w' => e = .returned (.tuple #[]) ∧ w'.ownsRow n₀ 3 1 (.slice (some ⟨g, 0, none⟩) m cap) m (flatN L.reverse) ∧ Below n₀ w w' := by
  have mixed : Try.prog.follows Departure.mixedOrders = true := by kernel_rfl
  have hg : n₀ ≤ g := (hrow.lt g rfl).1
  have HROW := Lib.hid hrow
  have HST := Lib.hid (fun i (h : 2 * i + 1 < m) => flatN_rv (L := L) (i := i) (by omega))
  have HAT := Lib.hid (fun i (h : 2 * i + 1 < m) => flatN_at (L := L) (i := i) (by omega))
  have HDN := Lib.hid (fun i (h : m ≤ 2 * i + 1) (h2 : 2 * i ≤ m) => rvF_done (L := L) (i := i) (by omega) (by omega))
  have H0 := Lib.hid (rvF_zero L)
  rw [hL] at HST HAT
  clear hrow hL
  go_enter Try.func163, Try.ntmps163
  go_wp2_with fail
  go_loopw [2, 3] (fun iv jv wr => ∃ (i : Nat) (jz : Int), 2 * i ≤ m ∧ iv = .int .i64 i ∧ jv = .int .i64 jz ∧ jz = (m : Int) - 1 - i ∧ wr.ownsRow n₀ 3 1 (.slice (some ⟨g, 0, none⟩) m cap) m (flatN (rvF L i)) ∧ Below n₀ w wr) (fun iv _ _ => m - (intOf iv).toNat)
  case atStart => exact ⟨0, _, by omega, rfl, rfl, by omega, by rw [H0.out]; exact HROW.out, Below.refl _ _⟩
  case round =>
    obtain ⟨i, jz, hi, rfl, rfl, hj, hr, hB⟩ := hrel
    have HR := Lib.hid hr
    have HB := Lib.hid hB
    clear hr hB HROW H0
    by_cases hlt : 2 * i + 1 < m
    · obtain ⟨jn, hjn⟩ : ∃ jn, jn = m - 1 - i := ⟨_, rfl⟩
      obtain rfl : jz = (jn : Int) := by omega
      obtain ⟨a1, a2⟩ := HAT.out i hlt
      have HSTi := Lib.hid (HST.out i hlt)
      rw [← hjn] at a2 HSTi
      have hij : (i : Int) < (jn : Int) := by omega
      have ci := HR.out.cellAt i (by omega)
      have cj := HR.out.cellAt jn (by omega)
      rw [a1] at ci
      rw [a2] at cj
      have fi := HR.out.frozenAt i
      have fj := HR.out.frozenAt jn
      have hjm : jn < m := by omega
      have him : i < m := by omega
      have hji : (jn : Int) < (m : Int) := by omega
      have hii : (i : Int) < (m : Int) := by omega
      have HJN := Lib.hid hjn
      clear a1 a2 HST HAT HDN hjn hj
      generalize tn L i = x at *
      generalize tn L jn = y at *
      go_wp2_with fail
      go_region_o
      have HS := Lib.hid (show ((wr.setCell ⟨g, i, none⟩ (.int .i64 (y : Int))).setCell ⟨g, jn, none⟩ (.int .i64 (x : Int))).drew.ownsRow n₀ 3 1 (.slice (some ⟨g, 0, none⟩) m cap) m (flatN (rvF L (i + 1))) by
        rw [← HSTi.out]
        exact ((HR.out.stored i (.int .i64 (y : Int))).1.stored jn (.int .i64 (x : Int))).1.drew)
      have HBS := Lib.hid (show Below n₀ w ((wr.setCell ⟨g, i, none⟩ (.int .i64 (y : Int))).setCell ⟨g, jn, none⟩ (.int .i64 (x : Int))).drew from ((HB.out.setCell (p := ⟨g, i, none⟩) hg _).setCell (p := ⟨g, jn, none⟩) hg _).drew)
      go_wp2_with fail
      go_roundw
      case rel => exact ⟨i + 1, (jn : Int) - 1, by omega, by go_num, rfl, by have := HJN.out; omega, HS.out, HBS.out⟩
      case measure => simp [intOf]; omega
    · have HD := Lib.hid (HDN.out i (by omega) hi)
      have hij : ¬ (i : Int) < jz := by omega
      clear HST HAT HDN
      go_wp2_with fail
      go_end0
      exact ⟨rfl, by rw [← HD.out]; exact HR.out, HB.out⟩
theorem own_pos {W : World} {base m : Nat} {v : Value} {xs : List Value} (h : W.ownsRow base 3 1 v m xs) (hm : 0 < m) : ∃ g c, v = .slice (some ⟨g, 0, none⟩) m c := by
  obtain ⟨m', rfl⟩ : ∃ m', m = m' + 1 := ⟨m - 1, by omega⟩
  exact ownsRow_succ h
theorem il_tail {n₀ : Nat} {W : World} {g m cap : Nat} {L : List Nat} (hL : L.length = m) (h : W.ownsRow n₀ 3 1 (.slice (some ⟨g, 0, none⟩) m cap) m (flatN L)) : Il W.heap.size W (.slice (some ⟨g, 1, none⟩) (m - 1) (cap - 1)) (zs L.tail) := by
  have hcap : m ≤ cap := by
    rcases h.2 with ⟨hv, _⟩ | ⟨g', cap', cur, hv, _, _, hc, _⟩
    · cases hv
    · simp only [Value.slice.injEq] at hv
      omega
  have hl : (zs L.tail).length = m - 1 := by simp [zs, hL]
  refine ⟨some ⟨g, 1, none⟩, cap - 1, by rw [hl], by rw [hl]; omega, fun k hk => ?_⟩
  rw [hl] at hk
  obtain ⟨g', c', e, -, -, hlt, c0⟩ := own3_cell h (i := k + 1) (by omega)
  simp only [Value.slice.injEq, Option.some.injEq, Addr.mk.injEq] at e
  obtain ⟨⟨rfl, -, -⟩, -, -⟩ := e
  refine ⟨g, 1, rfl, hlt, ?_⟩
  rw [Nat.add_comm 1 k, c0]
  congr 2
  unfold ti zs tn
  rw [List.getElem?_map, List.getElem?_tail, List.getElem?_eq_getElem (by omega)]
  rfl
set_option maxRecDepth 100000 in
set_option maxHeartbeats 4000000 in
theorem route_any (sl sh : Int) (sv : Value) (ns : List Nd) (k : Nat) (hv : AllN ns) (hl : ns.length ≤ 60) (hk : k < ns.length) (w : World) (hN : Nds w.heap.size w sv ns) :
    Calls Try.prog 118 #[.agg #[.int .i64 sl, .int .i64 sh, sv], .int .i64 (k : Int)] w fun e w' => ∃ v, e = .returned v ∧ Il w'.heap.size w' v (zs (pth (par ns) k).reverse.tail) ∧ Below w.heap.size w w' := by
  have c3 := Lib.hid (fun Bk Bc W (h : Below w.heap.size w W) h1 h2 h3 h4 => collect_up Bk Bc sv ns k W (hN.at h) hv hl hk h1 h2 h3 h4)
  have hlen := pth_len hv.tree k
  have hpos : 0 < (pth (par ns) k).length := by
    obtain ⟨L, hL⟩ := pth_head hv.tree k
    rw [hL]; simp
  have hm : (pth (par ns) k).length ≤ 60 := by omega
  obtain ⟨a, cap, hsv⟩ := hN.form
  subst hsv
  clear hN hv hlen hl hk
  generalize pth (par ns) k = L at *
  have c2 := fun W => up_any sl sh a ns.length cap (k : Int) W
  generalize ns.length = n at *
  have HIT := Lib.hid (fun (m : Nat) (h : L.length = m) (W : World) (g cap : Nat) (hh : W.ownsRow w.heap.size 3 1 (.slice (some ⟨g, 0, none⟩) m cap) m (flatN L.reverse)) => il_tail (L := L.reverse) (by rw [List.length_reverse]; exact h) hh)
  have HREV := Lib.hid (fun (m : Nat) (h : L.length = m) (h1 : 0 < m) (h2 : m ≤ 100) (g cap : Nat) (W : World) hh => reverse_any g m cap L h h1 h2 w.heap.size W hh)
  generalize hmm : L.length = m at *
  have HC := Lib.hid (HREV.out m rfl hpos (by omega))
  have HIL := Lib.hid (HIT.out m rfl)
  clear HIT HREV hmm
  obtain ⟨A, hA⟩ : ∃ A, A = w.alloc (.cells #[.int .i64 sl, .int .i64 sh, .slice a n cap] 26) := ⟨_, rfl⟩
  have HBA := Lib.hid (show Below w.heap.size w A by rw [hA]; exact ((Below.refl _ _).alloc (Nat.le_refl _) _))
  have q0 : A.cell? ⟨w.heap.size, 0, none⟩ = some (.int .i64 sl) := by rw [hA]; exact (cellHB (World.alloc_heap_new w _) 0).trans (by simp)
  have q1 : A.cell? ⟨w.heap.size, 1, none⟩ = some (.int .i64 sh) := by rw [hA]; exact (cellHB (World.alloc_heap_new w _) 1).trans (by simp)
  have q2 : A.cell? ⟨w.heap.size, 2, none⟩ = some (.slice a n cap) := by rw [hA]; exact (cellHB (World.alloc_heap_new w _) 2).trans (by simp)
  go_enter Try.func118, Try.ntmps118
  go_upto_region 1 with fail
  rw [← hA]
  clear hA
  go_wp2_with fail
  refine (c2 _).mono ?_
  rintro e w2 ⟨rfl, hw2⟩
  have hb2 : Below A.heap.size A w2 := by rw [hw2]; exact ((Below.refl _ _).alloc (Nat.le_refl _) _).alloc (by simp) _
  have hk2 : w2.cell? ⟨A.heap.size + 1, 0, none⟩ = some (.int .i64 (k : Int)) := by rw [hw2]; simp [go_sem]
  have hc2 : w2.cell? ⟨A.heap.size, 2, none⟩ = some (.slice a n cap) := by rw [hw2]; simp [go_sem]
  have hz2 : w2.heap.size = A.heap.size + 2 := by rw [hw2]; simp
  have HB2 := Lib.hid hb2
  have Q := Lib.hid (c3.out (A.heap.size + 1) A.heap.size w2 (HBA.out.trans (HB2.out.mono HBA.out.size)) (by omega) (by omega) hk2 hc2)
  have HS2 := Lib.hid (show w.heap.size ≤ w2.heap.size from Nat.le_trans HBA.out.size HB2.out.size)
  clear hw2 hb2 hk2 hc2 hz2 q0 q1 q2
  go_wp2_with fail
  refine Q.out.mono ?_
  rintro e w3 ⟨v, rfl, hr, hb⟩
  have HB3 := Lib.hid (HB2.out.trans (hb.mono HB2.out.size))
  have HR := Lib.hid (own_base hr HS2.out)
  obtain ⟨g, cv, hgv⟩ := own_pos hr hpos
  subst hgv
  have hcap : m ≤ cv := by
    rcases hr.2 with ⟨hv, _⟩ | ⟨g', cap', cur, hv, _, _, hc, _⟩
    · cases hv
    · simp only [Value.slice.injEq] at hv
      omega
  clear hb Q hr
  go_wp2_with fail
  refine (HC.out _ _ _ HR.out).mono ?_
  rintro e w4 ⟨rfl, hr4, hb4⟩
  have HB4 := Lib.hid ((HBA.out.trans (HB3.out.mono HBA.out.size)).trans hb4)
  have HI := Lib.hid (HIL.out _ _ _ hr4)
  clear hr4 hb4
  by_cases hc1 : cv = 1
  · obtain rfl : m = 1 := by omega
    subst hc1
    obtain ⟨a', c', he⟩ := HI.out.form
    have hz0 : (zs L.reverse.tail).length = 0 := by
      simp only [Value.slice.injEq] at he
      omega
    have HZ := Lib.hid (show ∀ (N : Nat) (W : World) (p : Option Addr) (c : Nat), Il N W (.slice p 0 c) (zs L.reverse.tail) from fun N W p c => ⟨p, c, by rw [hz0], by rw [hz0]; exact Nat.zero_le _, fun k hk => absurd hk (by rw [hz0]; exact Nat.not_lt_zero _)⟩)
    clear he hz0 HI
    go_wp2_with fail
    go_ret
    exact ⟨_, rfl, HZ.out _ _ _ _, HB4.out⟩
  · have h1c : 1 < cv := by omega
    have hmi : (1 : Int) ≤ (m : Int) := by omega
    have hmc : (m : Int) ≤ (cv : Int) := by omega
    go_wp2_with fail
    go_ret
    exact ⟨_, rfl, HI.out, HB4.out⟩
end Go.Proofs.Ytdohfpnnmppdkaa

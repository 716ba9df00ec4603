/-
  Cables in memory; Check.
-/
import Derived.Test.YtdohfpnnmppdkaaCbB
namespace Go.Proofs.Ytdohfpnnmppdkaa
open Go.RowKit Go.Shelf
set_option linter.unusedSimpArgs false
def Nds (n₀ : Nat) (W : World) (sv : Value) (ns : List Nd) : Prop :=
  ∃ a cap, sv = .slice a ns.length cap ∧ ns.length ≤ cap ∧ ∀ k, k < ns.length → ∃ b off, a = some ⟨b, off, none⟩ ∧ b < n₀ ∧
    W.cell? ⟨b, off + k * 8, none⟩ = some (.int .i64 (nd ns k).par) ∧ W.cell? ⟨b, off + k * 8 + 1, none⟩ = some (.int .i64 (nd ns k).ol) ∧ W.cell? ⟨b, off + k * 8 + 2, none⟩ = some (.int .i64 (nd ns k).oh) ∧ W.cell? ⟨b, off + k * 8 + 3, none⟩ = some (.int .i64 (nd ns k).lim) ∧ W.cell? ⟨b, off + k * 8 + 4, none⟩ = some (.int .i64 (nd ns k).ll) ∧ W.cell? ⟨b, off + k * 8 + 5, none⟩ = some (.int .i64 (nd ns k).lh) ∧ W.cell? ⟨b, off + k * 8 + 6, none⟩ = some (.int .i64 (nd ns k).lea) ∧ W.cell? ⟨b, off + k * 8 + 7, none⟩ = some (.int .i64 (nd ns k).del)
theorem Nds.mono {n₀ m : Nat} {W W' : World} {sv : Value} {ns : List Nd} (h : Nds n₀ W sv ns) (hb : Below n₀ W W') (hm : n₀ ≤ m) : Nds m W' sv ns := by
  obtain ⟨a, cap, e, hl, hc⟩ := h
  refine ⟨a, cap, e, hl, fun k hk => ?_⟩
  obtain ⟨b, off, h1, h2, c0, c1, c2, c3, c4, c5, c6, c7⟩ := hc k hk
  exact ⟨b, off, h1, Nat.lt_of_lt_of_le h2 hm, (hb.cell (p := ⟨b, _, none⟩) h2).trans c0, (hb.cell (p := ⟨b, _, none⟩) h2).trans c1, (hb.cell (p := ⟨b, _, none⟩) h2).trans c2, (hb.cell (p := ⟨b, _, none⟩) h2).trans c3, (hb.cell (p := ⟨b, _, none⟩) h2).trans c4, (hb.cell (p := ⟨b, _, none⟩) h2).trans c5, (hb.cell (p := ⟨b, _, none⟩) h2).trans c6, (hb.cell (p := ⟨b, _, none⟩) h2).trans c7⟩
theorem Nds.at {W W' : World} {sv : Value} {ns : List Nd} (h : Nds W.heap.size W sv ns) (hb : Below W.heap.size W W') : Nds W'.heap.size W' sv ns := h.mono hb hb.size
theorem Nds.form {n₀ : Nat} {W : World} {sv : Value} {ns : List Nd} (h : Nds n₀ W sv ns) : ∃ a c, sv = .slice a ns.length c := by
  obtain ⟨a, c, rfl, -, -⟩ := h
  exact ⟨a, c, rfl⟩
theorem joinB_iff (n : Nd) (k : Nat) : joinB n k = true ↔ JoinP n k := decide_eq_true_iff
theorem nodeB_iff (n : Nd) : nodeB n = true ↔ NodeP n := decide_eq_true_iff
theorem joinV_eq (n : Nd) (k : Nat) : joinV n.par n.ol n.oh n.del (k : Int) = joinB n k := by
  rw [Bool.eq_iff_iff, joinB_iff]
  unfold joinV JoinP
  by_cases h : k = 0
  · subst h
    rw [if_pos (by rfl), if_pos rfl]
    simp [and_assoc]
  · rw [if_neg (by omega), if_neg h, decide_eq_true_iff]
theorem vB_and (a b lo hi : Int) (h1 : -1073741824 ≤ lo) (h2 : hi ≤ 1073741824) : (vB a b && (decide (lo ≤ a) && decide (b ≤ hi))) = decide (a ≤ b ∧ lo ≤ a ∧ b ≤ hi) := by
  rw [Bool.eq_iff_iff]
  simp only [Bool.and_eq_true, decide_eq_true_iff, vB_iff]
  omega
theorem nodeV_eq (n : Nd) : nodeV n.ol n.oh n.lim n.ll n.lh n.lea n.del = nodeB n := by
  rw [Bool.eq_iff_iff, nodeB_iff]
  unfold nodeV NodeP
  rw [vB_and _ _ _ _ (by decide) (by decide), vB_and _ _ _ _ (by decide) (by decide)]
  simp only [Bool.and_eq_true, decide_eq_true_iff]
  constructor
  · rintro ⟨⟨⟨⟨h1, h2⟩, h3⟩, h4⟩, h5⟩
    exact ⟨h1, h2, h3, h4, h5⟩
  · rintro ⟨h1, h2, h3, h4, h5⟩
    exact ⟨⟨⟨⟨h1, h2⟩, h3⟩, h4⟩, h5⟩
open Classical in
theorem cabE_def (sl sh : Int) (ns : List Nd) : cabE sl sh ns = (if 60 < ns.length then 6 else if ns.length = 0 then 2 else if ¬ (sl ≤ sh ∧ 0 ≤ sl ∧ sh ≤ 67108864) then 2 else if AllN ns then 0 else 2) := rfl
set_option maxRecDepth 100000 in
set_option maxHeartbeats 4000000 in
theorem check25 (sl sh : Int) (sv : Value) (ns : List Nd) (w : World) (hN : Nds w.heap.size w sv ns) :
    Calls Try.prog 25 #[.agg #[.int .i64 sl, .int .i64 sh, sv]] w fun e w' => e = .returned (.int .i64 (cabE sl sh ns)) ∧ Below w.heap.size w w' := by
  obtain ⟨a, cap, rfl, -, hcc⟩ := hN
  have HC := Lib.hid (show ∀ W k, Below w.heap.size w W → k < ns.length → ∃ b off, a = some ⟨b, off, none⟩ ∧ b < w.heap.size ∧ W.cell? ⟨b, off + k * 8, none⟩ = some (.int .i64 (nd ns k).par) ∧ W.cell? ⟨b, off + k * 8 + 1, none⟩ = some (.int .i64 (nd ns k).ol) ∧ W.cell? ⟨b, off + k * 8 + 2, none⟩ = some (.int .i64 (nd ns k).oh) ∧ W.cell? ⟨b, off + k * 8 + 3, none⟩ = some (.int .i64 (nd ns k).lim) ∧ W.cell? ⟨b, off + k * 8 + 4, none⟩ = some (.int .i64 (nd ns k).ll) ∧ W.cell? ⟨b, off + k * 8 + 5, none⟩ = some (.int .i64 (nd ns k).lh) ∧ W.cell? ⟨b, off + k * 8 + 6, none⟩ = some (.int .i64 (nd ns k).lea) ∧ W.cell? ⟨b, off + k * 8 + 7, none⟩ = some (.int .i64 (nd ns k).del) from fun W k hb hk => by
    obtain ⟨b, off, h1, h2, e0, e1, e2, e3, e4, e5, e6, e7⟩ := hcc k hk
    exact ⟨b, off, h1, h2, (hb.cell (p := ⟨b, _, none⟩) h2).trans e0, (hb.cell (p := ⟨b, _, none⟩) h2).trans e1, (hb.cell (p := ⟨b, _, none⟩) h2).trans e2, (hb.cell (p := ⟨b, _, none⟩) h2).trans e3, (hb.cell (p := ⟨b, _, none⟩) h2).trans e4, (hb.cell (p := ⟨b, _, none⟩) h2).trans e5, (hb.cell (p := ⟨b, _, none⟩) h2).trans e6, (hb.cell (p := ⟨b, _, none⟩) h2).trans e7⟩)
  clear hcc
  have HE := Lib.hid (cabE_def sl sh ns)
  have HAL := Lib.hid (show (AllN ns ↔ ∀ k, k < ns.length → joinB (nd ns k) k = true ∧ nodeB (nd ns k) = true) from Iff.rfl)
  have HV := Lib.hid (show (vB sl sh && (decide (0 ≤ sl) && decide (sh ≤ 67108864))) = decide (sl ≤ sh ∧ 0 ≤ sl ∧ sh ≤ 67108864) from vB_and _ _ _ _ (by decide) (by decide))
  have cp := fun W => isPart_any sl sh 0 67108864 W
  rw [HV.out] at cp
  clear HV
  generalize hn : ns.length = n at *
  generalize cabE sl sh ns = E at *
  clear hn
  obtain ⟨A, hA⟩ : ∃ A, A = w.alloc (.cells #[.int .i64 sl, .int .i64 sh, .slice a n cap] 26) := ⟨_, rfl⟩
  have HBA := Lib.hid (show Below w.heap.size w A by rw [hA]; exact ((Below.refl _ _).alloc (Nat.le_refl _) _))
  have hltA : w.heap.size + 1 ≤ A.heap.size := by rw [hA]; simp
  have q0 : A.cell? ⟨w.heap.size, 0, none⟩ = some (.int .i64 sl) := by rw [hA]; exact (cellHB (World.alloc_heap_new w _) 0).trans (by simp)
  have q1 : A.cell? ⟨w.heap.size, 1, none⟩ = some (.int .i64 sh) := by rw [hA]; exact (cellHB (World.alloc_heap_new w _) 1).trans (by simp)
  have q2 : A.cell? ⟨w.heap.size, 2, none⟩ = some (.slice a n cap) := by rw [hA]; exact (cellHB (World.alloc_heap_new w _) 2).trans (by simp)
  have KK := Lib.hid (show ∀ W, Below A.heap.size A W → W.cell? ⟨w.heap.size, 0, none⟩ = some (.int .i64 sl) ∧ W.cell? ⟨w.heap.size, 1, none⟩ = some (.int .i64 sh) ∧ W.cell? ⟨w.heap.size, 2, none⟩ = some (.slice a n cap) from fun W h => ⟨(h.cell (p := ⟨w.heap.size, 0, none⟩) (by show w.heap.size < A.heap.size; omega)).trans q0, (h.cell (p := ⟨w.heap.size, 1, none⟩) (by show w.heap.size < A.heap.size; omega)).trans q1, (h.cell (p := ⟨w.heap.size, 2, none⟩) (by show w.heap.size < A.heap.size; omega)).trans q2⟩)
  have HLT := Lib.hid hltA
  clear hltA q0 q1 q2
  obtain ⟨k0, k1, k2⟩ := KK.out _ (Below.refl _ _)
  by_cases hbig : (60 : Int) < (n : Int)
  · have hE := HE.out
    rw [if_pos (show 60 < n by omega)] at hE
    subst hE
    go_enter Try.func25, Try.ntmps25
    go_upto_region 1 with fail
    rw [← hA]
    clear hA
    go_wp2_with fail
    go_ret
    exact ⟨rfl, HBA.out⟩
  have hn60 : n ≤ 60 := by omega
  by_cases hn0 : n = 0
  · have hE := HE.out
    rw [if_neg (show ¬ 60 < n by omega), if_pos hn0] at hE
    subst hE
    subst hn0
    go_enter Try.func25, Try.ntmps25
    go_upto_region 1 with fail
    rw [← hA]
    clear hA
    go_wp2_with fail
    go_ret
    exact ⟨rfl, HBA.out⟩
  have hn0' : ((n : Int) == 0) = false := by simp; omega
  by_cases hs : sl ≤ sh ∧ 0 ≤ sl ∧ sh ≤ 67108864
  · rw [decide_eq_true hs] at cp
    have hE := HE.out
    rw [if_neg (show ¬ 60 < n by omega), if_neg hn0, if_neg (show ¬ ¬ (sl ≤ sh ∧ 0 ≤ sl ∧ sh ≤ 67108864) from fun h => h hs)] at hE
    have HE2 := Lib.hid hE
    clear hE HE hs hbig
    go_enter Try.func25, Try.ntmps25
    go_upto_region 1 with fail
    rw [← hA]
    clear hA
    go_wp2_with fail
    refine (cp _).mono ?_
    rintro e w1 ⟨rfl, hb⟩
    have HB1 := Lib.hid hb
    clear hb k0 k1 k2
    obtain ⟨k0, k1, k2⟩ := KK.out _ HB1.out
    go_wp2_with fail
    go_loopw [22] (fun iv wr => ∃ k : Nat, k ≤ n ∧ iv = .int .i64 k ∧ (∀ j, j < k → joinB (nd ns j) j = true ∧ nodeB (nd ns j) = true) ∧ Below A.heap.size A wr) (fun iv _ => n - (intOf iv).toNat)
    case atStart => exact ⟨0, Nat.zero_le _, rfl, fun j hj => absurd hj (Nat.not_lt_zero _), HB1.out⟩
    case round =>
      obtain ⟨k, hk, rfl, hv, hB⟩ := hrel
      have HVK := Lib.hid hv
      have HB := Lib.hid hB
      clear hv hB
      clear k0 k1 k2
      by_cases hlt : k < n
      · have hki : (k : Int) < (n : Int) := by omega
        obtain ⟨b, off, hab, hb, n0, n1, n2, n3, n4, n5, n6, n7⟩ := HC.out _ k (HBA.out.trans (HB.out.mono HBA.out.size)) hlt
        subst hab
        have cj := fun W => isJoined_any (nd ns k).par (nd ns k).ol (nd ns k).oh (nd ns k).lim (nd ns k).ll (nd ns k).lh (nd ns k).lea (nd ns k).del (k : Int) (by omega) W
        have cv := fun W => validNode_any (nd ns k).par (nd ns k).ol (nd ns k).oh (nd ns k).lim (nd ns k).ll (nd ns k).lh (nd ns k).lea (nd ns k).del W
        rw [joinV_eq] at cj
        rw [nodeV_eq] at cv
        have HNX := Lib.hid (fun (h1 : joinB (nd ns k) k = true) (h2 : nodeB (nd ns k) = true) => show ∀ j, j < k + 1 → joinB (nd ns j) j = true ∧ nodeB (nd ns j) = true from fun j hj => by
          rcases (show j < k ∨ j = k by omega) with h | h
          · exact HVK.out j h
          · rw [h]; exact ⟨h1, h2⟩)
        have HNO := Lib.hid (fun (h : ¬ (joinB (nd ns k) k = true ∧ nodeB (nd ns k) = true)) => show E = 2 by
          rw [HE2.out, if_neg (fun g => h (HAL.out.1 g k hlt))])
        generalize (nd ns k).par = xpar at *
        generalize (nd ns k).ol = xol at *
        generalize (nd ns k).oh = xoh at *
        generalize (nd ns k).lim = xlim at *
        generalize (nd ns k).ll = xll at *
        generalize (nd ns k).lh = xlh at *
        generalize (nd ns k).lea = xlea at *
        generalize (nd ns k).del = xdel at *
        generalize joinB (nd ns k) k = JB at *
        generalize nodeB (nd ns k) = NB at *
        go_upto_region 8 with fail
        obtain ⟨V, hV⟩ : ∃ V, V = wr.alloc (.cells #[.int .i64 xpar, .int .i64 xol, .int .i64 xoh, .int .i64 xlim, .int .i64 xll, .int .i64 xlh, .int .i64 xlea, .int .i64 xdel] 62) := ⟨_, rfl⟩
        try rw [← hV]
        have HBV := Lib.hid (show Below A.heap.size A V by rw [hV]; exact HB.out.alloc HB.out.size _)
        have hX := show V.heap[wr.heap.size]? = some (.cells #[.int .i64 xpar, .int .i64 xol, .int .i64 xoh, .int .i64 xlim, .int .i64 xll, .int .i64 xlh, .int .i64 xlea, .int .i64 xdel] 62 (0, 0)) by rw [hV]; exact World.alloc_heap_new _ _
        have HX := Lib.hid hX
        have e0 : V.cell? ⟨wr.heap.size, 0, none⟩ = some (.int .i64 xpar) := cellHB hX 0
        have e1 : V.cell? ⟨wr.heap.size, 1, none⟩ = some (.int .i64 xol) := cellHB hX 1
        have e2 : V.cell? ⟨wr.heap.size, 2, none⟩ = some (.int .i64 xoh) := cellHB hX 2
        have e3 : V.cell? ⟨wr.heap.size, 3, none⟩ = some (.int .i64 xlim) := cellHB hX 3
        have e4 : V.cell? ⟨wr.heap.size, 4, none⟩ = some (.int .i64 xll) := cellHB hX 4
        have e5 : V.cell? ⟨wr.heap.size, 5, none⟩ = some (.int .i64 xlh) := cellHB hX 5
        have e6 : V.cell? ⟨wr.heap.size, 6, none⟩ = some (.int .i64 xlea) := cellHB hX 6
        have e7 : V.cell? ⟨wr.heap.size, 7, none⟩ = some (.int .i64 xdel) := cellHB hX 7
        clear hV hX n0 n1 n2 n3 n4 n5 n6 n7
        have HX2 := Lib.hid (show ∀ W, Below V.heap.size V W → W.heap[wr.heap.size]? = some (.cells #[.int .i64 xpar, .int .i64 xol, .int .i64 xoh, .int .i64 xlim, .int .i64 xll, .int .i64 xlh, .int .i64 xlea, .int .i64 xdel] 62 (0, 0)) from fun W h => (h.block _ (Array.getElem?_eq_some_iff.1 HX.out).1).trans HX.out)
        cases JB
        · have hE := HNO.out (by simp)
          subst hE
          go_wp2_with fail
          refine (cj _).mono ?_
          rintro e w2 ⟨rfl, hb⟩
          have HB2 := Lib.hid (HBV.out.trans (hb.mono HBV.out.size))
          clear hb
          go_wp2_with fail
          go_ret
          exact ⟨rfl, HBA.out.trans (HB2.out.mono HBA.out.size)⟩
        · go_wp2_with fail
          refine (cj _).mono ?_
          rintro e w2 ⟨rfl, hb⟩
          have HB2 := Lib.hid (HBV.out.trans (hb.mono HBV.out.size))
          have hX := HX2.out _ hb
          clear hb e0 e1 e2 e3 e4 e5 e6 e7
          have e0 : w2.cell? ⟨wr.heap.size, 0, none⟩ = some (.int .i64 xpar) := cellHB hX 0
          have e1 : w2.cell? ⟨wr.heap.size, 1, none⟩ = some (.int .i64 xol) := cellHB hX 1
          have e2 : w2.cell? ⟨wr.heap.size, 2, none⟩ = some (.int .i64 xoh) := cellHB hX 2
          have e3 : w2.cell? ⟨wr.heap.size, 3, none⟩ = some (.int .i64 xlim) := cellHB hX 3
          have e4 : w2.cell? ⟨wr.heap.size, 4, none⟩ = some (.int .i64 xll) := cellHB hX 4
          have e5 : w2.cell? ⟨wr.heap.size, 5, none⟩ = some (.int .i64 xlh) := cellHB hX 5
          have e6 : w2.cell? ⟨wr.heap.size, 6, none⟩ = some (.int .i64 xlea) := cellHB hX 6
          have e7 : w2.cell? ⟨wr.heap.size, 7, none⟩ = some (.int .i64 xdel) := cellHB hX 7
          clear hX
          cases NB
          · have hE := HNO.out (by simp)
            subst hE
            go_wp2_with fail
            refine (cv _).mono ?_
            rintro e w3 ⟨rfl, hb⟩
            have HB3 := Lib.hid (HB2.out.trans (hb.mono HB2.out.size))
            clear hb
            go_wp2_with fail
            go_ret
            exact ⟨rfl, HBA.out.trans (HB3.out.mono HBA.out.size)⟩
          · have HNX2 := Lib.hid (HNX.out (by first | rfl | trivial) (by first | rfl | trivial))
            go_wp2_with fail
            refine (cv _).mono ?_
            rintro e w3 ⟨rfl, hb⟩
            have HB3 := Lib.hid (HB2.out.trans (hb.mono HB2.out.size))
            clear hb e0 e1 e2 e3 e4 e5 e6 e7
            go_wp2_with fail
            go_roundw
            case rel => exact ⟨k + 1, by omega, by go_num, HNX2.out, HB3.out⟩
            case measure => simp [intOf]; omega
      · obtain rfl : k = n := by omega
        have hE := HE2.out
        rw [if_pos (HAL.out.2 HVK.out)] at hE
        subst hE
        go_wp2_with fail
        go_ret
        exact ⟨rfl, HBA.out.trans (HB.out.mono HBA.out.size)⟩
  · rw [decide_eq_false hs] at cp
    have hE := HE.out
    rw [if_neg (show ¬ 60 < n by omega), if_neg hn0, if_pos hs] at hE
    subst hE
    clear HE hs hbig
    go_enter Try.func25, Try.ntmps25
    go_upto_region 1 with fail
    rw [← hA]
    clear hA
    go_wp2_with fail
    refine (cp _).mono ?_
    rintro e w1 ⟨rfl, hb⟩
    have HB1 := Lib.hid hb
    clear hb k0 k1 k2
    obtain ⟨k0, k1, k2⟩ := KK.out _ HB1.out
    go_wp2_with fail
    go_ret
    exact ⟨rfl, HBA.out.trans (HB1.out.mono HBA.out.size)⟩
theorem isNode_any (sl sh : Int) (a : Option Addr) (n cap : Nat) (hn : n ≤ 1000) (k : Int) (w : World) :
    Calls Try.prog 115 #[.agg #[.int .i64 sl, .int .i64 sh, .slice a n cap], .int .i64 k] w fun e w' => e = .returned (.bool (decide (0 ≤ k ∧ k < n))) ∧ Below w.heap.size w w' := by
  have c1 := fun W => withinI k 0 ((n : Int) - 1) W
  rw [show decide (0 ≤ k ∧ k ≤ (n : Int) - 1) = decide (0 ≤ k ∧ k < n) by rw [decide_eq_decide]; omega] at c1
  generalize decide (0 ≤ k ∧ k < n) = x at *
  obtain ⟨A, hA⟩ : ∃ A, A = w.alloc (.cells #[.int .i64 sl, .int .i64 sh, .slice a n cap] 26) := ⟨_, rfl⟩
  have HBA := Lib.hid (show Below w.heap.size w A by rw [hA]; exact ((Below.refl _ _).alloc (Nat.le_refl _) _))
  have hltA : w.heap.size + 1 ≤ A.heap.size := by rw [hA]; simp
  have q0 : A.cell? ⟨w.heap.size, 0, none⟩ = some (.int .i64 sl) := by rw [hA]; exact (cellHB (World.alloc_heap_new w _) 0).trans (by simp)
  have q1 : A.cell? ⟨w.heap.size, 1, none⟩ = some (.int .i64 sh) := by rw [hA]; exact (cellHB (World.alloc_heap_new w _) 1).trans (by simp)
  have q2 : A.cell? ⟨w.heap.size, 2, none⟩ = some (.slice a n cap) := by rw [hA]; exact (cellHB (World.alloc_heap_new w _) 2).trans (by simp)
  have KK := Lib.hid (show ∀ W, Below A.heap.size A W → W.cell? ⟨w.heap.size, 0, none⟩ = some (.int .i64 sl) ∧ W.cell? ⟨w.heap.size, 1, none⟩ = some (.int .i64 sh) ∧ W.cell? ⟨w.heap.size, 2, none⟩ = some (.slice a n cap) from fun W h => ⟨(h.cell (p := ⟨w.heap.size, 0, none⟩) (by show w.heap.size < A.heap.size; omega)).trans q0, (h.cell (p := ⟨w.heap.size, 1, none⟩) (by show w.heap.size < A.heap.size; omega)).trans q1, (h.cell (p := ⟨w.heap.size, 2, none⟩) (by show w.heap.size < A.heap.size; omega)).trans q2⟩)
  have HLT := Lib.hid hltA
  clear hltA q0 q1 q2
  obtain ⟨k0, k1, k2⟩ := KK.out _ (Below.refl _ _)
  go_enter Try.func115, Try.ntmps115
  go_upto_region 1 with fail
  rw [← hA]
  clear hA
  go_wp2_with fail
  refine (c1 _).mono ?_
  rintro e w1 ⟨rfl, rfl⟩
  go_wp2_with fail
  go_ret
  exact ⟨rfl, HBA.out⟩
/-- the error of a cable and a node -/
noncomputable def nodE (sl sh : Int) (ns : List Nd) (k : Int) : Int := if cabE sl sh ns = 0 then (if 0 ≤ k ∧ k < ns.length then 0 else 3) else cabE sl sh ns
set_option maxHeartbeats 1000000 in
theorem checkNode_any (sl sh : Int) (sv : Value) (ns : List Nd) (k : Int) (w : World) (hN : Nds w.heap.size w sv ns) :
    Calls Try.prog 79 #[.agg #[.int .i64 sl, .int .i64 sh, sv], .int .i64 k] w fun e w' => e = .returned (.int .i64 (nodE sl sh ns k)) ∧ Below w.heap.size w w' := by
  have c1 := Lib.hid (fun W (h : Below w.heap.size w W) => check25 sl sh sv ns W (hN.at h))
  have hcc := cabE_cases sl sh ns
  obtain ⟨a, cap, hsv⟩ := hN.form
  subst hsv
  have c2 := fun (h : ns.length ≤ 1000) W => isNode_any sl sh a ns.length cap h k W
  clear hN
  unfold nodE
  generalize cabE sl sh ns = E at *
  by_cases hE : E = 0
  · subst hE
    have hl : ns.length ≤ 1000 := by
      rcases hcc with ⟨h, _⟩ | ⟨h, _⟩ | ⟨_, h⟩
      · exact absurd h (by decide)
      · exact absurd h (by decide)
      · exact Nat.le_trans h.len (by decide)
    replace c2 := c2 hl
    clear hcc hl
    rw [if_pos rfl]
    generalize ns.length = n at *
    by_cases hk : 0 ≤ k ∧ k < n
    · rw [decide_eq_true hk] at c2
      rw [if_pos hk]
      clear hk
      obtain ⟨A, hA⟩ : ∃ A, A = w.alloc (.cells #[.int .i64 sl, .int .i64 sh, .slice a n cap] 26) := ⟨_, rfl⟩
      have HBA := Lib.hid (show Below w.heap.size w A by rw [hA]; exact ((Below.refl _ _).alloc (Nat.le_refl _) _))
      have hltA : w.heap.size + 1 ≤ A.heap.size := by rw [hA]; simp
      have q0 : A.cell? ⟨w.heap.size, 0, none⟩ = some (.int .i64 sl) := by rw [hA]; exact (cellHB (World.alloc_heap_new w _) 0).trans (by simp)
      have q1 : A.cell? ⟨w.heap.size, 1, none⟩ = some (.int .i64 sh) := by rw [hA]; exact (cellHB (World.alloc_heap_new w _) 1).trans (by simp)
      have q2 : A.cell? ⟨w.heap.size, 2, none⟩ = some (.slice a n cap) := by rw [hA]; exact (cellHB (World.alloc_heap_new w _) 2).trans (by simp)
      have KK := Lib.hid (show ∀ W, Below A.heap.size A W → W.cell? ⟨w.heap.size, 0, none⟩ = some (.int .i64 sl) ∧ W.cell? ⟨w.heap.size, 1, none⟩ = some (.int .i64 sh) ∧ W.cell? ⟨w.heap.size, 2, none⟩ = some (.slice a n cap) from fun W h => ⟨(h.cell (p := ⟨w.heap.size, 0, none⟩) (by show w.heap.size < A.heap.size; omega)).trans q0, (h.cell (p := ⟨w.heap.size, 1, none⟩) (by show w.heap.size < A.heap.size; omega)).trans q1, (h.cell (p := ⟨w.heap.size, 2, none⟩) (by show w.heap.size < A.heap.size; omega)).trans q2⟩)
      have HLT := Lib.hid hltA
      clear hltA q0 q1 q2
      obtain ⟨k0, k1, k2⟩ := KK.out _ (Below.refl _ _)
      go_enter Try.func79, Try.ntmps79
      go_upto_region 1 with fail
      rw [← hA]
      clear hA
      go_wp2_with fail
      refine (c1.out _ HBA.out).mono ?_
      rintro e w1 ⟨rfl, hb⟩
      have HB1 := Lib.hid hb
      clear hb k0 k1 k2
      obtain ⟨k0, k1, k2⟩ := KK.out _ HB1.out
      go_wp2_with fail
      refine (c2 _).mono ?_
      rintro e w2 ⟨rfl, hb⟩
      have HB2 := Lib.hid (HB1.out.trans (hb.mono HB1.out.size))
      clear hb k0 k1 k2
      obtain ⟨k0, k1, k2⟩ := KK.out _ HB2.out
      go_wp2_with fail
      go_ret
      exact ⟨rfl, HBA.out.trans (HB2.out.mono HBA.out.size)⟩
    · rw [decide_eq_false hk] at c2
      rw [if_neg hk]
      clear hk
      obtain ⟨A, hA⟩ : ∃ A, A = w.alloc (.cells #[.int .i64 sl, .int .i64 sh, .slice a n cap] 26) := ⟨_, rfl⟩
      have HBA := Lib.hid (show Below w.heap.size w A by rw [hA]; exact ((Below.refl _ _).alloc (Nat.le_refl _) _))
      have hltA : w.heap.size + 1 ≤ A.heap.size := by rw [hA]; simp
      have q0 : A.cell? ⟨w.heap.size, 0, none⟩ = some (.int .i64 sl) := by rw [hA]; exact (cellHB (World.alloc_heap_new w _) 0).trans (by simp)
      have q1 : A.cell? ⟨w.heap.size, 1, none⟩ = some (.int .i64 sh) := by rw [hA]; exact (cellHB (World.alloc_heap_new w _) 1).trans (by simp)
      have q2 : A.cell? ⟨w.heap.size, 2, none⟩ = some (.slice a n cap) := by rw [hA]; exact (cellHB (World.alloc_heap_new w _) 2).trans (by simp)
      have KK := Lib.hid (show ∀ W, Below A.heap.size A W → W.cell? ⟨w.heap.size, 0, none⟩ = some (.int .i64 sl) ∧ W.cell? ⟨w.heap.size, 1, none⟩ = some (.int .i64 sh) ∧ W.cell? ⟨w.heap.size, 2, none⟩ = some (.slice a n cap) from fun W h => ⟨(h.cell (p := ⟨w.heap.size, 0, none⟩) (by show w.heap.size < A.heap.size; omega)).trans q0, (h.cell (p := ⟨w.heap.size, 1, none⟩) (by show w.heap.size < A.heap.size; omega)).trans q1, (h.cell (p := ⟨w.heap.size, 2, none⟩) (by show w.heap.size < A.heap.size; omega)).trans q2⟩)
      have HLT := Lib.hid hltA
      clear hltA q0 q1 q2
      obtain ⟨k0, k1, k2⟩ := KK.out _ (Below.refl _ _)
      go_enter Try.func79, Try.ntmps79
      go_upto_region 1 with fail
      rw [← hA]
      clear hA
      go_wp2_with fail
      refine (c1.out _ HBA.out).mono ?_
      rintro e w1 ⟨rfl, hb⟩
      have HB1 := Lib.hid hb
      clear hb k0 k1 k2
      obtain ⟨k0, k1, k2⟩ := KK.out _ HB1.out
      go_wp2_with fail
      refine (c2 _).mono ?_
      rintro e w2 ⟨rfl, hb⟩
      have HB2 := Lib.hid (HB1.out.trans (hb.mono HB1.out.size))
      clear hb k0 k1 k2
      obtain ⟨k0, k1, k2⟩ := KK.out _ HB2.out
      go_wp2_with fail
      go_ret
      exact ⟨rfl, HBA.out.trans (HB2.out.mono HBA.out.size)⟩
  · rw [if_neg hE]
    have hE' : (E == 0) = false := by simpa using hE
    clear hcc c2 hE
    generalize ns.length = n at *
    obtain ⟨A, hA⟩ : ∃ A, A = w.alloc (.cells #[.int .i64 sl, .int .i64 sh, .slice a n cap] 26) := ⟨_, rfl⟩
    have HBA := Lib.hid (show Below w.heap.size w A by rw [hA]; exact ((Below.refl _ _).alloc (Nat.le_refl _) _))
    have hltA : w.heap.size + 1 ≤ A.heap.size := by rw [hA]; simp
    have q0 : A.cell? ⟨w.heap.size, 0, none⟩ = some (.int .i64 sl) := by rw [hA]; exact (cellHB (World.alloc_heap_new w _) 0).trans (by simp)
    have q1 : A.cell? ⟨w.heap.size, 1, none⟩ = some (.int .i64 sh) := by rw [hA]; exact (cellHB (World.alloc_heap_new w _) 1).trans (by simp)
    have q2 : A.cell? ⟨w.heap.size, 2, none⟩ = some (.slice a n cap) := by rw [hA]; exact (cellHB (World.alloc_heap_new w _) 2).trans (by simp)
    have KK := Lib.hid (show ∀ W, Below A.heap.size A W → W.cell? ⟨w.heap.size, 0, none⟩ = some (.int .i64 sl) ∧ W.cell? ⟨w.heap.size, 1, none⟩ = some (.int .i64 sh) ∧ W.cell? ⟨w.heap.size, 2, none⟩ = some (.slice a n cap) from fun W h => ⟨(h.cell (p := ⟨w.heap.size, 0, none⟩) (by show w.heap.size < A.heap.size; omega)).trans q0, (h.cell (p := ⟨w.heap.size, 1, none⟩) (by show w.heap.size < A.heap.size; omega)).trans q1, (h.cell (p := ⟨w.heap.size, 2, none⟩) (by show w.heap.size < A.heap.size; omega)).trans q2⟩)
    have HLT := Lib.hid hltA
    clear hltA q0 q1 q2
    obtain ⟨k0, k1, k2⟩ := KK.out _ (Below.refl _ _)
    go_enter Try.func79, Try.ntmps79
    go_upto_region 1 with fail
    rw [← hA]
    clear hA
    go_wp2_with fail
    refine (c1.out _ HBA.out).mono ?_
    rintro e w1 ⟨rfl, hb⟩
    have HB1 := Lib.hid hb
    clear hb k0 k1 k2
    obtain ⟨k0, k1, k2⟩ := KK.out _ HB1.out
    go_wp2_with fail
    go_ret
    exact ⟨by first | rfl | simp [*], HBA.out.trans (HB1.out.mono HBA.out.size)⟩
end Go.Proofs.Ytdohfpnnmppdkaa

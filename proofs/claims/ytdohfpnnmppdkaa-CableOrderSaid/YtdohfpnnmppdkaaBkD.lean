/-
  Cables: which breaker waits for too short a time.
-/
import Derived.Test.YtdohfpnnmppdkaaBkC
import Derived.Test.YtdohfpnnmppdkaaBkMath
import Derived.Test.YtdohfpnnmppdkaaCbB
namespace Go.Proofs.Ytdohfpnnmppdkaa
open Go.RowKit Go.Shelf
set_option linter.unusedSimpArgs false
attribute [local go_sem] Oper.semAt_some
theorem brk_pos {ns : List Nd} (hv : AllN ns) {k : Nat} (hk : k < ns.length) (h : brk ns k = true) : 0 < k := by
  rcases Nat.eq_zero_or_pos k with e | e
  · subst e
    rw [brk_zero hv hk] at h
    cases h
  · exact e
/-- a breaker of the path waits for too short a time -/
def shB (ns : List Nd) (m : Int) (k j : Nat) : Bool := decide ((nd ns j).del < (nd ns k).del + m)
theorem filter_two (p q : Nat → Bool) (l : List Nat) : l.filter (fun j => p j && q j) = (l.filter p).filter q := by
  rw [List.filter_filter]
  congr 1
  funext j
  exact Bool.and_comm _ _
theorem ear_some {ns : List Nd} {m : Int} {k : Nat} (hb : brk ns k = true) {pre : List Nat} {x : Nat} (hp : pre ++ [x] <+: (pth (par ns) (par ns k)).filter (brk ns)) (hn : ∀ y, y ∈ pre → shB ns m k y = false) (hx : shB ns m k x = true) : earN ns m k = some x := by
  unfold earN
  rw [if_pos hb]
  obtain ⟨r, hr⟩ := hp
  have e : (pth (par ns) (par ns k)).filter (fun j => brk ns j && shB ns m k j) = ((pre ++ [x]) ++ r).filter (shB ns m k) := by
    rw [filter_two, hr]
  show List.head? ((pth (par ns) (par ns k)).filter (fun j => brk ns j && shB ns m k j)) = some x
  rw [e, List.append_assoc, List.filter_append, List.filter_eq_nil_iff.2 (fun y hy => by rw [hn y hy]; simp), List.nil_append]
  simp [hx]
theorem ear_none {ns : List Nd} {m : Int} {k : Nat} (h : ∀ y, y ∈ (pth (par ns) (par ns k)).filter (brk ns) → shB ns m k y = false) : earN ns m k = none := by
  unfold earN
  split
  · show List.head? ((pth (par ns) (par ns k)).filter (fun j => brk ns j && shB ns m k j)) = none
    rw [filter_two, List.filter_eq_nil_iff.2 (fun y hy => by rw [h y hy]; simp)]
    rfl
  · rfl
theorem set_oneD {W : World} {b : Nat} {v : Value} {t : TypeId} (h : W.heap[b]? = some (.cells #[v] t (0, 0))) (u : Value) : (W.setCell ⟨b, 0, none⟩ u).heap[b]? = some (.cells #[u] t (0, 0)) := set_one h u
def EaB (sl sh m : Int) (nb off n cap k : Nat) (ns : List Nd) (P : Int) (B0 B1 B4 : Nat) (W : World) : Prop :=
  W.heap[B0]? = some (.cells #[.int .i64 sl, .int .i64 sh, .slice (some ⟨nb, off, none⟩) n cap] 26 (0, 0)) ∧ W.heap[B1]? = some (.cells #[.int .i64 m] 2 (0, 0)) ∧ W.heap[B4]? = some (.cells #[.int .i64 P, .int .i64 (nd ns k).ol, .int .i64 (nd ns k).oh, .int .i64 (nd ns k).lim, .int .i64 (nd ns k).ll, .int .i64 (nd ns k).lh, .int .i64 (nd ns k).lea, .int .i64 (nd ns k).del] 62 (0, 0))
def EaI (sl sh m : Int) (nb off n cap k : Nat) (ns : List Nd) (P : Int) (B0 B1 B2 B3 B4 : Nat) (w W5 : World) (L : List Nat) (pre : List {x // x ∈ L}) (W : World) : Prop :=
  EaB sl sh m nb off n cap k ns P B0 B1 B4 W ∧ W.heap[B2]? = some (.cells #[.int .i64 0] 3 (0, 0)) ∧ W.heap[B3]? = some (.cells #[.bool false] 4 (0, 0)) ∧ (∀ y, y ∈ pre.map (·.1) → shB ns m k y = false) ∧ Below w.heap.size w W ∧ W5.heap.size ≤ W.heap.size
def EaX (m : Int) (k : Nat) (ns : List Nd) (B2 B3 : Nat) (w W5 : World) (L : List Nat) (c : Code) (pre : List {x // x ∈ L}) (W : World) : Prop :=
  c = .ret ∧ ∃ p x, pre.map (·.1) = p ++ [x] ∧ (∀ y, y ∈ p → shB ns m k y = false) ∧ shB ns m k x = true ∧ W.heap[B2]? = some (.cells #[.int .i64 (x : Int)] 3 (0, 0)) ∧ W.heap[B3]? = some (.cells #[.bool true] 4 (0, 0)) ∧ Below w.heap.size w W ∧ W5.heap.size ≤ W.heap.size
theorem EaI.own {sl sh m : Int} {nb off n cap k : Nat} {ns : List Nd} {P : Int} {B0 B1 B2 B3 B4 : Nat} {w W5 : World} {L : List Nat} (hz : w.heap.size ≤ W5.heap.size) : OwnFrom W5.heap.size (EaI sl sh m nb off n cap k ns P B0 B1 B2 B3 B4 w W5 L) := by
  intro pre A B row hs hg hr
  obtain ⟨⟨h1, h2, h3⟩, h4, h5, h6, h7, h8⟩ := hs
  exact ⟨⟨cell_kept hg hr h1, cell_kept hg hr h2, cell_kept hg hr h3⟩, cell_kept hg hr h4, cell_kept hg hr h5, h6, h7.grown hg (by omega) (fun r e => by have := (hr r e).1; omega), Nat.le_trans h8 hg.size⟩
theorem EaX.own {m : Int} {k : Nat} {ns : List Nd} {B2 B3 : Nat} {w W5 : World} {L : List Nat} (hz : w.heap.size ≤ W5.heap.size) (c : Code) : OwnFrom W5.heap.size (EaX m k ns B2 B3 w W5 L c) := by
  intro pre A B row hs hg hr
  obtain ⟨h0, p, x, h1, h2, h3, h4, h5, h6, h7⟩ := hs
  exact ⟨h0, p, x, h1, h2, h3, cell_kept hg hr h4, cell_kept hg hr h5, h6.grown hg (by omega) (fun r e => by have := (hr r e).1; omega), Nat.le_trans h7 hg.size⟩
set_option maxRecDepth 100000 in
set_option maxHeartbeats 16000000 in
theorem early_any (sl sh : Int) (sv : Value) (ns : List Nd) (hv : AllN ns) (hl60 : ns.length ≤ 60) (k : Nat) (hk : k < ns.length) (m : Int) (hm0 : 0 ≤ m) (hm1 : m ≤ 1048576) (w : World) (hN : Nds w.heap.size w sv ns) :
    Calls Try.prog 107 #[.agg #[.int .i64 sl, .int .i64 sh, sv], .int .i64 (k : Int), .int .i64 m] w fun e w' => e = .returned (.tuple #[.int .i64 (((earN ns m k).getD 0 : Nat) : Int), .bool (earN ns m k).isSome]) ∧ Below w.heap.size w w' := by
  have hNN := hN
  obtain ⟨a, cap, rfl, -, hcc⟩ := hN
  obtain ⟨nb, off, rfl, hnb, e0, e1, e2, e3, e4, e5, e6, e7⟩ := hcc k hk
  have hki : (k : Int) < (ns.length : Int) := by omega
  have hde := (hv.node hk).2.2.2.2
  have cb := fun P W => hasBreaker_any P (nd ns k).ol (nd ns k).oh (nd ns k).lim (nd ns k).ll (nd ns k).lh (nd ns k).lea (nd ns k).del W
  rw [show ((nd ns k).del != -1) = brk ns k from rfl] at cb
  cases hbx : brk ns k
  · rw [hbx] at cb
    have he : earN ns m k = none := by unfold earN; rw [hbx]; rfl
    rw [he]
    clear hcc hNN hv hbx he
    generalize (nd ns k).par = p0 at *
    generalize (nd ns k).ol = p1 at *
    generalize (nd ns k).oh = p2 at *
    generalize (nd ns k).lim = p3 at *
    generalize (nd ns k).ll = p4 at *
    generalize (nd ns k).lh = p5 at *
    generalize (nd ns k).lea = p6 at *
    generalize (nd ns k).del = p7 at *
    generalize ns.length = n at *
    obtain ⟨V, hV⟩ : ∃ V, V = ((((w.alloc (.cells #[.int .i64 sl, .int .i64 sh, .slice (some ⟨nb, off, none⟩) n cap] 26)).alloc (.cells #[.int .i64 m] 2)).alloc (.cells #[.int .i64 0] 3)).alloc (.cells #[.bool false] 4)) := ⟨_, rfl⟩
    have hbV : Below w.heap.size w V := by rw [hV]; exact (((((Below.refl _ _).alloc (Nat.le_refl _) _).alloc (by simp; try omega) _).alloc (by simp; try omega) _).alloc (by simp; try omega) _)
    have hzV : V.heap.size = w.heap.size + 4 := by rw [hV]; simp
    have hV0 : V.heap[w.heap.size]? = some (.cells #[.int .i64 sl, .int .i64 sh, .slice (some ⟨nb, off, none⟩) n cap] 26 (0, 0)) := by
      rw [hV]
      refine (Below.heap_alloc _ _ _ (by simp; try omega)).trans ?_
      refine (Below.heap_alloc _ _ _ (by simp; try omega)).trans ?_
      refine (Below.heap_alloc _ _ _ (by simp; try omega)).trans ?_
      have q := World.alloc_heap_new w (.cells #[.int .i64 sl, .int .i64 sh, .slice (some ⟨nb, off, none⟩) n cap] 26)
      simpa using q
    have hV1 : V.heap[w.heap.size + 1]? = some (.cells #[.int .i64 m] 2 (0, 0)) := by
      rw [hV]
      refine (Below.heap_alloc _ _ _ (by simp; try omega)).trans ?_
      refine (Below.heap_alloc _ _ _ (by simp; try omega)).trans ?_
      have q := World.alloc_heap_new (w.alloc (.cells #[.int .i64 sl, .int .i64 sh, .slice (some ⟨nb, off, none⟩) n cap] 26)) (.cells #[.int .i64 m] 2)
      simpa using q
    have hV2 : V.heap[w.heap.size + 1 + 1]? = some (.cells #[.int .i64 0] 3 (0, 0)) := by
      rw [hV]
      refine (Below.heap_alloc _ _ _ (by simp; try omega)).trans ?_
      have q := World.alloc_heap_new ((w.alloc (.cells #[.int .i64 sl, .int .i64 sh, .slice (some ⟨nb, off, none⟩) n cap] 26)).alloc (.cells #[.int .i64 m] 2)) (.cells #[.int .i64 0] 3)
      simpa using q
    have hV3 : V.heap[w.heap.size + 1 + 1 + 1]? = some (.cells #[.bool false] 4 (0, 0)) := by
      rw [hV]
      have q := World.alloc_heap_new (((w.alloc (.cells #[.int .i64 sl, .int .i64 sh, .slice (some ⟨nb, off, none⟩) n cap] 26)).alloc (.cells #[.int .i64 m] 2)).alloc (.cells #[.int .i64 0] 3)) (.cells #[.bool false] 4)
      simpa using q
    have ve0 := (hbV.cell (p := ⟨nb, off + k * 8, none⟩) hnb).trans e0
    have ve1 := (hbV.cell (p := ⟨nb, off + k * 8 + 1, none⟩) hnb).trans e1
    have ve2 := (hbV.cell (p := ⟨nb, off + k * 8 + 2, none⟩) hnb).trans e2
    have ve3 := (hbV.cell (p := ⟨nb, off + k * 8 + 3, none⟩) hnb).trans e3
    have ve4 := (hbV.cell (p := ⟨nb, off + k * 8 + 4, none⟩) hnb).trans e4
    have ve5 := (hbV.cell (p := ⟨nb, off + k * 8 + 5, none⟩) hnb).trans e5
    have ve6 := (hbV.cell (p := ⟨nb, off + k * 8 + 6, none⟩) hnb).trans e6
    have ve7 := (hbV.cell (p := ⟨nb, off + k * 8 + 7, none⟩) hnb).trans e7
    have va2 := cellHB hV0 2
    have HV2 := Lib.hid (show V.heap.size = w.heap.size + 1 + 1 + 1 + 1 by rw [hzV])
    obtain ⟨A, hA⟩ : ∃ A, A = V.alloc (.cells #[.int .i64 p0, .int .i64 p1, .int .i64 p2, .int .i64 p3, .int .i64 p4, .int .i64 p5, .int .i64 p6, .int .i64 p7] 62) := ⟨_, rfl⟩
    have hbVA : Below V.heap.size V A := by rw [hA]; exact (Below.refl _ _).alloc (Nat.le_refl _) _
    have hbA : Below w.heap.size w A := hbV.trans (hbVA.mono hbV.size)
    have hzA : A.heap.size = w.heap.size + 5 := by rw [hA]; simp [hzV]
    have hA0 := (hbVA.block _ (by omega)).trans hV0
    have hA1 := (hbVA.block _ (by omega)).trans hV1
    have hA2 := (hbVA.block _ (by omega)).trans hV2
    have hA3 := (hbVA.block _ (by omega)).trans hV3
    have hA4 : A.heap[w.heap.size + 1 + 1 + 1 + 1]? = some (.cells #[.int .i64 p0, .int .i64 p1, .int .i64 p2, .int .i64 p3, .int .i64 p4, .int .i64 p5, .int .i64 p6, .int .i64 p7] 62 (0, 0)) := by have q := World.alloc_heap_new V (.cells #[.int .i64 p0, .int .i64 p1, .int .i64 p2, .int .i64 p3, .int .i64 p4, .int .i64 p5, .int .i64 p6, .int .i64 p7] 62); rw [← hA, hzV] at q; exact q
    have a0 := cellHB hA0 0
    have a1 := cellHB hA0 1
    have a2 := cellHB hA0 2
    have b0 := cellHB hA4 0
    have b1 := cellHB hA4 1
    have b2 := cellHB hA4 2
    have b3 := cellHB hA4 3
    have b4 := cellHB hA4 4
    have b5 := cellHB hA4 5
    have b6 := cellHB hA4 6
    have b7 := cellHB hA4 7
    have f2 := frozH hA2 0
    have f3 := frozH hA3 0
    have HBA := Lib.hid hbA
    have HZA := Lib.hid hzA
    have HK := Lib.hid (show ∀ W, Below A.heap.size A W → W.heap[w.heap.size + 1 + 1]? = some (.cells #[.int .i64 0] 3 (0, 0)) ∧ W.heap[w.heap.size + 1 + 1 + 1]? = some (.cells #[.bool false] 4 (0, 0)) from fun W h => ⟨(h.block _ (by omega)).trans hA2, (h.block _ (by omega)).trans hA3⟩)
    clear hA0 hA1 hA2 hA3 hA4 hbA hzA hde hV0 hV1 hV2 hV3 hbV hzV hbVA e0 e1 e2 e3 e4 e5 e6 e7
    go_enter Try.func107, Try.ntmps107
    go_upto_region 1 with fail
    rw [← hV]
    clear hV
    go_upto_region 2 with fail
    rw [← hA]
    clear hA
    rw [HV2.out]
    go_wp2_with fail
    refine (cb _ _).mono ?_
    rintro e w1 ⟨rfl, hb⟩
    obtain ⟨q2, q3⟩ := HK.out _ hb
    have HB := Lib.hid hb
    clear hb
    have c2 := cellHB q2 0
    have c3 := cellHB q3 0
    replace f2 := frozH q2 0
    replace f3 := frozH q3 0
    go_wp2_with fail
    refine bodyPost_ret (v := .tuple #[.int .i64 0, .bool false]) (by simp [results, Try.results107, go_sem, c2, c3]) rfl ⟨rfl, ?_⟩
    have := HZA.out
    exact ((HBA.out.trans (HB.out.mono HBA.out.size)).setCell (by simp; try omega) _).setCell (by simp; try omega) _
  · rw [hbx] at cb
    have hk0 := brk_pos hv hk hbx
    rw [hv.par_eq hk hk0] at e0
    have hpn := hv.par_lt hk hk0
    replace cb := cb (par ns k : Int)
    have HSEQ := Lib.hid (fun (C Kb : Nat) (W5 : World) (hb : Below w.heap.size w W5) h1 h2 => breakers_pre 8 (by decide) sl sh nb off cap ns hv hl60 (par ns k) C Kb hpn W5 h1 h2 (hNN.mono hb hb.size))
    have HXN := Lib.hid (fun (x : Nat) (hx : x ∈ pth (par ns) (par ns k)) => hv.path_lt hpn hx)
    have HC := Lib.hid (show ∀ W k, Below w.heap.size w W → k < ns.length → W.cell? ⟨nb, off + k * 8 + 7, none⟩ = some (.int .i64 (nd ns k).del) from fun W k hb hk => by
      obtain ⟨b, o, h1, h2, e0, e1, e2, e3, e4, e5, e6, e7⟩ := hcc k hk
      simp only [Option.some.injEq, Addr.mk.injEq] at h1
      obtain ⟨rfl, rfl, -⟩ := h1
      exact (hb.cell (p := ⟨_, _, none⟩) h2).trans e7)
    have HDB := Lib.hid (fun (x : Nat) (hx : x < ns.length) => (hv.node hx).2.2.2.2)
    have HES := Lib.hid (fun (pre : List Nat) (x : Nat) hp hn hx => ear_some (m := m) hbx (pre := pre) (x := x) hp hn hx)
    have HEN := Lib.hid (fun h => ear_none (ns := ns) (m := m) (k := k) h)
    clear hcc hNN hv hl60
    generalize hnn : ns.length = n at *
    clear hnn
    obtain ⟨V, hV⟩ : ∃ V, V = ((((w.alloc (.cells #[.int .i64 sl, .int .i64 sh, .slice (some ⟨nb, off, none⟩) n cap] 26)).alloc (.cells #[.int .i64 m] 2)).alloc (.cells #[.int .i64 0] 3)).alloc (.cells #[.bool false] 4)) := ⟨_, rfl⟩
    have hbV : Below w.heap.size w V := by rw [hV]; exact (((((Below.refl _ _).alloc (Nat.le_refl _) _).alloc (by simp; try omega) _).alloc (by simp; try omega) _).alloc (by simp; try omega) _)
    have hzV : V.heap.size = w.heap.size + 4 := by rw [hV]; simp
    have hV0 : V.heap[w.heap.size]? = some (.cells #[.int .i64 sl, .int .i64 sh, .slice (some ⟨nb, off, none⟩) n cap] 26 (0, 0)) := by
      rw [hV]
      refine (Below.heap_alloc _ _ _ (by simp; try omega)).trans ?_
      refine (Below.heap_alloc _ _ _ (by simp; try omega)).trans ?_
      refine (Below.heap_alloc _ _ _ (by simp; try omega)).trans ?_
      have q := World.alloc_heap_new w (.cells #[.int .i64 sl, .int .i64 sh, .slice (some ⟨nb, off, none⟩) n cap] 26)
      simpa using q
    have hV1 : V.heap[w.heap.size + 1]? = some (.cells #[.int .i64 m] 2 (0, 0)) := by
      rw [hV]
      refine (Below.heap_alloc _ _ _ (by simp; try omega)).trans ?_
      refine (Below.heap_alloc _ _ _ (by simp; try omega)).trans ?_
      have q := World.alloc_heap_new (w.alloc (.cells #[.int .i64 sl, .int .i64 sh, .slice (some ⟨nb, off, none⟩) n cap] 26)) (.cells #[.int .i64 m] 2)
      simpa using q
    have hV2 : V.heap[w.heap.size + 1 + 1]? = some (.cells #[.int .i64 0] 3 (0, 0)) := by
      rw [hV]
      refine (Below.heap_alloc _ _ _ (by simp; try omega)).trans ?_
      have q := World.alloc_heap_new ((w.alloc (.cells #[.int .i64 sl, .int .i64 sh, .slice (some ⟨nb, off, none⟩) n cap] 26)).alloc (.cells #[.int .i64 m] 2)) (.cells #[.int .i64 0] 3)
      simpa using q
    have hV3 : V.heap[w.heap.size + 1 + 1 + 1]? = some (.cells #[.bool false] 4 (0, 0)) := by
      rw [hV]
      have q := World.alloc_heap_new (((w.alloc (.cells #[.int .i64 sl, .int .i64 sh, .slice (some ⟨nb, off, none⟩) n cap] 26)).alloc (.cells #[.int .i64 m] 2)).alloc (.cells #[.int .i64 0] 3)) (.cells #[.bool false] 4)
      simpa using q
    have ve0 := (hbV.cell (p := ⟨nb, off + k * 8, none⟩) hnb).trans e0
    have ve1 := (hbV.cell (p := ⟨nb, off + k * 8 + 1, none⟩) hnb).trans e1
    have ve2 := (hbV.cell (p := ⟨nb, off + k * 8 + 2, none⟩) hnb).trans e2
    have ve3 := (hbV.cell (p := ⟨nb, off + k * 8 + 3, none⟩) hnb).trans e3
    have ve4 := (hbV.cell (p := ⟨nb, off + k * 8 + 4, none⟩) hnb).trans e4
    have ve5 := (hbV.cell (p := ⟨nb, off + k * 8 + 5, none⟩) hnb).trans e5
    have ve6 := (hbV.cell (p := ⟨nb, off + k * 8 + 6, none⟩) hnb).trans e6
    have ve7 := (hbV.cell (p := ⟨nb, off + k * 8 + 7, none⟩) hnb).trans e7
    have va2 := cellHB hV0 2
    have HV2 := Lib.hid (show V.heap.size = w.heap.size + 1 + 1 + 1 + 1 by rw [hzV])
    obtain ⟨A, hA⟩ : ∃ A, A = V.alloc (.cells #[.int .i64 (par ns k : Int), .int .i64 (nd ns k).ol, .int .i64 (nd ns k).oh, .int .i64 (nd ns k).lim, .int .i64 (nd ns k).ll, .int .i64 (nd ns k).lh, .int .i64 (nd ns k).lea, .int .i64 (nd ns k).del] 62) := ⟨_, rfl⟩
    have hbVA : Below V.heap.size V A := by rw [hA]; exact (Below.refl _ _).alloc (Nat.le_refl _) _
    have hbA : Below w.heap.size w A := hbV.trans (hbVA.mono hbV.size)
    have hzA : A.heap.size = w.heap.size + 5 := by rw [hA]; simp [hzV]
    have hA0 := (hbVA.block _ (by omega)).trans hV0
    have hA1 := (hbVA.block _ (by omega)).trans hV1
    have hA2 := (hbVA.block _ (by omega)).trans hV2
    have hA3 := (hbVA.block _ (by omega)).trans hV3
    have hA4 : A.heap[w.heap.size + 1 + 1 + 1 + 1]? = some (.cells #[.int .i64 (par ns k : Int), .int .i64 (nd ns k).ol, .int .i64 (nd ns k).oh, .int .i64 (nd ns k).lim, .int .i64 (nd ns k).ll, .int .i64 (nd ns k).lh, .int .i64 (nd ns k).lea, .int .i64 (nd ns k).del] 62 (0, 0)) := by have q := World.alloc_heap_new V (.cells #[.int .i64 (par ns k : Int), .int .i64 (nd ns k).ol, .int .i64 (nd ns k).oh, .int .i64 (nd ns k).lim, .int .i64 (nd ns k).ll, .int .i64 (nd ns k).lh, .int .i64 (nd ns k).lea, .int .i64 (nd ns k).del] 62); rw [← hA, hzV] at q; exact q
    have a0 := cellHB hA0 0
    have a1 := cellHB hA0 1
    have a2 := cellHB hA0 2
    have b0 := cellHB hA4 0
    have b1 := cellHB hA4 1
    have b2 := cellHB hA4 2
    have b3 := cellHB hA4 3
    have b4 := cellHB hA4 4
    have b5 := cellHB hA4 5
    have b6 := cellHB hA4 6
    have b7 := cellHB hA4 7
    have HBA := Lib.hid hbA
    have HZA := Lib.hid hzA
    have HZV := Lib.hid hzV
    have HBLK := Lib.hid (show ∀ W, Below A.heap.size A W → W.heap[w.heap.size]? = some (.cells #[.int .i64 sl, .int .i64 sh, .slice (some ⟨nb, off, none⟩) n cap] 26 (0, 0)) ∧ W.heap[w.heap.size + 1]? = some (.cells #[.int .i64 m] 2 (0, 0)) ∧ W.heap[w.heap.size + 1 + 1]? = some (.cells #[.int .i64 0] 3 (0, 0)) ∧ W.heap[w.heap.size + 1 + 1 + 1]? = some (.cells #[.bool false] 4 (0, 0)) ∧ W.heap[w.heap.size + 1 + 1 + 1 + 1]? = some (.cells #[.int .i64 (par ns k : Int), .int .i64 (nd ns k).ol, .int .i64 (nd ns k).oh, .int .i64 (nd ns k).lim, .int .i64 (nd ns k).ll, .int .i64 (nd ns k).lh, .int .i64 (nd ns k).lea, .int .i64 (nd ns k).del] 62 (0, 0)) from fun W h => ⟨(h.block _ (by omega)).trans hA0, (h.block _ (by omega)).trans hA1, (h.block _ (by omega)).trans hA2, (h.block _ (by omega)).trans hA3, (h.block _ (by omega)).trans hA4⟩)
    clear e0 e1 e2 e3 e4 e5 e6 e7
    rw [hV] at ve0 ve1 ve2 ve3 ve4 ve5 ve6 ve7 va2
    rw [hA, hV] at a0 a1 a2 b0 b1 b2 b3 b4 b5 b6 b7
    clear hA0 hA1 hA2 hA3 hA4 hV0 hV1 hV2 hV3 hbV hbVA hbA HV2
    refine calls_marks 9 Try.func107 rfl ?_
    simp only [Try.ntmps107, List.size_toArray, List.length_cons, List.length_nil, Nat.reduceAdd, Nat.reduceSub, Array.replicate_succ, Array.replicate_zero, List.push_toArray, List.append_toArray, List.nil_append, List.cons_append]
    gi_wp2
    refine ⟨trivial, ?_⟩
    refine (callsIn_wide.2 (cb _)).mono ?_
    rintro e w1 ⟨rfl, hb⟩
    rw [← hV, ← hA] at hb
    clear hA hV a0 a1 a2 va2 b0 ve0 b1 ve1 b2 ve2 b3 ve3 b4 ve4 b5 ve5 b6 ve6 b7 ve7
    obtain ⟨g0, g1, g2, g3, g4⟩ := HBLK.out _ hb
    have HB := Lib.hid hb
    clear hb
    have a0 := cellHB g0 0
    have a1 := cellHB g0 1
    have a2 := cellHB g0 2
    have b0 := cellHB g4 0
    have HG := Lib.hid (And.intro g0 (And.intro g1 (And.intro g2 (And.intro g3 g4))))
    clear g0 g1 g2 g3 g4
    obtain ⟨W5, hW5⟩ : ∃ W5, W5 = (w1.alloc (.cells #[.int .i64 sl, .int .i64 sh, .slice (some ⟨nb, off, none⟩) n cap] 26)).alloc (.cells #[.int .i64 (par ns k : Int)] 3) := ⟨_, rfl⟩
    have hb5 : Below w1.heap.size w1 W5 := by rw [hW5]; exact ((Below.refl _ _).alloc (Nat.le_refl _) _).alloc (by simp) _
    have hz5 : W5.heap.size = w1.heap.size + 2 := by rw [hW5]; simp
    have hzw1 := HB.out.size
    have HB1 := Lib.hid (HBA.out.trans (HB.out.mono HBA.out.size))
    have hC5 : W5.heap[w1.heap.size]? = some (.cells #[.int .i64 sl, .int .i64 sh, .slice (some ⟨nb, off, none⟩) n cap] 26 (0, 0)) := by rw [hW5]; exact (Below.heap_alloc _ _ _ (by simp)).trans (World.alloc_heap_new w1 _)
    have hK5 : W5.heap[w1.heap.size + 1]? = some (.cells #[.int .i64 (par ns k : Int)] 3 (0, 0)) := by
      rw [hW5]
      have q := World.alloc_heap_new (w1.alloc (.cells #[.int .i64 sl, .int .i64 sh, .slice (some ⟨nb, off, none⟩) n cap] 26)) (.cells #[.int .i64 (par ns k : Int)] 3)
      simpa using q
    have hseq := HSEQ.out w1.heap.size (w1.heap.size + 1) W5 (HB1.out.trans (hb5.mono HB1.out.size)) hC5 hK5
    have h0 : EaI sl sh m nb off n cap k ns (par ns k : Int) (w.heap.size) (w.heap.size + 1) (w.heap.size + 1 + 1) (w.heap.size + 1 + 1 + 1) (w.heap.size + 1 + 1 + 1 + 1) w W5 (pth (par ns) (par ns k)) [] W5 := ⟨⟨(hb5.block _ (by omega)).trans HG.out.1, (hb5.block _ (by omega)).trans HG.out.2.1, (hb5.block _ (by omega)).trans HG.out.2.2.2.2⟩, (hb5.block _ (by omega)).trans HG.out.2.2.1, (hb5.block _ (by omega)).trans HG.out.2.2.2.1, fun y hy => by simp at hy, HB1.out.trans (hb5.mono HB1.out.size), Nat.le_refl _⟩
    have HBW := Lib.hid (show w.heap.size + 5 ≤ w1.heap.size by omega)
    have HZ5 := Lib.hid hz5
    clear hC5 hK5 hb5 HSEQ
    gi_wp2
    refine ⟨trivial, ?_⟩
    refine (callsIn_wide.2 (breakers_any sl sh (some ⟨nb, off, none⟩) n cap (par ns k : Int) _)).mono ?_
    rintro e w2 ⟨rfl, rfl⟩
    gi_wp2
    rw [← hW5]
    clear hW5 a0 a1 a2 b0 HG
    generalize hB1 : w.heap.size + 1 = B1 at *
    generalize hB2 : B1 + 1 = B2 at *
    generalize hB3 : B2 + 1 = B3 at *
    generalize hB4 : B3 + 1 = B4 at *
    generalize hB0 : w.heap.size = B0 at *
    have HBB := Lib.hid (show B0 < B1 ∧ B1 < B2 ∧ B2 < B3 ∧ B3 < B4 ∧ B4 < w1.heap.size ∧ W5.heap.size = w1.heap.size + 2 ∧ nb < B0 by omega)
    refine range_own (n := 9) (by decide) (gf := 190) (lb := #[.pointer (some ⟨w1.heap.size, 0, none⟩), .pointer (some ⟨w1.heap.size + 1, 0, none⟩)]) rfl (enters_of Try.func190 (by kernel_rfl) rfl) hseq (fun h1 h2 => h1.trans h2)
      (fun W o o' _ _ => ⟨by simp, fun b o hb ho => (World.putObj_heap_other (by omega)).trans ho, fun b hb => World.putObj_heap_other (by rcases hb with rfl | rfl | rfl <;> omega)⟩) (fun _ => rfl)
      (EaI sl sh m nb off n cap k ns (par ns k : Int) B0 B1 B2 B3 B4 w W5 (pth (par ns) (par ns k))) (EaX m k ns B2 B3 w W5 (pth (par ns) (par ns k))) (EaI.own (by omega)) (fun c => EaX.own (by omega) c) h0 (fun x => { tmps := #[.agg #[.int .i64 sl, .int .i64 sh, .slice (some ⟨nb, off, none⟩) n cap], .int .i64 (k : Int), .int .i64 m, .pointer (some ⟨B0, 0, none⟩), undef, .pointer (some ⟨B1, 0, none⟩), .pointer (some ⟨B2, 0, none⟩), .pointer (some ⟨B3, 0, none⟩), .pointer (some ⟨B4, 0, none⟩), .int .i64 (x.1 : Int), .pointer (some ⟨B0, 2, none⟩), .slice (some ⟨nb, off, none⟩) n cap, .int .i64 (k : Int), .pointer (some ⟨nb, off + k * 8, none⟩), .agg #[.int .i64 (par ns k : Int), .int .i64 (nd ns k).ol, .int .i64 (nd ns k).oh, .int .i64 (nd ns k).lim, .int .i64 (nd ns k).ll, .int .i64 (nd ns k).lh, .int .i64 (nd ns k).lea, .int .i64 (nd ns k).del], .agg #[.int .i64 (par ns k : Int), .int .i64 (nd ns k).ol, .int .i64 (nd ns k).oh, .int .i64 (nd ns k).lim, .int .i64 (nd ns k).ll, .int .i64 (nd ns k).lh, .int .i64 (nd ns k).lea, .int .i64 (nd ns k).del], .bool true, .bool false, .agg #[.int .i64 sl, .int .i64 sh, .slice (some ⟨nb, off, none⟩) n cap], .pointer (some ⟨B4, 0, none⟩), .int .i64 (par ns k : Int), .func (.func 190) #[] #[.pointer (some ⟨w1.heap.size, 0, none⟩), .pointer (some ⟨w1.heap.size + 1, 0, none⟩)], .int .i64 (x.1 : Int), undef, undef, undef, undef, undef, undef, undef, undef, undef, undef, undef, undef], defers := [] }) ?assign ?body ?done ?stop
    case assign =>
      intro l x W K hK
      gi_wp2
      exact hK
    case body =>
      rintro l pre ⟨x, hx⟩ W ⟨⟨i0, i1, i4⟩, i2, i3, iv, ib, iz⟩ hpl
      rw [hB0] at ib
      have hxn := HXN.out x hx
      have hxi : (x : Int) < (n : Int) := by omega
      have d1 := HC.out W x ib hxn
      have hdx := HDB.out x hxn
      have q0 : W.cell? ⟨B0, 1 + 1, none⟩ = some (.slice (some ⟨nb, off, none⟩) n cap) := cellHB i0 2
      have q1 := cellHB i1 0
      have q7 := cellHB i4 7
      have f2 := frozH i2 0
      have f3 := frozH i3 0
      have c2 := cellHB i2 0
      have c3 := cellHB i3 0
      have HI2 := Lib.hid i2
      have HI3 := Lib.hid i3
      have HSX := Lib.hid (show shB ns m k x = decide ((nd ns x).del < (nd ns k).del + m) from rfl)
      have HB := Lib.hid ib
      have HV := Lib.hid iv
      have HII := Lib.hid (show ∀ Z : World, (∀ (b : Nat) (cs : Array Value) (t : TypeId), W.heap[b]? = some (.cells cs t (0, 0)) → Z.heap[b]? = some (.cells cs t (0, 0))) → shB ns m k x = false → Below B0 w Z → W.heap.size ≤ Z.heap.size → EaI sl sh m nb off n cap k ns (par ns k : Int) B0 B1 B2 B3 B4 w W5 (pth (par ns) (par ns k)) (pre ++ [⟨x, hx⟩]) Z from fun Z hz hs hb hsz => ⟨⟨hz _ _ _ i0, hz _ _ _ i1, hz _ _ _ i4⟩, hz _ _ _ i2, hz _ _ _ i3, fun y hy => by
        rw [List.map_append, List.mem_append] at hy
        rcases hy with hy | hy
        · exact iv y hy
        · simp at hy; subst hy; exact hs, by rw [hB0]; exact hb, Nat.le_trans iz hsz⟩)
      have HIZ := Lib.hid iz
      have HWD := Lib.hid (show IntKind.wrap .i64 ((nd ns k).del + m) = (nd ns k).del + m by rw [IntKind.wrap_i64]; omega)
      clear i0 i1 i2 i3 i4 iv ib hseq h0
      by_cases hs : (nd ns x).del < (nd ns k).del + m
      · have hsd : decide ((nd ns x).del < (nd ns k).del + m) = true := decide_eq_true hs
        have HSS := Lib.hid (HSX.out.trans hsd)
        have hw1 := HWD.out
        gi_wp2
        refine wpIn_round_held (S := fun w' => w'.cell? ⟨B0, 2, none⟩ = some (Value.slice (some ⟨nb, off, none⟩) n cap) ∧ w'.cell? ⟨nb, off + x * 8 + 7, none⟩ = some (Value.int .i64 (nd ns x).del) ∧ w'.cell? ⟨B4, 7, none⟩ = some (Value.int .i64 (nd ns k).del) ∧ w'.cell? ⟨B1, 0, none⟩ = some (Value.int .i64 m)) (by kernel_rfl) (by kernel_rfl) (by rintro ⟨_, _, q⟩; exact q) ⟨by simpa [go_sem] using q0, by simpa [go_sem] using d1, by simpa [go_sem] using q7, by simpa [go_sem] using q1⟩ (fun hHeld => ?_)
        refine wpAnyH_take (i := 0) (oi := _) (v := Value.pointer (some ⟨B0, 2, none⟩)) rfl (by kernel_rfl) (by kernel_rfl) (by kernel_rfl) (fun _ _ _ h => h) (Or.inl ⟨by rfl, fun w' hSw => ?_⟩) hHeld ?_
        · obtain ⟨t0, t1, t2, t3⟩ := hSw
          go_simp
          try simp [*]
          try (intro hh; exfalso; omega)
          try omega
        try simp only [Act.put, List.setIfInBounds_toArray, List.set_cons_zero, List.set_cons_succ, List.getElem_toArray, List.getElem_cons_succ, List.getElem_cons_zero]
        refine wpAnyH_take (i := 1) (oi := _) (v := Value.slice (some ⟨nb, off, none⟩) n cap) rfl (by kernel_rfl) (by kernel_rfl) (by kernel_rfl) (fun _ _ _ h => h) (Or.inl ⟨by rfl, fun w' hSw => ?_⟩) hHeld ?_
        · obtain ⟨t0, t1, t2, t3⟩ := hSw
          go_simp
          try simp [*]
          try (intro hh; exfalso; omega)
          try omega
        try simp only [Act.put, List.setIfInBounds_toArray, List.set_cons_zero, List.set_cons_succ, List.getElem_toArray, List.getElem_cons_succ, List.getElem_cons_zero]
        refine wpAnyH_take (i := 2) (oi := _) (v := Value.int .i64 (x : Int)) rfl (by kernel_rfl) (by kernel_rfl) (by kernel_rfl) (fun _ _ _ h => h) (Or.inl ⟨by rfl, fun w' hSw => ?_⟩) hHeld ?_
        · obtain ⟨t0, t1, t2, t3⟩ := hSw
          go_simp
          try simp [*]
          try (intro hh; exfalso; omega)
          try omega
        try simp only [Act.put, List.setIfInBounds_toArray, List.set_cons_zero, List.set_cons_succ, List.getElem_toArray, List.getElem_cons_succ, List.getElem_cons_zero]
        refine wpAnyH_take (i := 3) (oi := _) (v := Value.pointer (some ⟨nb, off + x * 8, none⟩)) rfl (by kernel_rfl) (by kernel_rfl) (by kernel_rfl) (fun _ _ _ h => h) (Or.inl ⟨by rfl, fun w' hSw => ?_⟩) hHeld ?_
        · obtain ⟨t0, t1, t2, t3⟩ := hSw
          go_simp
          try simp [*]
          try (intro hh; exfalso; omega)
          try omega
        try simp only [Act.put, List.setIfInBounds_toArray, List.set_cons_zero, List.set_cons_succ, List.getElem_toArray, List.getElem_cons_succ, List.getElem_cons_zero]
        refine wpAnyH_take (i := 4) (oi := _) (v := Value.pointer (some ⟨nb, off + x * 8 + 7, none⟩)) rfl (by kernel_rfl) (by kernel_rfl) (by kernel_rfl) (fun _ _ _ h => h) (Or.inl ⟨by rfl, fun w' hSw => ?_⟩) hHeld ?_
        · obtain ⟨t0, t1, t2, t3⟩ := hSw
          go_simp
          try simp [*]
          try (intro hh; exfalso; omega)
          try omega
        try simp only [Act.put, List.setIfInBounds_toArray, List.set_cons_zero, List.set_cons_succ, List.getElem_toArray, List.getElem_cons_succ, List.getElem_cons_zero]
        refine wpAnyH_take (i := 5) (oi := _) (v := Value.int .i64 (nd ns x).del) rfl (by kernel_rfl) (by kernel_rfl) (by kernel_rfl) (fun _ _ _ h => h) (Or.inl ⟨by rfl, fun w' hSw => ?_⟩) hHeld ?_
        · obtain ⟨t0, t1, t2, t3⟩ := hSw
          go_simp
          try simp [*]
          try (intro hh; exfalso; omega)
          try omega
        try simp only [Act.put, List.setIfInBounds_toArray, List.set_cons_zero, List.set_cons_succ, List.getElem_toArray, List.getElem_cons_succ, List.getElem_cons_zero]
        refine wpAnyH_take (i := 6) (oi := _) (v := Value.pointer (some ⟨B4, 7, none⟩)) rfl (by kernel_rfl) (by kernel_rfl) (by kernel_rfl) (fun _ _ _ h => h) (Or.inl ⟨by rfl, fun w' hSw => ?_⟩) hHeld ?_
        · obtain ⟨t0, t1, t2, t3⟩ := hSw
          go_simp
          try simp [*]
          try (intro hh; exfalso; omega)
          try omega
        try simp only [Act.put, List.setIfInBounds_toArray, List.set_cons_zero, List.set_cons_succ, List.getElem_toArray, List.getElem_cons_succ, List.getElem_cons_zero]
        refine wpAnyH_take (i := 7) (oi := _) (v := Value.int .i64 (nd ns k).del) rfl (by kernel_rfl) (by kernel_rfl) (by kernel_rfl) (fun _ _ _ h => h) (Or.inl ⟨by rfl, fun w' hSw => ?_⟩) hHeld ?_
        · obtain ⟨t0, t1, t2, t3⟩ := hSw
          go_simp
          try simp [*]
          try (intro hh; exfalso; omega)
          try omega
        try simp only [Act.put, List.setIfInBounds_toArray, List.set_cons_zero, List.set_cons_succ, List.getElem_toArray, List.getElem_cons_succ, List.getElem_cons_zero]
        refine wpAnyH_take (i := 8) (oi := _) (v := Value.int .i64 m) rfl (by kernel_rfl) (by kernel_rfl) (by kernel_rfl) (fun _ _ _ h => h) (Or.inl ⟨by rfl, fun w' hSw => ?_⟩) hHeld ?_
        · obtain ⟨t0, t1, t2, t3⟩ := hSw
          go_simp
          try simp [*]
          try (intro hh; exfalso; omega)
          try omega
        try simp only [Act.put, List.setIfInBounds_toArray, List.set_cons_zero, List.set_cons_succ, List.getElem_toArray, List.getElem_cons_succ, List.getElem_cons_zero]
        refine wpAnyH_take (i := 9) (oi := _) (v := Value.int .i64 ((nd ns k).del + m)) rfl (by kernel_rfl) (by kernel_rfl) (by kernel_rfl) (fun _ _ _ h => h) (Or.inl ⟨by rfl, fun w' hSw => ?_⟩) hHeld ?_
        · obtain ⟨t0, t1, t2, t3⟩ := hSw
          go_simp
          try simp [*]
          try (intro hh; exfalso; omega)
          try omega
        try simp only [Act.put, List.setIfInBounds_toArray, List.set_cons_zero, List.set_cons_succ, List.getElem_toArray, List.getElem_cons_succ, List.getElem_cons_zero]
        refine wpAnyH_take (i := 10) (oi := _) (v := Value.bool true) rfl (by kernel_rfl) (by kernel_rfl) (by kernel_rfl) (fun _ _ _ h => h) (Or.inl ⟨by rfl, fun w' hSw => ?_⟩) hHeld ?_
        · obtain ⟨t0, t1, t2, t3⟩ := hSw
          go_simp
          try simp [*]
          try (intro hh; exfalso; omega)
          try omega
        try simp only [Act.put, List.setIfInBounds_toArray, List.set_cons_zero, List.set_cons_succ, List.getElem_toArray, List.getElem_cons_succ, List.getElem_cons_zero]
        refine wpAnyH_done (by kernel_rfl) ?_ _
        clear hHeld
        gi_wp2
        obtain ⟨r1, r2, r3, r4, r5, r6, r7⟩ := HBB.out
        refine ⟨(((KeepsOthers.drew _).trans (KeepsOthers.setCell _ _ _)).trans (KeepsOthers.setCell _ _ _)).from _, rfl, pre.map (·.1), x, by simp, HV.out, HSS.out, ?_, ?_, ?_, ?_⟩
        · exact (Below.heap_setCell _ _ _ _ (by show B2 ≠ B3; omega)).trans (set_one (W := W.drew) HI2.out _)
        · exact set_one ((Below.heap_setCell _ _ _ _ (by show B3 ≠ B2; omega)).trans (show W.drew.heap[B3]? = _ from HI3.out)) _
        · rw [hB0]; exact ((HB.out.drew).setCell (p := ⟨B2, 0, none⟩) (by show B0 ≤ B2; omega) _).setCell (p := ⟨B3, 0, none⟩) (by show B0 ≤ B3; omega) _
        · simpa using HIZ.out
      · have hsd : decide ((nd ns x).del < (nd ns k).del + m) = false := decide_eq_false hs
        have HSS := Lib.hid (HSX.out.trans hsd)
        have hw1 := HWD.out
        gi_wp2
        refine wpIn_round_held (S := fun w' => w'.cell? ⟨B0, 2, none⟩ = some (Value.slice (some ⟨nb, off, none⟩) n cap) ∧ w'.cell? ⟨nb, off + x * 8 + 7, none⟩ = some (Value.int .i64 (nd ns x).del) ∧ w'.cell? ⟨B4, 7, none⟩ = some (Value.int .i64 (nd ns k).del) ∧ w'.cell? ⟨B1, 0, none⟩ = some (Value.int .i64 m)) (by kernel_rfl) (by kernel_rfl) (by rintro ⟨_, _, q⟩; exact q) ⟨by simpa [go_sem] using q0, by simpa [go_sem] using d1, by simpa [go_sem] using q7, by simpa [go_sem] using q1⟩ (fun hHeld => ?_)
        refine wpAnyH_take (i := 0) (oi := _) (v := Value.pointer (some ⟨B0, 2, none⟩)) rfl (by kernel_rfl) (by kernel_rfl) (by kernel_rfl) (fun _ _ _ h => h) (Or.inl ⟨by rfl, fun w' hSw => ?_⟩) hHeld ?_
        · obtain ⟨t0, t1, t2, t3⟩ := hSw
          go_simp
          try simp [*]
          try (intro hh; exfalso; omega)
          try omega
        try simp only [Act.put, List.setIfInBounds_toArray, List.set_cons_zero, List.set_cons_succ, List.getElem_toArray, List.getElem_cons_succ, List.getElem_cons_zero]
        refine wpAnyH_take (i := 1) (oi := _) (v := Value.slice (some ⟨nb, off, none⟩) n cap) rfl (by kernel_rfl) (by kernel_rfl) (by kernel_rfl) (fun _ _ _ h => h) (Or.inl ⟨by rfl, fun w' hSw => ?_⟩) hHeld ?_
        · obtain ⟨t0, t1, t2, t3⟩ := hSw
          go_simp
          try simp [*]
          try (intro hh; exfalso; omega)
          try omega
        try simp only [Act.put, List.setIfInBounds_toArray, List.set_cons_zero, List.set_cons_succ, List.getElem_toArray, List.getElem_cons_succ, List.getElem_cons_zero]
        refine wpAnyH_take (i := 2) (oi := _) (v := Value.int .i64 (x : Int)) rfl (by kernel_rfl) (by kernel_rfl) (by kernel_rfl) (fun _ _ _ h => h) (Or.inl ⟨by rfl, fun w' hSw => ?_⟩) hHeld ?_
        · obtain ⟨t0, t1, t2, t3⟩ := hSw
          go_simp
          try simp [*]
          try (intro hh; exfalso; omega)
          try omega
        try simp only [Act.put, List.setIfInBounds_toArray, List.set_cons_zero, List.set_cons_succ, List.getElem_toArray, List.getElem_cons_succ, List.getElem_cons_zero]
        refine wpAnyH_take (i := 3) (oi := _) (v := Value.pointer (some ⟨nb, off + x * 8, none⟩)) rfl (by kernel_rfl) (by kernel_rfl) (by kernel_rfl) (fun _ _ _ h => h) (Or.inl ⟨by rfl, fun w' hSw => ?_⟩) hHeld ?_
        · obtain ⟨t0, t1, t2, t3⟩ := hSw
          go_simp
          try simp [*]
          try (intro hh; exfalso; omega)
          try omega
        try simp only [Act.put, List.setIfInBounds_toArray, List.set_cons_zero, List.set_cons_succ, List.getElem_toArray, List.getElem_cons_succ, List.getElem_cons_zero]
        refine wpAnyH_take (i := 4) (oi := _) (v := Value.pointer (some ⟨nb, off + x * 8 + 7, none⟩)) rfl (by kernel_rfl) (by kernel_rfl) (by kernel_rfl) (fun _ _ _ h => h) (Or.inl ⟨by rfl, fun w' hSw => ?_⟩) hHeld ?_
        · obtain ⟨t0, t1, t2, t3⟩ := hSw
          go_simp
          try simp [*]
          try (intro hh; exfalso; omega)
          try omega
        try simp only [Act.put, List.setIfInBounds_toArray, List.set_cons_zero, List.set_cons_succ, List.getElem_toArray, List.getElem_cons_succ, List.getElem_cons_zero]
        refine wpAnyH_take (i := 5) (oi := _) (v := Value.int .i64 (nd ns x).del) rfl (by kernel_rfl) (by kernel_rfl) (by kernel_rfl) (fun _ _ _ h => h) (Or.inl ⟨by rfl, fun w' hSw => ?_⟩) hHeld ?_
        · obtain ⟨t0, t1, t2, t3⟩ := hSw
          go_simp
          try simp [*]
          try (intro hh; exfalso; omega)
          try omega
        try simp only [Act.put, List.setIfInBounds_toArray, List.set_cons_zero, List.set_cons_succ, List.getElem_toArray, List.getElem_cons_succ, List.getElem_cons_zero]
        refine wpAnyH_take (i := 6) (oi := _) (v := Value.pointer (some ⟨B4, 7, none⟩)) rfl (by kernel_rfl) (by kernel_rfl) (by kernel_rfl) (fun _ _ _ h => h) (Or.inl ⟨by rfl, fun w' hSw => ?_⟩) hHeld ?_
        · obtain ⟨t0, t1, t2, t3⟩ := hSw
          go_simp
          try simp [*]
          try (intro hh; exfalso; omega)
          try omega
        try simp only [Act.put, List.setIfInBounds_toArray, List.set_cons_zero, List.set_cons_succ, List.getElem_toArray, List.getElem_cons_succ, List.getElem_cons_zero]
        refine wpAnyH_take (i := 7) (oi := _) (v := Value.int .i64 (nd ns k).del) rfl (by kernel_rfl) (by kernel_rfl) (by kernel_rfl) (fun _ _ _ h => h) (Or.inl ⟨by rfl, fun w' hSw => ?_⟩) hHeld ?_
        · obtain ⟨t0, t1, t2, t3⟩ := hSw
          go_simp
          try simp [*]
          try (intro hh; exfalso; omega)
          try omega
        try simp only [Act.put, List.setIfInBounds_toArray, List.set_cons_zero, List.set_cons_succ, List.getElem_toArray, List.getElem_cons_succ, List.getElem_cons_zero]
        refine wpAnyH_take (i := 8) (oi := _) (v := Value.int .i64 m) rfl (by kernel_rfl) (by kernel_rfl) (by kernel_rfl) (fun _ _ _ h => h) (Or.inl ⟨by rfl, fun w' hSw => ?_⟩) hHeld ?_
        · obtain ⟨t0, t1, t2, t3⟩ := hSw
          go_simp
          try simp [*]
          try (intro hh; exfalso; omega)
          try omega
        try simp only [Act.put, List.setIfInBounds_toArray, List.set_cons_zero, List.set_cons_succ, List.getElem_toArray, List.getElem_cons_succ, List.getElem_cons_zero]
        refine wpAnyH_take (i := 9) (oi := _) (v := Value.int .i64 ((nd ns k).del + m)) rfl (by kernel_rfl) (by kernel_rfl) (by kernel_rfl) (fun _ _ _ h => h) (Or.inl ⟨by rfl, fun w' hSw => ?_⟩) hHeld ?_
        · obtain ⟨t0, t1, t2, t3⟩ := hSw
          go_simp
          try simp [*]
          try (intro hh; exfalso; omega)
          try omega
        try simp only [Act.put, List.setIfInBounds_toArray, List.set_cons_zero, List.set_cons_succ, List.getElem_toArray, List.getElem_cons_succ, List.getElem_cons_zero]
        refine wpAnyH_take (i := 10) (oi := _) (v := Value.bool false) rfl (by kernel_rfl) (by kernel_rfl) (by kernel_rfl) (fun _ _ _ h => h) (Or.inl ⟨by rfl, fun w' hSw => ?_⟩) hHeld ?_
        · obtain ⟨t0, t1, t2, t3⟩ := hSw
          go_simp
          try simp [*]
          try (intro hh; exfalso; omega)
          try omega
        try simp only [Act.put, List.setIfInBounds_toArray, List.set_cons_zero, List.set_cons_succ, List.getElem_toArray, List.getElem_cons_succ, List.getElem_cons_zero]
        refine wpAnyH_done (by kernel_rfl) ?_ _
        clear hHeld
        gi_wp2
        exact ⟨(KeepsOthers.drew _).from _, ⟨Nat.le_refl _, fun _ _ _ h => h, fun _ _ => rfl⟩, HII.out _ (fun _ _ _ h => h) HSS.out HB.out.drew (Nat.le_refl _)⟩
    case done =>
      rintro D ys W hD hys ⟨⟨i0, i1, i4⟩, i2, i3, iv, ib, iz⟩ hK
      have HEQ := Lib.hid (HEN.out (fun y hy => iv y (by rw [hys]; exact hy)))
      rw [hB0] at ib
      have f2 := frozH i2 0
      have f3 := frozH i3 0
      have q2 := cellHB i2 0
      have q3 := cellHB i3 0
      have HI2 := Lib.hid i2
      have HI3 := Lib.hid i3
      have HB := Lib.hid ib
      have HK := Lib.hid hK
      obtain ⟨r1, r2, r3, r4, r5, r6, r7⟩ := HBB.out
      have HL2 := Lib.hid (show ((W.setCell ⟨B2, 0, none⟩ (.int .i64 0)).setCell ⟨B3, 0, none⟩ (.bool false)).heap[B2]? = some (.cells #[.int .i64 0] 3 (0, 0)) from (Below.heap_setCell _ _ _ _ (by show B2 ≠ B3; omega)).trans (set_one HI2.out _))
      have HL3 := Lib.hid (show ((W.setCell ⟨B2, 0, none⟩ (.int .i64 0)).setCell ⟨B3, 0, none⟩ (.bool false)).heap[B3]? = some (.cells #[.bool false] 4 (0, 0)) from set_one ((Below.heap_setCell _ _ _ _ (by show B3 ≠ B2; omega)).trans HI3.out) _)
      have HLD := Lib.hid (show ((W.setCell ⟨B2, 0, none⟩ (.int .i64 0)).setCell ⟨B3, 0, none⟩ (.bool false)).heap[D]? = some (.deferred (some [])) from (Below.heap_setCell _ _ _ _ (by show D ≠ B3; omega)).trans ((Below.heap_setCell _ _ _ _ (by show D ≠ B2; omega)).trans HK.out))
      have HLB := Lib.hid (show Below B0 w ((W.setCell ⟨B2, 0, none⟩ (.int .i64 0)).setCell ⟨B3, 0, none⟩ (.bool false)) from (HB.out.setCell (p := ⟨B2, 0, none⟩) (by show B0 ≤ B2; omega) _).setCell (p := ⟨B3, 0, none⟩) (by show B0 ≤ B3; omega) _)
      clear i0 i1 i2 i3 i4 iv ib hK hseq h0
      gi_wp2
      refine leaves_marks W5.heap.size _ _ (by simpa using iz) ⟨⟨D, hD, rfl, HLD.out, by simp⟩, trivial⟩ (fun W2 hb hk => ?_)
      have k2 := cellHB (hk _ _ HL2.out rfl) 0
      have k3 := cellHB (hk _ _ HL3.out rfl) 0
      exact ⟨.tuple #[.int .i64 0, .bool false], by simp [results, Try.results107, go_sem, k2, k3], by rw [HEQ.out]; rfl, by rw [hB0]; exact HLB.out.trans (hb.mono (by omega))⟩
    case stop =>
      rintro D c pre W hD hsp ⟨rfl, p, x, hp, hpn, hxs, i2, i3, ib, iz⟩ hK
      have HEQ := Lib.hid (HES.out p x (by rw [← hp]; exact hsp) hpn hxs)
      rw [hB0] at ib
      have HI2 := Lib.hid i2
      have HI3 := Lib.hid i3
      have HB := Lib.hid ib
      have HK := Lib.hid hK
      obtain ⟨r1, r2, r3, r4, r5, r6, r7⟩ := HBB.out
      clear i2 i3 ib hK hseq h0 hp hpn hxs hsp
      gi_wp2
      refine leaves_marks W5.heap.size _ _ iz ⟨⟨D, hD, rfl, HK.out, by simp⟩, trivial⟩ (fun W2 hb hk => ?_)
      have k2 := cellHB (hk _ _ HI2.out rfl) 0
      have k3 := cellHB (hk _ _ HI3.out rfl) 0
      exact ⟨.tuple #[.int .i64 (x : Int), .bool true], by simp [results, Try.results107, go_sem, k2, k3], by rw [HEQ.out]; rfl, by rw [hB0]; exact HB.out.trans (hb.mono (by omega))⟩
end Go.Proofs.Ytdohfpnnmppdkaa

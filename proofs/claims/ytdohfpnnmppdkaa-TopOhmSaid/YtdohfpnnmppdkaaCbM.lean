/-
  Cables: the breakers of a path.
-/
import Derived.Test.YtdohfpnnmppdkaaCbL
import Derived.Test.YtdohfpnnmppdkaaCbK
import Derived.Test.YtdohfpnnmppdkaaCbG
namespace Go.Proofs.Ytdohfpnnmppdkaa
open Go.RowKit Go.Shelf
set_option linter.unusedSimpArgs false
attribute [local go_sem] Oper.semAt_some
theorem room_none {F : Fence} (hd : F.depth = none) (k : Nat) : F.room k := fun d h => by rw [hd] at h; cases h
/-- a round may be called from whatever depth, also from within a round of another loop -/
theorem roundIn_wide {m m' l₂ : Nat} {P : Program} {l : Nat} {f : FuncId} {tmps : Array Value} {assign body : Code} {w : World} {R : Ending → World → Prop}
    (h : RoundIn Fence.wide m P l f tmps assign body w R) : RoundIn (Fence.wide.inRound l₂) m' P l f tmps assign body w R := ⟨h.1, fun c cs _ => h.2 c cs (room_none rfl _)⟩
/-- blocks from n₁ on, and some others, stay -/
def KeepU (n₁ : Nat) (Q : Nat → Prop) (W W' : World) : Prop :=
  W.heap.size ≤ W'.heap.size ∧ (∀ b o, n₁ ≤ b → W.heap[b]? = some o → W'.heap[b]? = some o) ∧ ∀ b, Q b → W'.heap[b]? = W.heap[b]?
theorem KeepU.trans {n₁ : Nat} {Q : Nat → Prop} {A B C : World} (h : KeepU n₁ Q A B) (k : KeepU n₁ Q B C) : KeepU n₁ Q A C :=
  ⟨Nat.le_trans h.1 k.1, fun b o hb ho => k.2.1 b o hb (h.2.1 b o hb ho), fun b hb => (k.2.2 b hb).trans (h.2.2 b hb)⟩
theorem own_below' {α : Type} {J : α → World → Prop} {B : Nat} (hJ : OwnFrom B J) {s : α} {W W' : World} (h : J s W) (hb : Below W.heap.size W W') : J s W' :=
  hJ s W W' none h ⟨hb.os, hb.tape, hb.output, hb.size, fun k hk _ => hb.block k hk⟩ (fun r e => by cases e)
def BrQ (C Kb nb b : Nat) : Prop := b = C ∨ b = Kb ∨ b = nb
/-- between two rounds over a path -/
def BrI (ns : List Nd) (sl sh : Int) (nb off n cap l C : Nat) (k : Nat) (W0 W5 : World) (L : List Nat) (J : List {x // x ∈ L} → World → Prop) (pre : List {x // x ∈ L}) (W : World) : Prop :=
  J (pre.filter (fun x => brk ns x.1)) W ∧ W.heap[C]? = some (.cells #[.int .i64 sl, .int .i64 sh, .slice (some ⟨nb, off, none⟩) n cap] 26 (0, 0)) ∧ W.heap[W0.heap.size]? = some (.cells #[.func (.yield l) #[] #[]] 193 (0, 0)) ∧
  W.heap[W0.heap.size + 1]? = some (.cells #[.int .i64 sl, .int .i64 sh, .slice (some ⟨nb, off, none⟩) n cap] 26 (0, 0)) ∧ W.heap[W0.heap.size + 1 + 1]? = some (.cells #[.int .i64 (k : Int)] 3 (0, 0)) ∧ W.heap[nb]? = W0.heap[nb]? ∧ W5.heap.size ≤ W.heap.size
theorem BrI.own {ns : List Nd} {sl sh : Int} {nb off n cap l C k : Nat} {W0 W5 : World} {L : List Nat} {J : List {x // x ∈ L} → World → Prop} (hJ : OwnFrom W0.heap.size J) (hz : W0.heap.size + 3 ≤ W5.heap.size) (hC : C < W0.heap.size) (hnb : nb < W0.heap.size) :
    OwnFrom W5.heap.size (BrI ns sl sh nb off n cap l C k W0 W5 L J) := by
  intro pre A B row hs hg hr
  obtain ⟨h1, h2, h3, h4, h5, h6, h7⟩ := hs
  have far : ∀ b, b < W5.heap.size → b < A.heap.size → B.heap[b]? = A.heap[b]? := fun b hb hb2 => heap_kept hg hr hb hb2
  exact ⟨hJ _ A B row h1 hg (fun r e => ⟨by have := (hr r e).1; omega, (hr r e).2⟩), (far _ (by omega) (by omega)).trans h2, (far _ (by omega) (by omega)).trans h3, (far _ (by omega) (by omega)).trans h4, (far _ (by omega) (by omega)).trans h5, (far _ (by omega) (by omega)).trans h6, Nat.le_trans h7 hg.size⟩
set_option maxRecDepth 100000 in
set_option maxHeartbeats 8000000 in
theorem breakers_seq (m : Nat) (hm : 4 ≤ m) (sl sh : Int) (nb off cap : Nat) (ns : List Nd) (hv : AllN ns) (hl60 : ns.length ≤ 60) (k C Kb : Nat) (hk : k < ns.length) (w : World) (hC : w.heap[C]? = some (.cells #[.int .i64 sl, .int .i64 sh, .slice (some ⟨nb, off, none⟩) ns.length cap] 26 (0, 0))) (hKb : w.heap[Kb]? = some (.cells #[.int .i64 (k : Int)] 3 (0, 0)))
    (hN : Nds w.heap.size w (.slice (some ⟨nb, off, none⟩) ns.length cap) ns) :
    SeqOwn m Try.prog 190 #[.pointer (some ⟨C, 0, none⟩), .pointer (some ⟨Kb, 0, none⟩)] (fun x : {x // x ∈ pth (par ns) k} => #[.int .i64 (x.1 : Int)]) (KeepU (w.heap.size + 2) (BrQ C Kb nb)) (fun ys => ys.map (·.1) = (pth (par ns) k).filter (brk ns)) (fun _ => True) 60 w := by
  intro l J Jx W hW hWz hJ hJx hY h0
  have HUA := Lib.hid (upAt_of hN hv hk)
  have hnbw : nb < w.heap.size := by
    obtain ⟨a', cap', e, _, hcc⟩ := hN
    obtain ⟨b, o, e1, h2, _⟩ := hcc k hk
    simp only [Value.slice.injEq] at e
    have := e.1.trans e1
    simp only [Option.some.injEq, Addr.mk.injEq] at this
    omega
  have HC := Lib.hid (show ∀ (Z : World) k, Z.heap[nb]? = w.heap[nb]? → k < ns.length → Z.cell? ⟨nb, off + k * 8, none⟩ = some (.int .i64 (nd ns k).par) ∧ Z.cell? ⟨nb, off + k * 8 + 1, none⟩ = some (.int .i64 (nd ns k).ol) ∧ Z.cell? ⟨nb, off + k * 8 + 2, none⟩ = some (.int .i64 (nd ns k).oh) ∧ Z.cell? ⟨nb, off + k * 8 + 3, none⟩ = some (.int .i64 (nd ns k).lim) ∧ Z.cell? ⟨nb, off + k * 8 + 4, none⟩ = some (.int .i64 (nd ns k).ll) ∧ Z.cell? ⟨nb, off + k * 8 + 5, none⟩ = some (.int .i64 (nd ns k).lh) ∧ Z.cell? ⟨nb, off + k * 8 + 6, none⟩ = some (.int .i64 (nd ns k).lea) ∧ Z.cell? ⟨nb, off + k * 8 + 7, none⟩ = some (.int .i64 (nd ns k).del) from fun Z k hz hk => by
    obtain ⟨a', cap', e, _, hcc⟩ := hN
    obtain ⟨b, o, e1, h2, e0, e1', e2, e3, e4, e5, e6, e7⟩ := hcc k hk
    simp only [Value.slice.injEq] at e
    have := e.1.trans e1
    simp only [Option.some.injEq, Addr.mk.injEq] at this
    obtain ⟨rfl, rfl, -⟩ := this
    exact ⟨(cell_of_heap hz _).trans e0, (cell_of_heap hz _).trans e1', (cell_of_heap hz _).trans e2, (cell_of_heap hz _).trans e3, (cell_of_heap hz _).trans e4, (cell_of_heap hz _).trans e5, (cell_of_heap hz _).trans e6, (cell_of_heap hz _).trans e7⟩)
  have HXN := Lib.hid (fun (x : Nat) (hx : x ∈ pth (par ns) k) => hv.path_lt hk hx)
  have HLEN := Lib.hid (show (pth (par ns) k).length ≤ 60 from by have := pth_len hv.tree k; omega)
  have HDEC := Lib.hid (pth_dec hv.tree k)
  have HHD := Lib.hid (nxt_head hv.tree k)
  have hnW : W.heap[nb]? = w.heap[nb]? := hW.block nb hnbw
  have hCw := (Array.getElem?_eq_some_iff.1 hC).1
  have hKw := (Array.getElem?_eq_some_iff.1 hKb).1
  have hCW := (hW.block C hCw).trans hC
  have hKW := (hW.block Kb hKw).trans hKb
  have c0 := cellHB hCW 0
  have c1 := cellHB hCW 1
  have c2 : W.cell? ⟨C, 1 + 1, none⟩ = some (.slice (some ⟨nb, off, none⟩) ns.length cap) := cellHB hCW 2
  have kb := cellHB hKW 0
  have hsW := hW.size
  have hCl : C < W.heap.size := by omega
  have hKl : Kb < W.heap.size := by omega
  have hnl : nb < W.heap.size := by omega
  have HY := Lib.hid hY
  have HJ := Lib.hid hJ
  have HJX := Lib.hid hJx
  have HBRK := Lib.hid (show ∀ x, brk ns x = ((nd ns x).del != -1) from fun _ => rfl)
  have HUP := Lib.hid ((HUA.out.mono hW hsW))
  clear hN hC hKb hY hv hJ hJx hl60 HUA
  generalize hnn : ns.length = n at *
  clear hnn
  refine callsIn_of_wp_marks Try.func190 rfl trivial ?_ rfl
  simp only [Try.ntmps190, List.size_toArray, List.length_cons, List.length_nil, Nat.reduceAdd, Nat.reduceSub, Array.replicate_succ, Array.replicate_zero, List.push_toArray, List.append_toArray, List.nil_append, List.cons_append]
  gi_wp2
  refine ⟨trivial, fun _ => by omega, ?_⟩
  refine (callsIn_wide.2 (up_any sl sh (some ⟨nb, off, none⟩) n cap (k : Int) _)).mono ?_
  rintro e w1 ⟨rfl, rfl⟩
  gi_wp2
  obtain ⟨W5, hW5⟩ : ∃ W5, W5 = ((W.alloc (.cells #[.func (.yield l) #[] #[]] 193)).alloc (.cells #[.int .i64 sl, .int .i64 sh, .slice (some ⟨nb, off, none⟩) n cap] 26)).alloc (.cells #[.int .i64 (k : Int)] 3) := ⟨_, rfl⟩
  rw [← hW5]
  have hb5 : Below W.heap.size W W5 := by rw [hW5]; exact (((Below.refl _ _).alloc (Nat.le_refl _) _).alloc (by simp) _).alloc (by simp; omega) _
  have hz5 : W5.heap.size = W.heap.size + 3 := by rw [hW5]; simp
  have hV5 : W5.heap[W.heap.size]? = some (.cells #[.func (.yield l) #[] #[]] 193 (0, 0)) := by rw [hW5]; exact (Below.heap_alloc _ _ _ (by simp; omega)).trans ((Below.heap_alloc _ _ _ (by simp)).trans (World.alloc_heap_new W _))
  have hS5 : W5.heap[W.heap.size + 1]? = some (.cells #[.int .i64 sl, .int .i64 sh, .slice (some ⟨nb, off, none⟩) n cap] 26 (0, 0)) := by
    rw [hW5]; refine (Below.heap_alloc _ _ _ (by simp)).trans ?_
    have q := World.alloc_heap_new (W.alloc (.cells #[.func (.yield l) #[] #[]] 193)) (.cells #[.int .i64 sl, .int .i64 sh, .slice (some ⟨nb, off, none⟩) n cap] 26)
    simpa using q
  have hK5 : W5.heap[W.heap.size + 1 + 1]? = some (.cells #[.int .i64 (k : Int)] 3 (0, 0)) := by
    rw [hW5]
    have q := World.alloc_heap_new ((W.alloc (.cells #[.func (.yield l) #[] #[]] 193)).alloc (.cells #[.int .i64 sl, .int .i64 sh, .slice (some ⟨nb, off, none⟩) n cap] 26)) (.cells #[.int .i64 (k : Int)] 3)
    simpa using q
  have s5 : W5.cell? ⟨W.heap.size + 1, 2, none⟩ = some (.slice (some ⟨nb, off, none⟩) n cap) := cellHB hS5 2
  have k5 : W5.cell? ⟨W.heap.size + 1 + 1, 0, none⟩ = some (.int .i64 (k : Int)) := cellHB hK5 0
  have HZ5 := Lib.hid hz5
  have hJ0 : BrI ns sl sh nb off n cap l C k W W5 (pth (par ns) k) J [] W5 := ⟨own_below' HJ.out h0 hb5, (hb5.block C (by omega)).trans hCW, hV5, hS5, hK5, hb5.block nb (by omega), Nat.le_refl _⟩
  have hU := HUP.out.mono hb5 hb5.size
  have hseq := up_stopsQ (fun q => q = W.heap.size + 1 + 1 ∨ q = W.heap.size + 1 ∨ q = nb) (m - 1) (by omega) (W.heap.size + 1 + 1) (W.heap.size + 1) (.slice (some ⟨nb, off, none⟩) n cap) (pth (par ns) k) HLEN.out HDEC.out W5 (by rintro q (rfl | rfl | rfl) <;> omega) (.inl rfl) (.inr (.inl rfl)) (by rw [HHD.out]; exact k5) s5 (hU.toQ (.inr (.inr rfl)))
  clear hW5 hU k5 s5 hV5 hS5 hK5 c0 c1 c2 kb
  refine wpIn_rangeFunc_ownG rfl (by omega) (gf := 147) (lb := #[.pointer (some ⟨W.heap.size + 1 + 1, 0, none⟩), .pointer (some ⟨W.heap.size + 1, 0, none⟩)]) rfl trivial (enters_of Try.func147 (by kernel_rfl) rfl) hseq (fun h1 h2 => h1.trans h2) (fun W l o o' hl _ _ _ q hq => World.putObj_heap_other (by rcases hq with rfl | rfl | rfl <;> omega)) (Below.refl _ _) (fun _ => rfl)
    (BrI ns sl sh nb off n cap l C k W W5 (pth (par ns) k) J) (fun c _ Z => c = .ret ∧ ∃ p, Jx p Z) (BrI.own HJ.out (by omega) (by omega) (by omega)) (fun c pre A B row hs hg hr => ⟨hs.1, by obtain ⟨p, hp⟩ := hs.2; exact ⟨p, HJX.out _ A B row hp hg (fun r e => ⟨by have := (hr r e).1; omega, (hr r e).2⟩)⟩⟩) hJ0
    (fun x => { tmps := #[.func (.yield l) #[] #[], .pointer (some ⟨C, 0, none⟩), .pointer (some ⟨Kb, 0, none⟩), .pointer (some ⟨W.heap.size, 0, none⟩), .int .i64 (x.1 : Int), .agg #[.int .i64 sl, .int .i64 sh, .slice (some ⟨nb, off, none⟩) n cap], .int .i64 (k : Int), .func (.func 147) #[] #[.pointer (some ⟨W.heap.size + 1 + 1, 0, none⟩), .pointer (some ⟨W.heap.size + 1, 0, none⟩)], .int .i64 (x.1 : Int), undef, undef, undef, undef, undef, undef, undef, undef, undef, undef, undef, undef], defers := [] }) ?assign ?body ?done ?stop
  case assign =>
    intro l x W K hK
    gi_wp2
    exact hK
  case body =>
    rintro l2 pre ⟨x, hx⟩ Z ⟨hj, hc, hy, hs, hkk, hnz, hzz⟩ hpl
    have hxn := HXN.out x hx
    obtain ⟨n0, n1, n2, n3, n4, n5, n6, n7⟩ := HC.out Z x (hnz.trans hnW) hxn
    have cb := fun W => hasBreaker_any (nd ns x).par (nd ns x).ol (nd ns x).oh (nd ns x).lim (nd ns x).ll (nd ns x).lh (nd ns x).lea (nd ns x).del W
    rw [← HBRK.out] at cb
    have hxi : (x : Int) < (n : Int) := by omega
    have d2 : Z.cell? ⟨C, 1 + 1, none⟩ = some (.slice (some ⟨nb, off, none⟩) n cap) := cellHB hc 2
    have HFY := Lib.hid (show brk ns x = true → (pre ++ [(⟨x, hx⟩ : {x // x ∈ pth (par ns) k})]).filter (fun x => brk ns x.1) = pre.filter (fun x => brk ns x.1) ++ [⟨x, hx⟩] from fun h => by simp [List.filter_append, h])
    have HFN := Lib.hid (show brk ns x = false → (pre ++ [(⟨x, hx⟩ : {x // x ∈ pth (par ns) k})]).filter (fun x => brk ns x.1) = pre.filter (fun x => brk ns x.1) from fun h => by simp [List.filter_append, h])
    have HPL := Lib.hid (show (pre.filter (fun x => brk ns x.1)).length < 60 from Nat.lt_of_le_of_lt (List.length_filter_le _ _) hpl)
    have HJZ := Lib.hid hj
    have HCZ := Lib.hid hc
    have HYZ := Lib.hid hy
    have HSZ := Lib.hid hs
    have HKZ := Lib.hid hkk
    have HNZ := Lib.hid hnz
    clear hj hc hy hs hkk hnz hseq hJ0 hpl
    gi_wp2
    refine ⟨trivial, fun _ => by omega, ?_⟩
    refine (CallsIn.inRound l2 (callsIn_wide.2 (cb _))).mono ?_
    rintro e Z1 ⟨rfl, hb⟩
    have HB := Lib.hid hb
    have y0 := (hb.cell (p := ⟨W.heap.size, 0, none⟩) (by show W.heap.size < Z.heap.size; omega)).trans (cellHB HYZ.out 0)
    have HJ1 := Lib.hid (own_below' HJ.out HJZ.out hb)
    have HZ1 := Lib.hid hb.size
    clear hb n0 n1 n2 n3 n4 n5 n6 n7 d2
    cases hbx : brk ns x
    · have HF := Lib.hid (HFN.out hbx)
      clear hbx
      gi_wp2
      refine ⟨fun _ _ => trivial, ?_⟩
      gi_wp2
      refine ⟨⟨HZ1.out, fun q o hq ho _ => (HB.out.block q (Array.getElem?_eq_some_iff.1 ho).1).trans ho⟩, fun q hq => HB.out.block q (by rcases hq with rfl | rfl | rfl <;> omega), ?_, ?_, ?_, ?_, ?_, ?_, Nat.le_trans hzz HZ1.out⟩
      · rw [HF.out]; exact HJ1.out
      · exact (HB.out.block _ (by omega)).trans HCZ.out
      · exact (HB.out.block _ (by omega)).trans HYZ.out
      · exact (HB.out.block _ (by omega)).trans HSZ.out
      · exact (HB.out.block _ (by omega)).trans HKZ.out
      · exact (HB.out.block _ (by omega)).trans HNZ.out
    · have HF := Lib.hid (HFY.out hbx)
      clear hbx
      obtain ⟨fn, tmps, assign, body, hyl, hR⟩ := HY.out _ (⟨x, hx⟩ : {x // x ∈ pth (par ns) k}) Z1 HJ1.out HPL.out
      gi_wp2
      refine ⟨fun _ => by omega, ?_⟩
      refine (roundIn_wide hR).mono ?_
      rintro e Z3 (⟨rfl, hj3, hk3⟩ | ⟨rfl, hjx3, hk3⟩)
      · have HJ3 := Lib.hid hj3
        have HK3 := Lib.hid hk3
        clear hj3 hk3
        have far : ∀ q o, w.heap.size + 2 ≤ q → Z.heap[q]? = some o → Z3.heap[q]? = some o := fun q o hq ho => HK3.out.2.1 q o hq ((HB.out.block q (Array.getElem?_eq_some_iff.1 ho).1).trans ho)
        have hQ : ∀ q, BrQ C Kb nb q → q < Z.heap.size → Z3.heap[q]? = Z.heap[q]? := fun q hq hqz => (HK3.out.2.2 q hq).trans (HB.out.block q hqz)
        have HFAR := Lib.hid far
        have HQQ := Lib.hid hQ
        clear far hQ y0 hyl hR
        gi_wp2
        refine ⟨⟨Nat.le_trans HZ1.out HK3.out.1, fun q o hq ho _ => HFAR.out q o (by omega) ho⟩, ?_, ?_, ?_, ?_, ?_, ?_, ?_, Nat.le_trans hzz (Nat.le_trans HZ1.out HK3.out.1)⟩
        · rintro q (rfl | rfl | rfl)
          · exact (HFAR.out _ _ (by omega) HKZ.out).trans HKZ.out.symm
          · exact (HFAR.out _ _ (by omega) HSZ.out).trans HSZ.out.symm
          · exact HQQ.out _ (.inr (.inr rfl)) (by omega)
        · rw [HF.out]; exact HJ3.out
        · exact (HQQ.out C (.inl rfl) (by omega)).trans HCZ.out
        · exact HFAR.out _ _ (by omega) HYZ.out
        · exact HFAR.out _ _ (by omega) HSZ.out
        · exact HFAR.out _ _ (by omega) HKZ.out
        · exact (HQQ.out nb (.inr (.inr rfl)) (by omega)).trans HNZ.out
      · have HJ3 := Lib.hid hjx3
        have HK3 := Lib.hid hk3
        clear hjx3 hk3 y0 hyl hR
        gi_wp2
        exact ⟨⟨Nat.le_trans HZ1.out HK3.out.size, fun q o hq ho hc => HK3.out.same q o (by omega) ((HB.out.block q (Array.getElem?_eq_some_iff.1 ho).1).trans ho) hc⟩, rfl, _, HJ3.out⟩
  case done =>
    rintro D ys Z hD hys ⟨hj, hc, hy, hs, hkk, hnz, hzz⟩ hK
    subst hys
    have HJZ := Lib.hid (HJ.out.putObj (.deferred none) hj (show W.heap.size ≤ D by omega) hK rfl)
    have HK := Lib.hid hK
    clear hj hc hy hs hkk hnz hK hseq hJ0
    gi_wp2
    refine ⟨by simp, .inl ⟨_, _, rfl, run_takeDeferred HK.out, ?_⟩⟩
    exact ⟨_, results_none rfl _ _ _, ⟨_, rfl⟩, .inl ⟨_, (by
      have e : ((pth (par ns) k).attach.filter (fun x => brk ns x.1)).map (·.1) = ((pth (par ns) k).attach.map (·.1)).filter (brk ns) := by
        rw [List.filter_map]; rfl
      rw [e, List.attach_map_subtype_val]), HJZ.out⟩⟩
  case stop =>
    rintro D c pre Z hD _ ⟨rfl, p, hp⟩ hK
    have HJZ := Lib.hid (HJX.out.putObj (.deferred none) hp (show W.heap.size ≤ D by omega) hK rfl)
    have HK := Lib.hid hK
    clear hp hK hseq hJ0
    gi_wp2
    refine ⟨by simp, .inl ⟨_, _, rfl, run_takeDeferred HK.out, ?_⟩⟩
    exact ⟨_, results_none rfl _ _ _, ⟨_, rfl⟩, .inr ⟨_, trivial, HJZ.out⟩⟩
end Go.Proofs.Ytdohfpnnmppdkaa

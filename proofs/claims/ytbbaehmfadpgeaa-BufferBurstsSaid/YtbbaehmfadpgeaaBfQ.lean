/-
  Buffers: a record is compressed.
-/
import Derived.Test.YtbbaehmfadpgeaaBfP
namespace Go.Proofs.Ytbbaehmfadpgeaa
open Go.RowKit Go.Shelf
set_option linter.unusedSimpArgs false
attribute [local go_sem] Oper.semAt_some
def idq (L : List Hd) (k : Nat) : Int := ((L[k]?).getD zH).r.id
theorem idq_get {L : List Hd} {k : Nat} (hk : k < L.length) : idq L k = L[k].r.id := by simp [idq, hk]
/-- between two rounds: nothing that could be compressed so far -/
def CoI (n₀ Z b : Nat) (w : World) (L : List Hd) (pre : List (Fin L.length)) (W : World) : Prop :=
  (∀ k ∈ pre, Full (L[k.1])) ∧ Below n₀ w W ∧ W.heap[n₀]? = some (.cells #[.pointer (some ⟨b, 0, none⟩)] 27 (0, 0)) ∧ W.heap[n₀ + 1]? = some (.cells #[.bool false] 4 (0, 0)) ∧ Z ≤ W.heap.size
/-- where one is compressed -/
def CoX (n₀ b M : Nat) (S : Nat → Prop) (v : Value) (cap time : Int) (w : World) (L : List Hd) (c : Code) (pre : List (Fin L.length)) (W : World) : Prop :=
  c = .ret ∧ ∃ pre' x, pre = pre' ++ [x] ∧ (∀ k ∈ pre', Full (L[k.1])) ∧ ¬Full (L[x.1]) ∧ W.heap[n₀ + 1]? = some (.cells #[.bool true] 4 (0, 0)) ∧ BufAt W S b M v cap time (smL L x.1) ∧ FrS w W S S
theorem CoI.own {n₀ Z B b : Nat} {w : World} {L : List Hd} (hB : n₀ + 1 < B) : OwnFrom B (CoI n₀ Z b w L) := by
  intro pre A C row hs hg hr
  obtain ⟨h1, h2, h3, h4, h5⟩ := hs
  exact ⟨h1, h2.grown hg (by have := (Array.getElem?_eq_some_iff.1 h3).1; omega) (fun r e => by have := (hr r e).1; omega), cell_kept hg hr h3, cell_kept hg hr h4, Nat.le_trans h5 hg.size⟩
theorem CoX.own {n₀ B b M : Nat} {S : Nat → Prop} {v : Value} {cap time : Int} {w : World} {L : List Hd} (hB : w.heap.size ≤ B) (hS : ∀ k, S k → k < w.heap.size) (c : Code) : OwnFrom B (CoX n₀ b M S v cap time w L c) := by
  intro pre A C row hs hg hr
  obtain ⟨h0, pre', x, h1, h2, h3, h4, h5, h6⟩ := hs
  exact ⟨h0, pre', x, h1, h2, h3, cell_kept hg hr h4, h5.keep hg.size (fun k hk => heap_kept hg hr (by have := hS k hk; omega) (h5.lt k hk)), h6.grown hB hg hr⟩
set_option maxRecDepth 100000 in
set_option maxHeartbeats 8000000 in
theorem compress_any {S : Nat → Prop} {b M : Nat} {v : Value} {cap time : Int} {L : List Hd} (w : World) (h : BufAt w S b M v cap time L) (hlen : L.length ≤ 1000) (hne : 0 < L.length) :
    Calls Try.prog 60 #[.pointer (some ⟨b, 0, none⟩)] w fun e w' => e = .returned (.bool (cmpL L).isSome) ∧ BufAt w' S b M v cap time ((cmpL L).getD L) ∧ FrS w w' S S := by
  obtain ⟨g, c, hv, hg⟩ : ∃ g c, v = .slice (some ⟨g, 0, none⟩) L.length c ∧ ∀ k (hk : k < L.length), w.cell? ⟨g, k, none⟩ = some (.int .i64 (L[k].r.id)) := by
    rcases h.row.2 with ⟨e, e2⟩ | ⟨g, c', cur, e, _, hb, h4, h5, h6, h7⟩
    · omega
    · refine ⟨g, c', e, fun k hk => ?_⟩
      rw [cellH hb]
      have e2 : (cur.toList.take (L.length * 1))[k]? = some (.int .i64 (L[k].r.id)) := by rw [h7]; exact zv_get hk
      rw [List.getElem?_take, if_pos (by omega)] at e2
      simpa using e2
  have hgS : S g := h.sr g (by rw [hv]; rfl)
  have HLT := Lib.hid h.lt
  have HH := Lib.hid h
  subst hv
  obtain ⟨k0, k1, k2, k3, k4⟩ := h.all
  refine (callsIn_wide (n := 9)).1 (callsIn_of_wp_marks Try.func60 rfl trivial ?_ rfl)
  simp only [Try.ntmps60, List.size_toArray, List.length_cons, List.length_nil, Nat.reduceAdd, Nat.reduceSub, Array.replicate_succ, Array.replicate_zero, List.push_toArray, List.append_toArray, List.nil_append, List.cons_append]
  have hbl := h.lt b h.sb
  have hML := h.lt M h.sm
  have hgl := h.lt g hgS
  gi_wp2
  refine ⟨trivial, ?_⟩
  refine (callsIn_wide.2 (backward_any _ (some ⟨g, 0, none⟩) L.length c _ rfl)).mono ?_
  rintro e w1 ⟨rfl, rfl⟩
  obtain ⟨W5, hW5⟩ : ∃ W5, W5 = ((w.alloc (.cells #[.pointer (some ⟨b, 0, none⟩)] 27)).alloc (.cells #[.bool false] 4)).alloc (.cells #[.slice (some ⟨g, 0, none⟩) L.length c] 41) := ⟨_, rfl⟩
  have hb5 : Below w.heap.size w W5 := by rw [hW5]; exact (((Below.refl _ _).alloc (Nat.le_refl _) _).alloc (by simp) _).alloc (by simp; omega) _
  have hz5 : W5.heap.size = w.heap.size + 3 := by rw [hW5]; simp
  have h05 : W5.heap[w.heap.size]? = some (.cells #[.pointer (some ⟨b, 0, none⟩)] 27 (0, 0)) := by rw [hW5]; exact (Below.heap_alloc _ _ _ (by simp; omega)).trans ((Below.heap_alloc _ _ _ (by simp)).trans (World.alloc_heap_new w _))
  have h15 : W5.heap[w.heap.size + 1]? = some (.cells #[.bool false] 4 (0, 0)) := by
    rw [hW5]; refine (Below.heap_alloc _ _ _ (by simp)).trans ?_
    have q := World.alloc_heap_new (w.alloc (.cells #[.pointer (some ⟨b, 0, none⟩)] 27)) (.cells #[.bool false] 4)
    simpa using q
  have h25 : W5.heap[w.heap.size + 1 + 1]? = some (.cells #[.slice (some ⟨g, 0, none⟩) L.length c] 41 (0, 0)) := by
    rw [hW5]
    have q := World.alloc_heap_new ((w.alloc (.cells #[.pointer (some ⟨b, 0, none⟩)] 27)).alloc (.cells #[.bool false] 4)) (.cells #[.slice (some ⟨g, 0, none⟩) L.length c] 41)
    simpa using q
  have hseq := backward_stops (fun q => q = w.heap.size + 1 + 1 ∨ S q) (9 - 1) (by omega) (w.heap.size + 1 + 1) g c L.length (idq L) hlen W5 (fun q hq => by rcases hq with rfl | hq <;> first | omega | (have := HLT.out q hq; omega)) (.inl rfl) (.inr hgS) ((cellH h25 0).trans (by simp)) (fun k hk => (hb5.cell (p := ⟨g, k, none⟩) hgl).trans (by rw [hg k hk, idq_get hk]))
  have HZ5 := Lib.hid hz5
  have HW := Lib.hid (show ∀ q, (q = w.heap.size + 1 + 1 ∨ S q) → q < W5.heap.size ∧ q ≠ w.heap.size ∧ q ≠ w.heap.size + 1 from fun q hq => by
    rcases hq with rfl | hq
    · omega
    · have := HLT.out q hq; omega)
  gi_wp2
  rw [← hW5]
  clear hW5 h k0 k1 k2 k3 k4 hg h25
  refine wpIn_rangeFunc_ownG rfl (by omega) (gf := 112) (lb := #[.pointer (some ⟨w.heap.size + 1 + 1, 0, none⟩)]) rfl trivial (enters_of Try.func112 (by kernel_rfl) rfl) hseq (fun h1 h2 => h1.trans h2) (fun W l o o' hl _ _ _ q hq => World.putObj_heap_other (by have := (HW.out q hq).1; omega)) (Below.refl _ _) (fun _ => rfl)
    (CoI w.heap.size W5.heap.size b w L) (CoX w.heap.size b M S (.slice (some ⟨g, 0, none⟩) L.length c) cap time w L) (CoI.own (by omega)) (CoX.own (by omega) HLT.out) ⟨fun k hk => (by cases hk), hb5, h05, h15, Nat.le_refl _⟩ (fun x => { tmps := #[.pointer (some ⟨b, 0, none⟩), .pointer (some ⟨w.heap.size, 0, none⟩), .pointer (some ⟨w.heap.size + 1, 0, none⟩), undef, .int .i64 (idq L x.1), undef, .pointer (some ⟨b, 0, none⟩), .pointer (some ⟨b, 0, none⟩), .pointer (some ⟨b, 4, none⟩), .slice (some ⟨g, 0, none⟩) L.length c, .func (.func 112) #[] #[.pointer (some ⟨w.heap.size + 1 + 1, 0, none⟩)], .int .i64 (x.1 : Int), .int .i64 (idq L x.1), undef, undef, undef, undef, undef, undef, undef, undef, undef, undef, undef, undef, undef, undef, undef, undef, undef, undef, undef, undef, undef, undef, undef, undef, undef], defers := [] }) ?assign ?body ?done ?stop
  case assign =>
    intro l x W K hK
    gi_wp2
    exact hK
  case body =>
    rintro l2 pre ⟨x, hx⟩ Z ⟨hfull, hB, hP, hR, hZ⟩ hpl
    rw [idq_get hx]
    have hBZ := HH.out.keep (W' := Z) hB.size (fun k hk => hB.block k (HLT.out k hk))
    obtain ⟨m0, m1, m2, m3, m4⟩ := hBZ.all
    have p0 : Z.cell? ⟨w.heap.size, 0, none⟩ = some (.pointer (some ⟨b, 0, none⟩)) := (cellH hP 0).trans (by simp)
    have hmem : L[x] ∈ L := List.getElem_mem hx
    have hok := HH.out.ok _ hmem
    have hl : (Instr.lookup 106 (.map (some M)) (.int .i64 (L[x].r.id)) false).run Try.prog Z = .ok (vH L[x]) Z := by
      have q := hBZ.tab.look (x := L[x].r.id) (by unfold OkR at hok; omega) (by unfold OkR at hok; omega)
      rw [atL_get HH.out.nd hx] at q
      exact q
    have HFULL := Lib.hid (show Full (L[x]) → ∀ k ∈ pre ++ [(⟨x, hx⟩ : Fin L.length)], Full (L[k.1]) from fun h k hk => by
      rcases List.mem_append.1 hk with hk | hk
      · exact hfull k hk
      · rw [List.mem_singleton.1 hk]; exact h)
    have HFP := Lib.hid hfull
    have HB := Lib.hid hB
    have HP := Lib.hid hP
    have HR := Lib.hid hR
    have HBZ := Lib.hid hBZ
    clear hfull hB hP hR hBZ hseq h05 h15 hb5 hz5
    obtain ⟨H, hH⟩ : ∃ H, H = L[x] := ⟨_, rfl⟩
    have HHX := Lib.hid hH
    rw [← hH] at hl
    rw [← hH] at hok
    rw [← hH]
    rw [← hH] at HFULL
    clear hH hmem
    obtain ⟨⟨id, cls, made, size, packed⟩, small, sent⟩ := H
    unfold vH at hl
    have hlx : (x : Int) < (L.length : Int) := by omega
    have HOK := Lib.hid hok
    clear hok
    cases small
    · by_cases hps : packed < size
      · obtain ⟨V, hV⟩ : ∃ V, V = Z.alloc (.cells #[.int .i64 id, .int .i64 cls, .int .i64 made, .int .i64 size, .int .i64 packed, .bool true, .int .i64 sent] 82) := ⟨_, rfl⟩
        have hVX : V.heap[Z.heap.size]? = some (.cells #[.int .i64 id, .int .i64 cls, .int .i64 made, .int .i64 size, .int .i64 packed, .bool true, .int .i64 sent] 82 (0, 0)) := by
          rw [hV]
          exact World.alloc_heap_new _ _
        have hBV : Below Z.heap.size Z V := by rw [hV]; exact ((Below.refl _ _).alloc (Nat.le_refl _) _)
        have hVs : Z.heap.size < V.heap.size := (Array.getElem?_eq_some_iff.1 hVX).1
        have hzb := HB.out.size
        have hMV : MapH V.drew M L.length (atL L) := HBZ.out.tab.same (hBV.block M (by omega))
        have hbV := (hBV.block b (by omega)).trans HBZ.out.blk
        have hpV := (hBV.block w.heap.size (by have := HZ5.out; omega)).trans HP.out
        have hrV := (hBV.block (w.heap.size + 1) (by have := HZ5.out; omega)).trans HR.out
        have hok2 := HOK.out
        unfold OkR at hok2
        dsimp only at hok2
        obtain ⟨W6, hrun, hM6, hg6⟩ := hMV.put (by unfold maxLen; omega) (x := id) (by omega) (by omega) ⟨⟨id, cls, made, size, packed⟩, true, sent⟩
        replace hrun : (Instr.mapUpdate 106 (.map (some M)) (.int .i64 id) (.agg #[.int .i64 id, .int .i64 cls, .int .i64 made, .int .i64 size, .int .i64 packed, .bool true, .int .i64 sent])).run Try.prog V.drew = .ok () W6 := hrun
        have hk6 : ∀ k, k < V.heap.size → k ≠ M → W6.heap[k]? = V.heap[k]? := fun k hk hne => hg6.block k hk (by simpa using hne)
        have hs6 : V.heap.size ≤ W6.heap.size := hg6.size
        have hMb : M ≠ b := HH.out.ne.1
        have hrM : w.heap.size + 1 ≠ M := by omega
        have hr6 := (hk6 _ (by have := HZ5.out; omega) hrM).trans hrV
        have y0 : W6.cell? ⟨w.heap.size + 1, 0, none⟩ = some (.bool false) := (cellH hr6 0).trans (by simp)
        have yf0 : W6.frozen? ⟨w.heap.size + 1, 0, none⟩ = false := frozH hr6 0
        have KS := Lib.hid (show ∀ W1 : World, (∀ k, k < V.heap.size → k ≠ M → W1.heap[k]? = V.heap[k]?) → W1.cell? ⟨w.heap.size, 0, none⟩ = some (Value.pointer (some ⟨b, 0, none⟩)) ∧ W1.cell? ⟨b, 3, none⟩ = some (Value.map (some M)) ∧ W1.cell? ⟨Z.heap.size, 0, none⟩ = some (Value.int .i64 id) ∧ W1.cell? ⟨Z.heap.size, 1, none⟩ = some (Value.int .i64 cls) ∧ W1.cell? ⟨Z.heap.size, 2, none⟩ = some (Value.int .i64 made) ∧ W1.cell? ⟨Z.heap.size, 3, none⟩ = some (Value.int .i64 size) ∧ W1.cell? ⟨Z.heap.size, 4, none⟩ = some (Value.int .i64 packed) ∧ W1.cell? ⟨Z.heap.size, 5, none⟩ = some (Value.bool true) ∧ W1.cell? ⟨Z.heap.size, 6, none⟩ = some (Value.int .i64 sent) from fun W1 h => by
          have q1 := (h w.heap.size (by omega) (by omega)).trans hpV
          have q2 := (h b (by omega) (fun e => hMb e.symm)).trans hbV
          have q3 := (h Z.heap.size hVs (by omega)).trans hVX
          exact ⟨(cellH q1 0).trans (by simp), (cellH q2 3).trans (by simp), (cellH q3 0).trans (by simp), (cellH q3 1).trans (by simp), (cellH q3 2).trans (by simp), (cellH q3 3).trans (by simp), (cellH q3 4).trans (by simp), (cellH q3 5).trans (by simp), (cellH q3 6).trans (by simp)⟩)
        have HK6 := Lib.hid hk6
        have HE := Lib.hid (show KeepsFrom W5.heap.size Z (W6.setCell ⟨w.heap.size + 1, 0, none⟩ (.bool true)) ∧ CoX w.heap.size b M S (.slice (some ⟨g, 0, none⟩) L.length c) cap time w L .ret (pre ++ [(⟨x, hx⟩ : Fin L.length)]) (W6.setCell ⟨w.heap.size + 1, 0, none⟩ (.bool true)) from by
          have hfar : ∀ k, k ≠ w.heap.size + 1 → (W6.setCell ⟨w.heap.size + 1, 0, none⟩ (.bool true)).heap[k]? = W6.heap[k]? := fun k hk => Below.heap_setCell _ _ _ _ hk
          have hZ5 := HZ5.out
          have hbk : ∀ k, k < w.heap.size → k ≠ M → (W6.setCell ⟨w.heap.size + 1, 0, none⟩ (.bool true)).heap[k]? = w.heap[k]? := fun k hk hne => (hfar k (by omega)).trans ((hk6 k (by omega) hne).trans ((hBV.block k (by omega)).trans (HB.out.block k hk)))
          refine ⟨⟨by simp; omega, fun k o hk ho hc => ?_⟩, rfl, pre, ⟨x, hx⟩, rfl, HFP.out, ?_, ?_, ⟨?_, ?_, ?_, HH.out.sb, HH.out.sm, HH.out.sr, fun k hk => ?_, smL_ok HH.out.ok, smL_ord HH.out.ord, by rw [smL_idsL]; exact HH.out.nd⟩, ⟨?_, ?_, ?_, ?_, fun k hk hS => hbk k hk (fun e => hS (e ▸ HH.out.sm)), fun k hk => .inl hk⟩⟩
          · have hkz := (Array.getElem?_eq_some_iff.1 ho).1
            exact (hfar k (by omega)).trans ((hk6 k (by omega) (by omega)).trans ((hBV.block k hkz).trans ho))
          · show ¬Full (L[x])
            rw [← HHX.out]
            unfold Full
            exact fun h => h ⟨rfl, hps⟩
          · rw [heap_setCell_same _ _ _ _ _ _ hr6]
            rfl
          · exact (hbk b hbl (fun e => hMb e.symm)).trans HH.out.blk
          · rw [smL_idsL, smL_length]
            exact own_same HH.out.row fun k hk => hbk k (HLT.out k (HH.out.sr k hk)) (fun e => (HH.out.ne.2 k hk).2 e)
          · rw [smL_length, smL_at hx HH.out.nd, ← HHX.out]
            have e : (atL L id).isSome = true := by
              have q := atL_get HH.out.nd hx
              rw [← HHX.out] at q
              rw [q]; rfl
            rw [if_pos e] at hM6
            exact hM6.same (hfar M (by omega))
          · have := HLT.out k hk
            have := hg6.size
            simp; omega
          · exact (show (W6.setCell ⟨w.heap.size + 1, 0, none⟩ (.bool true)).os = W6.os by simp [World.setCell]).trans (hg6.os.trans (hBV.os.trans HB.out.os))
          · exact (show (W6.setCell ⟨w.heap.size + 1, 0, none⟩ (.bool true)).tape = W6.tape by simp [World.setCell]).trans (hg6.tape.trans (hBV.tape.trans HB.out.tape))
          · exact (show (W6.setCell ⟨w.heap.size + 1, 0, none⟩ (.bool true)).output = W6.output by simp [World.setCell]).trans (hg6.output.trans (hBV.output.trans HB.out.output))
          · simp; omega)
        clear hVX hBV hVs hMV hbV hpV hrV hM6 hg6 hk6 hr6 HFULL hok2 hs6
        clear m0 m1 m2 m4
        have hw5 : ¬ (size ≤ packed) := by omega
        gi_wp2
        try rw [← hV]
        clear hV m3 p0
        refine wpIn_round_held (S := fun w' => w'.cell? ⟨w.heap.size, 0, none⟩ = some (Value.pointer (some ⟨b, 0, none⟩)) ∧ w'.cell? ⟨b, 3, none⟩ = some (Value.map (some M)) ∧ w'.cell? ⟨Z.heap.size, 0, none⟩ = some (Value.int .i64 id) ∧ w'.cell? ⟨Z.heap.size, 1, none⟩ = some (Value.int .i64 cls) ∧ w'.cell? ⟨Z.heap.size, 2, none⟩ = some (Value.int .i64 made) ∧ w'.cell? ⟨Z.heap.size, 3, none⟩ = some (Value.int .i64 size) ∧ w'.cell? ⟨Z.heap.size, 4, none⟩ = some (Value.int .i64 packed) ∧ w'.cell? ⟨Z.heap.size, 5, none⟩ = some (Value.bool true) ∧ w'.cell? ⟨Z.heap.size, 6, none⟩ = some (Value.int .i64 sent)) (by kernel_rfl) (by kernel_rfl) (by rintro ⟨_, _, q⟩; exact q) (KS.out _ (fun _ _ _ => rfl)) (fun hHeld => ?_)
        refine wpAnyH_take (i := 0) (oi := _) (v := Value.pointer (some ⟨b, 0, none⟩)) rfl (by kernel_rfl) (by kernel_rfl) (by kernel_rfl) (fun _ _ _ h => h) (Or.inl ⟨by rfl, fun w' hSw => ?_⟩) hHeld ?_
        · obtain ⟨t0, t1, t2, t3, t4, t5, t6, t7, t8⟩ := hSw
          go_simp
          try simp [*]
          try (intro hh; exfalso; omega)
          try omega
        try simp only [Act.put, List.setIfInBounds_toArray, List.set_cons_zero, List.set_cons_succ, List.getElem_toArray, List.getElem_cons_succ, List.getElem_cons_zero]
        refine wpAnyH_take (i := 1) (oi := _) (v := Value.pointer (some ⟨b, 0, none⟩)) rfl (by kernel_rfl) (by kernel_rfl) (by kernel_rfl) (fun _ _ _ h => h) (Or.inl ⟨by rfl, fun w' hSw => ?_⟩) hHeld ?_
        · obtain ⟨t0, t1, t2, t3, t4, t5, t6, t7, t8⟩ := hSw
          go_simp
          try simp [*]
          try (intro hh; exfalso; omega)
          try omega
        try simp only [Act.put, List.setIfInBounds_toArray, List.set_cons_zero, List.set_cons_succ, List.getElem_toArray, List.getElem_cons_succ, List.getElem_cons_zero]
        refine wpAnyH_take (i := 2) (oi := _) (v := Value.pointer (some ⟨b, 3, none⟩)) rfl (by kernel_rfl) (by kernel_rfl) (by kernel_rfl) (fun _ _ _ h => h) (Or.inl ⟨by rfl, fun w' hSw => ?_⟩) hHeld ?_
        · obtain ⟨t0, t1, t2, t3, t4, t5, t6, t7, t8⟩ := hSw
          go_simp
          try simp [*]
          try (intro hh; exfalso; omega)
          try omega
        try simp only [Act.put, List.setIfInBounds_toArray, List.set_cons_zero, List.set_cons_succ, List.getElem_toArray, List.getElem_cons_succ, List.getElem_cons_zero]
        refine wpAnyH_take (i := 3) (oi := _) (v := Value.map (some M)) rfl (by kernel_rfl) (by kernel_rfl) (by kernel_rfl) (fun _ _ _ h => h) (Or.inl ⟨by rfl, fun w' hSw => ?_⟩) hHeld ?_
        · obtain ⟨t0, t1, t2, t3, t4, t5, t6, t7, t8⟩ := hSw
          go_simp
          try simp [*]
          try (intro hh; exfalso; omega)
          try omega
        try simp only [Act.put, List.setIfInBounds_toArray, List.set_cons_zero, List.set_cons_succ, List.getElem_toArray, List.getElem_cons_succ, List.getElem_cons_zero]
        refine wpAnyH_take (i := 4) (oi := _) (v := Value.int .i64 id) rfl (by kernel_rfl) (by kernel_rfl) (by kernel_rfl) (fun _ _ _ h => h) (Or.inl ⟨by rfl, fun w' hSw => ?_⟩) hHeld ?_
        · obtain ⟨t0, t1, t2, t3, t4, t5, t6, t7, t8⟩ := hSw
          go_simp
          try simp [*]
          try (intro hh; exfalso; omega)
          try omega
        try simp only [Act.put, List.setIfInBounds_toArray, List.set_cons_zero, List.set_cons_succ, List.getElem_toArray, List.getElem_cons_succ, List.getElem_cons_zero]
        refine wpAnyH_take (i := 5) (oi := _) (v := Value.agg #[Value.int .i64 id, Value.int .i64 cls, Value.int .i64 made, Value.int .i64 size, Value.int .i64 packed, Value.bool true, Value.int .i64 sent]) rfl (by kernel_rfl) (by kernel_rfl) (by kernel_rfl) (fun _ _ _ h => h) (Or.inl ⟨by rfl, fun w' hSw => ?_⟩) hHeld ?_
        · obtain ⟨t0, t1, t2, t3, t4, t5, t6, t7, t8⟩ := hSw
          go_simp
          try simp [*]
          try (intro hh; exfalso; omega)
          try omega
        try simp only [Act.put, List.setIfInBounds_toArray, List.set_cons_zero, List.set_cons_succ, List.getElem_toArray, List.getElem_cons_succ, List.getElem_cons_zero]
        refine wpAnyH_ready (rs := [6]) (by kernel_rfl) (by simp) ?_
        refine AllReadyH.cons (o := _) rfl (fun K hK => ?_) (AllReadyH.nil)
        go_simp
        clear hHeld
        refine hK.out _ _ (KS.out W6 HK6.out) (fun hHeld => ?_)
        clear hK K
        try simp only [Act.put, List.setIfInBounds_toArray, List.set_cons_zero, List.set_cons_succ, List.getElem_toArray, List.getElem_cons_succ, List.getElem_cons_zero]
        refine wpAnyH_done (by kernel_rfl) ?_ _
        clear hHeld
        gi_wp2
        exact HE.out
      · have HF := Lib.hid (HFULL.out (by rintro ⟨_, h2⟩; exact hps h2))
        clear HFULL
        gi_wp2
        refine ⟨(KeepsOthers.alloc _ _).from _, fun q hq => Below.heap_alloc _ _ _ (by have := (HW.out q hq).1; omega), HF.out, HB.out.alloc HB.out.size _, (Below.heap_alloc _ _ _ (by have := HZ5.out; omega)).trans HP.out, (Below.heap_alloc _ _ _ (by have := HZ5.out; omega)).trans HR.out, by simp; omega⟩
    · have HF := Lib.hid (HFULL.out (by rintro ⟨h1, _⟩; cases h1))
      clear HFULL
      gi_wp2
      refine ⟨(KeepsOthers.alloc _ _).from _, fun q hq => Below.heap_alloc _ _ _ (by have := (HW.out q hq).1; omega), HF.out, HB.out.alloc HB.out.size _, (Below.heap_alloc _ _ _ (by have := HZ5.out; omega)).trans HP.out, (Below.heap_alloc _ _ _ (by have := HZ5.out; omega)).trans HR.out, by simp; omega⟩
  case done =>
    rintro D ys W hD hys ⟨hfull, hB, hP, hR, hZ⟩ hK
    subst hys
    have HN := Lib.hid (cmp_done hfull)
    have y0 : W.cell? ⟨w.heap.size + 1, 0, none⟩ = some (.bool false) := (cellH hR 0).trans (by simp)
    have yf0 : W.frozen? ⟨w.heap.size + 1, 0, none⟩ = false := frozH hR 0
    have hK2 : (W.setCell ⟨w.heap.size + 1, 0, none⟩ (.bool false)).heap[D]? = some (.deferred (some [])) := (Below.heap_setCell _ _ _ _ (by show D ≠ w.heap.size + 1; omega)).trans hK
    have hR2 : ((W.setCell ⟨w.heap.size + 1, 0, none⟩ (.bool false)).putObj D (.deferred none)).heap[w.heap.size + 1]? = some (.cells #[.bool false] 4 (0, 0)) := (World.putObj_heap_other (by omega)).trans (by rw [heap_setCell_same _ _ _ _ _ _ hR]; rfl)
    have u0 : ((W.setCell ⟨w.heap.size + 1, 0, none⟩ (.bool false)).putObj D (.deferred none)).cell? ⟨w.heap.size + 1, 0, none⟩ = some (.bool false) := (cellH hR2 0).trans (by simp)
    have HB := Lib.hid (show Below w.heap.size w ((W.setCell ⟨w.heap.size + 1, 0, none⟩ (.bool false)).putObj D (.deferred none)) from (hB.setCell (p := ⟨w.heap.size + 1, 0, none⟩) (by show w.heap.size ≤ w.heap.size + 1; omega) _).grown (grownBy_putObj' _ D _) (by have := hB.size; simp; omega) (fun k e => by cases e; omega))
    have HK := Lib.hid hK2
    clear hfull hB hP hK hK2 hseq h05 h15 hb5 hR2
    gi_wp2
    refine ⟨by simp, .inl ⟨_, _, rfl, run_takeDeferred HK.out, ?_⟩⟩
    exact ⟨.bool false, by simp [results, Try.results60, go_sem, u0], by rw [HN.out]; rfl, by rw [HN.out]; exact HH.out.below HB.out, FrS.of S HB.out⟩
  case stop =>
    rintro D c2 pre W hD hsp ⟨rfl, pre', x, he, hfull, hx, hR, hBF, hFR⟩ hK
    subst he
    have HC := Lib.hid (cmp_stop hsp hfull hx)
    have hg := grownBy_putObj' W D (.deferred none)
    have hk : ∀ k, k ≠ D → (W.putObj D (.deferred none)).heap[k]? = W.heap[k]? := fun k hk => World.putObj_heap_other hk
    have hR2 : (W.putObj D (.deferred none)).heap[w.heap.size + 1]? = some (.cells #[.bool true] 4 (0, 0)) := (hk _ (by omega)).trans hR
    have u0 : (W.putObj D (.deferred none)).cell? ⟨w.heap.size + 1, 0, none⟩ = some (.bool true) := (cellH hR2 0).trans (by simp)
    have HE := Lib.hid (show BufAt (W.putObj D (.deferred none)) S b M (.slice (some ⟨g, 0, none⟩) L.length c) cap time (smL L x.1) ∧ FrS w (W.putObj D (.deferred none)) S S from ⟨hBF.keep (by simp) (fun k hS => hk k (by have := HLT.out k hS; omega)), ⟨hg.os.trans hFR.os, hg.tape.trans hFR.tape, hg.output.trans hFR.output, by have := hFR.size; simp; omega, fun k hkw hS => (hk k (by omega)).trans (hFR.block k hkw hS), fun k hS => .inl hS⟩⟩)
    have HK := Lib.hid hK
    clear hBF hFR hfull hx hR hR2 hk hg hK hseq h05 h15 hb5
    gi_wp2
    refine ⟨by simp, .inl ⟨_, _, rfl, run_takeDeferred HK.out, ?_⟩⟩
    exact ⟨.bool true, by simp [results, Try.results60, go_sem, u0], by rw [HC.out]; rfl, by rw [HC.out]; exact HE.out.1, HE.out.2⟩

end Go.Proofs.Ytbbaehmfadpgeaa

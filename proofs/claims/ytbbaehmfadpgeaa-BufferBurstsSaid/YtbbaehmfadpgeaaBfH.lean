/-
  Buffers: a record is added.
-/
import Derived.Test.YtbbaehmfadpgeaaBfG
namespace Go.Proofs.Ytbbaehmfadpgeaa
open Go.RowKit Go.Shelf
set_option linter.unusedSimpArgs false
set_option maxRecDepth 100000 in
set_option maxHeartbeats 4000000 in
theorem add_any {S : Nat → Prop} {b M : Nat} {v : Value} {cap time : Int} {L : List Hd} (r : Rc) (w : World) (h : BufAt w S b M v cap time L) (hr : OkR r) (hid : r.id ∉ idsL L) (hlen : L.length ≤ 256) :
    Calls Try.prog 57 #[.pointer (some ⟨b, 0, none⟩), .agg #[.int .i64 r.id, .int .i64 r.cls, .int .i64 r.made, .int .i64 r.size, .int .i64 r.packed]] w fun e w' => ∃ v' S', e = .returned (.tuple #[]) ∧ BufAt w' S' b M v' cap time (insL r L) ∧ FrS w w' S S' := by
  obtain ⟨A, hA⟩ : ∃ A, A = (w.alloc (.cells #[.pointer (some ⟨b, 0, none⟩)] 27)).alloc (.cells #[.int .i64 r.id, .int .i64 r.cls, .int .i64 r.made, .int .i64 r.size, .int .i64 r.packed] 23) := ⟨_, rfl⟩
  have hBA : Below w.heap.size w A := by rw [hA]; exact (((Below.refl _ _).alloc (Nat.le_refl _) _).alloc (by simp) _)
  have hA1 : A.heap[w.heap.size]? = some (.cells #[.pointer (some ⟨b, 0, none⟩)] 27 (0, 0)) := by
    rw [hA]
    exact (Below.heap_alloc _ _ _ (by simp)).trans (World.alloc_heap_new w _)
  have hA2 : BxR A (w.heap.size + 1) r := by
    rw [hA]
    exact (show (w.alloc (.cells #[.pointer (some ⟨b, 0, none⟩)] 27)).heap.size = w.heap.size + 1 by simp) ▸ BxR.new (w.alloc (.cells #[.pointer (some ⟨b, 0, none⟩)] 27)) r
  have hAs : A.heap.size = w.heap.size + 2 := by rw [hA]; simp
  have hAB := h.below hBA
  have q0 : A.cell? ⟨w.heap.size, 0, none⟩ = some (.pointer (some ⟨b, 0, none⟩)) := (cellH hA1 0).trans (by simp)
  have cF := find_any w.heap.size (w.heap.size + 1) r A hAB (by omega) q0 hA2
  obtain ⟨m0, m1, m2, m3, m4⟩ := hAB.all
  have HA2 := Lib.hid hA2
  have HAB := Lib.hid hAB
  have HBA := Lib.hid hBA
  have HAS := Lib.hid hAs
  have HA1 := Lib.hid hA1
  have HID := Lib.hid hid
  have HOK := Lib.hid hr
  have HLEN := Lib.hid hlen
  have HH := Lib.hid h
  have hmf : ∀ (fn : Fn) (first cap : Array Value) (w : World), (Instr.makeFunc fn first cap).run Try.prog w = .ok (.func fn first cap) w := fun _ _ _ _ => rfl
  have hbs : ∀ W : World, (Instr.buildSlice 41 1 #[(0, .int .i64 r.id)]).run Try.prog W = .ok (.slice (some ⟨W.heap.size, 0, none⟩) 1 1) (W.alloc (.cells #[.int .i64 r.id] 2)) := fun W => by kernel_rfl
  clear hA1 hA2 hAs hAB hBA hid hr hlen h
  obtain ⟨pos, hpos⟩ : ∃ p : Nat, p = posR r L := ⟨_, rfl⟩
  rw [← hpos] at cF
  have HPOS := Lib.hid hpos
  clear hpos
  go_enter Try.func57, Try.ntmps57
  go_upto_region 1 with fail
  rw [← hA]
  clear hA
  go_wp2_with fail
  refine cF.mono ?_
  rintro e w1 ⟨rfl, hb⟩
  have HB1 := Lib.hid hb
  clear hb cF m0 m1 m2 m3 m4 q0
  have KS := Lib.hid (show ∀ W, Below A.heap.size A W → W.cell? ⟨w.heap.size, 0, none⟩ = some (Value.pointer (some ⟨b, 0, none⟩)) ∧ W.cell? ⟨w.heap.size + 1, 0, none⟩ = some (Value.int .i64 r.id) from fun W hW => ⟨(hW.cell (p := ⟨w.heap.size, 0, none⟩) (by have := HAS.out; show w.heap.size < A.heap.size; omega)).trans ((cellH HA1.out 0).trans (by simp)), ((HA2.out.keep hW).all).1⟩)
  have HBX := Lib.hid (HB1.out.drew)
  have hX := HAB.out.below HBX.out
  have hYb : Below w1.drew.heap.size w1.drew (w1.drew.alloc (.cells #[.int .i64 r.id] 2)) := (Below.refl _ _).alloc (Nat.le_refl _) _
  have hY := hX.below hYb
  have HYA := Lib.hid (HBX.out.trans (hYb.mono HBX.out.size))
  have CI : Calls Try.prog 86 #[v, .int .i64 (pos : Int), .slice (some ⟨w1.heap.size, 0, none⟩) 1 1] (w1.drew.alloc (.cells #[.int .i64 r.id] 2)) fun e W2 => ∃ v' S', e = .returned v' ∧ (W2.cell? ⟨w.heap.size, 0, none⟩ = some (Value.pointer (some ⟨b, 0, none⟩)) ∧ W2.cell? ⟨w.heap.size + 1, 0, none⟩ = some (Value.int .i64 r.id)) ∧ ((W2.setCell ⟨b, 4, none⟩ v').cell? ⟨w.heap.size, 0, none⟩ = some (Value.pointer (some ⟨b, 0, none⟩)) ∧ (W2.setCell ⟨b, 4, none⟩ v').cell? ⟨w.heap.size + 1, 0, none⟩ = some (Value.int .i64 r.id)) ∧ (W2.cell? ⟨b, 4, none⟩ = some v ∧ W2.frozen? ⟨b, 4, none⟩ = false) ∧ ((W2.setCell ⟨b, 4, none⟩ v').drew.cell? ⟨w.heap.size, 0, none⟩ = some (Value.pointer (some ⟨b, 0, none⟩)) ∧ (W2.setCell ⟨b, 4, none⟩ v').drew.cell? ⟨b, 3, none⟩ = some (Value.map (some M)) ∧ (W2.setCell ⟨b, 4, none⟩ v').drew.cell? ⟨w.heap.size + 1, 0, none⟩ = some (Value.int .i64 r.id) ∧ (W2.setCell ⟨b, 4, none⟩ v').drew.cell? ⟨w.heap.size + 1, 1, none⟩ = some (Value.int .i64 r.cls) ∧ (W2.setCell ⟨b, 4, none⟩ v').drew.cell? ⟨w.heap.size + 1, 2, none⟩ = some (Value.int .i64 r.made) ∧ (W2.setCell ⟨b, 4, none⟩ v').drew.cell? ⟨w.heap.size + 1, 3, none⟩ = some (Value.int .i64 r.size) ∧ (W2.setCell ⟨b, 4, none⟩ v').drew.cell? ⟨w.heap.size + 1, 4, none⟩ = some (Value.int .i64 r.packed)) ∧ ∃ W5, (Instr.mapUpdate 106 (.map (some M)) (.int .i64 r.id) (Value.agg #[.int .i64 r.id, .int .i64 r.cls, .int .i64 r.made, .int .i64 r.size, .int .i64 r.packed, .bool false, .int .i64 (-1)])).run Try.prog (W2.setCell ⟨b, 4, none⟩ v').drew = .ok () W5 ∧ (W5.cell? ⟨w.heap.size, 0, none⟩ = some (Value.pointer (some ⟨b, 0, none⟩)) ∧ W5.cell? ⟨b, 3, none⟩ = some (Value.map (some M)) ∧ W5.cell? ⟨w.heap.size + 1, 0, none⟩ = some (Value.int .i64 r.id) ∧ W5.cell? ⟨w.heap.size + 1, 1, none⟩ = some (Value.int .i64 r.cls) ∧ W5.cell? ⟨w.heap.size + 1, 2, none⟩ = some (Value.int .i64 r.made) ∧ W5.cell? ⟨w.heap.size + 1, 3, none⟩ = some (Value.int .i64 r.size) ∧ W5.cell? ⟨w.heap.size + 1, 4, none⟩ = some (Value.int .i64 r.packed)) ∧ BufAt W5 S' b M v' cap time (insL r L) ∧ FrS w W5 S S' := by
    have hb1 := HAB.out.lt b HAB.out.sb
    have hM1 := HAB.out.lt M HAB.out.sm
    have hwb := HH.out.lt b HH.out.sb
    have hwM := HH.out.lt M HH.out.sm
    obtain ⟨hMb, hgb⟩ := HH.out.ne
    have hszA := HAS.out
    have hszX : A.heap.size ≤ w1.heap.size := HBX.out.size
    have hszY : (w1.drew.alloc (.cells #[.int .i64 r.id] 2)).heap.size = w1.heap.size + 1 := by
      show (w1.drew.alloc (.cells #[.int .i64 r.id] 2)).heap.size = w1.drew.heap.size + 1
      simp
    have hvlt : ∀ k, v.ownBlock = some k → k < w.heap.size := fun k hk => HH.out.lt k (HH.out.sr k hk)
    have hple : pos ≤ L.length := by rw [HPOS.out]; exact posR_le r L
    refine (insert_any (w1.drew.alloc (.cells #[.int .i64 r.id] 2)) v L.length pos w1.heap.size (idsL L) r.id hY.row hple (by have := HLEN.out; omega) (World.alloc_heap_new w1.drew _) (fun e => by have := hvlt _ e; omega)).mono ?_
    rintro e W2 ⟨v', rfl, hrow, hg, hv'⟩
    have hgs := hg.size
    have kk : ∀ k, k < w.heap.size + 2 → v.ownBlock ≠ some k → W2.heap[k]? = A.heap[k]? := fun k hk hne => (hg.block k (by omega) (fun e => hne e.symm)).trans (HYA.out.block k (by omega))
    have kv : ∀ k, w.heap.size ≤ k → v.ownBlock ≠ some k := fun k hk e => by have := hvlt k e; omega
    have hbv : v.ownBlock ≠ some b := fun e => (hgb b e).1 rfl
    have hMv : v.ownBlock ≠ some M := fun e => (hgb M e).2 rfl
    obtain ⟨W3, hW3⟩ : ∃ W3, W3 = W2.setCell ⟨b, 4, none⟩ v' := ⟨_, rfl⟩
    have k3 : ∀ k, k ≠ b → W3.heap[k]? = W2.heap[k]? := fun k hk => by rw [hW3]; exact Below.heap_setCell _ _ _ _ hk
    have h2b : W2.heap[b]? = some (.cells #[.pointer (some ⟨b, 0, none⟩), .int .i64 cap, .int .i64 time, .map (some M), v] 108 (0, 0)) := (kk b (by omega) hbv).trans HAB.out.blk
    have h3b : W3.heap[b]? = some (.cells #[.pointer (some ⟨b, 0, none⟩), .int .i64 cap, .int .i64 time, .map (some M), v'] 108 (0, 0)) := by
      rw [hW3, heap_setCell_same _ _ _ _ _ _ h2b]
      rfl
    have h3s : W3.heap.size = W2.heap.size := by rw [hW3]; simp
    have h3p : W3.heap[w.heap.size]? = some (.cells #[.pointer (some ⟨b, 0, none⟩)] 27 (0, 0)) := (k3 _ (by omega)).trans ((kk _ (by omega) (kv _ (by omega))).trans HA1.out)
    have h2p : W2.heap[w.heap.size]? = some (.cells #[.pointer (some ⟨b, 0, none⟩)] 27 (0, 0)) := (kk _ (by omega) (kv _ (by omega))).trans HA1.out
    have h2r : BxR W2 (w.heap.size + 1) r := (kk _ (by omega) (kv _ (by omega))).trans HA2.out
    have h3r : BxR W3 (w.heap.size + 1) r := (k3 _ (by omega)).trans h2r
    have h3m : MapH W3 M L.length (atL L) := HAB.out.tab.same ((k3 M hMb).trans (kk M (by omega) hMv))
    have hnone : atL L r.id = none := atL_none HID.out
    have hok := HOK.out
    obtain ⟨W5, hrun, hM5, hg5⟩ := (show MapH W3.drew M L.length (atL L) from h3m).put (by have := HLEN.out; unfold maxLen; omega) (x := r.id) (by unfold OkR at hok; omega) (by unfold OkR at hok; omega) (newH r)
    rw [hnone, ← atL_ins HID.out] at hM5
    have k5 : ∀ k, k < W3.heap.size → k ≠ M → W5.heap[k]? = W3.heap[k]? := fun k hk hne => hg5.block k hk (by simpa using hne)
    have h5s : W3.heap.size ≤ W5.heap.size := hg5.size
    have h5r : BxR W5 (w.heap.size + 1) r := (k5 _ (by omega) (by omega)).trans h3r
    have h5p := (k5 w.heap.size (by omega) (by omega)).trans h3p
    have h5b := (k5 b (by omega) (fun e => hMb e.symm)).trans h3b
    have hv5 : ∀ k, v'.ownBlock = some k → (S k ∨ (w.heap.size ≤ k ∧ k < W5.heap.size)) ∧ k ≠ b ∧ k ≠ M ∧ k < W2.heap.size := fun k hk => by
      rcases hv' with e | ⟨e, e2⟩
      · rw [e] at hk
        have := hvlt k hk
        exact ⟨.inl (HH.out.sr k hk), (hgb k hk).1, (hgb k hk).2, by omega⟩
      · rw [e] at hk
        have : w1.heap.size + 1 = k := by rw [← hszY]; simpa using hk
        exact ⟨.inr ⟨by omega, by omega⟩, by omega, by omega, by omega⟩
    refine ⟨v', fun k => S k ∨ (w.heap.size ≤ k ∧ k < W5.heap.size), rfl, ⟨(cellH h2p 0).trans (by simp), h2r.all.1⟩, ?_, ⟨(cellH h2b 4).trans (by simp), frozH h2b 4⟩, ?_⟩
    · rw [← hW3]
      exact ⟨(cellH h3p 0).trans (by simp), h3r.all.1⟩
    rw [← hW3]
    refine ⟨⟨(cellH h3p 0).trans (by simp), (cellH h3b 3).trans (by simp), h3r.all⟩, W5, hrun, ⟨(cellH h5p 0).trans (by simp), (cellH h5b 3).trans (by simp), h5r.all⟩, ⟨h5b, ?_, ?_, .inl HH.out.sb, .inl HH.out.sm, fun k hk => (hv5 k hk).1, fun k hk => ?_, insL_ok HOK.out HH.out.ok, insL_ord HH.out.ord (fun x hx e => HID.out (e ▸ List.mem_map.2 ⟨x, hx, rfl⟩)), insL_nodup HID.out HH.out.nd⟩, ?_⟩
    · rw [insL_length, idsL_ins, ← HPOS.out]
      refine own_same hrow fun k hk => ?_
      obtain ⟨_, n1, n2, n3⟩ := hv5 k hk
      exact (k5 k (by omega) n2).trans (k3 k n1)
    · rw [insL_length]
      simpa using hM5
    · rcases hk with hk | hk
      · have := HH.out.lt k hk
        omega
      · exact hk.2
    · have hos := HBA.out
      refine ⟨?_, ?_, ?_, by omega, fun k hk hS => ?_, fun k hk => hk⟩
      · refine hg5.os.trans ((show W3.drew.os = W2.os by rw [hW3]; rfl).trans (hg.os.trans (HYA.out.os.trans hos.os)))
      · refine hg5.tape.trans ((show W3.drew.tape = W2.tape by rw [hW3]; rfl).trans (hg.tape.trans (HYA.out.tape.trans hos.tape)))
      · refine hg5.output.trans ((show W3.drew.output = W2.output by rw [hW3]; rfl).trans (hg.output.trans (HYA.out.output.trans hos.output)))
      · have e1 : k ≠ b := fun e => hS (e ▸ HH.out.sb)
        have e2 : k ≠ M := fun e => hS (e ▸ HH.out.sm)
        exact (k5 k (by omega) e2).trans ((k3 k e1).trans ((kk k (by omega) fun e => hS (HH.out.sr k e)).trans (hos.block k hk)))
  have m4 : w1.drew.cell? ⟨b, 4, none⟩ = some v := hX.all.2.2.2.2
  have n4 : (w1.drew.alloc (.cells #[.int .i64 r.id] 2)).cell? ⟨b, 4, none⟩ = some v := hY.all.2.2.2.2
  have KX := Lib.hid (KS.out _ HBX.out)
  have KY := Lib.hid (KS.out _ HYA.out)
  clear hX hYb hY
  have n5 : (w1.alloc (.cells #[.int .i64 r.id] 2)).drew.cell? ⟨b, 4, none⟩ = some v := n4
  go_upto_region 2 with fail
  refine wp_region_held_drew (S := fun w' => w'.cell? ⟨w.heap.size, 0, none⟩ = some (Value.pointer (some ⟨b, 0, none⟩)) ∧ w'.cell? ⟨w.heap.size + 1, 0, none⟩ = some (Value.int .i64 r.id)) (by kernel_rfl) KX.out (fun hHeld => ?_)
  refine wpAnyH_take (i := 0) (oi := _) (v := Value.pointer (some ⟨b, 0, none⟩)) rfl (by kernel_rfl) (by kernel_rfl) (by kernel_rfl) (fun _ _ _ h => h) (Or.inl ⟨by rfl, fun w' hSw => ?_⟩) hHeld ?_
  · obtain ⟨t0, t1⟩ := hSw
    go_simp
    try simp [*]
    try (intro hh; exfalso; omega)
    try omega
  try simp only [Act.put, List.setIfInBounds_toArray, List.set_cons_zero, List.set_cons_succ, List.getElem_toArray, List.getElem_cons_succ, List.getElem_cons_zero]
  refine wpAnyH_take (i := 1) (oi := _) (v := Value.pointer (some ⟨b, 0, none⟩)) rfl (by kernel_rfl) (by kernel_rfl) (by kernel_rfl) (fun _ _ _ h => h) (Or.inl ⟨by rfl, fun w' hSw => ?_⟩) hHeld ?_
  · obtain ⟨t0, t1⟩ := hSw
    go_simp
    try simp [*]
    try (intro hh; exfalso; omega)
    try omega
  try simp only [Act.put, List.setIfInBounds_toArray, List.set_cons_zero, List.set_cons_succ, List.getElem_toArray, List.getElem_cons_succ, List.getElem_cons_zero]
  refine wpAnyH_take (i := 2) (oi := _) (v := Value.pointer (some ⟨b, 0, none⟩)) rfl (by kernel_rfl) (by kernel_rfl) (by kernel_rfl) (fun _ _ _ h => h) (Or.inl ⟨by rfl, fun w' hSw => ?_⟩) hHeld ?_
  · obtain ⟨t0, t1⟩ := hSw
    go_simp
    try simp [*]
    try (intro hh; exfalso; omega)
    try omega
  try simp only [Act.put, List.setIfInBounds_toArray, List.set_cons_zero, List.set_cons_succ, List.getElem_toArray, List.getElem_cons_succ, List.getElem_cons_zero]
  refine wpAnyH_take (i := 3) (oi := _) (v := Value.pointer (some ⟨b, 4, none⟩)) rfl (by kernel_rfl) (by kernel_rfl) (by kernel_rfl) (fun _ _ _ h => h) (Or.inl ⟨by rfl, fun w' hSw => ?_⟩) hHeld ?_
  · obtain ⟨t0, t1⟩ := hSw
    go_simp
    try simp [*]
    try (intro hh; exfalso; omega)
    try omega
  try simp only [Act.put, List.setIfInBounds_toArray, List.set_cons_zero, List.set_cons_succ, List.getElem_toArray, List.getElem_cons_succ, List.getElem_cons_zero]
  refine wpAnyH_take (i := 5) (oi := _) (v := Value.int .i64 (pos : Int)) rfl (by kernel_rfl) (by kernel_rfl) (by kernel_rfl) (fun _ _ _ h => h) (Or.inl ⟨by rfl, fun w' hSw => ?_⟩) hHeld ?_
  · obtain ⟨t0, t1⟩ := hSw
    go_simp
    try simp [*]
    try (intro hh; exfalso; omega)
    try omega
  try simp only [Act.put, List.setIfInBounds_toArray, List.set_cons_zero, List.set_cons_succ, List.getElem_toArray, List.getElem_cons_succ, List.getElem_cons_zero]
  refine wpAnyH_take (i := 6) (oi := _) (v := Value.pointer (some ⟨w.heap.size + 1, 0, none⟩)) rfl (by kernel_rfl) (by kernel_rfl) (by kernel_rfl) (fun _ _ _ h => h) (Or.inl ⟨by rfl, fun w' hSw => ?_⟩) hHeld ?_
  · obtain ⟨t0, t1⟩ := hSw
    go_simp
    try simp [*]
    try (intro hh; exfalso; omega)
    try omega
  try simp only [Act.put, List.setIfInBounds_toArray, List.set_cons_zero, List.set_cons_succ, List.getElem_toArray, List.getElem_cons_succ, List.getElem_cons_zero]
  refine wpAnyH_take (i := 7) (oi := _) (v := Value.int .i64 r.id) rfl (by kernel_rfl) (by kernel_rfl) (by kernel_rfl) (fun _ _ _ h => h) (Or.inl ⟨by rfl, fun w' hSw => ?_⟩) hHeld ?_
  · obtain ⟨t0, t1⟩ := hSw
    go_simp
    try simp [*]
    try (intro hh; exfalso; omega)
    try omega
  try simp only [Act.put, List.setIfInBounds_toArray, List.set_cons_zero, List.set_cons_succ, List.getElem_toArray, List.getElem_cons_succ, List.getElem_cons_zero]
  refine wpAnyH_ready (rs := [4, 8]) (by kernel_rfl) (by simp) ?_
  refine AllReadyH.cons (o := _) rfl (fun K hK => ?_) (AllReadyH.cons (o := _) rfl (fun K hK => ?_) AllReadyH.nil)
  · go_simp
    clear hHeld
    refine hK.out _ _ KX.out (fun hHeld => ?_)
    clear hK K
    try simp only [Act.put, List.setIfInBounds_toArray, List.set_cons_zero, List.set_cons_succ, List.getElem_toArray, List.getElem_cons_succ, List.getElem_cons_zero]
    refine wpAnyH_ready (rs := [8]) (by kernel_rfl) (by simp) ?_
    refine AllReadyH.cons (o := _) rfl (fun K hK => ?_) AllReadyH.nil
    go_simp
    clear hHeld
    refine hK.out _ _ KY.out (fun hHeld => ?_)
    clear hK K
    try simp only [Act.put, List.setIfInBounds_toArray, List.set_cons_zero, List.set_cons_succ, List.getElem_toArray, List.getElem_cons_succ, List.getElem_cons_zero]
    refine wpAnyH_ready (rs := [9]) (by kernel_rfl) (by simp) ?_
    refine AllReadyH.cons (o := _) rfl (fun K hK => ?_) AllReadyH.nil
    go_simp
    go_at_call 86
    refine Calls.mono CI ?_
    rintro e W2 ⟨v', S', rfl, hS2, hS2', ⟨x4, y4⟩, hS3, W5, hrun, hS5, hEnd⟩
    obtain ⟨p5, c5, rfl, -⟩ := own_slice hEnd.1.row
    have HEND := Lib.hid hEnd
    have HS2' := Lib.hid hS2'
    have HS3 := Lib.hid hS3
    have HS5 := Lib.hid hS5
    clear hS2' hS3 hS5 hEnd
    clear hHeld
    refine hK.out _ _ hS2 (fun hHeld => ?_)
    clear hK K
    try simp only [Act.put, List.setIfInBounds_toArray, List.set_cons_zero, List.set_cons_succ, List.getElem_toArray, List.getElem_cons_succ, List.getElem_cons_zero]
    refine wpAnyH_take (i := 10) (oi := _) (v := Value.pointer (some ⟨b, 0, none⟩)) rfl (by kernel_rfl) (by kernel_rfl) (by kernel_rfl) (fun _ _ _ h => h) (Or.inl ⟨by rfl, fun w' hSw => ?_⟩) hHeld ?_
    · obtain ⟨t0, t1⟩ := hSw
      go_simp
      try simp [*]
      try (intro hh; exfalso; omega)
      try omega
    try simp only [Act.put, List.setIfInBounds_toArray, List.set_cons_zero, List.set_cons_succ, List.getElem_toArray, List.getElem_cons_succ, List.getElem_cons_zero]
    refine wpAnyH_take (i := 11) (oi := _) (v := Value.pointer (some ⟨b, 4, none⟩)) rfl (by kernel_rfl) (by kernel_rfl) (by kernel_rfl) (fun _ _ _ h => h) (Or.inl ⟨by rfl, fun w' hSw => ?_⟩) hHeld ?_
    · obtain ⟨t0, t1⟩ := hSw
      go_simp
      try simp [*]
      try (intro hh; exfalso; omega)
      try omega
    try simp only [Act.put, List.setIfInBounds_toArray, List.set_cons_zero, List.set_cons_succ, List.getElem_toArray, List.getElem_cons_succ, List.getElem_cons_zero]
    refine wpAnyH_ready (rs := [12]) (by kernel_rfl) (by simp) ?_
    refine AllReadyH.cons (o := _) rfl (fun K hK => ?_) AllReadyH.nil
    go_simp
    clear hHeld
    refine hK.out _ _ HS2'.out (fun hHeld => ?_)
    clear hK K
    try simp only [Act.put, List.setIfInBounds_toArray, List.set_cons_zero, List.set_cons_succ, List.getElem_toArray, List.getElem_cons_succ, List.getElem_cons_zero]
    refine wpAnyH_done (by kernel_rfl) ?_ _
    clear hHeld
    go_upto_region 3 with fail
    refine wp_region_held_drew (S := fun w' => w'.cell? ⟨w.heap.size, 0, none⟩ = some (Value.pointer (some ⟨b, 0, none⟩)) ∧ w'.cell? ⟨b, 3, none⟩ = some (Value.map (some M)) ∧ w'.cell? ⟨w.heap.size + 1, 0, none⟩ = some (Value.int .i64 r.id) ∧ w'.cell? ⟨w.heap.size + 1, 1, none⟩ = some (Value.int .i64 r.cls) ∧ w'.cell? ⟨w.heap.size + 1, 2, none⟩ = some (Value.int .i64 r.made) ∧ w'.cell? ⟨w.heap.size + 1, 3, none⟩ = some (Value.int .i64 r.size) ∧ w'.cell? ⟨w.heap.size + 1, 4, none⟩ = some (Value.int .i64 r.packed)) (by kernel_rfl) HS3.out (fun hHeld => ?_)
    refine wpAnyH_take (i := 0) (oi := _) (v := Value.pointer (some ⟨b, 0, none⟩)) rfl (by kernel_rfl) (by kernel_rfl) (by kernel_rfl) (fun _ _ _ h => h) (Or.inl ⟨by rfl, fun w' hSw => ?_⟩) hHeld ?_
    · obtain ⟨t0, t1, t2, t3, t4, t5, t6⟩ := hSw
      go_simp
      try simp [*]
      try (intro hh; exfalso; omega)
      try omega
    try simp only [Act.put, List.setIfInBounds_toArray, List.set_cons_zero, List.set_cons_succ, List.getElem_toArray, List.getElem_cons_succ, List.getElem_cons_zero]
    refine wpAnyH_take (i := 1) (oi := _) (v := Value.pointer (some ⟨b, 0, none⟩)) rfl (by kernel_rfl) (by kernel_rfl) (by kernel_rfl) (fun _ _ _ h => h) (Or.inl ⟨by rfl, fun w' hSw => ?_⟩) hHeld ?_
    · obtain ⟨t0, t1, t2, t3, t4, t5, t6⟩ := hSw
      go_simp
      try simp [*]
      try (intro hh; exfalso; omega)
      try omega
    try simp only [Act.put, List.setIfInBounds_toArray, List.set_cons_zero, List.set_cons_succ, List.getElem_toArray, List.getElem_cons_succ, List.getElem_cons_zero]
    refine wpAnyH_take (i := 2) (oi := _) (v := Value.pointer (some ⟨b, 3, none⟩)) rfl (by kernel_rfl) (by kernel_rfl) (by kernel_rfl) (fun _ _ _ h => h) (Or.inl ⟨by rfl, fun w' hSw => ?_⟩) hHeld ?_
    · obtain ⟨t0, t1, t2, t3, t4, t5, t6⟩ := hSw
      go_simp
      try simp [*]
      try (intro hh; exfalso; omega)
      try omega
    try simp only [Act.put, List.setIfInBounds_toArray, List.set_cons_zero, List.set_cons_succ, List.getElem_toArray, List.getElem_cons_succ, List.getElem_cons_zero]
    refine wpAnyH_take (i := 3) (oi := _) (v := Value.map (some M)) rfl (by kernel_rfl) (by kernel_rfl) (by kernel_rfl) (fun _ _ _ h => h) (Or.inl ⟨by rfl, fun w' hSw => ?_⟩) hHeld ?_
    · obtain ⟨t0, t1, t2, t3, t4, t5, t6⟩ := hSw
      go_simp
      try simp [*]
      try (intro hh; exfalso; omega)
      try omega
    try simp only [Act.put, List.setIfInBounds_toArray, List.set_cons_zero, List.set_cons_succ, List.getElem_toArray, List.getElem_cons_succ, List.getElem_cons_zero]
    refine wpAnyH_take (i := 4) (oi := _) (v := Value.pointer (some ⟨w.heap.size + 1, 0, none⟩)) rfl (by kernel_rfl) (by kernel_rfl) (by kernel_rfl) (fun _ _ _ h => h) (Or.inl ⟨by rfl, fun w' hSw => ?_⟩) hHeld ?_
    · obtain ⟨t0, t1, t2, t3, t4, t5, t6⟩ := hSw
      go_simp
      try simp [*]
      try (intro hh; exfalso; omega)
      try omega
    try simp only [Act.put, List.setIfInBounds_toArray, List.set_cons_zero, List.set_cons_succ, List.getElem_toArray, List.getElem_cons_succ, List.getElem_cons_zero]
    refine wpAnyH_take (i := 5) (oi := _) (v := Value.int .i64 r.id) rfl (by kernel_rfl) (by kernel_rfl) (by kernel_rfl) (fun _ _ _ h => h) (Or.inl ⟨by rfl, fun w' hSw => ?_⟩) hHeld ?_
    · obtain ⟨t0, t1, t2, t3, t4, t5, t6⟩ := hSw
      go_simp
      try simp [*]
      try (intro hh; exfalso; omega)
      try omega
    try simp only [Act.put, List.setIfInBounds_toArray, List.set_cons_zero, List.set_cons_succ, List.getElem_toArray, List.getElem_cons_succ, List.getElem_cons_zero]
    refine wpAnyH_take (i := 6) (oi := _) (v := Value.agg #[.int .i64 r.id, .int .i64 r.cls, .int .i64 r.made, .int .i64 r.size, .int .i64 r.packed]) rfl (by kernel_rfl) (by kernel_rfl) (by kernel_rfl) (fun _ _ _ h => h) (Or.inl ⟨by rfl, fun w' hSw => ?_⟩) hHeld ?_
    · obtain ⟨t0, t1, t2, t3, t4, t5, t6⟩ := hSw
      go_simp
      try simp [*]
      try (intro hh; exfalso; omega)
      try omega
    try simp only [Act.put, List.setIfInBounds_toArray, List.set_cons_zero, List.set_cons_succ, List.getElem_toArray, List.getElem_cons_succ, List.getElem_cons_zero]
    refine wpAnyH_take (i := 7) (oi := _) (v := Value.agg #[.int .i64 r.id, .int .i64 r.cls, .int .i64 r.made, .int .i64 r.size, .int .i64 r.packed, .bool false, .int .i64 (-1)]) rfl (by kernel_rfl) (by kernel_rfl) (by kernel_rfl) (fun _ _ _ h => h) (Or.inl ⟨by rfl, fun w' hSw => ?_⟩) hHeld ?_
    · obtain ⟨t0, t1, t2, t3, t4, t5, t6⟩ := hSw
      go_simp
      try simp [*]
      try (intro hh; exfalso; omega)
      try omega
    try simp only [Act.put, List.setIfInBounds_toArray, List.set_cons_zero, List.set_cons_succ, List.getElem_toArray, List.getElem_cons_succ, List.getElem_cons_zero]
    refine wpAnyH_ready (rs := [8]) (by kernel_rfl) (by simp) ?_
    refine AllReadyH.cons (o := _) rfl (fun K hK => ?_) AllReadyH.nil
    go_simp
    clear hHeld
    refine hK.out _ _ HS5.out (fun hHeld => ?_)
    clear hK K
    try simp only [Act.put, List.setIfInBounds_toArray, List.set_cons_zero, List.set_cons_succ, List.getElem_toArray, List.getElem_cons_succ, List.getElem_cons_zero]
    refine wpAnyH_done (by kernel_rfl) ?_ _
    clear hHeld
    go_wp2_with fail
    refine bodyPost_end (results_none rfl _ _ _) rfl ?_
    exact ⟨_, _, rfl, HEND.out⟩
  · go_simp
    clear hHeld
    refine hK.out _ _ KY.out (fun hHeld => ?_)
    clear hK K
    try simp only [Act.put, List.setIfInBounds_toArray, List.set_cons_zero, List.set_cons_succ, List.getElem_toArray, List.getElem_cons_succ, List.getElem_cons_zero]
    refine wpAnyH_ready (rs := [4]) (by kernel_rfl) (by simp) ?_
    refine AllReadyH.cons (o := _) rfl (fun K hK => ?_) AllReadyH.nil
    go_simp
    clear hHeld
    refine hK.out _ _ KY.out (fun hHeld => ?_)
    clear hK K
    try simp only [Act.put, List.setIfInBounds_toArray, List.set_cons_zero, List.set_cons_succ, List.getElem_toArray, List.getElem_cons_succ, List.getElem_cons_zero]
    refine wpAnyH_ready (rs := [9]) (by kernel_rfl) (by simp) ?_
    refine AllReadyH.cons (o := _) rfl (fun K hK => ?_) AllReadyH.nil
    go_simp
    go_at_call 86
    refine Calls.mono CI ?_
    rintro e W2 ⟨v', S', rfl, hS2, hS2', ⟨x4, y4⟩, hS3, W5, hrun, hS5, hEnd⟩
    obtain ⟨p5, c5, rfl, -⟩ := own_slice hEnd.1.row
    have HEND := Lib.hid hEnd
    have HS2' := Lib.hid hS2'
    have HS3 := Lib.hid hS3
    have HS5 := Lib.hid hS5
    clear hS2' hS3 hS5 hEnd
    clear hHeld
    refine hK.out _ _ hS2 (fun hHeld => ?_)
    clear hK K
    try simp only [Act.put, List.setIfInBounds_toArray, List.set_cons_zero, List.set_cons_succ, List.getElem_toArray, List.getElem_cons_succ, List.getElem_cons_zero]
    refine wpAnyH_take (i := 10) (oi := _) (v := Value.pointer (some ⟨b, 0, none⟩)) rfl (by kernel_rfl) (by kernel_rfl) (by kernel_rfl) (fun _ _ _ h => h) (Or.inl ⟨by rfl, fun w' hSw => ?_⟩) hHeld ?_
    · obtain ⟨t0, t1⟩ := hSw
      go_simp
      try simp [*]
      try (intro hh; exfalso; omega)
      try omega
    try simp only [Act.put, List.setIfInBounds_toArray, List.set_cons_zero, List.set_cons_succ, List.getElem_toArray, List.getElem_cons_succ, List.getElem_cons_zero]
    refine wpAnyH_take (i := 11) (oi := _) (v := Value.pointer (some ⟨b, 4, none⟩)) rfl (by kernel_rfl) (by kernel_rfl) (by kernel_rfl) (fun _ _ _ h => h) (Or.inl ⟨by rfl, fun w' hSw => ?_⟩) hHeld ?_
    · obtain ⟨t0, t1⟩ := hSw
      go_simp
      try simp [*]
      try (intro hh; exfalso; omega)
      try omega
    try simp only [Act.put, List.setIfInBounds_toArray, List.set_cons_zero, List.set_cons_succ, List.getElem_toArray, List.getElem_cons_succ, List.getElem_cons_zero]
    refine wpAnyH_ready (rs := [12]) (by kernel_rfl) (by simp) ?_
    refine AllReadyH.cons (o := _) rfl (fun K hK => ?_) AllReadyH.nil
    go_simp
    clear hHeld
    refine hK.out _ _ HS2'.out (fun hHeld => ?_)
    clear hK K
    try simp only [Act.put, List.setIfInBounds_toArray, List.set_cons_zero, List.set_cons_succ, List.getElem_toArray, List.getElem_cons_succ, List.getElem_cons_zero]
    refine wpAnyH_done (by kernel_rfl) ?_ _
    clear hHeld
    go_upto_region 3 with fail
    refine wp_region_held_drew (S := fun w' => w'.cell? ⟨w.heap.size, 0, none⟩ = some (Value.pointer (some ⟨b, 0, none⟩)) ∧ w'.cell? ⟨b, 3, none⟩ = some (Value.map (some M)) ∧ w'.cell? ⟨w.heap.size + 1, 0, none⟩ = some (Value.int .i64 r.id) ∧ w'.cell? ⟨w.heap.size + 1, 1, none⟩ = some (Value.int .i64 r.cls) ∧ w'.cell? ⟨w.heap.size + 1, 2, none⟩ = some (Value.int .i64 r.made) ∧ w'.cell? ⟨w.heap.size + 1, 3, none⟩ = some (Value.int .i64 r.size) ∧ w'.cell? ⟨w.heap.size + 1, 4, none⟩ = some (Value.int .i64 r.packed)) (by kernel_rfl) HS3.out (fun hHeld => ?_)
    refine wpAnyH_take (i := 0) (oi := _) (v := Value.pointer (some ⟨b, 0, none⟩)) rfl (by kernel_rfl) (by kernel_rfl) (by kernel_rfl) (fun _ _ _ h => h) (Or.inl ⟨by rfl, fun w' hSw => ?_⟩) hHeld ?_
    · obtain ⟨t0, t1, t2, t3, t4, t5, t6⟩ := hSw
      go_simp
      try simp [*]
      try (intro hh; exfalso; omega)
      try omega
    try simp only [Act.put, List.setIfInBounds_toArray, List.set_cons_zero, List.set_cons_succ, List.getElem_toArray, List.getElem_cons_succ, List.getElem_cons_zero]
    refine wpAnyH_take (i := 1) (oi := _) (v := Value.pointer (some ⟨b, 0, none⟩)) rfl (by kernel_rfl) (by kernel_rfl) (by kernel_rfl) (fun _ _ _ h => h) (Or.inl ⟨by rfl, fun w' hSw => ?_⟩) hHeld ?_
    · obtain ⟨t0, t1, t2, t3, t4, t5, t6⟩ := hSw
      go_simp
      try simp [*]
      try (intro hh; exfalso; omega)
      try omega
    try simp only [Act.put, List.setIfInBounds_toArray, List.set_cons_zero, List.set_cons_succ, List.getElem_toArray, List.getElem_cons_succ, List.getElem_cons_zero]
    refine wpAnyH_take (i := 2) (oi := _) (v := Value.pointer (some ⟨b, 3, none⟩)) rfl (by kernel_rfl) (by kernel_rfl) (by kernel_rfl) (fun _ _ _ h => h) (Or.inl ⟨by rfl, fun w' hSw => ?_⟩) hHeld ?_
    · obtain ⟨t0, t1, t2, t3, t4, t5, t6⟩ := hSw
      go_simp
      try simp [*]
      try (intro hh; exfalso; omega)
      try omega
    try simp only [Act.put, List.setIfInBounds_toArray, List.set_cons_zero, List.set_cons_succ, List.getElem_toArray, List.getElem_cons_succ, List.getElem_cons_zero]
    refine wpAnyH_take (i := 3) (oi := _) (v := Value.map (some M)) rfl (by kernel_rfl) (by kernel_rfl) (by kernel_rfl) (fun _ _ _ h => h) (Or.inl ⟨by rfl, fun w' hSw => ?_⟩) hHeld ?_
    · obtain ⟨t0, t1, t2, t3, t4, t5, t6⟩ := hSw
      go_simp
      try simp [*]
      try (intro hh; exfalso; omega)
      try omega
    try simp only [Act.put, List.setIfInBounds_toArray, List.set_cons_zero, List.set_cons_succ, List.getElem_toArray, List.getElem_cons_succ, List.getElem_cons_zero]
    refine wpAnyH_take (i := 4) (oi := _) (v := Value.pointer (some ⟨w.heap.size + 1, 0, none⟩)) rfl (by kernel_rfl) (by kernel_rfl) (by kernel_rfl) (fun _ _ _ h => h) (Or.inl ⟨by rfl, fun w' hSw => ?_⟩) hHeld ?_
    · obtain ⟨t0, t1, t2, t3, t4, t5, t6⟩ := hSw
      go_simp
      try simp [*]
      try (intro hh; exfalso; omega)
      try omega
    try simp only [Act.put, List.setIfInBounds_toArray, List.set_cons_zero, List.set_cons_succ, List.getElem_toArray, List.getElem_cons_succ, List.getElem_cons_zero]
    refine wpAnyH_take (i := 5) (oi := _) (v := Value.int .i64 r.id) rfl (by kernel_rfl) (by kernel_rfl) (by kernel_rfl) (fun _ _ _ h => h) (Or.inl ⟨by rfl, fun w' hSw => ?_⟩) hHeld ?_
    · obtain ⟨t0, t1, t2, t3, t4, t5, t6⟩ := hSw
      go_simp
      try simp [*]
      try (intro hh; exfalso; omega)
      try omega
    try simp only [Act.put, List.setIfInBounds_toArray, List.set_cons_zero, List.set_cons_succ, List.getElem_toArray, List.getElem_cons_succ, List.getElem_cons_zero]
    refine wpAnyH_take (i := 6) (oi := _) (v := Value.agg #[.int .i64 r.id, .int .i64 r.cls, .int .i64 r.made, .int .i64 r.size, .int .i64 r.packed]) rfl (by kernel_rfl) (by kernel_rfl) (by kernel_rfl) (fun _ _ _ h => h) (Or.inl ⟨by rfl, fun w' hSw => ?_⟩) hHeld ?_
    · obtain ⟨t0, t1, t2, t3, t4, t5, t6⟩ := hSw
      go_simp
      try simp [*]
      try (intro hh; exfalso; omega)
      try omega
    try simp only [Act.put, List.setIfInBounds_toArray, List.set_cons_zero, List.set_cons_succ, List.getElem_toArray, List.getElem_cons_succ, List.getElem_cons_zero]
    refine wpAnyH_take (i := 7) (oi := _) (v := Value.agg #[.int .i64 r.id, .int .i64 r.cls, .int .i64 r.made, .int .i64 r.size, .int .i64 r.packed, .bool false, .int .i64 (-1)]) rfl (by kernel_rfl) (by kernel_rfl) (by kernel_rfl) (fun _ _ _ h => h) (Or.inl ⟨by rfl, fun w' hSw => ?_⟩) hHeld ?_
    · obtain ⟨t0, t1, t2, t3, t4, t5, t6⟩ := hSw
      go_simp
      try simp [*]
      try (intro hh; exfalso; omega)
      try omega
    try simp only [Act.put, List.setIfInBounds_toArray, List.set_cons_zero, List.set_cons_succ, List.getElem_toArray, List.getElem_cons_succ, List.getElem_cons_zero]
    refine wpAnyH_ready (rs := [8]) (by kernel_rfl) (by simp) ?_
    refine AllReadyH.cons (o := _) rfl (fun K hK => ?_) AllReadyH.nil
    go_simp
    clear hHeld
    refine hK.out _ _ HS5.out (fun hHeld => ?_)
    clear hK K
    try simp only [Act.put, List.setIfInBounds_toArray, List.set_cons_zero, List.set_cons_succ, List.getElem_toArray, List.getElem_cons_succ, List.getElem_cons_zero]
    refine wpAnyH_done (by kernel_rfl) ?_ _
    clear hHeld
    go_wp2_with fail
    refine bodyPost_end (results_none rfl _ _ _) rfl ?_
    exact ⟨_, _, rfl, HEND.out⟩

end Go.Proofs.Ytbbaehmfadpgeaa

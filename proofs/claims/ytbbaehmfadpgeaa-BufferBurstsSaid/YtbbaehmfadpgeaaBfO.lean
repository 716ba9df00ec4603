/-
  Buffers: the bytes in use.
-/
import Derived.Test.YtbbaehmfadpgeaaBfN
import Derived.Test.YtbbaehmfadpgeaaBfR
namespace Go.Proofs.Ytbbaehmfadpgeaa
open Go.RowKit Go.Shelf
set_option linter.unusedSimpArgs false
attribute [local go_sem] Oper.semAt_some
/-- between two rounds: the sum so far -/
def UsI (n₀ Z : Nat) (w : World) {L : List Hd} (pre : List {x // x ∈ L}) (W : World) : Prop :=
  W.heap[n₀]? = some (.cells #[.int .i64 (usL (pre.map (·.1)))] 2 (0, 0)) ∧ Below n₀ w W ∧ Z ≤ W.heap.size
theorem UsI.own {n₀ Z B : Nat} {w : World} {L : List Hd} (hB : n₀ < B) : OwnFrom B (UsI n₀ Z w (L := L)) := by
  intro pre A B row hs hg hr
  exact ⟨cell_kept hg hr hs.1, hs.2.1.grown hg (by have := (Array.getElem?_eq_some_iff.1 hs.1).1; omega) (fun r e => by have := (hr r e).1; omega), Nat.le_trans hs.2.2 hg.size⟩
theorem usL_pre {L : List Hd} (hok : ∀ x ∈ L, OkR x.r) (pre : List {x // x ∈ L}) (hp : pre.length < 1000) : 0 ≤ usL (pre.map (·.1)) ∧ usL (pre.map (·.1)) ≤ 16777216000 := by
  have := usL_bd (L := pre.map (·.1)) (fun x hx => by obtain ⟨y, _, rfl⟩ := List.mem_map.1 hx; exact hok _ y.2)
  rw [List.length_map] at this
  omega
set_option maxRecDepth 100000 in
set_option maxHeartbeats 4000000 in
theorem used_any {S : Nat → Prop} {b M : Nat} {v : Value} {cap time : Int} {L : List Hd} (w : World) (h : BufAt w S b M v cap time L) (hlen : L.length ≤ 1000) :
    Calls Try.prog 59 #[.pointer (some ⟨b, 0, none⟩)] w fun e w' => e = .returned (.int .i64 (usL L)) ∧ Below w.heap.size w w' := by
  have HOK := Lib.hid h.ok
  have HPRE := Lib.hid (fun pre hp => usL_pre h.ok pre hp)
  have HBY := Lib.hid (show ∀ x ∈ L, 0 ≤ byH x ∧ byH x ≤ 16777216 from fun x hx => by
    have h2 := h.ok x hx
    unfold OkR at h2
    unfold byH
    split <;> omega)
  refine (callsIn_wide (n := 9)).1 (callsIn_of_wp_marks Try.func59 rfl trivial ?_ rfl)
  simp only [Try.ntmps59, List.size_toArray, List.length_cons, List.length_nil, Nat.reduceAdd, Nat.reduceSub, Array.replicate_succ, Array.replicate_zero, List.push_toArray, List.append_toArray, List.nil_append, List.cons_append]
  gi_wp2
  refine ⟨trivial, ?_⟩
  refine (callsIn_wide.2 (ranked_any b _)).mono ?_
  rintro e w1 ⟨rfl, rfl⟩
  obtain ⟨W5, hW5⟩ : ∃ W5, W5 = (w.alloc (.cells #[.int .i64 0] 2)).alloc (.cells #[.pointer (some ⟨b, 0, none⟩)] 27) := ⟨_, rfl⟩
  have hb5 : Below w.heap.size w W5 := by rw [hW5]; exact (((Below.refl _ _).alloc (Nat.le_refl _) _).alloc (by simp) _)
  have hz5 : W5.heap.size = w.heap.size + 2 := by rw [hW5]; simp
  have h05 : W5.heap[w.heap.size]? = some (.cells #[.int .i64 0] 2 (0, 0)) := by rw [hW5]; exact (Below.heap_alloc _ _ _ (by simp)).trans (World.alloc_heap_new w _)
  have h15 : W5.heap[w.heap.size + 1]? = some (.cells #[.pointer (some ⟨b, 0, none⟩)] 27 (0, 0)) := by
    rw [hW5]
    have q := World.alloc_heap_new (w.alloc (.cells #[.int .i64 0] 2)) (.cells #[.pointer (some ⟨b, 0, none⟩)] 27)
    simpa using q
  have hB5 := h.below hb5
  have hseq := rank_buf (9 - 1) (by omega) (w.heap.size + 1) W5 hB5 hlen (by omega) ((cellH h15 0).trans (by simp))
  have HLT := Lib.hid h.lt
  gi_wp2
  rw [← hW5]
  clear hW5 hB5
  have HZ5 := Lib.hid hz5
  have HW := Lib.hid (show ∀ q, (q = w.heap.size + 1 ∨ S q) → q < W5.heap.size ∧ q ≠ w.heap.size from fun q hq => by
    rcases hq with rfl | hq
    · omega
    · have := HLT.out q hq; omega)
  refine wpIn_rangeFunc_ownH rfl (by omega) (gf := 94) (lb := #[.pointer (some ⟨w.heap.size + 1, 0, none⟩)]) rfl trivial (enters_of Try.func94 (by kernel_rfl) rfl) hseq (fun h1 h2 => h1.trans h2) (fun W l o o' hl _ _ _ q hq => World.putObj_heap_other (by have := (HW.out q hq).1; omega)) (Below.refl _ _) (fun _ => rfl)
    (UsI w.heap.size W5.heap.size w) (fun _ _ _ => False) (UsI.own (by omega)) (fun _ _ _ _ _ hs _ _ => hs) ⟨h05, hb5, Nat.le_refl _⟩
    (fun x a' W => ∃ Bx, W5.heap.size ≤ Bx ∧ BxH W Bx x.1 ∧ a' = { tmps := #[.pointer (some ⟨b, 0, none⟩), undef, .int .i64 0, .pointer (some ⟨w.heap.size, 0, none⟩), .pointer (some ⟨Bx, 0, none⟩), .pointer (some ⟨b, 0, none⟩), .func (.func 94) #[] #[.pointer (some ⟨w.heap.size + 1, 0, none⟩)], vH x.1, undef, undef, undef, undef, undef], defers := [] })
    (fun x a' _ X Y row hs hg hr => by obtain ⟨Bx, h1, h2, h3⟩ := hs; exact ⟨Bx, h1, cell_kept hg hr h2, h3⟩)
    ?assign ?body ?done ?stop
  case assign =>
    rintro l pre x W K ⟨hi, hB, hZ⟩ hK
    have hz := hB.size
    have hi0 := (Array.getElem?_eq_some_iff.1 hi).1
    unfold vH at *
    gi_wp2
    exact hK _ _ ((KeepsOthers.alloc _ _).from _) (fun q hq => Below.heap_alloc _ _ _ (by have := (HW.out q hq).1; omega)) ⟨(Below.heap_alloc _ _ _ hi0).trans hi, hB.alloc hB.size _, by simp; omega⟩ ⟨W.heap.size, hZ, BxH.new W _, rfl⟩
  case body =>
    rintro l pre ⟨x, hx⟩ a' W hl ⟨r0, hr0⟩ ⟨hi, hB, hZ⟩ ⟨Bx, hBx, bX, rfl⟩ hlt
    have hby := HBY.out x hx
    have hpre := HPRE.out pre hlt
    have HSN := Lib.hid (show usL ((pre ++ [(⟨x, hx⟩ : {x // x ∈ L})]).map (·.1)) = usL (pre.map (·.1)) + byH x by rw [List.map_append]; exact usL_snoc _ _)
    generalize usL (pre.map (·.1)) = n at *
    have cB := fun W => bytesOf_any x W
    unfold vH at cB
    have HI := Lib.hid hi
    have HB := Lib.hid hB
    have HX := Lib.hid bX
    have hNW : w.heap.size < W.heap.size := (Array.getElem?_eq_some_iff.1 hi).1
    have u0 : W.cell? ⟨w.heap.size, 0, none⟩ = some (.int .i64 n) := (cellH hi 0).trans (by simp)
    have uf0 : W.frozen? ⟨w.heap.size, 0, none⟩ = false := frozH hi 0
    have hBn : Bx ≠ w.heap.size := by have := HZ5.out; omega
    have hnB : w.heap.size ≠ Bx := fun e => hBn e.symm
    have KS := Lib.hid (show ∀ W1, Below W.heap.size W W1 → W1.cell? ⟨Bx, 0, none⟩ = some (Value.int .i64 x.r.id) ∧ W1.cell? ⟨Bx, 1, none⟩ = some (Value.int .i64 x.r.cls) ∧ W1.cell? ⟨Bx, 2, none⟩ = some (Value.int .i64 x.r.made) ∧ W1.cell? ⟨Bx, 3, none⟩ = some (Value.int .i64 x.r.size) ∧ W1.cell? ⟨Bx, 4, none⟩ = some (Value.int .i64 x.r.packed) ∧ W1.cell? ⟨Bx, 5, none⟩ = some (Value.bool x.small) ∧ W1.cell? ⟨Bx, 6, none⟩ = some (Value.int .i64 x.sent) from fun W1 h => by
      have q := HX.out.keep h
      exact ⟨(cellH q 0).trans (by simp), (cellH q 1).trans (by simp), (cellH q 2).trans (by simp), (cellH q 3).trans (by simp), (cellH q 4).trans (by simp), (cellH q 5).trans (by simp), (cellH q 6).trans (by simp)⟩)
    clear hi hB bX hseq h05 h15 hr0
    unfold vH
    have hw : IntKind.i64.wrap (n + byH x) = n + byH x := by rw [IntKind.wrap_i64]; omega
    gi_wp2
    refine wpIn_round_held (S := fun w' => w'.cell? ⟨Bx, 0, none⟩ = some (Value.int .i64 x.r.id) ∧ w'.cell? ⟨Bx, 1, none⟩ = some (Value.int .i64 x.r.cls) ∧ w'.cell? ⟨Bx, 2, none⟩ = some (Value.int .i64 x.r.made) ∧ w'.cell? ⟨Bx, 3, none⟩ = some (Value.int .i64 x.r.size) ∧ w'.cell? ⟨Bx, 4, none⟩ = some (Value.int .i64 x.r.packed) ∧ w'.cell? ⟨Bx, 5, none⟩ = some (Value.bool x.small) ∧ w'.cell? ⟨Bx, 6, none⟩ = some (Value.int .i64 x.sent)) (by kernel_rfl) (by kernel_rfl) (by rintro ⟨_, _, q⟩; exact q) (KS.out _ (Below.refl _ _).drew) (fun hHeld => ?_)
    refine wpAnyH_take (i := 1) (oi := _) (v := Value.agg #[Value.int .i64 x.r.id, Value.int .i64 x.r.cls, Value.int .i64 x.r.made, Value.int .i64 x.r.size, Value.int .i64 x.r.packed, Value.bool x.small, Value.int .i64 x.sent]) rfl (by kernel_rfl) (by kernel_rfl) (by kernel_rfl) (fun _ _ _ h => h) (Or.inl ⟨by rfl, fun w' hSw => ?_⟩) hHeld ?_
    · obtain ⟨t0, t1, t2, t3, t4, t5, t6⟩ := hSw
      go_simp
      try simp [*]
      try (intro hh; exfalso; omega)
      try omega
    try simp only [Act.put, List.setIfInBounds_toArray, List.set_cons_zero, List.set_cons_succ, List.getElem_toArray, List.getElem_cons_succ, List.getElem_cons_zero]
    refine wpAnyH_ready (rs := [0, 2]) (by kernel_rfl) (by simp) ?_
    refine AllReadyH.cons (o := _) rfl (fun K hK => ?_) (AllReadyH.cons (o := _) rfl (fun K hK => ?_) (AllReadyH.nil))
    · go_simp
      clear hHeld
      refine hK.out _ _ (KS.out _ (Below.refl _ _).drew) (fun hHeld => ?_)
      clear hK K
      try simp only [Act.put, List.setIfInBounds_toArray, List.set_cons_zero, List.set_cons_succ, List.getElem_toArray, List.getElem_cons_succ, List.getElem_cons_zero]
      refine wpAnyH_ready (rs := [2]) (by kernel_rfl) (by simp) ?_
      refine AllReadyH.cons (o := _) rfl (fun K hK => ?_) (AllReadyH.nil)
      go_simp
      go_at_call 87
      refine Calls.mono (cB _) ?_
      rintro e v1 ⟨rfl, hb⟩
      have HV1 := Lib.hid (show Below W.heap.size W v1 from Below.trans ((Below.refl W.heap.size W).drew) hb)
      have u1 := (HV1.out.cell (p := ⟨w.heap.size, 0, none⟩) hNW).trans u0
      have uf1 := (HV1.out.frozen (p := ⟨w.heap.size, 0, none⟩) hNW).trans uf0
      clear hb
      clear hHeld
      refine hK.out _ _ (KS.out _ HV1.out) (fun hHeld => ?_)
      clear hK K
      try simp only [Act.put, List.setIfInBounds_toArray, List.set_cons_zero, List.set_cons_succ, List.getElem_toArray, List.getElem_cons_succ, List.getElem_cons_zero]
      refine wpAnyH_take (i := 3) (oi := _) (v := Value.int .i64 (n + byH x)) rfl (by kernel_rfl) (by kernel_rfl) (by kernel_rfl) (fun _ _ _ h => h) (Or.inl ⟨by rfl, fun w' hSw => ?_⟩) hHeld ?_
      · obtain ⟨t0, t1, t2, t3, t4, t5, t6⟩ := hSw
        go_simp
        try simp [*]
        try (intro hh; exfalso; omega)
        try omega
      try simp only [Act.put, List.setIfInBounds_toArray, List.set_cons_zero, List.set_cons_succ, List.getElem_toArray, List.getElem_cons_succ, List.getElem_cons_zero]
      obtain ⟨r0, r1, r2, r3, r4, r5, r6⟩ := KS.out _ HV1.out
      refine wpAnyH_ready (rs := [4]) (by kernel_rfl) (by simp) ?_
      refine AllReadyH.cons (o := _) rfl (fun K hK => ?_) (AllReadyH.nil)
      go_simp
      clear hHeld
      refine hK.out _ _ ⟨by simp [go_sem, *], by simp [go_sem, *], by simp [go_sem, *], by simp [go_sem, *], by simp [go_sem, *], by simp [go_sem, *], by simp [go_sem, *]⟩ (fun hHeld => ?_)
      clear hK K
      try simp only [Act.put, List.setIfInBounds_toArray, List.set_cons_zero, List.set_cons_succ, List.getElem_toArray, List.getElem_cons_succ, List.getElem_cons_zero]
      refine wpAnyH_done (by kernel_rfl) ?_ _
      clear hHeld
      gi_wp2
      have hko : KeepsOthers W v1 := ⟨HV1.out.size, fun k o hk ho => (HV1.out.block k (Array.getElem?_eq_some_iff.1 hk).1).trans hk⟩
      have hfar : ∀ q, q < W.heap.size → q ≠ w.heap.size → (v1.setCell ⟨w.heap.size, 0, none⟩ (.int .i64 (n + byH x))).heap[q]? = W.heap[q]? := fun q hq hne => (Below.heap_setCell _ _ _ _ hne).trans (HV1.out.block q hq)
      refine ⟨(hko.trans (KeepsOthers.setCell _ _ _)).from _, fun q hq => ?_, ?_, ?_, ?_⟩
      · have h3 := HW.out q hq
        exact hfar q (by omega) h3.2
      · rw [HSN.out]
        show (v1.setCell _ _).heap[w.heap.size]? = _
        rw [heap_setCell_same _ _ _ _ _ _ ((HV1.out.block w.heap.size hNW).trans HI.out)]
        rfl
      · exact (HB.out.trans (HV1.out.mono HB.out.size)).setCell (p := ⟨w.heap.size, 0, none⟩) (Nat.le_refl _) _
      · have := HV1.out.size
        simp; omega
    · go_simp
      go_at_call 87
      refine Calls.mono (cB _) ?_
      rintro e v1 ⟨rfl, hb⟩
      have HV1 := Lib.hid (show Below W.heap.size W v1 from Below.trans ((Below.refl W.heap.size W).drew) hb)
      have u1 := (HV1.out.cell (p := ⟨w.heap.size, 0, none⟩) hNW).trans u0
      have uf1 := (HV1.out.frozen (p := ⟨w.heap.size, 0, none⟩) hNW).trans uf0
      clear hb
      clear hHeld
      refine hK.out _ _ (KS.out _ HV1.out) (fun hHeld => ?_)
      clear hK K
      try simp only [Act.put, List.setIfInBounds_toArray, List.set_cons_zero, List.set_cons_succ, List.getElem_toArray, List.getElem_cons_succ, List.getElem_cons_zero]
      refine wpAnyH_ready (rs := [0]) (by kernel_rfl) (by simp) ?_
      refine AllReadyH.cons (o := _) rfl (fun K hK => ?_) (AllReadyH.nil)
      go_simp
      clear hHeld
      refine hK.out _ _ (KS.out _ HV1.out) (fun hHeld => ?_)
      clear hK K
      try simp only [Act.put, List.setIfInBounds_toArray, List.set_cons_zero, List.set_cons_succ, List.getElem_toArray, List.getElem_cons_succ, List.getElem_cons_zero]
      refine wpAnyH_take (i := 3) (oi := _) (v := Value.int .i64 (n + byH x)) rfl (by kernel_rfl) (by kernel_rfl) (by kernel_rfl) (fun _ _ _ h => h) (Or.inl ⟨by rfl, fun w' hSw => ?_⟩) hHeld ?_
      · obtain ⟨t0, t1, t2, t3, t4, t5, t6⟩ := hSw
        go_simp
        try simp [*]
        try (intro hh; exfalso; omega)
        try omega
      try simp only [Act.put, List.setIfInBounds_toArray, List.set_cons_zero, List.set_cons_succ, List.getElem_toArray, List.getElem_cons_succ, List.getElem_cons_zero]
      obtain ⟨r0, r1, r2, r3, r4, r5, r6⟩ := KS.out _ HV1.out
      refine wpAnyH_ready (rs := [4]) (by kernel_rfl) (by simp) ?_
      refine AllReadyH.cons (o := _) rfl (fun K hK => ?_) (AllReadyH.nil)
      go_simp
      clear hHeld
      refine hK.out _ _ ⟨by simp [go_sem, *], by simp [go_sem, *], by simp [go_sem, *], by simp [go_sem, *], by simp [go_sem, *], by simp [go_sem, *], by simp [go_sem, *]⟩ (fun hHeld => ?_)
      clear hK K
      try simp only [Act.put, List.setIfInBounds_toArray, List.set_cons_zero, List.set_cons_succ, List.getElem_toArray, List.getElem_cons_succ, List.getElem_cons_zero]
      refine wpAnyH_done (by kernel_rfl) ?_ _
      clear hHeld
      gi_wp2
      have hko : KeepsOthers W v1 := ⟨HV1.out.size, fun k o hk ho => (HV1.out.block k (Array.getElem?_eq_some_iff.1 hk).1).trans hk⟩
      have hfar : ∀ q, q < W.heap.size → q ≠ w.heap.size → (v1.setCell ⟨w.heap.size, 0, none⟩ (.int .i64 (n + byH x))).heap[q]? = W.heap[q]? := fun q hq hne => (Below.heap_setCell _ _ _ _ hne).trans (HV1.out.block q hq)
      refine ⟨(hko.trans (KeepsOthers.setCell _ _ _)).from _, fun q hq => ?_, ?_, ?_, ?_⟩
      · have h3 := HW.out q hq
        exact hfar q (by omega) h3.2
      · rw [HSN.out]
        show (v1.setCell _ _).heap[w.heap.size]? = _
        rw [heap_setCell_same _ _ _ _ _ _ ((HV1.out.block w.heap.size hNW).trans HI.out)]
        rfl
      · exact (HB.out.trans (HV1.out.mono HB.out.size)).setCell (p := ⟨w.heap.size, 0, none⟩) (Nat.le_refl _) _
      · have := HV1.out.size
        simp; omega
  case done =>
    rintro D ys W hD hys ⟨hi, hB, hZ⟩ hK
    subst hys
    rw [List.attach_map_subtype_val] at hi
    have u0 : W.cell? ⟨w.heap.size, 0, none⟩ = some (.int .i64 (usL L)) := (cellH hi 0).trans (by simp)
    have HB := Lib.hid hB
    have HK := Lib.hid hK
    clear hi hB hseq h05 h15
    gi_wp2
    refine ⟨by simp, .inl ⟨_, _, rfl, run_takeDeferred HK.out, ?_⟩⟩
    exact ⟨_, results_tmp rfl _ _ _, rfl, HB.out.grown (grownBy_putObj' W D _) HB.out.size (fun k e => by cases e; omega)⟩
  case stop =>
    rintro D c pre W _ _ h _
    exact h.elim

end Go.Proofs.Ytbbaehmfadpgeaa

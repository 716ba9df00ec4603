/-
  Buffers: a record is put.
-/
import Derived.Test.YtbbaehmfadpgeaaBfS
namespace Go.Proofs.Ytbbaehmfadpgeaa
open Go.RowKit Go.Shelf
set_option linter.unusedSimpArgs false
theorem fit_drop {cap : Int} (hcap : 0 ≤ cap) {A : List Hd} {x : Hd} {d : List Int} (h : ¬((A ++ [x]).length ≤ 256 ∧ usL (A ++ [x]) ≤ cap)) (hc : 256 < (A ++ [x]).length ∨ cmpL (A ++ [x]) = none) : fitL cap (mu (A ++ [x])) (A ++ [x]) d = fitL cap (mu A) A (d ++ [x.r.id]) := by
  have h1 := drop_mu (L := A ++ [x]) (by simp)
  rw [List.dropLast_concat] at h1
  obtain ⟨n, hn⟩ : ∃ n, mu (A ++ [x]) = n + 1 := ⟨mu (A ++ [x]) - 1, by omega⟩
  rw [hn, fitL_drop h hc, List.dropLast_concat]
  have e : ((List.map (fun h : Hd => h.r.id) (A ++ [x])).getLast?).getD 0 = x.r.id := by simp
  rw [e]
  exact fitL_fuel hcap _ _ _ _ (by omega) (Nat.le_refl _)
theorem fit_cmp {cap : Int} {L L' : List Hd} {d : List Int} (h : ¬(L.length ≤ 256 ∧ usL L ≤ cap)) (hl : L.length ≤ 256) (hc : cmpL L = some L') : fitL cap (mu L) L d = fitL cap (mu L') L' d := by
  have h1 := cmpL_mu hc
  rw [h1, fitL_cmp h hl hc]
theorem FrS.grew {w W W' : World} {S S' : Nat → Prop} {row : Option Nat} (h : FrS w W S S') (hg : W.grownBy W' row) (hr : ∀ r, row = some r → w.heap.size ≤ r) : FrS w W' S S' :=
  ⟨hg.os.trans h.os, hg.tape.trans h.tape, hg.output.trans h.output, Nat.le_trans h.size hg.size, fun k hk hS => (hg.block k (by have := h.size; omega) (fun e => by have := hr k e.symm; omega)).trans (h.block k hk hS), fun k hk => by
    have := hg.size
    rcases h.own k hk with e | e
    · exact .inl e
    · exact .inr (by omega)⟩
theorem BufAt.grew {W W' : World} {S : Nat → Prop} {b M : Nat} {v : Value} {cap time : Int} {L : List Hd} {row : Option Nat} (h : BufAt W S b M v cap time L) (hg : W.grownBy W' row) (hr : ∀ r, row = some r → ¬S r) : BufAt W' S b M v cap time L :=
  h.keep hg.size fun k hk => hg.block k (h.lt k hk) (fun e => hr k e.symm hk)
theorem own_base {W : World} {base base' : Nat} {e : TypeId} {size : Nat} {v : Value} {k : Nat} {xs : List Value} (h : W.ownsRow base e size v k xs) (hb : base' ≤ base) : W.ownsRow base' e size v k xs := by
  refine ⟨h.1, ?_⟩
  rcases h.2 with h2 | ⟨g, cap, cur, e1, h3, h4⟩
  · exact .inl h2
  · exact .inr ⟨g, cap, cur, e1, Nat.le_trans hb h3, h4⟩
theorem own_far {W W' : World} {base : Nat} {e : TypeId} {s n : Nat} {v : Value} {xs : List Value} (h : W.ownsRow base e s v n xs) (hk : ∀ k, base ≤ k → k < W.heap.size → W'.heap[k]? = W.heap[k]?) : W'.ownsRow base e s v n xs := by
  refine ⟨h.1, ?_⟩
  rcases h.2 with h2 | ⟨g, cap, cur, rfl, hb, hg, h3⟩
  · exact .inl h2
  · exact .inr ⟨g, cap, cur, rfl, hb, (hk g hb (Array.getElem?_eq_some_iff.1 hg).1).trans hg, h3⟩
theorem FrS.drew {w W : World} {S S' : Nat → Prop} (h : FrS w W S S') : FrS w W.drew S S' := h.trans (FrS.of S' (Below.refl _ _).drew)
theorem BufAt.drew {W : World} {S : Nat → Prop} {b M : Nat} {v : Value} {cap time : Int} {L : List Hd} (h : BufAt W S b M v cap time L) : BufAt W.drew S b M v cap time L := h.keep (Nat.le_refl _) (fun _ _ => rfl)
theorem one_newL (W : World) (x : Value) : ∀ (j : Nat) (u : Value), [x][j]? = some u → (W.alloc (.cells #[x] 2)).cell? ((⟨W.heap.size, 0, none⟩ : Addr).add j) = some u := by
  intro j u hj
  match j, hj with
  | 0, h => simp at h; subst h; simp [Addr.add, go_sem]
theorem zv_snoc (l : List Int) (x : Int) : zv (l ++ [x]) = zv l ++ [.int .i64 x] := by simp [zv]
set_option maxRecDepth 100000 in
set_option maxHeartbeats 8000000 in
theorem put_ok {S : Nat → Prop} {b M : Nat} {v : Value} {cap time : Int} {L : List Hd} (r : Rc) (w : World) (h : BufAt w S b M v cap time L) (hcap : 0 ≤ cap) (hlen : L.length ≤ 256) (hok : OkR r) (hid : r.id ∉ idsL L) (hlim : ¬(cap < r.packed)) :
    Calls Try.prog 22 #[.pointer (some ⟨b, 0, none⟩), .agg #[.int .i64 r.id, .int .i64 r.cls, .int .i64 r.made, .int .i64 r.size, .int .i64 r.packed]] w fun e w' => ∃ v' S' dv, e = .returned (.tuple #[dv, .int .i64 0]) ∧ BufAt w' S' b M v' cap time (fitL cap (mu (insL r L)) (insL r L) []).1 ∧ FrS w w' S S' ∧ w'.ownsRow w.heap.size 2 1 dv (fitL cap (mu (insL r L)) (insL r L) []).2.length (zv (fitL cap (mu (insL r L)) (insL r L) []).2) ∧ (∀ k, dv.ownBlock = some k → ¬S' k) := by
  have HSM := Lib.hid (show (atL L r.id).isSome = false by rw [atL_none hid]; rfl)
  have hE : chkR r = 0 := by unfold chkR; rw [if_pos hok]
  have HOK := Lib.hid hok
  clear hok
  have HID := Lib.hid hid
  have HCAP := Lib.hid hcap
  have HLEN := Lib.hid hlen
  obtain ⟨A, hA⟩ : ∃ A, A = w.alloc (.cells #[.int .i64 r.id, .int .i64 r.cls, .int .i64 r.made, .int .i64 r.size, .int .i64 r.packed] 23) := ⟨_, rfl⟩
  have hBA : Below w.heap.size w A := by rw [hA]; exact (Below.refl _ _).alloc (Nat.le_refl _) _
  have hX : BxR A w.heap.size r := by rw [hA]; exact BxR.new w r
  have hAB := h.below hBA
  obtain ⟨k0, k1, k2, k3, k4⟩ := hX.all
  have c56 := valid_any A hAB
  have c18 := fun W => check_any r W
  have HBA := Lib.hid hBA
  have HX := Lib.hid hX
  have HAB := Lib.hid hAB
  have HH := Lib.hid h
  clear hBA hX hAB h
  rw [hE] at c18
  go_enter Try.func22, Try.ntmps22
  go_upto_region 1 with fail
  rw [← hA]
  clear hA
  go_wp2_with fail
  refine c56.mono ?_
  rintro e w1 ⟨rfl, rfl⟩
  clear c56
  go_wp2_with fail
  refine (c18 _).mono ?_
  rintro e w2 ⟨rfl, hb⟩
  clear c18 k0 k1 k2 k3 k4
  have HB2 := Lib.hid (HBA.out.trans (hb.mono HBA.out.size))
  have HX2 := Lib.hid (HX.out.keep hb)
  have HA2 := Lib.hid (HAB.out.below hb)
  clear hb
  clear hid hcap hlen
  obtain ⟨h0, hh0⟩ : ∃ h0, h0 = (atL L r.id).getD zH := ⟨_, rfl⟩
  have KS := Lib.hid (show ∀ W1, Below w2.heap.size w2 W1 → W1.cell? ⟨b, 3, none⟩ = some (Value.map (some M)) ∧ W1.cell? ⟨w.heap.size, 0, none⟩ = some (Value.int .i64 r.id) ∧ (Instr.lookup 106 (.map (some M)) (.int .i64 r.id) true).run Try.prog W1 = .ok (.tuple #[.agg #[.int .i64 h0.r.id, .int .i64 h0.r.cls, .int .i64 h0.r.made, .int .i64 h0.r.size, .int .i64 h0.r.packed, .bool h0.small, .int .i64 h0.sent], .bool false]) W1 from fun W1 hW => by
    have q1 := HA2.out.below hW
    have q2 := HX2.out.keep hW
    have q3 := q1.tab.look_ok (x := r.id) (by have := HOK.out; unfold OkR at this; omega) (by have := HOK.out; unfold OkR at this; omega)
    rw [← hh0, HSM.out] at q3
    exact ⟨q1.all.2.2.2.1, q2.all.1, q3⟩)
  clear hh0
  go_upto_region 6 with fail
  go_cut [7, 8] from 18 to 28 (fun s7 s8 wc => ∃ B, s7 = Value.pointer (some ⟨B, 0, none⟩) ∧ s8 = Value.bool false ∧ Below w2.heap.size w2 wc)
  case first => as_aux_lemma =>
    refine wp_region_held_drew (S := fun w' => w'.cell? ⟨b, 3, none⟩ = some (Value.map (some M)) ∧ w'.cell? ⟨w.heap.size, 0, none⟩ = some (Value.int .i64 r.id) ∧ (Instr.lookup 106 (.map (some M)) (.int .i64 r.id) true).run Try.prog w' = .ok (.tuple #[.agg #[.int .i64 h0.r.id, .int .i64 h0.r.cls, .int .i64 h0.r.made, .int .i64 h0.r.size, .int .i64 h0.r.packed, .bool h0.small, .int .i64 h0.sent], .bool false]) w') (by kernel_rfl) (KS.out _ (Below.refl _ _).drew) (fun hHeld => ?_)
    refine wpAnyH_take (i := 0) (oi := _) (v := Value.pointer (some ⟨b, 0, none⟩)) rfl (by kernel_rfl) (by kernel_rfl) (by kernel_rfl) (fun _ _ _ h => h) (Or.inl ⟨by rfl, fun w' hSw => ?_⟩) hHeld ?_
    · obtain ⟨t0, t1, t2⟩ := hSw
      go_simp
      try simp [*]
      try (intro hh; exfalso; omega)
      try omega
    try simp only [Act.put, List.setIfInBounds_toArray, List.set_cons_zero, List.set_cons_succ, List.getElem_toArray, List.getElem_cons_succ, List.getElem_cons_zero]
    refine wpAnyH_take (i := 1) (oi := _) (v := Value.pointer (some ⟨b, 0, none⟩)) rfl (by kernel_rfl) (by kernel_rfl) (by kernel_rfl) (fun _ _ _ h => h) (Or.inl ⟨by rfl, fun w' hSw => ?_⟩) hHeld ?_
    · obtain ⟨t0, t1, t2⟩ := hSw
      go_simp
      try simp [*]
      try (intro hh; exfalso; omega)
      try omega
    try simp only [Act.put, List.setIfInBounds_toArray, List.set_cons_zero, List.set_cons_succ, List.getElem_toArray, List.getElem_cons_succ, List.getElem_cons_zero]
    refine wpAnyH_take (i := 2) (oi := _) (v := Value.pointer (some ⟨b, 3, none⟩)) rfl (by kernel_rfl) (by kernel_rfl) (by kernel_rfl) (fun _ _ _ h => h) (Or.inl ⟨by rfl, fun w' hSw => ?_⟩) hHeld ?_
    · obtain ⟨t0, t1, t2⟩ := hSw
      go_simp
      try simp [*]
      try (intro hh; exfalso; omega)
      try omega
    try simp only [Act.put, List.setIfInBounds_toArray, List.set_cons_zero, List.set_cons_succ, List.getElem_toArray, List.getElem_cons_succ, List.getElem_cons_zero]
    refine wpAnyH_take (i := 3) (oi := _) (v := Value.map (some M)) rfl (by kernel_rfl) (by kernel_rfl) (by kernel_rfl) (fun _ _ _ h => h) (Or.inl ⟨by rfl, fun w' hSw => ?_⟩) hHeld ?_
    · obtain ⟨t0, t1, t2⟩ := hSw
      go_simp
      try simp [*]
      try (intro hh; exfalso; omega)
      try omega
    try simp only [Act.put, List.setIfInBounds_toArray, List.set_cons_zero, List.set_cons_succ, List.getElem_toArray, List.getElem_cons_succ, List.getElem_cons_zero]
    refine wpAnyH_take (i := 4) (oi := _) (v := Value.pointer (some ⟨w.heap.size, 0, none⟩)) rfl (by kernel_rfl) (by kernel_rfl) (by kernel_rfl) (fun _ _ _ h => h) (Or.inl ⟨by rfl, fun w' hSw => ?_⟩) hHeld ?_
    · obtain ⟨t0, t1, t2⟩ := hSw
      go_simp
      try simp [*]
      try (intro hh; exfalso; omega)
      try omega
    try simp only [Act.put, List.setIfInBounds_toArray, List.set_cons_zero, List.set_cons_succ, List.getElem_toArray, List.getElem_cons_succ, List.getElem_cons_zero]
    refine wpAnyH_take (i := 5) (oi := _) (v := Value.int .i64 r.id) rfl (by kernel_rfl) (by kernel_rfl) (by kernel_rfl) (fun _ _ _ h => h) (Or.inl ⟨by rfl, fun w' hSw => ?_⟩) hHeld ?_
    · obtain ⟨t0, t1, t2⟩ := hSw
      go_simp
      try simp [*]
      try (intro hh; exfalso; omega)
      try omega
    try simp only [Act.put, List.setIfInBounds_toArray, List.set_cons_zero, List.set_cons_succ, List.getElem_toArray, List.getElem_cons_succ, List.getElem_cons_zero]
    refine wpAnyH_take (i := 6) (oi := _) (v := Value.tuple #[Value.agg #[.int .i64 h0.r.id, .int .i64 h0.r.cls, .int .i64 h0.r.made, .int .i64 h0.r.size, .int .i64 h0.r.packed, .bool h0.small, .int .i64 h0.sent], Value.bool false]) rfl (by kernel_rfl) (by kernel_rfl) (by kernel_rfl) (fun _ _ _ h => h) (Or.inl ⟨by rfl, fun w' hSw => ?_⟩) hHeld ?_
    · obtain ⟨t0, t1, t2⟩ := hSw
      go_simp
      try simp [*]
      try (intro hh; exfalso; omega)
      try omega
    try simp only [Act.put, List.setIfInBounds_toArray, List.set_cons_zero, List.set_cons_succ, List.getElem_toArray, List.getElem_cons_succ, List.getElem_cons_zero]
    refine wpAnyH_take (i := 7) (oi := _) (v := Value.tuple #[Value.agg #[.int .i64 h0.r.id, .int .i64 h0.r.cls, .int .i64 h0.r.made, .int .i64 h0.r.size, .int .i64 h0.r.packed, .bool h0.small, .int .i64 h0.sent], Value.bool false]) rfl (by kernel_rfl) (by kernel_rfl) (by kernel_rfl) (fun _ _ _ h => h) (Or.inl ⟨by rfl, fun w' hSw => ?_⟩) hHeld ?_
    · obtain ⟨t0, t1, t2⟩ := hSw
      go_simp
      try simp [*]
      try (intro hh; exfalso; omega)
      try omega
    try simp only [Act.put, List.setIfInBounds_toArray, List.set_cons_zero, List.set_cons_succ, List.getElem_toArray, List.getElem_cons_succ, List.getElem_cons_zero]
    refine wpAnyH_take (i := 8) (oi := _) (v := Value.agg #[.int .i64 h0.r.id, .int .i64 h0.r.cls, .int .i64 h0.r.made, .int .i64 h0.r.size, .int .i64 h0.r.packed, .bool h0.small, .int .i64 h0.sent]) rfl (by kernel_rfl) (by kernel_rfl) (by kernel_rfl) (fun _ _ _ h => h) (Or.inl ⟨by rfl, fun w' hSw => ?_⟩) hHeld ?_
    · obtain ⟨t0, t1, t2⟩ := hSw
      go_simp
      try simp [*]
      try (intro hh; exfalso; omega)
      try omega
    try simp only [Act.put, List.setIfInBounds_toArray, List.set_cons_zero, List.set_cons_succ, List.getElem_toArray, List.getElem_cons_succ, List.getElem_cons_zero]
    refine wpAnyH_ready (rs := [9, 10]) (by kernel_rfl) (by simp) ?_
    refine AllReadyH.cons (o := _) rfl (fun K hK => ?_) (AllReadyH.cons (o := _) rfl (fun K hK => ?_) (AllReadyH.nil))
    · go_simp
      clear hHeld
      refine hK.out _ _ (KS.out _ (by first | exact (Below.refl _ _).drew | exact ((Below.refl _ _).drew.alloc (Nat.le_refl _) _) | exact ((Below.refl _ _).alloc (Nat.le_refl _) _).drew)) (fun hHeld => ?_)
      clear hK K
      try simp only [Act.put, List.setIfInBounds_toArray, List.set_cons_zero, List.set_cons_succ, List.getElem_toArray, List.getElem_cons_succ, List.getElem_cons_zero]
      refine wpAnyH_ready (rs := [10]) (by kernel_rfl) (by simp) ?_
      refine AllReadyH.cons (o := _) rfl (fun K hK => ?_) (AllReadyH.nil)
      go_simp
      clear hHeld
      refine hK.out _ _ (KS.out _ (by first | exact (Below.refl _ _).drew | exact ((Below.refl _ _).drew.alloc (Nat.le_refl _) _) | exact ((Below.refl _ _).alloc (Nat.le_refl _) _).drew)) (fun hHeld => ?_)
      clear hK K
      try simp only [Act.put, List.setIfInBounds_toArray, List.set_cons_zero, List.set_cons_succ, List.getElem_toArray, List.getElem_cons_succ, List.getElem_cons_zero]
      refine wpAnyH_ready (rs := [11]) (by kernel_rfl) (by simp) ?_
      refine AllReadyH.cons (o := _) rfl (fun K hK => ?_) (AllReadyH.nil)
      go_simp
      clear hHeld
      refine hK.out _ _ (KS.out _ (by first | exact (Below.refl _ _).drew | exact ((Below.refl _ _).drew.alloc (Nat.le_refl _) _) | exact ((Below.refl _ _).alloc (Nat.le_refl _) _).drew)) (fun hHeld => ?_)
      clear hK K
      try simp only [Act.put, List.setIfInBounds_toArray, List.set_cons_zero, List.set_cons_succ, List.getElem_toArray, List.getElem_cons_succ, List.getElem_cons_zero]
      refine wpAnyH_take (i := 12) (oi := _) (v := Value.bool false) rfl (by kernel_rfl) (by kernel_rfl) (by kernel_rfl) (fun _ _ _ h => h) (Or.inl ⟨by rfl, fun w' hSw => ?_⟩) hHeld ?_
      · obtain ⟨t0, t1, t2⟩ := hSw
        go_simp
        try simp [*]
        try (intro hh; exfalso; omega)
        try omega
      try simp only [Act.put, List.setIfInBounds_toArray, List.set_cons_zero, List.set_cons_succ, List.getElem_toArray, List.getElem_cons_succ, List.getElem_cons_zero]
      refine wpAnyH_done (by kernel_rfl) ?_ _
      clear hHeld
      go_wp2_with fail
      go_meet
      case rel => exact ⟨_, rfl, rfl, (by first | exact ((Below.refl _ _).drew.alloc (Nat.le_refl _) _) | exact ((Below.refl _ _).alloc (Nat.le_refl _) _).drew)⟩
    · go_simp
      clear hHeld
      refine hK.out _ _ (KS.out _ (by first | exact (Below.refl _ _).drew | exact ((Below.refl _ _).drew.alloc (Nat.le_refl _) _) | exact ((Below.refl _ _).alloc (Nat.le_refl _) _).drew)) (fun hHeld => ?_)
      clear hK K
      try simp only [Act.put, List.setIfInBounds_toArray, List.set_cons_zero, List.set_cons_succ, List.getElem_toArray, List.getElem_cons_succ, List.getElem_cons_zero]
      refine wpAnyH_ready (rs := [9, 11]) (by kernel_rfl) (by simp) ?_
      refine AllReadyH.cons (o := _) rfl (fun K hK => ?_) (AllReadyH.cons (o := _) rfl (fun K hK => ?_) (AllReadyH.nil))
      · go_simp
        clear hHeld
        refine hK.out _ _ (KS.out _ (by first | exact (Below.refl _ _).drew | exact ((Below.refl _ _).drew.alloc (Nat.le_refl _) _) | exact ((Below.refl _ _).alloc (Nat.le_refl _) _).drew)) (fun hHeld => ?_)
        clear hK K
        try simp only [Act.put, List.setIfInBounds_toArray, List.set_cons_zero, List.set_cons_succ, List.getElem_toArray, List.getElem_cons_succ, List.getElem_cons_zero]
        refine wpAnyH_ready (rs := [11]) (by kernel_rfl) (by simp) ?_
        refine AllReadyH.cons (o := _) rfl (fun K hK => ?_) (AllReadyH.nil)
        go_simp
        clear hHeld
        refine hK.out _ _ (KS.out _ (by first | exact (Below.refl _ _).drew | exact ((Below.refl _ _).drew.alloc (Nat.le_refl _) _) | exact ((Below.refl _ _).alloc (Nat.le_refl _) _).drew)) (fun hHeld => ?_)
        clear hK K
        try simp only [Act.put, List.setIfInBounds_toArray, List.set_cons_zero, List.set_cons_succ, List.getElem_toArray, List.getElem_cons_succ, List.getElem_cons_zero]
        refine wpAnyH_take (i := 12) (oi := _) (v := Value.bool false) rfl (by kernel_rfl) (by kernel_rfl) (by kernel_rfl) (fun _ _ _ h => h) (Or.inl ⟨by rfl, fun w' hSw => ?_⟩) hHeld ?_
        · obtain ⟨t0, t1, t2⟩ := hSw
          go_simp
          try simp [*]
          try (intro hh; exfalso; omega)
          try omega
        try simp only [Act.put, List.setIfInBounds_toArray, List.set_cons_zero, List.set_cons_succ, List.getElem_toArray, List.getElem_cons_succ, List.getElem_cons_zero]
        refine wpAnyH_done (by kernel_rfl) ?_ _
        clear hHeld
        go_wp2_with fail
        go_meet
        case rel => exact ⟨_, rfl, rfl, (by first | exact ((Below.refl _ _).drew.alloc (Nat.le_refl _) _) | exact ((Below.refl _ _).alloc (Nat.le_refl _) _).drew)⟩
      · go_simp
        clear hHeld
        refine hK.out _ _ (KS.out _ (by first | exact (Below.refl _ _).drew | exact ((Below.refl _ _).drew.alloc (Nat.le_refl _) _) | exact ((Below.refl _ _).alloc (Nat.le_refl _) _).drew)) (fun hHeld => ?_)
        clear hK K
        try simp only [Act.put, List.setIfInBounds_toArray, List.set_cons_zero, List.set_cons_succ, List.getElem_toArray, List.getElem_cons_succ, List.getElem_cons_zero]
        refine wpAnyH_take (i := 9) (oi := _) (v := Value.bool false) rfl (by kernel_rfl) (by kernel_rfl) (by kernel_rfl) (fun _ _ _ h => h) (Or.inl ⟨by rfl, fun w' hSw => ?_⟩) hHeld ?_
        · obtain ⟨t0, t1, t2⟩ := hSw
          go_simp
          try simp [*]
          try (intro hh; exfalso; omega)
          try omega
        try simp only [Act.put, List.setIfInBounds_toArray, List.set_cons_zero, List.set_cons_succ, List.getElem_toArray, List.getElem_cons_succ, List.getElem_cons_zero]
        refine wpAnyH_take (i := 12) (oi := _) (v := Value.bool false) rfl (by kernel_rfl) (by kernel_rfl) (by kernel_rfl) (fun _ _ _ h => h) (Or.inl ⟨by rfl, fun w' hSw => ?_⟩) hHeld ?_
        · obtain ⟨t0, t1, t2⟩ := hSw
          go_simp
          try simp [*]
          try (intro hh; exfalso; omega)
          try omega
        try simp only [Act.put, List.setIfInBounds_toArray, List.set_cons_zero, List.set_cons_succ, List.getElem_toArray, List.getElem_cons_succ, List.getElem_cons_zero]
        refine wpAnyH_done (by kernel_rfl) ?_ _
        clear hHeld
        go_wp2_with fail
        go_meet
        case rel => exact ⟨_, rfl, rfl, (by first | exact ((Below.refl _ _).drew.alloc (Nat.le_refl _) _) | exact ((Below.refl _ _).alloc (Nat.le_refl _) _).drew)⟩
  case rest =>
    obtain ⟨B, rfl, rfl, hW⟩ := hcut
    have HBC := Lib.hid hW
    clear hW
    obtain ⟨w3, rfl⟩ : ∃ W0, W0 = wc := ⟨_, rfl⟩
    have HA3 := Lib.hid (HA2.out.below HBC.out)
    have HX3 := Lib.hid (HX2.out.keep HBC.out)
    have HB3 := Lib.hid (HB2.out.trans (HBC.out.mono HB2.out.size))
    clear HA2 HX2 HB2 HBC KS
    have KT := Lib.hid (show ∀ W1, Below w3.heap.size w3 W1 → W1.cell? ⟨b, 1, none⟩ = some (Value.int .i64 cap) ∧ W1.cell? ⟨w.heap.size, 4, none⟩ = some (Value.int .i64 r.packed) from fun W1 hW => by
      have q1 := HA3.out.below hW
      have q2 := HX3.out.keep hW
      exact ⟨q1.all.2.1, q2.all.2.2.2.2⟩)
    go_wp2_with fail
    refine wp_region_held_drew (S := fun w' => w'.cell? ⟨b, 1, none⟩ = some (Value.int .i64 cap) ∧ w'.cell? ⟨w.heap.size, 4, none⟩ = some (Value.int .i64 r.packed)) (by kernel_rfl) (KT.out _ (Below.refl _ _).drew) (fun hHeld => ?_)
    refine wpAnyH_take (i := 0) (oi := _) (v := Value.pointer (some ⟨w.heap.size, 4, none⟩)) rfl (by kernel_rfl) (by kernel_rfl) (by kernel_rfl) (fun _ _ _ h => h) (Or.inl ⟨by rfl, fun w' hSw => ?_⟩) hHeld ?_
    · obtain ⟨t0, t1⟩ := hSw
      go_simp
      try simp [*]
      try (intro hh; exfalso; omega)
      try omega
    try simp only [Act.put, List.setIfInBounds_toArray, List.set_cons_zero, List.set_cons_succ, List.getElem_toArray, List.getElem_cons_succ, List.getElem_cons_zero]
    refine wpAnyH_take (i := 1) (oi := _) (v := Value.int .i64 r.packed) rfl (by kernel_rfl) (by kernel_rfl) (by kernel_rfl) (fun _ _ _ h => h) (Or.inl ⟨by rfl, fun w' hSw => ?_⟩) hHeld ?_
    · obtain ⟨t0, t1⟩ := hSw
      go_simp
      try simp [*]
      try (intro hh; exfalso; omega)
      try omega
    try simp only [Act.put, List.setIfInBounds_toArray, List.set_cons_zero, List.set_cons_succ, List.getElem_toArray, List.getElem_cons_succ, List.getElem_cons_zero]
    refine wpAnyH_take (i := 2) (oi := _) (v := Value.pointer (some ⟨b, 0, none⟩)) rfl (by kernel_rfl) (by kernel_rfl) (by kernel_rfl) (fun _ _ _ h => h) (Or.inl ⟨by rfl, fun w' hSw => ?_⟩) hHeld ?_
    · obtain ⟨t0, t1⟩ := hSw
      go_simp
      try simp [*]
      try (intro hh; exfalso; omega)
      try omega
    try simp only [Act.put, List.setIfInBounds_toArray, List.set_cons_zero, List.set_cons_succ, List.getElem_toArray, List.getElem_cons_succ, List.getElem_cons_zero]
    refine wpAnyH_take (i := 3) (oi := _) (v := Value.pointer (some ⟨b, 0, none⟩)) rfl (by kernel_rfl) (by kernel_rfl) (by kernel_rfl) (fun _ _ _ h => h) (Or.inl ⟨by rfl, fun w' hSw => ?_⟩) hHeld ?_
    · obtain ⟨t0, t1⟩ := hSw
      go_simp
      try simp [*]
      try (intro hh; exfalso; omega)
      try omega
    try simp only [Act.put, List.setIfInBounds_toArray, List.set_cons_zero, List.set_cons_succ, List.getElem_toArray, List.getElem_cons_succ, List.getElem_cons_zero]
    refine wpAnyH_take (i := 4) (oi := _) (v := Value.pointer (some ⟨b, 1, none⟩)) rfl (by kernel_rfl) (by kernel_rfl) (by kernel_rfl) (fun _ _ _ h => h) (Or.inl ⟨by rfl, fun w' hSw => ?_⟩) hHeld ?_
    · obtain ⟨t0, t1⟩ := hSw
      go_simp
      try simp [*]
      try (intro hh; exfalso; omega)
      try omega
    try simp only [Act.put, List.setIfInBounds_toArray, List.set_cons_zero, List.set_cons_succ, List.getElem_toArray, List.getElem_cons_succ, List.getElem_cons_zero]
    refine wpAnyH_take (i := 5) (oi := _) (v := Value.int .i64 cap) rfl (by kernel_rfl) (by kernel_rfl) (by kernel_rfl) (fun _ _ _ h => h) (Or.inl ⟨by rfl, fun w' hSw => ?_⟩) hHeld ?_
    · obtain ⟨t0, t1⟩ := hSw
      go_simp
      try simp [*]
      try (intro hh; exfalso; omega)
      try omega
    try simp only [Act.put, List.setIfInBounds_toArray, List.set_cons_zero, List.set_cons_succ, List.getElem_toArray, List.getElem_cons_succ, List.getElem_cons_zero]
    refine wpAnyH_take (i := 6) (oi := _) (v := Value.bool false) rfl (by kernel_rfl) (by kernel_rfl) (by kernel_rfl) (fun _ _ _ h => h) (Or.inl ⟨by rfl, fun w' hSw => ?_⟩) hHeld ?_
    · obtain ⟨t0, t1⟩ := hSw
      go_simp
      try simp [*]
      try (intro hh; exfalso; omega)
      try omega
    try simp only [Act.put, List.setIfInBounds_toArray, List.set_cons_zero, List.set_cons_succ, List.getElem_toArray, List.getElem_cons_succ, List.getElem_cons_zero]
    refine wpAnyH_done (by kernel_rfl) ?_ _
    clear hHeld
    have c57 := add_any r w3.drew HA3.out.drew HOK.out HID.out HLEN.out
    obtain ⟨p0, p1, p2, p3, p4⟩ := HX3.out.all
    clear KT
    go_wp2_with fail
    refine c57.mono ?_
    rintro e w4 ⟨v1, S1, rfl, hb4, hf4⟩
    clear c57 p0 p1 p2 p3 p4
    have HB4 := Lib.hid hb4
    have HF4 := Lib.hid (show FrS w w4 S S1 from ((FrS.of S HB3.out).drew).trans hf4)
    clear hb4 hf4
    have HWW := Lib.hid (show w.heap.size ≤ w4.heap.size from HF4.out.size)
    have HS1 := Lib.hid (show ∀ k, S1 k → k < w4.heap.size from HB4.out.lt)
    have HI := Lib.hid (show (insL r L).length ≤ 257 by rw [insL_length]; have := HLEN.out; omega)
    obtain ⟨RES, hres⟩ : ∃ R, R = fitL cap (mu (insL r L)) (insL r L) [] := ⟨_, rfl⟩
    have HRES := Lib.hid hres
    clear hres
    obtain ⟨i2, hi2, hz20, hz21, hz22⟩ := info_parts info2
    skip
    go_wp2_with fail
    go_loopw [9] (fun dv wr => ∃ (L1 : List Hd) (d1 : List Int) (vv : Value), BufAt wr S1 b M vv cap time L1 ∧ FrS w wr S S1 ∧ wr.ownsRow w4.heap.size 2 1 dv d1.length (zv d1) ∧ fitL cap (mu L1) L1 d1 = RES ∧ L1.length + d1.length ≤ 257 ∧ w4.heap.size ≤ wr.heap.size) (fun _ wr => muW S1 b M cap time wr)
    case atStart => exact ⟨insL r L, [], v1, HB4.out, HF4.out, World.ownsRow_nil _ _ _ _, HRES.out.symm, by simpa using HI.out, Nat.le_refl _⟩
    case round =>
      obtain ⟨L1, d1, vv, hBR, hFR, hRR, hEQ, hLL, hZR⟩ := hrel
      have HBR := Lib.hid hBR
      have HFR := Lib.hid hFR
      have HRR := Lib.hid hRR
      have HEQ := Lib.hid hEQ
      have HL257 := Lib.hid hLL
      have HZR := Lib.hid hZR
      clear hBR hFR hRR hEQ
      have HSZ := Lib.hid (show w4.heap.size ≤ wr.heap.size from hZR)
      have hd257 : d1.length ≤ 257 := by omega
      have KS := Lib.hid (show ∀ W1, Below wr.heap.size wr W1 → W1.cell? ⟨b, 1, none⟩ = some (Value.int .i64 cap) from fun W1 hW => (HBR.out.below hW).all.2.1)
      by_cases hfit : L1.length ≤ 256 ∧ usL L1 ≤ cap
      · have c58 := crowded_any wr.drew HBR.out.drew
        have c59 := used_any wr.drew HBR.out.drew (by omega)
        rw [show decide (256 < L1.length) = false from decide_eq_false (by omega)] at c58
        have HSTOP := Lib.hid (show fitL cap (mu (insL r L)) (insL r L) [] = (L1, d1) by rw [← HRES.out, ← HEQ.out, fitL_stop hfit])
        obtain ⟨us, hus⟩ : ∃ us, us = usL L1 := ⟨_, rfl⟩
        rw [← hus] at c59
        have hle : us ≤ cap := by rw [hus]; exact hfit.2
        clear hus hfit hLL hZR
        go_upto_region 13 with fail
        refine wp_region_held_drew (S := fun w' => w'.cell? ⟨b, 1, none⟩ = some (Value.int .i64 cap)) (by kernel_rfl) (KS.out _ (Below.refl _ _).drew) (fun hHeld => ?_)
        refine wpAnyH_take (i := 0) (oi := _) (v := Value.pointer (some ⟨b, 0, none⟩)) rfl (by kernel_rfl) (by kernel_rfl) (by kernel_rfl) (fun _ _ _ h => h) (Or.inl ⟨by rfl, fun w' hSw => ?_⟩) hHeld ?_
        · have t0 := hSw
          go_simp
          try simp [*]
          try (intro hh; exfalso; omega)
          try omega
        try simp only [Act.put, List.setIfInBounds_toArray, List.set_cons_zero, List.set_cons_succ, List.getElem_toArray, List.getElem_cons_succ, List.getElem_cons_zero]
        refine wpAnyH_ready (rs := [1]) (by kernel_rfl) (by simp) ?_
        refine AllReadyH.cons (o := _) rfl (fun K hK => ?_) (AllReadyH.nil)
        go_simp
        go_at_call 58
        refine Calls.mono c58 ?_
        rintro e v1 ⟨rfl, rfl⟩
        clear hHeld
        refine hK.out _ _ (KS.out _ (Below.refl _ _).drew) (fun hHeld => ?_)
        clear hK K
        try simp only [Act.put, List.setIfInBounds_toArray, List.set_cons_zero, List.set_cons_succ, List.getElem_toArray, List.getElem_cons_succ, List.getElem_cons_zero]
        refine wpAnyH_take (i := 2) (oi := _) (v := Value.bool false) rfl (by kernel_rfl) (by kernel_rfl) (by kernel_rfl) (fun _ _ _ h => h) (Or.inl ⟨by rfl, fun w' hSw => ?_⟩) hHeld ?_
        · have t0 := hSw
          go_simp
          try simp [*]
          try (intro hh; exfalso; omega)
          try omega
        try simp only [Act.put, List.setIfInBounds_toArray, List.set_cons_zero, List.set_cons_succ, List.getElem_toArray, List.getElem_cons_succ, List.getElem_cons_zero]
        refine wpAnyH_take (i := 3) (oi := _) (v := Value.pointer (some ⟨b, 0, none⟩)) rfl (by kernel_rfl) (by kernel_rfl) (by kernel_rfl) (fun _ _ _ h => h) (Or.inl ⟨by rfl, fun w' hSw => ?_⟩) hHeld ?_
        · have t0 := hSw
          go_simp
          try simp [*]
          try (intro hh; exfalso; omega)
          try omega
        try simp only [Act.put, List.setIfInBounds_toArray, List.set_cons_zero, List.set_cons_succ, List.getElem_toArray, List.getElem_cons_succ, List.getElem_cons_zero]
        refine wpAnyH_take (i := 5) (oi := _) (v := Value.pointer (some ⟨b, 0, none⟩)) rfl (by kernel_rfl) (by kernel_rfl) (by kernel_rfl) (fun _ _ _ h => h) (Or.inl ⟨by rfl, fun w' hSw => ?_⟩) hHeld ?_
        · have t0 := hSw
          go_simp
          try simp [*]
          try (intro hh; exfalso; omega)
          try omega
        try simp only [Act.put, List.setIfInBounds_toArray, List.set_cons_zero, List.set_cons_succ, List.getElem_toArray, List.getElem_cons_succ, List.getElem_cons_zero]
        refine wpAnyH_take (i := 6) (oi := _) (v := Value.pointer (some ⟨b, 0, none⟩)) rfl (by kernel_rfl) (by kernel_rfl) (by kernel_rfl) (fun _ _ _ h => h) (Or.inl ⟨by rfl, fun w' hSw => ?_⟩) hHeld ?_
        · have t0 := hSw
          go_simp
          try simp [*]
          try (intro hh; exfalso; omega)
          try omega
        try simp only [Act.put, List.setIfInBounds_toArray, List.set_cons_zero, List.set_cons_succ, List.getElem_toArray, List.getElem_cons_succ, List.getElem_cons_zero]
        refine wpAnyH_take (i := 7) (oi := _) (v := Value.pointer (some ⟨b, 1, none⟩)) rfl (by kernel_rfl) (by kernel_rfl) (by kernel_rfl) (fun _ _ _ h => h) (Or.inl ⟨by rfl, fun w' hSw => ?_⟩) hHeld ?_
        · have t0 := hSw
          go_simp
          try simp [*]
          try (intro hh; exfalso; omega)
          try omega
        try simp only [Act.put, List.setIfInBounds_toArray, List.set_cons_zero, List.set_cons_succ, List.getElem_toArray, List.getElem_cons_succ, List.getElem_cons_zero]
        refine wpAnyH_take (i := 8) (oi := _) (v := Value.int .i64 cap) rfl (by kernel_rfl) (by kernel_rfl) (by kernel_rfl) (fun _ _ _ h => h) (Or.inl ⟨by rfl, fun w' hSw => ?_⟩) hHeld ?_
        · have t0 := hSw
          go_simp
          try simp [*]
          try (intro hh; exfalso; omega)
          try omega
        try simp only [Act.put, List.setIfInBounds_toArray, List.set_cons_zero, List.set_cons_succ, List.getElem_toArray, List.getElem_cons_succ, List.getElem_cons_zero]
        refine wpAnyH_ready (rs := [4]) (by kernel_rfl) (by simp) ?_
        refine AllReadyH.cons (o := _) rfl (fun K hK => ?_) (AllReadyH.nil)
        go_simp
        go_at_call 59
        refine Calls.mono c59 ?_
        rintro e v2 ⟨rfl, hb⟩
        have HV2 := Lib.hid (show Below wr.heap.size wr v2 from (Below.refl _ _).drew.trans hb)
        clear hb
        clear hHeld
        refine hK.out _ _ (KS.out _ HV2.out) (fun hHeld => ?_)
        clear hK K
        try simp only [Act.put, List.setIfInBounds_toArray, List.set_cons_zero, List.set_cons_succ, List.getElem_toArray, List.getElem_cons_succ, List.getElem_cons_zero]
        refine wpAnyH_take (i := 9) (oi := _) (v := Value.bool false) rfl (by kernel_rfl) (by kernel_rfl) (by kernel_rfl) (fun _ _ _ h => h) (Or.inl ⟨by rfl, fun w' hSw => ?_⟩) hHeld ?_
        · have t0 := hSw
          go_simp
          try simp [*]
          try (intro hh; exfalso; omega)
          try omega
        try simp only [Act.put, List.setIfInBounds_toArray, List.set_cons_zero, List.set_cons_succ, List.getElem_toArray, List.getElem_cons_succ, List.getElem_cons_zero]
        refine wpAnyH_take (i := 10) (oi := _) (v := Value.bool false) rfl (by kernel_rfl) (by kernel_rfl) (by kernel_rfl) (fun _ _ _ h => h) (Or.inl ⟨by rfl, fun w' hSw => ?_⟩) hHeld ?_
        · have t0 := hSw
          go_simp
          try simp [*]
          try (intro hh; exfalso; omega)
          try omega
        try simp only [Act.put, List.setIfInBounds_toArray, List.set_cons_zero, List.set_cons_succ, List.getElem_toArray, List.getElem_cons_succ, List.getElem_cons_zero]
        refine wpAnyH_done (by kernel_rfl) ?_ _
        clear hHeld
        go_wp2_with fail
        rw [HSTOP.out]
        refine bodyPost_ret (v := .tuple #[u9, .int .i64 0]) (by simp [results, Try.results22, go_sem]) rfl ⟨vv, S1, u9, rfl, HBR.out.below HV2.out, HFR.out.trans (FrS.of S1 HV2.out), ?_, fun k hk hS => ?_⟩
        · exact own_base (own_far HRR.out (fun k h1 h2 => HV2.out.block k h2)) HWW.out
        · have := (HRR.out.lt k hk).1
          have := HS1.out k hS
          omega
      · have hne : L1 ≠ [] := by
          intro e
          subst e
          exact hfit (by simpa [usL] using HCAP.out)
        obtain ⟨A1, x, rfl⟩ : ∃ A x, L1 = A ++ [x] := ⟨L1.dropLast, L1.getLast hne, (List.dropLast_concat_getLast hne).symm⟩
        have HNF := Lib.hid hfit
        have HWR := Lib.hid (show 0 < (A1 ++ [x]).length ∧ (A1 ++ [x]).length ≤ 1000 from ⟨by simp, by omega⟩)
        by_cases hc : 256 < (A1 ++ [x]).length
        · have c58 := crowded_any wr.drew HBR.out.drew
          rw [show decide (256 < (A1 ++ [x]).length) = true from decide_eq_true hc] at c58
          have HC := Lib.hid hc
          clear hfit hne hLL hZR hc
          go_upto_region 13 with fail
          refine wp_region_held_drew (S := fun w' => w'.cell? ⟨b, 1, none⟩ = some (Value.int .i64 cap)) (by kernel_rfl) (KS.out _ (Below.refl _ _).drew) (fun hHeld => ?_)
          refine wpAnyH_take (i := 0) (oi := _) (v := Value.pointer (some ⟨b, 0, none⟩)) rfl (by kernel_rfl) (by kernel_rfl) (by kernel_rfl) (fun _ _ _ h => h) (Or.inl ⟨by rfl, fun w' hSw => ?_⟩) hHeld ?_
          · have t0 := hSw
            go_simp
            try simp [*]
            try (intro hh; exfalso; omega)
            try omega
          try simp only [Act.put, List.setIfInBounds_toArray, List.set_cons_zero, List.set_cons_succ, List.getElem_toArray, List.getElem_cons_succ, List.getElem_cons_zero]
          refine wpAnyH_ready (rs := [1]) (by kernel_rfl) (by simp) ?_
          refine AllReadyH.cons (o := _) rfl (fun K hK => ?_) (AllReadyH.nil)
          go_simp
          go_at_call 58
          refine Calls.mono c58 ?_
          rintro e v1 ⟨rfl, rfl⟩
          clear hHeld
          refine hK.out _ _ (KS.out _ (Below.refl _ _).drew) (fun hHeld => ?_)
          clear hK K
          try simp only [Act.put, List.setIfInBounds_toArray, List.set_cons_zero, List.set_cons_succ, List.getElem_toArray, List.getElem_cons_succ, List.getElem_cons_zero]
          refine wpAnyH_take (i := 2) (oi := _) (v := Value.bool true) rfl (by kernel_rfl) (by kernel_rfl) (by kernel_rfl) (fun _ _ _ h => h) (Or.inl ⟨by rfl, fun w' hSw => ?_⟩) hHeld ?_
          · have t0 := hSw
            go_simp
            try simp [*]
            try (intro hh; exfalso; omega)
            try omega
          try simp only [Act.put, List.setIfInBounds_toArray, List.set_cons_zero, List.set_cons_succ, List.getElem_toArray, List.getElem_cons_succ, List.getElem_cons_zero]
          refine wpAnyH_take (i := 3) (oi := _) (v := undef) rfl (by kernel_rfl) (by kernel_rfl) (by kernel_rfl) (fun _ _ _ h => h) (Or.inr ⟨by rfl, rfl⟩) hHeld ?_
          try simp only [Act.put, List.setIfInBounds_toArray, List.set_cons_zero, List.set_cons_succ, List.getElem_toArray, List.getElem_cons_succ, List.getElem_cons_zero]
          refine wpAnyH_take (i := 4) (oi := _) (v := undef) rfl (by kernel_rfl) (by kernel_rfl) (by kernel_rfl) (fun _ _ _ h => h) (Or.inr ⟨by rfl, rfl⟩) hHeld ?_
          try simp only [Act.put, List.setIfInBounds_toArray, List.set_cons_zero, List.set_cons_succ, List.getElem_toArray, List.getElem_cons_succ, List.getElem_cons_zero]
          refine wpAnyH_take (i := 5) (oi := _) (v := undef) rfl (by kernel_rfl) (by kernel_rfl) (by kernel_rfl) (fun _ _ _ h => h) (Or.inr ⟨by rfl, rfl⟩) hHeld ?_
          try simp only [Act.put, List.setIfInBounds_toArray, List.set_cons_zero, List.set_cons_succ, List.getElem_toArray, List.getElem_cons_succ, List.getElem_cons_zero]
          refine wpAnyH_take (i := 6) (oi := _) (v := undef) rfl (by kernel_rfl) (by kernel_rfl) (by kernel_rfl) (fun _ _ _ h => h) (Or.inr ⟨by rfl, rfl⟩) hHeld ?_
          try simp only [Act.put, List.setIfInBounds_toArray, List.set_cons_zero, List.set_cons_succ, List.getElem_toArray, List.getElem_cons_succ, List.getElem_cons_zero]
          refine wpAnyH_take (i := 7) (oi := _) (v := undef) rfl (by kernel_rfl) (by kernel_rfl) (by kernel_rfl) (fun _ _ _ h => h) (Or.inr ⟨by rfl, rfl⟩) hHeld ?_
          try simp only [Act.put, List.setIfInBounds_toArray, List.set_cons_zero, List.set_cons_succ, List.getElem_toArray, List.getElem_cons_succ, List.getElem_cons_zero]
          refine wpAnyH_take (i := 8) (oi := _) (v := undef) rfl (by kernel_rfl) (by kernel_rfl) (by kernel_rfl) (fun _ _ _ h => h) (Or.inr ⟨by rfl, rfl⟩) hHeld ?_
          try simp only [Act.put, List.setIfInBounds_toArray, List.set_cons_zero, List.set_cons_succ, List.getElem_toArray, List.getElem_cons_succ, List.getElem_cons_zero]
          refine wpAnyH_take (i := 9) (oi := _) (v := undef) rfl (by kernel_rfl) (by kernel_rfl) (by kernel_rfl) (fun _ _ _ h => h) (Or.inr ⟨by rfl, rfl⟩) hHeld ?_
          try simp only [Act.put, List.setIfInBounds_toArray, List.set_cons_zero, List.set_cons_succ, List.getElem_toArray, List.getElem_cons_succ, List.getElem_cons_zero]
          refine wpAnyH_take (i := 10) (oi := _) (v := Value.bool true) rfl (by kernel_rfl) (by kernel_rfl) (by kernel_rfl) (fun _ _ _ h => h) (Or.inl ⟨by rfl, fun w' hSw => ?_⟩) hHeld ?_
          · have t0 := hSw
            go_simp
            try simp [*]
            try (intro hh; exfalso; omega)
            try omega
          try simp only [Act.put, List.setIfInBounds_toArray, List.set_cons_zero, List.set_cons_succ, List.getElem_toArray, List.getElem_cons_succ, List.getElem_cons_zero]
          refine wpAnyH_done (by kernel_rfl) ?_ _
          clear hHeld
          have c58 := crowded_any wr.drew HBR.out.drew
          rw [show decide (256 < (A1 ++ [x]).length) = true from decide_eq_true HC.out] at c58
          go_wp2_with fail
          refine c58.mono ?_
          rintro e v1 ⟨rfl, rfl⟩
          clear c58
          have c61 := drop_any wr.drew HBR.out.drew
          have HZZ := Lib.hid HSZ.out
          have HFZ := Lib.hid HFR.out.drew
          have HRZ := Lib.hid (show wr.drew.ownsRow w4.heap.size 2 1 u9 d1.length (zv d1) from HRR.out)
          have HIDX := Lib.hid (show ∀ k, S1 k → k < w4.heap.size from HS1.out)
          generalize hxid : x.r.id = z at *
          have HXID := Lib.hid hxid
          clear hxid
          go_upto_region 15 with fail
          skip
          go_wp2_with fail
          refine c61.mono ?_
          rintro e w5 ⟨v5, rfl, hb5, hf5⟩
          clear c61
          have HB5 := Lib.hid hb5
          have HF5 := Lib.hid (HFZ.out.trans hf5)
          have HR5 := Lib.hid (own_far HRZ.out (fun k h1 h2 => hf5.block k h2 (fun e => by have := HIDX.out k e; omega)))
          have HZ5 := Lib.hid (Nat.le_trans HZZ.out hf5.size)
          clear hb5 hf5 HRZ HFZ HZZ
          go_wp2_with (at_builtin; refine wpList_append_own _ rfl _ _ 41 rfl w4.heap.size 2 i2 (.int .i64 0) 1 8 Try.underlying41 hi2 hz20 hz21 hz22 rfl (by decide) _ _ _ rfl (HR5.out.alloc _) ⟨w5.heap.size, 0, none⟩ 1 1 [.int .i64 z] rfl rfl (one_newL _ _) (by simp [Value.oneCell']) (by unfold maxLen; omega) (by omega) (by have := HZ5.out; simp; omega) ?_; intro dv6 w6 hown' hgrow _; have HG := Lib.hid hgrow; have HO := Lib.hid hown'; clear hown' hgrow)
          go_roundw
          case rel =>
            have hal : (w5.alloc (.cells #[.int .i64 z] 2)).heap.size = w5.heap.size + 1 := by simp
            have hbl : Below w5.heap.size w5 (w5.alloc (.cells #[.int .i64 z] 2)) := (Below.refl _ _).alloc (Nat.le_refl _) _
            have hrow : ∀ k, u9.ownBlock = some k → w4.heap.size ≤ k := fun k hk => (HR5.out.lt k hk).1
            refine ⟨A1, d1 ++ [z], v5, (HB5.out.below hbl).grew HG.out (fun k hk hS => by have := hrow k hk; have := HIDX.out k hS; omega), (HF5.out.trans (FrS.of S1 hbl)).grew HG.out (fun k hk => by have := hrow k hk; have := HWW.out; omega), ?_, ?_, ?_, ?_⟩
            · rw [zv_snoc, List.length_append]
              exact HO.out
            · rw [← HXID.out, ← HEQ.out]
              exact (fit_drop HCAP.out HNF.out (.inl HC.out)).symm
            · have := HL257.out
              simp at this ⊢
              omega
            · have := HG.out.size
              have := HZ5.out
              omega
          case measure =>
            have hbl : Below w5.heap.size w5 (w5.alloc (.cells #[.int .i64 z] 2)) := (Below.refl _ _).alloc (Nat.le_refl _) _
            have hrow : ∀ k, u9.ownBlock = some k → w4.heap.size ≤ k := fun k hk => (HR5.out.lt k hk).1
            rw [muW_eq HBR.out, muW_eq ((HB5.out.below hbl).grew HG.out (fun k hk hS => by have := hrow k hk; have := HIDX.out k hS; omega))]
            have := drop_mu (L := A1 ++ [x]) (by simp)
            rwa [List.dropLast_concat] at this
        · have hus : ¬(usL (A1 ++ [x]) ≤ cap) := fun e => hfit ⟨by omega, e⟩
          have c58 := crowded_any wr.drew HBR.out.drew
          rw [show decide (256 < (A1 ++ [x]).length) = false from decide_eq_false hc] at c58
          have c59 := used_any wr.drew HBR.out.drew (by omega)
          have HC := Lib.hid hc
          obtain ⟨us, hu⟩ : ∃ us, us = usL (A1 ++ [x]) := ⟨_, rfl⟩
          rw [← hu] at c59
          have hle : cap < us := by omega
          clear hu hus hfit hne hLL hZR hc
          cases hcm : cmpL (A1 ++ [x]) with
          | none =>
            have HCM := Lib.hid hcm
            clear hcm
            go_upto_region 13 with fail
            refine wp_region_held_drew (S := fun w' => w'.cell? ⟨b, 1, none⟩ = some (Value.int .i64 cap)) (by kernel_rfl) (KS.out _ (Below.refl _ _).drew) (fun hHeld => ?_)
            refine wpAnyH_take (i := 0) (oi := _) (v := Value.pointer (some ⟨b, 0, none⟩)) rfl (by kernel_rfl) (by kernel_rfl) (by kernel_rfl) (fun _ _ _ h => h) (Or.inl ⟨by rfl, fun w' hSw => ?_⟩) hHeld ?_
            · have t0 := hSw
              go_simp
              try simp [*]
              try (intro hh; exfalso; omega)
              try omega
            try simp only [Act.put, List.setIfInBounds_toArray, List.set_cons_zero, List.set_cons_succ, List.getElem_toArray, List.getElem_cons_succ, List.getElem_cons_zero]
            refine wpAnyH_ready (rs := [1]) (by kernel_rfl) (by simp) ?_
            refine AllReadyH.cons (o := _) rfl (fun K hK => ?_) (AllReadyH.nil)
            go_simp
            go_at_call 58
            refine Calls.mono c58 ?_
            rintro e v1 ⟨rfl, rfl⟩
            clear hHeld
            refine hK.out _ _ (KS.out _ (Below.refl _ _).drew) (fun hHeld => ?_)
            clear hK K
            try simp only [Act.put, List.setIfInBounds_toArray, List.set_cons_zero, List.set_cons_succ, List.getElem_toArray, List.getElem_cons_succ, List.getElem_cons_zero]
            refine wpAnyH_take (i := 2) (oi := _) (v := Value.bool false) rfl (by kernel_rfl) (by kernel_rfl) (by kernel_rfl) (fun _ _ _ h => h) (Or.inl ⟨by rfl, fun w' hSw => ?_⟩) hHeld ?_
            · have t0 := hSw
              go_simp
              try simp [*]
              try (intro hh; exfalso; omega)
              try omega
            try simp only [Act.put, List.setIfInBounds_toArray, List.set_cons_zero, List.set_cons_succ, List.getElem_toArray, List.getElem_cons_succ, List.getElem_cons_zero]
            refine wpAnyH_take (i := 3) (oi := _) (v := Value.pointer (some ⟨b, 0, none⟩)) rfl (by kernel_rfl) (by kernel_rfl) (by kernel_rfl) (fun _ _ _ h => h) (Or.inl ⟨by rfl, fun w' hSw => ?_⟩) hHeld ?_
            · have t0 := hSw
              go_simp
              try simp [*]
              try (intro hh; exfalso; omega)
              try omega
            try simp only [Act.put, List.setIfInBounds_toArray, List.set_cons_zero, List.set_cons_succ, List.getElem_toArray, List.getElem_cons_succ, List.getElem_cons_zero]
            refine wpAnyH_take (i := 5) (oi := _) (v := Value.pointer (some ⟨b, 0, none⟩)) rfl (by kernel_rfl) (by kernel_rfl) (by kernel_rfl) (fun _ _ _ h => h) (Or.inl ⟨by rfl, fun w' hSw => ?_⟩) hHeld ?_
            · have t0 := hSw
              go_simp
              try simp [*]
              try (intro hh; exfalso; omega)
              try omega
            try simp only [Act.put, List.setIfInBounds_toArray, List.set_cons_zero, List.set_cons_succ, List.getElem_toArray, List.getElem_cons_succ, List.getElem_cons_zero]
            refine wpAnyH_take (i := 6) (oi := _) (v := Value.pointer (some ⟨b, 0, none⟩)) rfl (by kernel_rfl) (by kernel_rfl) (by kernel_rfl) (fun _ _ _ h => h) (Or.inl ⟨by rfl, fun w' hSw => ?_⟩) hHeld ?_
            · have t0 := hSw
              go_simp
              try simp [*]
              try (intro hh; exfalso; omega)
              try omega
            try simp only [Act.put, List.setIfInBounds_toArray, List.set_cons_zero, List.set_cons_succ, List.getElem_toArray, List.getElem_cons_succ, List.getElem_cons_zero]
            refine wpAnyH_take (i := 7) (oi := _) (v := Value.pointer (some ⟨b, 1, none⟩)) rfl (by kernel_rfl) (by kernel_rfl) (by kernel_rfl) (fun _ _ _ h => h) (Or.inl ⟨by rfl, fun w' hSw => ?_⟩) hHeld ?_
            · have t0 := hSw
              go_simp
              try simp [*]
              try (intro hh; exfalso; omega)
              try omega
            try simp only [Act.put, List.setIfInBounds_toArray, List.set_cons_zero, List.set_cons_succ, List.getElem_toArray, List.getElem_cons_succ, List.getElem_cons_zero]
            refine wpAnyH_take (i := 8) (oi := _) (v := Value.int .i64 cap) rfl (by kernel_rfl) (by kernel_rfl) (by kernel_rfl) (fun _ _ _ h => h) (Or.inl ⟨by rfl, fun w' hSw => ?_⟩) hHeld ?_
            · have t0 := hSw
              go_simp
              try simp [*]
              try (intro hh; exfalso; omega)
              try omega
            try simp only [Act.put, List.setIfInBounds_toArray, List.set_cons_zero, List.set_cons_succ, List.getElem_toArray, List.getElem_cons_succ, List.getElem_cons_zero]
            refine wpAnyH_ready (rs := [4]) (by kernel_rfl) (by simp) ?_
            refine AllReadyH.cons (o := _) rfl (fun K hK => ?_) (AllReadyH.nil)
            go_simp
            go_at_call 59
            refine Calls.mono c59 ?_
            rintro e v2 ⟨rfl, hb⟩
            have HV2 := Lib.hid (show Below wr.heap.size wr v2 from (Below.refl _ _).drew.trans hb)
            clear hb
            clear hHeld
            refine hK.out _ _ (KS.out _ HV2.out) (fun hHeld => ?_)
            clear hK K
            try simp only [Act.put, List.setIfInBounds_toArray, List.set_cons_zero, List.set_cons_succ, List.getElem_toArray, List.getElem_cons_succ, List.getElem_cons_zero]
            refine wpAnyH_take (i := 9) (oi := _) (v := Value.bool true) rfl (by kernel_rfl) (by kernel_rfl) (by kernel_rfl) (fun _ _ _ h => h) (Or.inl ⟨by rfl, fun w' hSw => ?_⟩) hHeld ?_
            · have t0 := hSw
              go_simp
              try simp [*]
              try (intro hh; exfalso; omega)
              try omega
            try simp only [Act.put, List.setIfInBounds_toArray, List.set_cons_zero, List.set_cons_succ, List.getElem_toArray, List.getElem_cons_succ, List.getElem_cons_zero]
            refine wpAnyH_take (i := 10) (oi := _) (v := Value.bool true) rfl (by kernel_rfl) (by kernel_rfl) (by kernel_rfl) (fun _ _ _ h => h) (Or.inl ⟨by rfl, fun w' hSw => ?_⟩) hHeld ?_
            · have t0 := hSw
              go_simp
              try simp [*]
              try (intro hh; exfalso; omega)
              try omega
            try simp only [Act.put, List.setIfInBounds_toArray, List.set_cons_zero, List.set_cons_succ, List.getElem_toArray, List.getElem_cons_succ, List.getElem_cons_zero]
            refine wpAnyH_done (by kernel_rfl) ?_ _
            clear hHeld
            have HB2 := Lib.hid (HBR.out.below HV2.out)
            have c58 := crowded_any v2 HB2.out
            rw [show decide (256 < (A1 ++ [x]).length) = false from decide_eq_false HC.out] at c58
            have c60 := compress_any v2 HB2.out HWR.out.2 HWR.out.1
            rw [HCM.out] at c60
            simp only [Option.isSome_none, Option.getD_none] at c60
            clear hle
            go_wp2_with fail
            refine c58.mono ?_
            rintro e v1 ⟨rfl, rfl⟩
            clear c58
            go_wp2_with fail
            refine c60.mono ?_
            rintro e v3 ⟨rfl, hbf, hfr⟩
            have HF3 := Lib.hid hfr
            have HB3 := Lib.hid hbf
            clear hbf hfr c60
            have HSZ3 := Lib.hid (Nat.le_trans HSZ.out (Nat.le_trans HV2.out.size HF3.out.size))
            have c61 := drop_any v3 HB3.out
            have HZZ := Lib.hid HSZ3.out
            have HFZ := Lib.hid ((HFR.out.trans (FrS.of S1 HV2.out)).trans HF3.out)
            have HRZ := Lib.hid (own_far (own_far HRR.out (fun k h1 h2 => HV2.out.block k h2)) (fun k h1 h2 => HF3.out.block k h2 (fun e => by have := HS1.out k e; omega)))
            have HIDX := Lib.hid (show ∀ k, S1 k → k < w4.heap.size from HS1.out)
            generalize hxid : x.r.id = z at *
            have HXID := Lib.hid hxid
            clear hxid
            go_upto_region 15 with fail
            skip
            go_wp2_with fail
            refine c61.mono ?_
            rintro e w5 ⟨v5, rfl, hb5, hf5⟩
            clear c61
            have HB5 := Lib.hid hb5
            have HF5 := Lib.hid (HFZ.out.trans hf5)
            have HR5 := Lib.hid (own_far HRZ.out (fun k h1 h2 => hf5.block k h2 (fun e => by have := HIDX.out k e; omega)))
            have HZ5 := Lib.hid (Nat.le_trans HZZ.out hf5.size)
            clear hb5 hf5 HRZ HFZ HZZ
            go_wp2_with (at_builtin; refine wpList_append_own _ rfl _ _ 41 rfl w4.heap.size 2 i2 (.int .i64 0) 1 8 Try.underlying41 hi2 hz20 hz21 hz22 rfl (by decide) _ _ _ rfl (HR5.out.alloc _) ⟨w5.heap.size, 0, none⟩ 1 1 [.int .i64 z] rfl rfl (one_newL _ _) (by simp [Value.oneCell']) (by unfold maxLen; omega) (by omega) (by have := HZ5.out; simp; omega) ?_; intro dv6 w6 hown' hgrow _; have HG := Lib.hid hgrow; have HO := Lib.hid hown'; clear hown' hgrow)
            go_roundw
            case rel =>
              have hal : (w5.alloc (.cells #[.int .i64 z] 2)).heap.size = w5.heap.size + 1 := by simp
              have hbl : Below w5.heap.size w5 (w5.alloc (.cells #[.int .i64 z] 2)) := (Below.refl _ _).alloc (Nat.le_refl _) _
              have hrow : ∀ k, u9.ownBlock = some k → w4.heap.size ≤ k := fun k hk => (HR5.out.lt k hk).1
              refine ⟨A1, d1 ++ [z], v5, (HB5.out.below hbl).grew HG.out (fun k hk hS => by have := hrow k hk; have := HIDX.out k hS; omega), (HF5.out.trans (FrS.of S1 hbl)).grew HG.out (fun k hk => by have := hrow k hk; have := HWW.out; omega), ?_, ?_, ?_, ?_⟩
              · rw [zv_snoc, List.length_append]
                exact HO.out
              · rw [← HXID.out, ← HEQ.out]
                exact (fit_drop HCAP.out HNF.out (.inr HCM.out)).symm
              · have := HL257.out
                simp at this ⊢
                omega
              · have := HG.out.size
                have := HZ5.out
                omega
            case measure =>
              have hbl : Below w5.heap.size w5 (w5.alloc (.cells #[.int .i64 z] 2)) := (Below.refl _ _).alloc (Nat.le_refl _) _
              have hrow : ∀ k, u9.ownBlock = some k → w4.heap.size ≤ k := fun k hk => (HR5.out.lt k hk).1
              rw [muW_eq HBR.out, muW_eq ((HB5.out.below hbl).grew HG.out (fun k hk hS => by have := hrow k hk; have := HIDX.out k hS; omega))]
              have := drop_mu (L := A1 ++ [x]) (by simp)
              rwa [List.dropLast_concat] at this
          | some L2 =>
            have HCM := Lib.hid hcm
            clear hcm
            go_upto_region 13 with fail
            refine wp_region_held_drew (S := fun w' => w'.cell? ⟨b, 1, none⟩ = some (Value.int .i64 cap)) (by kernel_rfl) (KS.out _ (Below.refl _ _).drew) (fun hHeld => ?_)
            refine wpAnyH_take (i := 0) (oi := _) (v := Value.pointer (some ⟨b, 0, none⟩)) rfl (by kernel_rfl) (by kernel_rfl) (by kernel_rfl) (fun _ _ _ h => h) (Or.inl ⟨by rfl, fun w' hSw => ?_⟩) hHeld ?_
            · have t0 := hSw
              go_simp
              try simp [*]
              try (intro hh; exfalso; omega)
              try omega
            try simp only [Act.put, List.setIfInBounds_toArray, List.set_cons_zero, List.set_cons_succ, List.getElem_toArray, List.getElem_cons_succ, List.getElem_cons_zero]
            refine wpAnyH_ready (rs := [1]) (by kernel_rfl) (by simp) ?_
            refine AllReadyH.cons (o := _) rfl (fun K hK => ?_) (AllReadyH.nil)
            go_simp
            go_at_call 58
            refine Calls.mono c58 ?_
            rintro e v1 ⟨rfl, rfl⟩
            clear hHeld
            refine hK.out _ _ (KS.out _ (Below.refl _ _).drew) (fun hHeld => ?_)
            clear hK K
            try simp only [Act.put, List.setIfInBounds_toArray, List.set_cons_zero, List.set_cons_succ, List.getElem_toArray, List.getElem_cons_succ, List.getElem_cons_zero]
            refine wpAnyH_take (i := 2) (oi := _) (v := Value.bool false) rfl (by kernel_rfl) (by kernel_rfl) (by kernel_rfl) (fun _ _ _ h => h) (Or.inl ⟨by rfl, fun w' hSw => ?_⟩) hHeld ?_
            · have t0 := hSw
              go_simp
              try simp [*]
              try (intro hh; exfalso; omega)
              try omega
            try simp only [Act.put, List.setIfInBounds_toArray, List.set_cons_zero, List.set_cons_succ, List.getElem_toArray, List.getElem_cons_succ, List.getElem_cons_zero]
            refine wpAnyH_take (i := 3) (oi := _) (v := Value.pointer (some ⟨b, 0, none⟩)) rfl (by kernel_rfl) (by kernel_rfl) (by kernel_rfl) (fun _ _ _ h => h) (Or.inl ⟨by rfl, fun w' hSw => ?_⟩) hHeld ?_
            · have t0 := hSw
              go_simp
              try simp [*]
              try (intro hh; exfalso; omega)
              try omega
            try simp only [Act.put, List.setIfInBounds_toArray, List.set_cons_zero, List.set_cons_succ, List.getElem_toArray, List.getElem_cons_succ, List.getElem_cons_zero]
            refine wpAnyH_take (i := 5) (oi := _) (v := Value.pointer (some ⟨b, 0, none⟩)) rfl (by kernel_rfl) (by kernel_rfl) (by kernel_rfl) (fun _ _ _ h => h) (Or.inl ⟨by rfl, fun w' hSw => ?_⟩) hHeld ?_
            · have t0 := hSw
              go_simp
              try simp [*]
              try (intro hh; exfalso; omega)
              try omega
            try simp only [Act.put, List.setIfInBounds_toArray, List.set_cons_zero, List.set_cons_succ, List.getElem_toArray, List.getElem_cons_succ, List.getElem_cons_zero]
            refine wpAnyH_take (i := 6) (oi := _) (v := Value.pointer (some ⟨b, 0, none⟩)) rfl (by kernel_rfl) (by kernel_rfl) (by kernel_rfl) (fun _ _ _ h => h) (Or.inl ⟨by rfl, fun w' hSw => ?_⟩) hHeld ?_
            · have t0 := hSw
              go_simp
              try simp [*]
              try (intro hh; exfalso; omega)
              try omega
            try simp only [Act.put, List.setIfInBounds_toArray, List.set_cons_zero, List.set_cons_succ, List.getElem_toArray, List.getElem_cons_succ, List.getElem_cons_zero]
            refine wpAnyH_take (i := 7) (oi := _) (v := Value.pointer (some ⟨b, 1, none⟩)) rfl (by kernel_rfl) (by kernel_rfl) (by kernel_rfl) (fun _ _ _ h => h) (Or.inl ⟨by rfl, fun w' hSw => ?_⟩) hHeld ?_
            · have t0 := hSw
              go_simp
              try simp [*]
              try (intro hh; exfalso; omega)
              try omega
            try simp only [Act.put, List.setIfInBounds_toArray, List.set_cons_zero, List.set_cons_succ, List.getElem_toArray, List.getElem_cons_succ, List.getElem_cons_zero]
            refine wpAnyH_take (i := 8) (oi := _) (v := Value.int .i64 cap) rfl (by kernel_rfl) (by kernel_rfl) (by kernel_rfl) (fun _ _ _ h => h) (Or.inl ⟨by rfl, fun w' hSw => ?_⟩) hHeld ?_
            · have t0 := hSw
              go_simp
              try simp [*]
              try (intro hh; exfalso; omega)
              try omega
            try simp only [Act.put, List.setIfInBounds_toArray, List.set_cons_zero, List.set_cons_succ, List.getElem_toArray, List.getElem_cons_succ, List.getElem_cons_zero]
            refine wpAnyH_ready (rs := [4]) (by kernel_rfl) (by simp) ?_
            refine AllReadyH.cons (o := _) rfl (fun K hK => ?_) (AllReadyH.nil)
            go_simp
            go_at_call 59
            refine Calls.mono c59 ?_
            rintro e v2 ⟨rfl, hb⟩
            have HV2 := Lib.hid (show Below wr.heap.size wr v2 from (Below.refl _ _).drew.trans hb)
            clear hb
            clear hHeld
            refine hK.out _ _ (KS.out _ HV2.out) (fun hHeld => ?_)
            clear hK K
            try simp only [Act.put, List.setIfInBounds_toArray, List.set_cons_zero, List.set_cons_succ, List.getElem_toArray, List.getElem_cons_succ, List.getElem_cons_zero]
            refine wpAnyH_take (i := 9) (oi := _) (v := Value.bool true) rfl (by kernel_rfl) (by kernel_rfl) (by kernel_rfl) (fun _ _ _ h => h) (Or.inl ⟨by rfl, fun w' hSw => ?_⟩) hHeld ?_
            · have t0 := hSw
              go_simp
              try simp [*]
              try (intro hh; exfalso; omega)
              try omega
            try simp only [Act.put, List.setIfInBounds_toArray, List.set_cons_zero, List.set_cons_succ, List.getElem_toArray, List.getElem_cons_succ, List.getElem_cons_zero]
            refine wpAnyH_take (i := 10) (oi := _) (v := Value.bool true) rfl (by kernel_rfl) (by kernel_rfl) (by kernel_rfl) (fun _ _ _ h => h) (Or.inl ⟨by rfl, fun w' hSw => ?_⟩) hHeld ?_
            · have t0 := hSw
              go_simp
              try simp [*]
              try (intro hh; exfalso; omega)
              try omega
            try simp only [Act.put, List.setIfInBounds_toArray, List.set_cons_zero, List.set_cons_succ, List.getElem_toArray, List.getElem_cons_succ, List.getElem_cons_zero]
            refine wpAnyH_done (by kernel_rfl) ?_ _
            clear hHeld
            have HB2 := Lib.hid (HBR.out.below HV2.out)
            have c58 := crowded_any v2 HB2.out
            rw [show decide (256 < (A1 ++ [x]).length) = false from decide_eq_false HC.out] at c58
            have c60 := compress_any v2 HB2.out HWR.out.2 HWR.out.1
            rw [HCM.out] at c60
            simp only [Option.isSome_some, Option.getD_some] at c60
            clear hle
            go_wp2_with fail
            refine c58.mono ?_
            rintro e v1 ⟨rfl, rfl⟩
            clear c58
            go_wp2_with fail
            refine c60.mono ?_
            rintro e v3 ⟨rfl, hbf, hfr⟩
            have HF3 := Lib.hid hfr
            have HB3 := Lib.hid hbf
            clear hbf hfr c60
            go_wp2_with fail
            go_roundw
            case rel =>
              refine ⟨L2, d1, vv, HB3.out, (HFR.out.trans (FrS.of S1 HV2.out)).trans HF3.out, own_far (own_far HRR.out (fun k h1 h2 => HV2.out.block k h2)) (fun k h1 h2 => HF3.out.block k h2 (fun e => by have := HS1.out k e; omega)), ?_, ?_, Nat.le_trans HSZ.out (Nat.le_trans HV2.out.size HF3.out.size)⟩
              · rw [← HEQ.out]
                exact (fit_cmp HNF.out (Nat.le_of_not_lt HC.out) HCM.out).symm
              · rw [cmpL_len HCM.out]
                exact HL257.out
            case measure =>
              rw [muW_eq HBR.out, muW_eq HB3.out, cmpL_mu HCM.out]
              omega

end Go.Proofs.Ytbbaehmfadpgeaa

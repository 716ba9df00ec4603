/-
  Bursts: what a law sees of a burst.
-/
import Derived.Test.YtbbaehmfadpgeaaBuE
import Derived.Test.YtbbaehmfadpgeaaBfZ
namespace Go.Proofs.Ytbbaehmfadpgeaa
open Go.RowKit Go.Shelf
set_option linter.unusedSimpArgs false
theorem sndG_app {α : Type} (f : α → Hd) (t w : Int) : ∀ (A B : List α) (r : Int), sndG f t w r (A ++ B) = sndG f t w r A ++ sndG f t w (lftG f t w r A) B := by
  intro A
  induction A with
  | nil => intro B r; rfl
  | cons a l ih =>
    intro B r
    simp only [List.cons_append, sndG, lftG]
    split <;> simp [ih]
theorem updG_app (t w : Int) : ∀ (A B : List Hd) (r : Int), updG t w r (A ++ B) = updG t w r A ++ updG t w (lftG id t w r A) B := by
  intro A
  induction A with
  | nil => intro B r; rfl
  | cons a l ih =>
    intro B r
    simp only [List.cons_append, updG, lftG, id]
    split <;> simp [ih]
/-- what is seen at the record k: sent, or not -/
theorem snd_yes {t w r : Int} {L : List Hd} {k : Nat} (hk : k < L.length) (h : okH t w (lftG id t w r (L.take k)) L[k]) :
    (sndG id t w r L)[(sndG id t w r (L.take k)).length]? = some L[k] ∧ (sndG id t w r (L.take (k + 1))).length = (sndG id t w r (L.take k)).length + 1 ∧ lftG id t w r (L.take (k + 1)) = lftG id t w r (L.take k) - byH L[k] ∧ (updG t w r L)[k]? = some { L[k] with sent := t } := by
  have e : L = L.take k ++ L[k] :: L.drop (k + 1) := by rw [List.getElem_cons_drop, List.take_append_drop]
  have h2 := sndG_yes id t w L[k] (L.take k) r h
  rw [← List.take_succ_eq_append_getElem hk] at h2
  refine ⟨?_, by rw [h2.1]; simp, h2.2, ?_⟩
  · have e2 : sndG id t w r L = sndG id t w r (L.take k) ++ L[k] :: sndG id t w (lftG id t w r (L.take k) - byH L[k]) (L.drop (k + 1)) := by
      conv => lhs; rw [e]
      rw [sndG_app]
      congr 1
      simp only [sndG, id]
      rw [if_pos h]
    rw [e2, List.getElem?_append_right (Nat.le_refl _)]
    simp
  · have e2 : updG t w r L = updG t w r (L.take k) ++ { L[k] with sent := t } :: updG t w (lftG id t w r (L.take k) - byH L[k]) (L.drop (k + 1)) := by
      conv => lhs; rw [e]
      rw [updG_app]
      congr 1
      simp only [updG]
      rw [if_pos h]
    have el : (updG t w r (L.take k)).length = k := by rw [updG_length, List.length_take]; omega
    rw [e2, List.getElem?_append_right (by omega), el]
    simp
theorem snd_no {t w r : Int} {L : List Hd} {k : Nat} (hn : (idsL L).Nodup) (hk : k < L.length) (h : ¬okH t w (lftG id t w r (L.take k)) L[k]) :
    (∀ y, (sndG id t w r L)[(sndG id t w r (L.take k)).length]? = some y → y.r.id ≠ L[k].r.id) ∧ (sndG id t w r (L.take (k + 1))).length = (sndG id t w r (L.take k)).length ∧ lftG id t w r (L.take (k + 1)) = lftG id t w r (L.take k) ∧ (updG t w r L)[k]? = some L[k] := by
  have e : L = L.take k ++ L[k] :: L.drop (k + 1) := by rw [List.getElem_cons_drop, List.take_append_drop]
  have h2 := sndG_no id t w L[k] (L.take k) r h
  rw [← List.take_succ_eq_append_getElem hk] at h2
  refine ⟨fun y hy he => ?_, by rw [h2.1], h2.2, ?_⟩
  · have e2 : sndG id t w r L = sndG id t w r (L.take k) ++ sndG id t w (lftG id t w r (L.take k)) (L.drop (k + 1)) := by
      conv => lhs; rw [e]
      rw [sndG_app]
      congr 1
      simp only [sndG, id]
      rw [if_neg h]
    rw [e2, List.getElem?_append_right (Nat.le_refl _), Nat.sub_self] at hy
    have hm := sndG_mem id t w _ _ y (List.mem_of_getElem? hy)
    obtain ⟨j, hj, rfl⟩ := List.mem_iff_getElem.1 hm
    rw [List.length_drop] at hj
    rw [List.getElem_drop] at he
    have a1 : (idsL L)[k + 1 + j]'(by simp [idsL]; omega) = (idsL L)[k]'(by simpa [idsL] using hk) := by simpa [idsL] using he
    have := (List.getElem_inj hn).1 a1
    omega
  · have e2 : updG t w r L = updG t w r (L.take k) ++ L[k] :: updG t w (lftG id t w r (L.take k)) (L.drop (k + 1)) := by
      conv => lhs; rw [e]
      rw [updG_app]
      congr 1
      simp only [updG]
      rw [if_neg h]
    have el : (updG t w r (L.take k)).length = k := by rw [updG_length, List.length_take]; omega
    rw [e2, List.getElem?_append_right (by omega), el]
    simp
theorem put_total {S : Nat → Prop} {b M : Nat} {v : Value} {cap time : Int} {L : List Hd} (r : Rc) (w : World) (h : BufAt w S b M v cap time L) (hcap : 0 ≤ cap) (hlen : L.length ≤ 256) (hok : OkR r) :
    Calls Try.prog 22 #[.pointer (some ⟨b, 0, none⟩), .agg #[.int .i64 r.id, .int .i64 r.cls, .int .i64 r.made, .int .i64 r.size, .int .i64 r.packed]] w fun e w' => ∃ x, e = .returned x ∧ ∃ L' S' v', BufAt w' S' b M v' cap time L' ∧ FrS w w' S S' ∧ L'.length ≤ L.length + 1 ∧ L'.length ≤ 256 := by
  by_cases hid : r.id ∈ idsL L
  · refine (put_have r w h hok hid).mono ?_
    rintro e w1 ⟨rfl, hb⟩
    exact ⟨_, rfl, L, S, v, h.below hb, FrS.of S hb, by omega, hlen⟩
  · by_cases hlim : cap < r.packed
    · refine (put_limit r w h hok hid hlim).mono ?_
      rintro e w1 ⟨rfl, hb⟩
      exact ⟨_, rfl, L, S, v, h.below hb, FrS.of S hb, by omega, hlen⟩
    · obtain ⟨L', D, he, hfit⟩ := putP_ok (L := L) (r := r) hcap
      refine (put_fit r w h hcap hlen hok hid hlim he).mono ?_
      rintro e w1 ⟨v', S', dv, rfl, hb, hf, -, -⟩
      have := hfit.len
      rw [insL_length] at this
      exact ⟨_, rfl, L', S', v', hb, hf, by omega, hfit.few⟩
set_option maxRecDepth 100000 in
set_option maxHeartbeats 4000000 in
theorem burst_late {S : Nat → Prop} {b M : Nat} {v : Value} {cap time : Int} {L : List Hd} (r t wt : Int) (w : World) (h : BufAt w S b M v cap time L) (hr : 0 ≤ r ∧ r ≤ 16777216) (ht : t < time) :
    Calls Try.prog 24 #[.pointer (some ⟨b, 0, none⟩), .int .i64 r, .int .i64 t, .int .i64 wt] w fun e w' => e = .returned (.tuple #[.slice none 0 0, .int .i64 3]) ∧ Below w.heap.size w w' := by
  obtain ⟨A, hA⟩ : ∃ A, A = (w.alloc (.cells #[.pointer (some ⟨b, 0, none⟩)] 27)).alloc (.cells #[.int .i64 t] 2) := ⟨_, rfl⟩
  have hBA : Below w.heap.size w A := by rw [hA]; exact ((Below.refl _ _).alloc (Nat.le_refl _) _).alloc (by simp) _
  have hA0 : A.heap[w.heap.size]? = some (.cells #[.pointer (some ⟨b, 0, none⟩)] 27 (0, 0)) := by rw [hA]; exact (Below.heap_alloc _ _ _ (by simp)).trans (World.alloc_heap_new _ _)
  have hA1 : A.heap[w.heap.size + 1]? = some (.cells #[.int .i64 t] 2 (0, 0)) := by
    rw [hA]
    have q := World.alloc_heap_new (w.alloc (.cells #[.pointer (some ⟨b, 0, none⟩)] 27)) (.cells #[.int .i64 t] 2)
    simpa using q
  have hAb := h.below hBA
  have c56 := valid_any A hAb
  have c1 := fun W => withinL r 0 16777216 W
  rw [decide_eq_true hr] at c1
  have c2 := fun W => withinL t time 1073741824 W
  rw [decide_eq_false (show ¬(time ≤ t ∧ t ≤ 1073741824) by omega)] at c2
  have k0 : A.cell? ⟨w.heap.size, 0, none⟩ = some (.pointer (some ⟨b, 0, none⟩)) := (cellH hA0 0).trans (by simp)
  have k1 : A.cell? ⟨w.heap.size + 1, 0, none⟩ = some (.int .i64 t) := (cellH hA1 0).trans (by simp)
  have kt : A.cell? ⟨b, 2, none⟩ = some (.int .i64 time) := hAb.all.2.2.1
  have HBA := Lib.hid hBA
  clear hBA hA0 hA1 hAb h hr ht
  go_enter Try.func24, Try.ntmps24
  go_upto_region 1 with fail
  rw [← hA]
  clear hA
  go_wp2_with fail
  refine c56.mono ?_
  rintro e w1 ⟨rfl, hw1⟩
  rw [hw1]
  clear hw1 c56
  go_upto_region 3 with fail
  have KD := Lib.hid (show A.drew.cell? ⟨w.heap.size, 0, none⟩ = some (Value.pointer (some ⟨b, 0, none⟩)) ∧ A.drew.cell? ⟨w.heap.size + 1, 0, none⟩ = some (Value.int .i64 t) ∧ A.drew.cell? ⟨b, 2, none⟩ = some (Value.int .i64 time) from ⟨by simpa [go_sem] using k0, by simpa [go_sem] using k1, by simpa [go_sem] using kt⟩)
  refine wp_region_held_drew (S := fun w' => w'.cell? ⟨w.heap.size, 0, none⟩ = some (Value.pointer (some ⟨b, 0, none⟩)) ∧ w'.cell? ⟨w.heap.size + 1, 0, none⟩ = some (Value.int .i64 t) ∧ w'.cell? ⟨b, 2, none⟩ = some (Value.int .i64 time)) (by kernel_rfl) KD.out (fun hHeld => ?_)
  refine wpAnyH_take (i := 0) (oi := _) (v := Value.int .i64 r) rfl (by kernel_rfl) (by kernel_rfl) (by kernel_rfl) (fun _ _ _ h => h) (Or.inl ⟨by rfl, fun w' hSw => ?_⟩) hHeld ?_
  · obtain ⟨t0, t1, t2⟩ := hSw
    go_simp
    try simp [*]
    try (intro hh; exfalso; omega)
    try omega
  try simp only [Act.put, List.setIfInBounds_toArray, List.set_cons_zero, List.set_cons_succ, List.getElem_toArray, List.getElem_cons_succ, List.getElem_cons_zero]
  refine wpAnyH_ready (rs := [1]) (by kernel_rfl) (by simp) ?_
  refine AllReadyH.cons (o := _) rfl (fun K hK => ?_) (AllReadyH.nil)
  go_simp
  go_at_call 53
  refine Calls.mono (c1 _) ?_
  rintro e z1 ⟨rfl, rfl⟩
  clear hHeld
  refine hK.out _ _ KD.out (fun hHeld => ?_)
  clear hK K
  try simp only [Act.put, List.setIfInBounds_toArray, List.set_cons_zero, List.set_cons_succ, List.getElem_toArray, List.getElem_cons_succ, List.getElem_cons_zero]
  refine wpAnyH_take (i := 2) (oi := _) (v := Value.bool false) rfl (by kernel_rfl) (by kernel_rfl) (by kernel_rfl) (fun _ _ _ h => h) (Or.inl ⟨by rfl, fun w' hSw => ?_⟩) hHeld ?_
  · obtain ⟨t0, t1, t2⟩ := hSw
    go_simp
    try simp [*]
    try (intro hh; exfalso; omega)
    try omega
  try simp only [Act.put, List.setIfInBounds_toArray, List.set_cons_zero, List.set_cons_succ, List.getElem_toArray, List.getElem_cons_succ, List.getElem_cons_zero]
  refine wpAnyH_take (i := 3) (oi := _) (v := Value.bool false) rfl (by kernel_rfl) (by kernel_rfl) (by kernel_rfl) (fun _ _ _ h => h) (Or.inl ⟨by rfl, fun w' hSw => ?_⟩) hHeld ?_
  · obtain ⟨t0, t1, t2⟩ := hSw
    go_simp
    try simp [*]
    try (intro hh; exfalso; omega)
    try omega
  try simp only [Act.put, List.setIfInBounds_toArray, List.set_cons_zero, List.set_cons_succ, List.getElem_toArray, List.getElem_cons_succ, List.getElem_cons_zero]
  refine wpAnyH_take (i := 4) (oi := _) (v := Value.int .i64 t) rfl (by kernel_rfl) (by kernel_rfl) (by kernel_rfl) (fun _ _ _ h => h) (Or.inl ⟨by rfl, fun w' hSw => ?_⟩) hHeld ?_
  · obtain ⟨t0, t1, t2⟩ := hSw
    go_simp
    try simp [*]
    try (intro hh; exfalso; omega)
    try omega
  try simp only [Act.put, List.setIfInBounds_toArray, List.set_cons_zero, List.set_cons_succ, List.getElem_toArray, List.getElem_cons_succ, List.getElem_cons_zero]
  refine wpAnyH_take (i := 5) (oi := _) (v := Value.pointer (some ⟨b, 0, none⟩)) rfl (by kernel_rfl) (by kernel_rfl) (by kernel_rfl) (fun _ _ _ h => h) (Or.inl ⟨by rfl, fun w' hSw => ?_⟩) hHeld ?_
  · obtain ⟨t0, t1, t2⟩ := hSw
    go_simp
    try simp [*]
    try (intro hh; exfalso; omega)
    try omega
  try simp only [Act.put, List.setIfInBounds_toArray, List.set_cons_zero, List.set_cons_succ, List.getElem_toArray, List.getElem_cons_succ, List.getElem_cons_zero]
  refine wpAnyH_take (i := 6) (oi := _) (v := Value.pointer (some ⟨b, 0, none⟩)) rfl (by kernel_rfl) (by kernel_rfl) (by kernel_rfl) (fun _ _ _ h => h) (Or.inl ⟨by rfl, fun w' hSw => ?_⟩) hHeld ?_
  · obtain ⟨t0, t1, t2⟩ := hSw
    go_simp
    try simp [*]
    try (intro hh; exfalso; omega)
    try omega
  try simp only [Act.put, List.setIfInBounds_toArray, List.set_cons_zero, List.set_cons_succ, List.getElem_toArray, List.getElem_cons_succ, List.getElem_cons_zero]
  refine wpAnyH_take (i := 7) (oi := _) (v := Value.pointer (some ⟨b, 2, none⟩)) rfl (by kernel_rfl) (by kernel_rfl) (by kernel_rfl) (fun _ _ _ h => h) (Or.inl ⟨by rfl, fun w' hSw => ?_⟩) hHeld ?_
  · obtain ⟨t0, t1, t2⟩ := hSw
    go_simp
    try simp [*]
    try (intro hh; exfalso; omega)
    try omega
  try simp only [Act.put, List.setIfInBounds_toArray, List.set_cons_zero, List.set_cons_succ, List.getElem_toArray, List.getElem_cons_succ, List.getElem_cons_zero]
  refine wpAnyH_take (i := 8) (oi := _) (v := Value.int .i64 time) rfl (by kernel_rfl) (by kernel_rfl) (by kernel_rfl) (fun _ _ _ h => h) (Or.inl ⟨by rfl, fun w' hSw => ?_⟩) hHeld ?_
  · obtain ⟨t0, t1, t2⟩ := hSw
    go_simp
    try simp [*]
    try (intro hh; exfalso; omega)
    try omega
  try simp only [Act.put, List.setIfInBounds_toArray, List.set_cons_zero, List.set_cons_succ, List.getElem_toArray, List.getElem_cons_succ, List.getElem_cons_zero]
  refine wpAnyH_ready (rs := [9]) (by kernel_rfl) (by simp) ?_
  refine AllReadyH.cons (o := _) rfl (fun K hK => ?_) (AllReadyH.nil)
  go_simp
  go_at_call 53
  refine Calls.mono (c2 _) ?_
  rintro e z2 ⟨rfl, rfl⟩
  clear hHeld
  refine hK.out _ _ KD.out (fun hHeld => ?_)
  clear hK K
  try simp only [Act.put, List.setIfInBounds_toArray, List.set_cons_zero, List.set_cons_succ, List.getElem_toArray, List.getElem_cons_succ, List.getElem_cons_zero]
  refine wpAnyH_take (i := 10) (oi := _) (v := Value.bool true) rfl (by kernel_rfl) (by kernel_rfl) (by kernel_rfl) (fun _ _ _ h => h) (Or.inl ⟨by rfl, fun w' hSw => ?_⟩) hHeld ?_
  · obtain ⟨t0, t1, t2⟩ := hSw
    go_simp
    try simp [*]
    try (intro hh; exfalso; omega)
    try omega
  try simp only [Act.put, List.setIfInBounds_toArray, List.set_cons_zero, List.set_cons_succ, List.getElem_toArray, List.getElem_cons_succ, List.getElem_cons_zero]
  refine wpAnyH_take (i := 11) (oi := _) (v := Value.bool true) rfl (by kernel_rfl) (by kernel_rfl) (by kernel_rfl) (fun _ _ _ h => h) (Or.inl ⟨by rfl, fun w' hSw => ?_⟩) hHeld ?_
  · obtain ⟨t0, t1, t2⟩ := hSw
    go_simp
    try simp [*]
    try (intro hh; exfalso; omega)
    try omega
  try simp only [Act.put, List.setIfInBounds_toArray, List.set_cons_zero, List.set_cons_succ, List.getElem_toArray, List.getElem_cons_succ, List.getElem_cons_zero]
  refine wpAnyH_take (i := 12) (oi := _) (v := Value.bool true) rfl (by kernel_rfl) (by kernel_rfl) (by kernel_rfl) (fun _ _ _ h => h) (Or.inl ⟨by rfl, fun w' hSw => ?_⟩) hHeld ?_
  · obtain ⟨t0, t1, t2⟩ := hSw
    go_simp
    try simp [*]
    try (intro hh; exfalso; omega)
    try omega
  try simp only [Act.put, List.setIfInBounds_toArray, List.set_cons_zero, List.set_cons_succ, List.getElem_toArray, List.getElem_cons_succ, List.getElem_cons_zero]
  refine wpAnyH_take (i := 13) (oi := _) (v := undef) rfl (by kernel_rfl) (by kernel_rfl) (by kernel_rfl) (fun _ _ _ h => h) (Or.inr ⟨by rfl, rfl⟩) hHeld ?_
  try simp only [Act.put, List.setIfInBounds_toArray, List.set_cons_zero, List.set_cons_succ, List.getElem_toArray, List.getElem_cons_succ, List.getElem_cons_zero]
  refine wpAnyH_take (i := 14) (oi := _) (v := undef) rfl (by kernel_rfl) (by kernel_rfl) (by kernel_rfl) (fun _ _ _ h => h) (Or.inr ⟨by rfl, rfl⟩) hHeld ?_
  try simp only [Act.put, List.setIfInBounds_toArray, List.set_cons_zero, List.set_cons_succ, List.getElem_toArray, List.getElem_cons_succ, List.getElem_cons_zero]
  refine wpAnyH_take (i := 15) (oi := _) (v := undef) rfl (by kernel_rfl) (by kernel_rfl) (by kernel_rfl) (fun _ _ _ h => h) (Or.inr ⟨by rfl, rfl⟩) hHeld ?_
  try simp only [Act.put, List.setIfInBounds_toArray, List.set_cons_zero, List.set_cons_succ, List.getElem_toArray, List.getElem_cons_succ, List.getElem_cons_zero]
  refine wpAnyH_take (i := 16) (oi := _) (v := Value.bool true) rfl (by kernel_rfl) (by kernel_rfl) (by kernel_rfl) (fun _ _ _ h => h) (Or.inl ⟨by rfl, fun w' hSw => ?_⟩) hHeld ?_
  · obtain ⟨t0, t1, t2⟩ := hSw
    go_simp
    try simp [*]
    try (intro hh; exfalso; omega)
    try omega
  try simp only [Act.put, List.setIfInBounds_toArray, List.set_cons_zero, List.set_cons_succ, List.getElem_toArray, List.getElem_cons_succ, List.getElem_cons_zero]
  refine wpAnyH_done (by kernel_rfl) ?_ _
  clear hHeld
  go_wp2_with fail
  exact bodyPost_ret (v := .tuple #[.slice none 0 0, .int .i64 3]) (by simp [results, Try.results24, go_sem]) rfl ⟨rfl, HBA.out.drew⟩

end Go.Proofs.Ytbbaehmfadpgeaa

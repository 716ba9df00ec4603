/-
  Bursts: what is sent, and the buffer behind it.
-/
import Derived.Test.YtbbaehmfadpgeaaBuC
import Derived.Test.YtbbaehmfadpgeaaBuD
namespace Go.Proofs.Ytbbaehmfadpgeaa
open Go.RowKit Go.Shelf
set_option linter.unusedSimpArgs false
attribute [local go_sem] Oper.semAt_some
theorem own_kept {W W' : World} {row : Option Nat} {B base : Nat} {e : TypeId} {s n : Nat} {v : Value} {xs : List Value} (h : W.ownsRow base e s v n xs) (hg : W.grownBy W' row) (hr : ∀ r, row = some r → B ≤ r ∧ ∃ o : Obj, W.heap[r]? = some o ∧ o.isCells = false) : W'.ownsRow base e s v n xs := by
  refine ⟨h.1, ?_⟩
  rcases h.2 with h2 | ⟨g, cap, cur, rfl, hb, hc, h3⟩
  · exact .inl h2
  · exact .inr ⟨g, cap, cur, rfl, hb, cell_kept hg hr hc, h3⟩
/-- between two rounds of a burst -/
def BuI (w : World) (S : Nat → Prop) (b M : Nat) (v : Value) (cap t : Int) {L : List Hd} (ys : List {x // x ∈ L}) (Z : World) : Prop :=
  MapH Z M L.length (fB L t (vls ys)) ∧ Z.heap[b]? = some (.cells #[.pointer (some ⟨b, 0, none⟩), .int .i64 cap, .int .i64 t, .map (some M), v] 108 (0, 0)) ∧ (∀ q, v.ownBlock = some q → Z.heap[q]? = w.heap[q]?) ∧
  Z.heap[w.heap.size]? = some (.cells #[.pointer (some ⟨b, 0, none⟩)] 27 (0, 0)) ∧ Z.heap[w.heap.size + 1]? = some (.cells #[.int .i64 t] 2 (0, 0)) ∧
  (∃ dv, Z.heap[w.heap.size + 2]? = some (.cells #[dv] 41 (0, 0)) ∧ Z.ownsRow (w.heap.size + 12) 2 1 dv ys.length (zv (idsL (vls ys)))) ∧
  Z.os = w.os ∧ Z.tape = w.tape ∧ Z.output = w.output ∧ (∀ k, k < w.heap.size → ¬S k → Z.heap[k]? = w.heap[k]?) ∧ w.heap.size + 7 ≤ Z.heap.size
/-- what keeps the blocks of a burst keeps what holds between its rounds -/
theorem BuI.keep {w : World} {S : Nat → Prop} {b M : Nat} {v : Value} {cap t : Int} {L : List Hd} {ys : List {x // x ∈ L}} {Z Z' : World} (hM : M < w.heap.size) (hb : b < w.heap.size) (hv : ∀ q, v.ownBlock = some q → q < w.heap.size) (h : BuI w S b M v cap t ys Z)
    (ho : Z'.os = Z.os) (ht : Z'.tape = Z.tape) (hp : Z'.output = Z.output) (hz : Z.heap.size ≤ Z'.heap.size) (hk : ∀ k, k < w.heap.size + 7 → Z'.heap[k]? = Z.heap[k]?) (hr : ∀ dv n xs, Z.ownsRow (w.heap.size + 12) 2 1 dv n xs → Z'.ownsRow (w.heap.size + 12) 2 1 dv n xs) : BuI w S b M v cap t ys Z' := by
  obtain ⟨h1, h2, h3, h4, h5, ⟨dv, h6, h7⟩, h8, h9, h10, h11, h12⟩ := h
  exact ⟨h1.same (hk M (by omega)), (hk b (by omega)).trans h2, fun q hq => (hk q (by have := hv q hq; omega)).trans (h3 q hq), (hk _ (by omega)).trans h4, (hk _ (by omega)).trans h5, ⟨dv, (hk _ (by omega)).trans h6, hr _ _ _ h7⟩, ho.trans h8, ht.trans h9, hp.trans h10, fun k hkw hS => (hk k (by omega)).trans (h11 k hkw hS), Nat.le_trans h12 hz⟩
set_option maxRecDepth 100000 in
set_option maxHeartbeats 8000000 in
theorem burst_ok {S : Nat → Prop} {b M : Nat} {v : Value} {cap time : Int} {L : List Hd} (r t wt : Int) (w : World) (h : BufAt w S b M v cap time L) (hlen : L.length ≤ 1000) (hr : 0 ≤ r ∧ r ≤ 16777216) (ht : time ≤ t ∧ t ≤ 1073741824) (h0 : 0 ≤ time) (hwt : 0 ≤ wt ∧ wt ≤ 1073741824) :
    Calls Try.prog 24 #[.pointer (some ⟨b, 0, none⟩), .int .i64 r, .int .i64 t, .int .i64 wt] w fun e w' => ∃ dv, e = .returned (.tuple #[dv, .int .i64 0]) ∧ BufAt w' S b M v cap t (updG t wt r L) ∧ FrS w w' S S ∧ w'.ownsRow w.heap.size 2 1 dv (sndG id t wt r L).length (zv (idsL (sndG id t wt r L))) := by
  obtain ⟨p, c, hvv, hpn⟩ := own_slice h.row
  have HH := Lib.hid h
  obtain ⟨m0, m1, m2, m3, m4⟩ := h.all
  have hbl := h.lt b h.sb
  have hMl := h.lt M h.sm
  have hMb := h.ne.1
  obtain ⟨A, hA⟩ : ∃ A, A = (w.alloc (.cells #[.pointer (some ⟨b, 0, none⟩)] 27)).alloc (.cells #[.int .i64 t] 2) := ⟨_, rfl⟩
  have hBA : Below w.heap.size w A := by rw [hA]; exact ((Below.refl _ _).alloc (Nat.le_refl _) _).alloc (by simp) _
  have hAz : A.heap.size = w.heap.size + 2 := by rw [hA]; simp
  have hA0 : A.heap[w.heap.size]? = some (.cells #[.pointer (some ⟨b, 0, none⟩)] 27 (0, 0)) := by rw [hA]; exact (Below.heap_alloc _ _ _ (by simp)).trans (World.alloc_heap_new _ _)
  have hA1 : A.heap[w.heap.size + 1]? = some (.cells #[.int .i64 t] 2 (0, 0)) := by
    rw [hA]
    have q := World.alloc_heap_new (w.alloc (.cells #[.pointer (some ⟨b, 0, none⟩)] 27)) (.cells #[.int .i64 t] 2)
    simpa using q
  have hAb := h.below hBA
  have c56 := valid_any A hAb
  have c1 := fun W => withinL r 0 16777216 W
  rw [decide_eq_true hr] at c1
  have c2 := fun W => withinL t time 1073741824 W
  rw [decide_eq_true ht] at c2
  have c3 := fun W => withinL wt 0 1073741824 W
  rw [decide_eq_true hwt] at c3
  have KS := Lib.hid (show A.cell? ⟨w.heap.size, 0, none⟩ = some (Value.pointer (some ⟨b, 0, none⟩)) ∧ A.cell? ⟨w.heap.size + 1, 0, none⟩ = some (Value.int .i64 t) ∧ A.cell? ⟨b, 2, none⟩ = some (Value.int .i64 time) from ⟨(cellH hA0 0).trans (by simp), (cellH hA1 0).trans (by simp), hAb.all.2.2.1⟩)
  have k0 : A.cell? ⟨w.heap.size, 0, none⟩ = some (.pointer (some ⟨b, 0, none⟩)) := (cellH hA0 0).trans (by simp)
  have k1 : A.cell? ⟨w.heap.size + 1, 0, none⟩ = some (.int .i64 t) := (cellH hA1 0).trans (by simp)
  have kf : A.frozen? ⟨b, 2, none⟩ = false := frozH hAb.blk 2
  have kt : A.cell? ⟨b, 2, none⟩ = some (.int .i64 time) := hAb.all.2.2.1
  obtain ⟨W1, hW1⟩ : ∃ W1, W1 = A.setCell ⟨b, 2, none⟩ (.int .i64 t) := ⟨_, rfl⟩
  have h1b : W1.heap[b]? = some (.cells #[.pointer (some ⟨b, 0, none⟩), .int .i64 cap, .int .i64 t, .map (some M), v] 108 (0, 0)) := by
    rw [hW1, heap_setCell_same _ _ _ _ _ _ hAb.blk]
    rfl
  have h1k : ∀ k, k ≠ b → W1.heap[k]? = A.heap[k]? := fun k hk => by rw [hW1]; exact Below.heap_setCell _ _ _ _ hk
  have h1z : W1.heap.size = w.heap.size + 2 := by
    rw [hW1, ← hAz]
    simp [World.setCell]
  obtain ⟨X, hX⟩ : ∃ X, X = (W1.alloc (.cells #[.slice none 0 0] 41)).drew := ⟨_, rfl⟩
  have hXz : X.heap.size = w.heap.size + 3 := by rw [hX]; show (W1.alloc _).heap.size = _; simp; omega
  have hXb : Below W1.heap.size W1 X := by rw [hX]; exact ((Below.refl _ _).alloc (Nat.le_refl _) _).drew
  have hX2 : X.heap[w.heap.size + 2]? = some (.cells #[.slice none 0 0] 41 (0, 0)) := by
    rw [hX, ← h1z]
    exact World.alloc_heap_new W1 _
  obtain ⟨W3, hW3⟩ : ∃ W3, W3 = (((X.alloc (.cells #[.pointer (some ⟨b, 0, none⟩)] 27)).alloc (.cells #[.int .i64 r] 2)).alloc (.cells #[.int .i64 t] 2)).alloc (.cells #[.int .i64 wt] 2) := ⟨_, rfl⟩
  have h3z : W3.heap.size = w.heap.size + 7 := by rw [hW3]; simp; omega
  have hX3 : Below X.heap.size X W3 := by rw [hW3]; exact ((((Below.refl _ _).alloc (Nat.le_refl _) _).alloc (by simp) _).alloc (by simp; omega) _).alloc (by simp; omega) _
  have h3b : Below W1.heap.size W1 W3 := hXb.trans (hX3.mono hXb.size)
  have e0 : W3.heap[w.heap.size + 2]? = some (.cells #[.slice none 0 0] 41 (0, 0)) := (hX3.block _ (by omega)).trans hX2
  have e1 : W3.heap[w.heap.size + 3]? = some (.cells #[.pointer (some ⟨b, 0, none⟩)] 27 (0, 0)) := by
    rw [hW3, show w.heap.size + 3 = X.heap.size by omega]
    refine (Below.heap_alloc _ _ _ (by simp; try omega)).trans ?_
    refine (Below.heap_alloc _ _ _ (by simp; try omega)).trans ?_
    refine (Below.heap_alloc _ _ _ (by simp; try omega)).trans ?_
    have q := World.alloc_heap_new (X) (.cells #[.pointer (some ⟨b, 0, none⟩)] 27)
    simpa using q
  have e2 : W3.heap[w.heap.size + 4]? = some (.cells #[.int .i64 r] 2 (0, 0)) := by
    rw [hW3, show w.heap.size + 4 = X.heap.size + 1 by omega]
    refine (Below.heap_alloc _ _ _ (by simp; try omega)).trans ?_
    refine (Below.heap_alloc _ _ _ (by simp; try omega)).trans ?_
    have q := World.alloc_heap_new ((X).alloc (.cells #[.pointer (some ⟨b, 0, none⟩)] 27)) (.cells #[.int .i64 r] 2)
    simpa using q
  have e3 : W3.heap[w.heap.size + 5]? = some (.cells #[.int .i64 t] 2 (0, 0)) := by
    rw [hW3, show w.heap.size + 5 = X.heap.size + 2 by omega]
    refine (Below.heap_alloc _ _ _ (by simp; try omega)).trans ?_
    have q := World.alloc_heap_new (((X).alloc (.cells #[.pointer (some ⟨b, 0, none⟩)] 27)).alloc (.cells #[.int .i64 r] 2)) (.cells #[.int .i64 t] 2)
    simpa using q
  have e4 : W3.heap[w.heap.size + 6]? = some (.cells #[.int .i64 wt] 2 (0, 0)) := by
    rw [hW3, show w.heap.size + 6 = X.heap.size + 3 by omega]
    have q := World.alloc_heap_new ((((X).alloc (.cells #[.pointer (some ⟨b, 0, none⟩)] 27)).alloc (.cells #[.int .i64 r] 2)).alloc (.cells #[.int .i64 t] 2)) (.cells #[.int .i64 wt] 2)
    simpa using q
  have g3b : W3.heap[b]? = some (.cells #[.pointer (some ⟨b, 0, none⟩), .int .i64 cap, .int .i64 t, .map (some M), v] 108 (0, 0)) := (h3b.block b (by omega)).trans h1b
  have g3k : ∀ k, k < w.heap.size → k ≠ b → W3.heap[k]? = w.heap[k]? := fun k hk hne => (h3b.block k (by omega)).trans ((h1k k hne).trans (hBA.block k hk))
  have hvl : ∀ q, v.ownBlock = some q → q < w.heap.size ∧ q ≠ b ∧ q ≠ M := fun q hq => ⟨h.lt q (h.sr q hq), (h.ne.2 q hq).1, (h.ne.2 q hq).2⟩
  have HI0 := Lib.hid (show BuI w S b M v cap t ([] : List {x // x ∈ L}) W3 from by
    refine ⟨?_, g3b, fun q hq => g3k q (hvl q hq).1 (hvl q hq).2.1, ?_, ?_, ⟨_, e0, World.ownsRow_nil _ _ _ _⟩, ?_, ?_, ?_, fun k hk hS => g3k k hk (fun e => hS (e ▸ h.sb)), by omega⟩
    · rw [show vls ([] : List {x // x ∈ L}) = [] from rfl, fB_nil]
      exact h.tab.same (g3k M hMl hMb)
    · exact (h3b.block _ (by omega)).trans ((h1k _ (by omega)).trans hA0)
    · exact (h3b.block _ (by omega)).trans ((h1k _ (by omega)).trans hA1)
    · exact h3b.os.trans ((show W1.os = A.os by rw [hW1]; first | (simp [World.setCell]; done) | (simp [World.setCell]; rfl)).trans hBA.os)
    · exact h3b.tape.trans ((show W1.tape = A.tape by rw [hW1]; first | (simp [World.setCell]; done) | (simp [World.setCell]; rfl)).trans hBA.tape)
    · exact h3b.output.trans ((show W1.output = A.output by rw [hW1]; first | (simp [World.setCell]; done) | (simp [World.setCell]; rfl)).trans hBA.output))
  have hrows : ∀ k (hk : k < L.length), ∃ g, p = some ⟨g, 0, none⟩ ∧ W3.cell? ⟨g, k, none⟩ = some (.int .i64 (L[k].r.id)) := fun k hk => by
    rcases h.row.2 with ⟨e, e2⟩ | ⟨g, c2, cur, e, _, hbk, h4, h5, h6, h7⟩
    · omega
    · rw [hvv] at e
      simp only [Value.slice.injEq] at e
      obtain ⟨rfl, -, rfl⟩ := e
      have hg := hvl g (by rw [hvv]; rfl)
      refine ⟨g, rfl, ?_⟩
      rw [cellH ((g3k g hg.1 hg.2.1).trans hbk)]
      have e2 : (cur.toList.take (L.length * 1))[k]? = some (.int .i64 (L[k].r.id)) := by rw [h7]; exact zv_get hk
      rw [List.getElem?_take, if_pos (by omega)] at e2
      simpa using e2
  have hpw : ∀ q, pB p q → q < w.heap.size ∧ q ≠ M := fun q hq => by
    obtain ⟨g, e, rfl⟩ := hq
    have := hvl q (by rw [hvv, e]; rfl)
    exact ⟨this.1, this.2.2⟩
  have hseq := sending_at 8 (by omega) (w.heap.size + 4) (w.heap.size + 3) (w.heap.size + 5) (w.heap.size + 6) b M c p r t wt L h.ok hlen hr ⟨by omega, ht.2⟩ hwt W3 ((cellH e2 0).trans (by simp)) ((cellH e1 0).trans (by simp)) e3 e4 ((cellH g3b 3).trans (by simp)) ((cellH g3b 4).trans (by simp [hvv])) hrows (fun q hq => by have := (hpw q hq).1; omega)
  have c63 := sending_any b r t wt X
  rw [← hW3, hXz] at c63
  have HPW := Lib.hid hpw
  have HVL := Lib.hid hvl
  have HSL := Lib.hid h.lt
  have H3Z := Lib.hid h3z
  have HOK := Lib.hid h.ok
  have HND := Lib.hid h.nd
  have HBM := Lib.hid (show b < w.heap.size ∧ M < w.heap.size ∧ M ≠ b from ⟨hbl, hMl, hMb⟩)
  clear h hBA hA0 hA1 hAb h1b h1k e0 e1 e2 e3 e4 g3b g3k hvl hrows hpw m0 m1 m2 m3 m4 h3b hMb hr ht h0 hwt h3z hX2 hX3 hXb hXz
  refine calls_marks 9 Try.func24 rfl ?_
  simp only [Try.ntmps24, List.size_toArray, List.length_cons, List.length_nil, Nat.reduceAdd, Nat.reduceSub, Array.replicate_succ, Array.replicate_zero, List.push_toArray, List.append_toArray, List.nil_append, List.cons_append]
  have HW1 := Lib.hid hW1
  have HW3 := Lib.hid hW3
  have HXX := Lib.hid hX
  clear hW1 hW3 hX
  gi_wp2
  rw [← hA]
  clear hA
  first | refine ⟨trivial, fun _ => by omega, ?_⟩ | refine ⟨trivial, ?_⟩
  refine (callsIn_wide.2 c56).mono ?_
  rintro e w1 ⟨rfl, hw1⟩
  rw [hw1]
  clear hw1 c56
  gi_wp2
  refine wpIn_wide.2 ?_
  have KD := Lib.hid (show A.drew.cell? ⟨w.heap.size, 0, none⟩ = some (Value.pointer (some ⟨b, 0, none⟩)) ∧ A.drew.cell? ⟨w.heap.size + 1, 0, none⟩ = some (Value.int .i64 t) ∧ A.drew.cell? ⟨b, 2, none⟩ = some (Value.int .i64 time) from ⟨by simpa [go_sem] using k0, by simpa [go_sem] using k1, by simpa [go_sem] using kt⟩)
  refine wp_region_held_drew (S := fun w' => w'.cell? ⟨w.heap.size, 0, none⟩ = some (Value.pointer (some ⟨b, 0, none⟩)) ∧ w'.cell? ⟨w.heap.size + 1, 0, none⟩ = some (Value.int .i64 t) ∧ w'.cell? ⟨b, 2, none⟩ = some (Value.int .i64 time)) (by kernel_rfl) KD.out (fun hHeld => ?_)
  refine wpAnyH_take (i := 0) (oi := _) (v := Value.int .i64 r) rfl (by kernel_rfl) (by kernel_rfl) (by kernel_rfl) (fun _ _ _ h => h) (Or.inl ⟨by rfl, fun w' hSw => ?_⟩) hHeld ?_
  · obtain ⟨t0, t1, t2⟩ := hSw
    go_simp
    try simp [*]
    try (intro hh; exfalso; omega)
    try omega
  try simp only [Act.put, List.setIfInBounds_toArray, List.set_cons_zero, List.set_cons_succ, List.getElem_toArray, List.getElem_cons_succ, List.getElem_cons_zero]
  refine wpAnyH_ready (rs := [1]) (by kernel_rfl) (by simp) ?_
  refine AllReadyH.cons (o := _) rfl (fun K hK => ?_) (AllReadyH.nil)
  go_simp
  go_at_call 53
  refine Calls.mono (c1 _) ?_
  rintro e z1 ⟨rfl, rfl⟩
  clear hHeld
  refine hK.out _ _ KD.out (fun hHeld => ?_)
  clear hK K
  try simp only [Act.put, List.setIfInBounds_toArray, List.set_cons_zero, List.set_cons_succ, List.getElem_toArray, List.getElem_cons_succ, List.getElem_cons_zero]
  refine wpAnyH_take (i := 2) (oi := _) (v := Value.bool false) rfl (by kernel_rfl) (by kernel_rfl) (by kernel_rfl) (fun _ _ _ h => h) (Or.inl ⟨by rfl, fun w' hSw => ?_⟩) hHeld ?_
  · obtain ⟨t0, t1, t2⟩ := hSw
    go_simp
    try simp [*]
    try (intro hh; exfalso; omega)
    try omega
  try simp only [Act.put, List.setIfInBounds_toArray, List.set_cons_zero, List.set_cons_succ, List.getElem_toArray, List.getElem_cons_succ, List.getElem_cons_zero]
  refine wpAnyH_take (i := 3) (oi := _) (v := Value.bool false) rfl (by kernel_rfl) (by kernel_rfl) (by kernel_rfl) (fun _ _ _ h => h) (Or.inl ⟨by rfl, fun w' hSw => ?_⟩) hHeld ?_
  · obtain ⟨t0, t1, t2⟩ := hSw
    go_simp
    try simp [*]
    try (intro hh; exfalso; omega)
    try omega
  try simp only [Act.put, List.setIfInBounds_toArray, List.set_cons_zero, List.set_cons_succ, List.getElem_toArray, List.getElem_cons_succ, List.getElem_cons_zero]
  refine wpAnyH_take (i := 4) (oi := _) (v := Value.int .i64 t) rfl (by kernel_rfl) (by kernel_rfl) (by kernel_rfl) (fun _ _ _ h => h) (Or.inl ⟨by rfl, fun w' hSw => ?_⟩) hHeld ?_
  · obtain ⟨t0, t1, t2⟩ := hSw
    go_simp
    try simp [*]
    try (intro hh; exfalso; omega)
    try omega
  try simp only [Act.put, List.setIfInBounds_toArray, List.set_cons_zero, List.set_cons_succ, List.getElem_toArray, List.getElem_cons_succ, List.getElem_cons_zero]
  refine wpAnyH_take (i := 5) (oi := _) (v := Value.pointer (some ⟨b, 0, none⟩)) rfl (by kernel_rfl) (by kernel_rfl) (by kernel_rfl) (fun _ _ _ h => h) (Or.inl ⟨by rfl, fun w' hSw => ?_⟩) hHeld ?_
  · obtain ⟨t0, t1, t2⟩ := hSw
    go_simp
    try simp [*]
    try (intro hh; exfalso; omega)
    try omega
  try simp only [Act.put, List.setIfInBounds_toArray, List.set_cons_zero, List.set_cons_succ, List.getElem_toArray, List.getElem_cons_succ, List.getElem_cons_zero]
  refine wpAnyH_take (i := 6) (oi := _) (v := Value.pointer (some ⟨b, 0, none⟩)) rfl (by kernel_rfl) (by kernel_rfl) (by kernel_rfl) (fun _ _ _ h => h) (Or.inl ⟨by rfl, fun w' hSw => ?_⟩) hHeld ?_
  · obtain ⟨t0, t1, t2⟩ := hSw
    go_simp
    try simp [*]
    try (intro hh; exfalso; omega)
    try omega
  try simp only [Act.put, List.setIfInBounds_toArray, List.set_cons_zero, List.set_cons_succ, List.getElem_toArray, List.getElem_cons_succ, List.getElem_cons_zero]
  refine wpAnyH_take (i := 7) (oi := _) (v := Value.pointer (some ⟨b, 2, none⟩)) rfl (by kernel_rfl) (by kernel_rfl) (by kernel_rfl) (fun _ _ _ h => h) (Or.inl ⟨by rfl, fun w' hSw => ?_⟩) hHeld ?_
  · obtain ⟨t0, t1, t2⟩ := hSw
    go_simp
    try simp [*]
    try (intro hh; exfalso; omega)
    try omega
  try simp only [Act.put, List.setIfInBounds_toArray, List.set_cons_zero, List.set_cons_succ, List.getElem_toArray, List.getElem_cons_succ, List.getElem_cons_zero]
  refine wpAnyH_take (i := 8) (oi := _) (v := Value.int .i64 time) rfl (by kernel_rfl) (by kernel_rfl) (by kernel_rfl) (fun _ _ _ h => h) (Or.inl ⟨by rfl, fun w' hSw => ?_⟩) hHeld ?_
  · obtain ⟨t0, t1, t2⟩ := hSw
    go_simp
    try simp [*]
    try (intro hh; exfalso; omega)
    try omega
  try simp only [Act.put, List.setIfInBounds_toArray, List.set_cons_zero, List.set_cons_succ, List.getElem_toArray, List.getElem_cons_succ, List.getElem_cons_zero]
  refine wpAnyH_ready (rs := [9]) (by kernel_rfl) (by simp) ?_
  refine AllReadyH.cons (o := _) rfl (fun K hK => ?_) (AllReadyH.nil)
  go_simp
  go_at_call 53
  refine Calls.mono (c2 _) ?_
  rintro e z2 ⟨rfl, rfl⟩
  clear hHeld
  refine hK.out _ _ KD.out (fun hHeld => ?_)
  clear hK K
  try simp only [Act.put, List.setIfInBounds_toArray, List.set_cons_zero, List.set_cons_succ, List.getElem_toArray, List.getElem_cons_succ, List.getElem_cons_zero]
  refine wpAnyH_take (i := 10) (oi := _) (v := Value.bool false) rfl (by kernel_rfl) (by kernel_rfl) (by kernel_rfl) (fun _ _ _ h => h) (Or.inl ⟨by rfl, fun w' hSw => ?_⟩) hHeld ?_
  · obtain ⟨t0, t1, t2⟩ := hSw
    go_simp
    try simp [*]
    try (intro hh; exfalso; omega)
    try omega
  try simp only [Act.put, List.setIfInBounds_toArray, List.set_cons_zero, List.set_cons_succ, List.getElem_toArray, List.getElem_cons_succ, List.getElem_cons_zero]
  refine wpAnyH_take (i := 11) (oi := _) (v := Value.bool false) rfl (by kernel_rfl) (by kernel_rfl) (by kernel_rfl) (fun _ _ _ h => h) (Or.inl ⟨by rfl, fun w' hSw => ?_⟩) hHeld ?_
  · obtain ⟨t0, t1, t2⟩ := hSw
    go_simp
    try simp [*]
    try (intro hh; exfalso; omega)
    try omega
  try simp only [Act.put, List.setIfInBounds_toArray, List.set_cons_zero, List.set_cons_succ, List.getElem_toArray, List.getElem_cons_succ, List.getElem_cons_zero]
  refine wpAnyH_take (i := 12) (oi := _) (v := Value.bool false) rfl (by kernel_rfl) (by kernel_rfl) (by kernel_rfl) (fun _ _ _ h => h) (Or.inl ⟨by rfl, fun w' hSw => ?_⟩) hHeld ?_
  · obtain ⟨t0, t1, t2⟩ := hSw
    go_simp
    try simp [*]
    try (intro hh; exfalso; omega)
    try omega
  try simp only [Act.put, List.setIfInBounds_toArray, List.set_cons_zero, List.set_cons_succ, List.getElem_toArray, List.getElem_cons_succ, List.getElem_cons_zero]
  refine wpAnyH_take (i := 13) (oi := _) (v := Value.int .i64 wt) rfl (by kernel_rfl) (by kernel_rfl) (by kernel_rfl) (fun _ _ _ h => h) (Or.inl ⟨by rfl, fun w' hSw => ?_⟩) hHeld ?_
  · obtain ⟨t0, t1, t2⟩ := hSw
    go_simp
    try simp [*]
    try (intro hh; exfalso; omega)
    try omega
  try simp only [Act.put, List.setIfInBounds_toArray, List.set_cons_zero, List.set_cons_succ, List.getElem_toArray, List.getElem_cons_succ, List.getElem_cons_zero]
  refine wpAnyH_ready (rs := [14]) (by kernel_rfl) (by simp) ?_
  refine AllReadyH.cons (o := _) rfl (fun K hK => ?_) (AllReadyH.nil)
  go_simp
  go_at_call 53
  refine Calls.mono (c3 _) ?_
  rintro e z3 ⟨rfl, rfl⟩
  clear hHeld
  refine hK.out _ _ KD.out (fun hHeld => ?_)
  clear hK K
  try simp only [Act.put, List.setIfInBounds_toArray, List.set_cons_zero, List.set_cons_succ, List.getElem_toArray, List.getElem_cons_succ, List.getElem_cons_zero]
  refine wpAnyH_take (i := 15) (oi := _) (v := Value.bool false) rfl (by kernel_rfl) (by kernel_rfl) (by kernel_rfl) (fun _ _ _ h => h) (Or.inl ⟨by rfl, fun w' hSw => ?_⟩) hHeld ?_
  · obtain ⟨t0, t1, t2⟩ := hSw
    go_simp
    try simp [*]
    try (intro hh; exfalso; omega)
    try omega
  try simp only [Act.put, List.setIfInBounds_toArray, List.set_cons_zero, List.set_cons_succ, List.getElem_toArray, List.getElem_cons_succ, List.getElem_cons_zero]
  refine wpAnyH_take (i := 16) (oi := _) (v := Value.bool false) rfl (by kernel_rfl) (by kernel_rfl) (by kernel_rfl) (fun _ _ _ h => h) (Or.inl ⟨by rfl, fun w' hSw => ?_⟩) hHeld ?_
  · obtain ⟨t0, t1, t2⟩ := hSw
    go_simp
    try simp [*]
    try (intro hh; exfalso; omega)
    try omega
  try simp only [Act.put, List.setIfInBounds_toArray, List.set_cons_zero, List.set_cons_succ, List.getElem_toArray, List.getElem_cons_succ, List.getElem_cons_zero]
  refine wpAnyH_done (by kernel_rfl) ?_ _
  clear hHeld
  clear c1 c2 c3 KS KD
  gi_wp2
  rw [← HW1.out, ← HXX.out]
  first | refine ⟨trivial, fun _ => by omega, ?_⟩ | refine ⟨trivial, ?_⟩
  refine (callsIn_wide.2 c63).mono ?_
  rintro e w4 ⟨rfl, hw4⟩
  rw [hw4]
  clear hw4 c63 kf kt k0 k1 HW1 HW3 HXX
  gi_wp2
  obtain ⟨i2, hi2, hz20, hz21, hz22⟩ := info_parts info2
  have HVL2 := Lib.hid (show ∀ q, v.ownBlock = some q → q < w.heap.size from fun q hq => (HVL.out q hq).1)
  skip
  refine range_at (by omega) (gf := 89) (lb := #[.pointer (some ⟨w.heap.size + 3 + 1, 0, none⟩), .pointer (some ⟨w.heap.size + 3, 0, none⟩), .pointer (some ⟨w.heap.size + 3 + 2, 0, none⟩), .pointer (some ⟨w.heap.size + 3 + 3, 0, none⟩)]) rfl (enters_of Try.func89 (by kernel_rfl) rfl) hseq (fun h1 h2 => h1.trans h2) (fun Y o o' hl hoc => ⟨⟨by simp, fun k o2 hk ho _ => (World.putObj_heap_other (by omega)).trans ho⟩, fun q hq => World.putObj_heap_other (by have := HPW.out; have := HBM.out; have := H3Z.out; rcases hq with rfl | rfl | rfl | hq | hq <;> first | omega | (have := (HPW.out q hq).1; omega))⟩) (fun _ => rfl)
    (BuI w S b M v cap t) (fun pre Y Y' row hs hg hr => hs.keep HBM.out.2.1 HBM.out.1 HVL2.out hg.os hg.tape hg.output hg.size (fun k hk => heap_kept hg hr (by have := H3Z.out; omega) (by have := hs.2.2.2.2.2.2.2.2.2.2; omega)) (fun dv n xs h => own_kept h hg hr))
    (fun pre Y h k hk e => by
      have hx := HOK.out _ (List.getElem_mem hk)
      have q := h.1.look (x := L[k].r.id) (by unfold OkR at hx; omega) (by unfold OkR at hx; omega)
      rw [e, vls_snd, vls_take, fB_look HND.out t wt r k hk] at q
      exact q)
    (fun pre Y Y' h hs => h.keep HBM.out.2.1 HBM.out.1 HVL2.out hs.os hs.tape hs.output hs.size (fun k hk => hs.block k (by have := h.2.2.2.2.2.2.2.2.2.2; omega) (by have := H3Z.out; omega)) (fun dv n xs h => own_far h (fun k h1 h2 => hs.block k h2 (by have := H3Z.out; omega)))) HI0.out
    (fun x a' Y => ∃ Bx, w.heap.size + 12 ≤ Bx ∧ BxH Y Bx x.1 ∧ a' = { tmps := #[.pointer (some ⟨b, 0, none⟩), .int .i64 r, .int .i64 t, .int .i64 wt, .pointer (some ⟨w.heap.size, 0, none⟩), undef, .pointer (some ⟨w.heap.size + 1, 0, none⟩), undef, .slice none 0 0, .int .i64 0, .pointer (some ⟨w.heap.size + 2, 0, none⟩), .pointer (some ⟨Bx, 0, none⟩), .pointer (some ⟨b, 0, none⟩), .bool true, .bool false, .int .i64 r, .bool true, .bool false, .bool false, .int .i64 t, .pointer (some ⟨b, 0, none⟩), .pointer (some ⟨b, 0, none⟩), .pointer (some ⟨b, 2, none⟩), .int .i64 time, .bool true, .bool false, .bool false, .bool false, .int .i64 wt, .bool true, .bool false, .bool false, .pointer (some ⟨b, 0, none⟩), .int .i64 t, .pointer (some ⟨b, 0, none⟩), .pointer (some ⟨b, 2, none⟩), .pointer (some ⟨b, 0, none⟩), .int .i64 r, .int .i64 t, .int .i64 wt, .func (.func 89) #[] #[.pointer (some ⟨w.heap.size + 3 + 1, 0, none⟩), .pointer (some ⟨w.heap.size + 3, 0, none⟩), .pointer (some ⟨w.heap.size + 3 + 2, 0, none⟩), .pointer (some ⟨w.heap.size + 3 + 3, 0, none⟩)], vH x.1, undef, undef, undef, undef, undef, undef, undef, undef, undef, undef, undef, undef, undef, undef, undef, undef, undef], defers := [] })
    (fun x a' _ X Y row hs hg hr => by obtain ⟨Bx, h1, h2, h3⟩ := hs; exact ⟨Bx, h1, cell_kept hg hr h2, h3⟩)
    ?assign ?body ?done
  case assign =>
    rintro l pre x Y K hi hsz hK
    have HI := Lib.hid hi
    clear hi
    unfold vH at *
    gi_wp2
    have hbl : Below Y.heap.size Y (Y.alloc (.cells #[.int .i64 x.1.r.id, .int .i64 x.1.r.cls, .int .i64 x.1.r.made, .int .i64 x.1.r.size, .int .i64 x.1.r.packed, .bool x.1.small, .int .i64 x.1.sent] 82)) := (Below.refl _ _).alloc (Nat.le_refl _) _
    have h3z := H3Z.out
    exact hK _ _ ((KeepsOthers.alloc _ _).from _) ⟨(KeepsOthers.alloc _ _).from _, fun q hq => hbl.block q (by have := HBM.out; rcases hq with rfl | rfl | rfl | hq | hq <;> first | omega | (have := (HPW.out q hq).1; omega))⟩ (HI.out.keep HBM.out.2.1 HBM.out.1 HVL2.out hbl.os hbl.tape hbl.output hbl.size (fun k hk => hbl.block k (by omega)) (fun dv n xs h => own_far h (fun k _ h2 => hbl.block k h2))) ⟨Y.heap.size, by omega, BxH.new Y _, rfl⟩
  case body =>
    rintro l pre ⟨x, hx⟩ a' Z hi hsz ⟨Bx, hBx, bX, rfl⟩ hpl
    obtain ⟨g1, g2, g3, g4, g5, ⟨dv, g6, g7⟩, g8, g9, g10, g11, g12⟩ := hi
    have h3z := H3Z.out
    have hxi : (fB L t (vls pre) x.r.id).isSome = true := by
      unfold fB
      split <;> simp [atL_mem HND.out hx]
    have hox := HOK.out x hx
    obtain ⟨V, hV⟩ : ∃ V, V = Z.setCell ⟨Bx, 6, none⟩ (.int .i64 t) := ⟨_, rfl⟩
    have hVX : V.heap[Bx]? = some (.cells #[.int .i64 x.r.id, .int .i64 x.r.cls, .int .i64 x.r.made, .int .i64 x.r.size, .int .i64 x.r.packed, .bool x.small, .int .i64 t] 82 (0, 0)) := by
      rw [hV, heap_setCell_same _ _ _ _ _ _ bX]
      rfl
    have hVk : ∀ k, k ≠ Bx → V.heap[k]? = Z.heap[k]? := fun k hk => by rw [hV]; exact Below.heap_setCell _ _ _ _ hk
    have hVz : V.heap.size = Z.heap.size := by rw [hV]; simp
    have hBxz : Bx < Z.heap.size := bX.lt
    obtain ⟨hbw, hMw, hMb⟩ := HBM.out
    obtain ⟨Z3, hrun, hM3, hg3⟩ := (show MapH V.drew M L.length (fB L t (vls pre)) from g1.same (hVk M (by omega))).put (by unfold maxLen; omega) (x := x.r.id) (by unfold OkR at hox; omega) (by unfold OkR at hox; omega) ⟨x.r, x.small, t⟩
    replace hrun : (Instr.mapUpdate 106 (.map (some M)) (.int .i64 x.r.id) (.agg #[.int .i64 x.r.id, .int .i64 x.r.cls, .int .i64 x.r.made, .int .i64 x.r.size, .int .i64 x.r.packed, .bool x.small, .int .i64 t])).run Try.prog V.drew = .ok () Z3 := hrun
    rw [if_pos hxi] at hM3
    have hM3 : MapH Z3 M L.length (fB L t (vls (pre ++ [(⟨x, hx⟩ : {x // x ∈ L})]))) := by
      rw [vls_snoc, fB_snoc HND.out t (vls pre) hx]
      exact hM3
    have h3k : ∀ k, k < Z.heap.size → k ≠ Bx → k ≠ M → Z3.heap[k]? = Z.heap[k]? := fun k hk h1 h2 => (hg3.block k (by show k < V.heap.size; omega) (by simpa using h2)).trans (hVk k h1)
    have h3zz : Z.heap.size ≤ Z3.heap.size := by have : V.heap.size ≤ Z3.heap.size := hg3.size; omega
    have h3X : Z3.heap[Bx]? = some (.cells #[.int .i64 x.r.id, .int .i64 x.r.cls, .int .i64 x.r.made, .int .i64 x.r.size, .int .i64 x.r.packed, .bool x.small, .int .i64 t] 82 (0, 0)) := (hg3.block Bx (by show Bx < V.heap.size; omega) (by simp; omega)).trans hVX
    have hrow : Z3.ownsRow (w.heap.size + 12) 2 1 dv pre.length (zv (idsL (vls pre))) := by
      refine ⟨g7.1, ?_⟩
      rcases g7.2 with h2 | ⟨g, cp, cur, e, hb, hc, h3⟩
      · exact .inl h2
      · refine .inr ⟨g, cp, cur, e, hb, (h3k g (Array.getElem?_eq_some_iff.1 hc).1 (fun e2 => ?_) (by omega)).trans hc, h3⟩
        rw [e2, bX] at hc
        cases hc
    have g6b := (h3k _ (by omega) (by omega) (by omega)).trans g6
    have KS := Lib.hid (show ∀ W1 : World, (∀ k, k < Z.heap.size → k ≠ M → W1.heap[k]? = V.heap[k]?) → W1.cell? ⟨w.heap.size, 0, none⟩ = some (Value.pointer (some ⟨b, 0, none⟩)) ∧ W1.cell? ⟨b, 3, none⟩ = some (Value.map (some M)) ∧ W1.cell? ⟨Bx, 0, none⟩ = some (Value.int .i64 x.r.id) ∧ W1.cell? ⟨Bx, 1, none⟩ = some (Value.int .i64 x.r.cls) ∧ W1.cell? ⟨Bx, 2, none⟩ = some (Value.int .i64 x.r.made) ∧ W1.cell? ⟨Bx, 3, none⟩ = some (Value.int .i64 x.r.size) ∧ W1.cell? ⟨Bx, 4, none⟩ = some (Value.int .i64 x.r.packed) ∧ W1.cell? ⟨Bx, 5, none⟩ = some (Value.bool x.small) ∧ W1.cell? ⟨Bx, 6, none⟩ = some (Value.int .i64 t) from fun W1 h => by
      have e1 := (h w.heap.size (by omega) (by omega)).trans ((hVk _ (by omega)).trans g4)
      have e2 := (h b (by omega) (fun e => hMb e.symm)).trans ((hVk _ (by omega)).trans g2)
      have e3 := (h Bx hBxz (by omega)).trans hVX
      exact ⟨(cellH e1 0).trans (by simp), (cellH e2 3).trans (by simp), (cellH e3 0).trans (by simp), (cellH e3 1).trans (by simp), (cellH e3 2).trans (by simp), (cellH e3 3).trans (by simp), (cellH e3 4).trans (by simp), (cellH e3 5).trans (by simp), (cellH e3 6).trans (by simp)⟩)
    have HK3 := Lib.hid (show ∀ k, k < Z.heap.size → k ≠ M → Z3.heap[k]? = V.heap[k]? from fun k hk hne => hg3.block k (by show k < V.heap.size; omega) (by simpa using hne))
    have t1 : Z.cell? ⟨w.heap.size + 1, 0, none⟩ = some (.int .i64 t) := (cellH g5 0).trans (by simp)
    have b6 : Z.cell? ⟨Bx, 6, none⟩ = some (.int .i64 x.sent) := (cellH bX 6).trans (by simp)
    have bf6 : Z.frozen? ⟨Bx, 6, none⟩ = false := frozH bX 6
    have s0 : Z3.cell? ⟨w.heap.size + 2, 0, none⟩ = some dv := (cellH g6b 0).trans (by simp)
    have i0 : Z3.cell? ⟨Bx, 0, none⟩ = some (.int .i64 x.r.id) := (cellH h3X 0).trans (by simp)
    have HBX0 := Lib.hid bX
    have HM3 := Lib.hid hM3
    have HROW := Lib.hid hrow
    have H3K := Lib.hid h3k
    have HVKK := Lib.hid hVk
    have HG := Lib.hid (show Z3.os = Z.os ∧ Z3.tape = Z.tape ∧ Z3.output = Z.output from ⟨hg3.os.trans (show V.os = Z.os by rw [hV]; simp [World.setCell]), hg3.tape.trans (show V.tape = Z.tape by rw [hV]; simp [World.setCell]), hg3.output.trans (show V.output = Z.output by rw [hV]; simp [World.setCell])⟩)
    have HZZ := Lib.hid (show Z.heap.size ≤ Z3.heap.size ∧ w.heap.size + 12 ≤ Z.heap.size from ⟨h3zz, by omega⟩)
    have HGI := Lib.hid (And.intro g2 (And.intro g3 (And.intro g4 (And.intro g5 (And.intro g8 (And.intro g9 (And.intro g10 (And.intro g11 g12))))))))
    have G6 := Lib.hid g6b
    have HBXN := Lib.hid (show w.heap.size + 12 ≤ Bx ∧ Bx < Z.heap.size from ⟨hBx, hBxz⟩)
    have hpl2 : pre.length ≤ 1000 := Nat.le_of_lt hpl
    have hz12 : w.heap.size + 12 ≤ Z3.heap.size := by omega
    have hne1 : w.heap.size + 2 ≠ Z3.heap.size := by omega
    have hs2 : w.heap.size + 2 < Z3.heap.size := by omega
    have hB3 : Bx < Z3.heap.size := by omega
    clear g1 g2 g3 g4 g5 g6 g7 g8 g9 g10 g11 g12 bX hVX hVk hVz hg3 hM3 h3k h3zz h3X hrow g6b hseq hsz h3z hxi hox
    unfold vH
    gi_wp2
    try rw [← hV]
    clear hV t1 b6 bf6
    refine wpIn_round_held (S := fun w' => w'.cell? ⟨w.heap.size, 0, none⟩ = some (Value.pointer (some ⟨b, 0, none⟩)) ∧ w'.cell? ⟨b, 3, none⟩ = some (Value.map (some M)) ∧ w'.cell? ⟨Bx, 0, none⟩ = some (Value.int .i64 x.r.id) ∧ w'.cell? ⟨Bx, 1, none⟩ = some (Value.int .i64 x.r.cls) ∧ w'.cell? ⟨Bx, 2, none⟩ = some (Value.int .i64 x.r.made) ∧ w'.cell? ⟨Bx, 3, none⟩ = some (Value.int .i64 x.r.size) ∧ w'.cell? ⟨Bx, 4, none⟩ = some (Value.int .i64 x.r.packed) ∧ w'.cell? ⟨Bx, 5, none⟩ = some (Value.bool x.small) ∧ w'.cell? ⟨Bx, 6, none⟩ = some (Value.int .i64 t)) (by kernel_rfl) (by kernel_rfl) (by rintro ⟨_, _, q⟩; exact q) (KS.out _ (fun _ _ _ => rfl)) (fun hHeld => ?_)
    refine wpAnyH_take (i := 0) (oi := _) (v := Value.pointer (some ⟨b, 0, none⟩)) rfl (by kernel_rfl) (by kernel_rfl) (by kernel_rfl) (fun _ _ _ h => h) (Or.inl ⟨by rfl, fun w' hSw => ?_⟩) hHeld ?_
    · obtain ⟨t0, t1, t2, t3, t4, t5, t6, t7, t8⟩ := hSw
      go_simp
      try simp [*]
      try (intro hh; exfalso; omega)
      try omega
    try simp only [Act.put, List.setIfInBounds_toArray, List.set_cons_zero, List.set_cons_succ, List.getElem_toArray, List.getElem_cons_succ, List.getElem_cons_zero]
    refine wpAnyH_take (i := 1) (oi := _) (v := Value.pointer (some ⟨b, 0, none⟩)) rfl (by kernel_rfl) (by kernel_rfl) (by kernel_rfl) (fun _ _ _ h => h) (Or.inl ⟨by rfl, fun w' hSw => ?_⟩) hHeld ?_
    · obtain ⟨t0, t1, t2, t3, t4, t5, t6, t7, t8⟩ := hSw
      go_simp
      try simp [*]
      try (intro hh; exfalso; omega)
      try omega
    try simp only [Act.put, List.setIfInBounds_toArray, List.set_cons_zero, List.set_cons_succ, List.getElem_toArray, List.getElem_cons_succ, List.getElem_cons_zero]
    refine wpAnyH_take (i := 2) (oi := _) (v := Value.pointer (some ⟨b, 3, none⟩)) rfl (by kernel_rfl) (by kernel_rfl) (by kernel_rfl) (fun _ _ _ h => h) (Or.inl ⟨by rfl, fun w' hSw => ?_⟩) hHeld ?_
    · obtain ⟨t0, t1, t2, t3, t4, t5, t6, t7, t8⟩ := hSw
      go_simp
      try simp [*]
      try (intro hh; exfalso; omega)
      try omega
    try simp only [Act.put, List.setIfInBounds_toArray, List.set_cons_zero, List.set_cons_succ, List.getElem_toArray, List.getElem_cons_succ, List.getElem_cons_zero]
    refine wpAnyH_take (i := 3) (oi := _) (v := Value.map (some M)) rfl (by kernel_rfl) (by kernel_rfl) (by kernel_rfl) (fun _ _ _ h => h) (Or.inl ⟨by rfl, fun w' hSw => ?_⟩) hHeld ?_
    · obtain ⟨t0, t1, t2, t3, t4, t5, t6, t7, t8⟩ := hSw
      go_simp
      try simp [*]
      try (intro hh; exfalso; omega)
      try omega
    try simp only [Act.put, List.setIfInBounds_toArray, List.set_cons_zero, List.set_cons_succ, List.getElem_toArray, List.getElem_cons_succ, List.getElem_cons_zero]
    refine wpAnyH_take (i := 4) (oi := _) (v := Value.pointer (some ⟨Bx, 0, none⟩)) rfl (by kernel_rfl) (by kernel_rfl) (by kernel_rfl) (fun _ _ _ h => h) (Or.inl ⟨by rfl, fun w' hSw => ?_⟩) hHeld ?_
    · obtain ⟨t0, t1, t2, t3, t4, t5, t6, t7, t8⟩ := hSw
      go_simp
      try simp [*]
      try (intro hh; exfalso; omega)
      try omega
    try simp only [Act.put, List.setIfInBounds_toArray, List.set_cons_zero, List.set_cons_succ, List.getElem_toArray, List.getElem_cons_succ, List.getElem_cons_zero]
    refine wpAnyH_take (i := 5) (oi := _) (v := Value.pointer (some ⟨Bx, 0, none⟩)) rfl (by kernel_rfl) (by kernel_rfl) (by kernel_rfl) (fun _ _ _ h => h) (Or.inl ⟨by rfl, fun w' hSw => ?_⟩) hHeld ?_
    · obtain ⟨t0, t1, t2, t3, t4, t5, t6, t7, t8⟩ := hSw
      go_simp
      try simp [*]
      try (intro hh; exfalso; omega)
      try omega
    try simp only [Act.put, List.setIfInBounds_toArray, List.set_cons_zero, List.set_cons_succ, List.getElem_toArray, List.getElem_cons_succ, List.getElem_cons_zero]
    refine wpAnyH_take (i := 6) (oi := _) (v := Value.int .i64 x.r.id) rfl (by kernel_rfl) (by kernel_rfl) (by kernel_rfl) (fun _ _ _ h => h) (Or.inl ⟨by rfl, fun w' hSw => ?_⟩) hHeld ?_
    · obtain ⟨t0, t1, t2, t3, t4, t5, t6, t7, t8⟩ := hSw
      go_simp
      try simp [*]
      try (intro hh; exfalso; omega)
      try omega
    try simp only [Act.put, List.setIfInBounds_toArray, List.set_cons_zero, List.set_cons_succ, List.getElem_toArray, List.getElem_cons_succ, List.getElem_cons_zero]
    refine wpAnyH_take (i := 7) (oi := _) (v := Value.agg #[Value.int .i64 x.r.id, Value.int .i64 x.r.cls, Value.int .i64 x.r.made, Value.int .i64 x.r.size, Value.int .i64 x.r.packed, Value.bool x.small, Value.int .i64 t]) rfl (by kernel_rfl) (by kernel_rfl) (by kernel_rfl) (fun _ _ _ h => h) (Or.inl ⟨by rfl, fun w' hSw => ?_⟩) hHeld ?_
    · obtain ⟨t0, t1, t2, t3, t4, t5, t6, t7, t8⟩ := hSw
      go_simp
      try simp [*]
      try (intro hh; exfalso; omega)
      try omega
    try simp only [Act.put, List.setIfInBounds_toArray, List.set_cons_zero, List.set_cons_succ, List.getElem_toArray, List.getElem_cons_succ, List.getElem_cons_zero]
    refine wpAnyH_ready (rs := [8]) (by kernel_rfl) (by simp) ?_
    refine AllReadyH.cons (o := _) rfl (fun K hK => ?_) (AllReadyH.nil)
    go_simp
    clear hHeld
    refine hK.out _ _ (KS.out Z3 HK3.out) (fun hHeld => ?_)
    clear hK K
    try simp only [Act.put, List.setIfInBounds_toArray, List.set_cons_zero, List.set_cons_succ, List.getElem_toArray, List.getElem_cons_succ, List.getElem_cons_zero]
    refine wpAnyH_done (by kernel_rfl) ?_ _
    clear hHeld
    clear hrun
    gi_wp2_with (gi_at_builtin; refine wpListIn_append_own _ rfl _ _ 41 rfl (w.heap.size + 12) 2 i2 (.int .i64 0) 1 8 Try.underlying41 hi2 hz20 hz21 hz22 rfl (by decide) _ _ _ rfl (HROW.out.alloc _) ⟨Z3.heap.size, 0, none⟩ 1 1 [.int .i64 x.r.id] rfl rfl (one_newL _ _) (by simp [Value.oneCell']) (by unfold maxLen; omega) (by omega) (by simp; omega) ?_; intro v' w1 hown' hgrow _; obtain ⟨g', cap', rfl⟩ := ownsRow_succ hown'; have hAl : ∀ k, k < Z3.heap.size → dv.ownBlock ≠ some k → w1.heap[k]? = Z3.heap[k]? := fun k hk hne => (hgrow.block k (by simp; omega) (fun e => hne e.symm)).trans (Below.heap_alloc _ _ _ hk); have hdvb : ∀ k, dv.ownBlock = some k → w.heap.size + 12 ≤ k := fun k hk => (HROW.out.lt k hk).1; have hsb := (hAl (w.heap.size + 2) hs2 (fun e => by have := hdvb _ e; omega)).trans G6.out; have s1 : w1.cell? ⟨w.heap.size + 2, 0, none⟩ = some dv := (cellH hsb 0).trans (by simp); have sf1 : w1.frozen? ⟨w.heap.size + 2, 0, none⟩ = false := frozH hsb 0; have HAL := Lib.hid hAl; have HDV := Lib.hid hdvb; have HSB := Lib.hid hsb; have HOWN := Lib.hid hown'; have HGR := Lib.hid hgrow; clear hAl hdvb hsb hown' hgrow)
    obtain ⟨Z9, hZ9⟩ : ∃ Z9, Z9 = w1.setCell ⟨w.heap.size + 2, 0, none⟩ (.slice (some ⟨g', 0, none⟩) (pre.length + 1) cap') := ⟨_, rfl⟩
    rw [← hZ9]
    obtain ⟨hzz, hz12b⟩ := HZZ.out
    obtain ⟨hbx1, hbx2⟩ := HBXN.out
    obtain ⟨hbw2, hMw2, hMb2⟩ := HBM.out
    have h3z := H3Z.out
    have h9k : ∀ k, k ≠ w.heap.size + 2 → Z9.heap[k]? = w1.heap[k]? := fun k hk => by rw [hZ9]; exact Below.heap_setCell _ _ _ _ hk
    have hw1z : Z3.heap.size ≤ w1.heap.size := by have h1 : (Z3.alloc (.cells #[.int .i64 x.r.id] 2)).heap.size ≤ w1.heap.size := HGR.out.size; simp at h1; omega
    have h9z : Z9.heap.size = w1.heap.size := by rw [hZ9]; simp
    have far : ∀ k, k < Z.heap.size → k ≠ Bx → k ≠ M → k ≠ w.heap.size + 2 → dv.ownBlock ≠ some k → Z9.heap[k]? = Z.heap[k]? := fun k h1 h2 h3 h4 h5 => (h9k k h4).trans ((HAL.out k (by omega) h5).trans (H3K.out k h1 h2 h3))
    have hdv : ∀ k, k < w.heap.size + 12 → dv.ownBlock ≠ some k := fun k hk e => by have := HDV.out k e; omega
    have hkf : ∀ B, w.heap.size + 7 ≤ B → KeepsFrom B Z Z9 := fun B hB => ⟨by omega, fun k o hk ho hcs => by
      have hkz := (Array.getElem?_eq_some_iff.1 ho).1
      have hkb : k ≠ Bx := fun e => by rw [e, HBX0.out] at ho; cases ho; cases hcs
      refine (far k hkz hkb (by omega) (by omega) (fun e => ?_)).trans ho
      rcases HROW.out.2 with ⟨e2, _⟩ | ⟨g, cp, cur, e2, _, hcc, _⟩
      · rw [e2] at e; simp [Value.ownBlock] at e
      · rw [e2] at e; simp only [Value.ownBlock, Option.some.injEq] at e
        rw [e, H3K.out k hkz hkb (by omega), ho] at hcc
        cases hcc; cases hcs⟩
    obtain ⟨g2, g3, g4, g5, g8, g9, g10, g11, g12⟩ := HGI.out
    refine ⟨hkf _ (by omega), ⟨hkf _ (by omega), fun q hq => ?_⟩, ?_⟩
    · rcases hq with rfl | rfl | rfl | hq | hq
      · exact far _ (by omega) (by omega) (by omega) (by omega) (hdv _ (by omega))
      · exact far _ (by omega) (by omega) (by omega) (by omega) (hdv _ (by omega))
      · exact far _ (by omega) (by omega) (fun e => hMb2 e.symm) (by omega) (hdv _ (by omega))
      · have h1 := HPW.out q hq
        exact far _ (by omega) (by omega) h1.2 (by omega) (hdv _ (by omega))
      · exact far _ (by omega) (by omega) (by omega) (by omega) (hdv _ (by omega))
    · refine ⟨HM3.out.same ((h9k M (by omega)).trans (HAL.out M (by omega) (hdv M (by omega)))), (far b (by omega) (by omega) (fun e => hMb2 e.symm) (by omega) (hdv _ (by omega))).trans g2, fun q hq => ?_, (far _ (by omega) (by omega) (by omega) (by omega) (hdv _ (by omega))).trans g4, (far _ (by omega) (by omega) (by omega) (by omega) (hdv _ (by omega))).trans g5, ⟨.slice (some ⟨g', 0, none⟩) (pre.length + 1) cap', ?_, ?_⟩, ?_, ?_, ?_, fun k hkw hS => ?_, by omega⟩
      · have h1 := HVL.out q hq
        exact (far q (by omega) (by omega) h1.2.2 (by omega) (hdv _ (by omega))).trans (g3 q hq)
      · rw [hZ9, heap_setCell_same _ _ _ _ _ _ HSB.out]
        rfl
      · have q := HOWN.out
        rw [vls_snoc, idsL_append, zv_append, List.length_append]
        exact own_far q (fun k h1 h2 => h9k k (by omega))
      · exact (show Z9.os = w1.os by rw [hZ9]; simp [World.setCell]).trans (HGR.out.os.trans (HG.out.1.trans g8))
      · exact (show Z9.tape = w1.tape by rw [hZ9]; simp [World.setCell]).trans (HGR.out.tape.trans (HG.out.2.1.trans g9))
      · exact (show Z9.output = w1.output by rw [hZ9]; simp [World.setCell]).trans (HGR.out.output.trans (HG.out.2.2.trans g10))
      · exact (far k (by omega) (by omega) (fun e => hS (e ▸ HH.out.sm)) (by omega) (hdv _ (by omega))).trans (g11 k hkw hS)
  case done =>
    rintro D ys Z hD hys hi hK
    subst hys
    obtain ⟨g1, g2, g3, g4, g5, ⟨dv, g6, g7⟩, g8, g9, g10, g11, g12⟩ := hi
    have h3z := H3Z.out
    obtain ⟨hbw2, hMw2, hMb2⟩ := HBM.out
    have s0 : Z.cell? ⟨w.heap.size + 2, 0, none⟩ = some dv := (cellH g6 0).trans (by simp)
    have hve : vls (sndG (fun y : {x // x ∈ L} => y.1) t wt r L.attach) = sndG id t wt r L := by rw [vls_snd, vls_all]
    have hvn : (sndG (fun y : {x // x ∈ L} => y.1) t wt r L.attach).length = (sndG id t wt r L).length := by rw [← hve]; simp [vls]
    rw [hve, ← updG_at t wt L r HND.out] at g1
    rw [hve, hvn] at g7
    have hgp := grownBy_putObj' Z D (.deferred none)
    have hk9 : ∀ k, k ≠ D → (Z.putObj D (.deferred none)).heap[k]? = Z.heap[k]? := fun k hk => World.putObj_heap_other hk
    have HE := Lib.hid (show BufAt (Z.putObj D (.deferred none)) S b M v cap t (updG t wt r L) ∧ FrS w (Z.putObj D (.deferred none)) S S ∧ (Z.putObj D (.deferred none)).ownsRow w.heap.size 2 1 dv (sndG id t wt r L).length (zv (idsL (sndG id t wt r L))) from by
      refine ⟨⟨(hk9 b (by omega)).trans g2, ?_, ?_, HH.out.sb, HH.out.sm, HH.out.sr, fun k hk => ?_, updG_ok HOK.out, updG_ord HH.out.ord, by rw [updG_ids]; exact HND.out⟩, ⟨hgp.os.trans g8, hgp.tape.trans g9, hgp.output.trans g10, by simp; omega, fun k hkw hS => (hk9 k (by omega)).trans (g11 k hkw hS), fun k hk => .inl hk⟩, own_base (ownsRow_putObj g7 _ hK rfl) (by omega)⟩
      · rw [updG_ids, updG_length]
        exact own_same HH.out.row (fun k hk => (hk9 k (by have := HVL.out k hk; omega)).trans (g3 k hk))
      · rw [updG_length]
        exact g1.same (hk9 M (by omega))
      · have := HSL.out k hk
        simp; omega)
    have HK := Lib.hid hK
    have hs2 : w.heap.size + 2 < Z.heap.size := by omega
    clear g1 g2 g3 g4 g5 g6 g7 g8 g9 g10 g11 g12 hK hseq hk9 hgp hve hvn
    gi_wp2
    refine ⟨by simp, .inl ⟨_, _, rfl, run_takeDeferred HK.out, ?_⟩⟩
    exact ⟨.tuple #[dv, .int .i64 0], by simp [results, Try.results24, go_sem], dv, rfl, HE.out⟩

end Go.Proofs.Ytbbaehmfadpgeaa

/-
  Buffers: the records are collected.
-/
import Derived.Test.YtbbaehmfadpgeaaBfV
namespace Go.Proofs.Ytbbaehmfadpgeaa
open Go.RowKit Go.Shelf
set_option linter.unusedSimpArgs false
attribute [local go_sem] Oper.semAt_some
/-- the cells of a record in a buffer, and of a list -/
def clH (h : Hd) : List Value := [.int .i64 h.r.id, .int .i64 h.r.cls, .int .i64 h.r.made, .int .i64 h.r.size, .int .i64 h.r.packed, .bool h.small, .int .i64 h.sent]
def flH (L : List Hd) : List Value := L.flatMap clH
theorem flH_snoc (L : List Hd) (x : Hd) : flH (L ++ [x]) = flH L ++ clH x := by simp [flH]
theorem flH_length (L : List Hd) : (flH L).length = L.length * 7 := by
  induction L with
  | nil => rfl
  | cons x t ih => simp [flH, clH] at *; omega
theorem flH_get (L : List Hd) (k i : Nat) (hk : k < L.length) (hi : i < 7) : (flH L)[k * 7 + i]? = (clH L[k])[i]? := by
  induction L generalizing k with
  | nil => simp at hk
  | cons x t ih =>
    have e : flH (x :: t) = clH x ++ flH t := by simp [flH]
    have el : (clH x).length = 7 := rfl
    rw [e]
    cases k with
    | zero => rw [List.getElem?_append_left (by rw [el]; omega)]; simp
    | succ k =>
      rw [List.getElem?_append_right (by rw [el]; omega), el, show (k + 1) * 7 + i - 7 = k * 7 + i by omega]
      exact ih k (by simpa using hk)
theorem infoH : (Try.prog.info? 82).map (fun i => (i.zero, i.size, i.bytes)) = some (some (vH zH), 7, 56) := by kernel_rfl
theorem new_H (W : World) (h : Hd) : ∀ (j : Nat) (u : Value), (clH h)[j]? = some u → (W.alloc (.cells #[.int .i64 h.r.id, .int .i64 h.r.cls, .int .i64 h.r.made, .int .i64 h.r.size, .int .i64 h.r.packed, .bool h.small, .int .i64 h.sent] 82)).cell? ((⟨W.heap.size, 0, none⟩ : Addr).add j) = some u := by
  intro j u hj
  unfold clH at hj
  match j, hj with
  | 0, h => simp at h; subst h; simp [Addr.add, go_sem]
  | 1, h => simp at h; subst h; simp [Addr.add, go_sem]
  | 2, h => simp at h; subst h; simp [Addr.add, go_sem]
  | 3, h => simp at h; subst h; simp [Addr.add, go_sem]
  | 4, h => simp at h; subst h; simp [Addr.add, go_sem]
  | 5, h => simp at h; subst h; simp [Addr.add, go_sem]
  | 6, h => simp at h; subst h; simp [Addr.add, go_sem]
theorem clH_one (h : Hd) : ∀ u ∈ clH h, u.oneCell' = true := by
  intro u hu
  simp [clH] at hu
  rcases hu with rfl | rfl | rfl | rfl | rfl | rfl | rfl <;> rfl
def vls {L : List Hd} (pre : List {x // x ∈ L}) : List Hd := pre.map (·.1)
theorem vls_snoc {L : List Hd} (pre : List {x // x ∈ L}) (x : {x // x ∈ L}) : vls (pre ++ [x]) = vls pre ++ [x.1] := by simp [vls]
theorem vls_all (L : List Hd) : vls L.attach = L := List.attach_map_subtype_val L
set_option maxRecDepth 100000 in
set_option maxHeartbeats 4000000 in
theorem append93 {S : Nat → Prop} {b M : Nat} {v : Value} {cap time : Int} {L : List Hd} (Bk : Nat) (w : World) (h : BufAt w S b M v cap time L) (hlen : L.length ≤ 1000) (hBk : Bk < w.heap.size) (h1 : w.cell? ⟨Bk, 0, none⟩ = some (.pointer (some ⟨b, 0, none⟩))) :
    Calls Try.prog 93 #[.slice none 0 0, .func (.func 94) #[] #[.pointer (some ⟨Bk, 0, none⟩)]] w fun e w' => ∃ dv, e = .returned dv ∧ w'.ownsRow w.heap.size 82 7 dv L.length (flH L) ∧ Below w.heap.size w w' := by
  obtain ⟨i0, hi0, hz0, hz1, hz2⟩ := info_parts infoH
  have HLT := Lib.hid h.lt
  have HBK := Lib.hid hBk
  refine (callsIn_wide (n := 9)).1 (callsIn_of_wp_marks Try.func93 rfl trivial ?_ rfl)
  simp only [Try.ntmps93, List.size_toArray, List.length_cons, List.length_nil, Nat.reduceAdd, Nat.reduceSub, Array.replicate_succ, Array.replicate_zero, List.push_toArray, List.append_toArray, List.nil_append, List.cons_append]
  obtain ⟨W5, hW5⟩ : ∃ W5, W5 = w.alloc (.cells #[.slice none 0 0] 52) := ⟨_, rfl⟩
  have bO : Boxed W5 w.heap.size 52 (.slice none 0 0) := by rw [hW5]; exact Boxed.new w 52 (.slice none 0 0)
  have hb5 : Below w.heap.size w W5 := by rw [hW5]; exact (Below.refl _ _).alloc (Nat.le_refl _) _
  have hz5 : W5.heap.size = w.heap.size + 1 := by rw [hW5]; simp
  have hseq := rank_buf (9 - 1) (by omega) Bk W5 (h.below hb5) hlen (by omega) ((hb5.cell (p := ⟨Bk, 0, none⟩) hBk).trans h1)
  have HZ5 := Lib.hid hz5
  have HW := Lib.hid (show ∀ q, (q = Bk ∨ S q) → q < w.heap.size from fun q hq => by
    rcases hq with rfl | hq
    · exact hBk
    · exact HLT.out q hq)
  clear hBk h1 h
  gi_wp2
  rw [← hW5]
  clear hW5 hz5
  refine wpIn_rangeFunc_ownH rfl (by omega) (gf := 94) (lb := #[.pointer (some ⟨Bk, 0, none⟩)]) rfl trivial (enters_of Try.func94 (by kernel_rfl) rfl) hseq (fun h1 h2 => h1.trans h2) (fun W l o o' hl _ _ _ q hq => World.putObj_heap_other (by have := HW.out q hq; have := HZ5.out; omega)) (Below.refl _ _) (fun _ => rfl)
    (fun pre W => (∃ v, Boxed W w.heap.size 52 v ∧ W.ownsRow w.heap.size 82 7 v pre.length (flH (vls pre)) ∧ True) ∧ Below w.heap.size w W ∧ W5.heap.size ≤ W.heap.size)
    (fun _ _ _ => False)
    (OwnFrom.and (Own.from (holdsRow_own w.heap.size w.heap.size 52 82 7 (fun pre : List {x // x ∈ L} => pre.length) (fun pre => flH (vls pre)) (fun _ _ => True)) _) (OwnFrom.and (ownFrom_below (Nat.le_refl _) (by have := HZ5.out; omega)) (fun pre A B row hs hg hr => Nat.le_trans hs hg.size)))
    (fun _ _ _ _ _ hs _ _ => hs)
    ⟨⟨_, bO, World.ownsRow_nil _ _ _ _, trivial⟩, hb5, Nat.le_refl _⟩
    (fun x a' W => ∃ Bx, W5.heap.size ≤ Bx ∧ BxH W Bx x.1 ∧ a' = { tmps := #[.slice none 0 0, .func (.func 94) #[] #[.pointer (some ⟨Bk, 0, none⟩)], .pointer (some ⟨w.heap.size, 0, none⟩), undef, .slice none 0 0, .pointer (some ⟨Bx, 0, none⟩), .func (.func 94) #[] #[.pointer (some ⟨Bk, 0, none⟩)], vH x.1, undef, undef, undef, undef, undef], defers := [] })
    (fun x a' _ X Y row hs hg hr => by obtain ⟨Bx, h1, h2, h3⟩ := hs; exact ⟨Bx, h1, cell_kept hg hr h2, h3⟩)
    ?assign ?body ?done ?stop
  case assign =>
    rintro l pre x W K ⟨⟨v, hv, hrow, _⟩, hB, hZ⟩ hK
    unfold vH at *
    gi_wp2
    have hbl : Below W.heap.size W (W.alloc (.cells #[.int .i64 x.1.r.id, .int .i64 x.1.r.cls, .int .i64 x.1.r.made, .int .i64 x.1.r.size, .int .i64 x.1.r.packed, .bool x.1.small, .int .i64 x.1.sent] 82)) := (Below.refl _ _).alloc (Nat.le_refl _) _
    exact hK _ _ ((KeepsOthers.alloc _ _).from _) (fun q hq => Below.heap_alloc _ _ _ (by have := HW.out q hq; have := hB.size; omega)) ⟨⟨v, hv.alloc _, own_far hrow (fun k _ hk => hbl.block k hk), trivial⟩, hB.alloc hB.size _, by simp; omega⟩ ⟨W.heap.size, hZ, BxH.new W _, rfl⟩
  case body =>
    rintro l pre ⟨x, hx⟩ a' W hl ⟨r0, hr0⟩ ⟨⟨v, hv, hrow, _⟩, hB, hZ⟩ ⟨Bx, hBx, bX, rfl⟩ hlt
    have hc := hv.cell
    obtain ⟨q0, q1, q2, q3, q4, q5, q6⟩ : W.cell? ⟨Bx, 0, none⟩ = some (.int .i64 x.r.id) ∧ W.cell? ⟨Bx, 1, none⟩ = some (.int .i64 x.r.cls) ∧ W.cell? ⟨Bx, 2, none⟩ = some (.int .i64 x.r.made) ∧ W.cell? ⟨Bx, 3, none⟩ = some (.int .i64 x.r.size) ∧ W.cell? ⟨Bx, 4, none⟩ = some (.int .i64 x.r.packed) ∧ W.cell? ⟨Bx, 5, none⟩ = some (.bool x.small) ∧ W.cell? ⟨Bx, 6, none⟩ = some (.int .i64 x.sent) := ⟨(cellH bX 0).trans (by simp), (cellH bX 1).trans (by simp), (cellH bX 2).trans (by simp), (cellH bX 3).trans (by simp), (cellH bX 4).trans (by simp), (cellH bX 5).trans (by simp), (cellH bX 6).trans (by simp)⟩
    unfold vH
    have HB := Lib.hid hB
    clear hseq hr0 bX
    gi_wp2_with (gi_at_builtin; refine wpListIn_append_own _ rfl _ _ 52 rfl w.heap.size 82 i0 (vH zH) 7 56 Try.underlying52 hi0 hz0 hz1 hz2 rfl (by decide) _ _ _ rfl (hrow.alloc _) ⟨W.heap.size, 0, none⟩ 1 1 (clH x) rfl rfl (new_H _ _) (clH_one x) (by unfold maxLen; omega) (by omega) (by have := HB.out.size; simp; omega) ?_; intro v' w1 hown' hgrow _; obtain ⟨g', cap', rfl⟩ := ownsRow_succ hown'; obtain ⟨hv1, hv2, hr2, hk2, hb2⟩ := hv.appended (by decide) hrow HB.out.size (Nat.le_refl _) hown' hgrow; have hc1 := hv1.cell; have hf1 := hv1.frozen)
    have hnw := HZ5.out
    refine ⟨hk2.from _, fun q hq => hb2.block q (HW.out q hq), ⟨_, hv2, ?_⟩, HB.out.trans hb2, by have := hk2.size; omega⟩
    rw [vls_snoc, flH_snoc, List.length_append]
    simpa using hr2
  case done =>
    rintro D ys W hD hys ⟨⟨v, hv, hrow, _⟩, hB, hZ⟩ hK
    subst hys
    rw [vls_all, List.length_attach] at hrow
    have hc := hv.cell
    have HB := Lib.hid hB
    clear hseq
    gi_wp2
    refine ⟨by simp, .inl ⟨_, _, rfl, run_takeDeferred hK, ?_⟩⟩
    exact ⟨_, results_tmp rfl _ _ _, v, rfl, ownsRow_putObj hrow _ hK rfl, HB.out.grown (grownBy_putObj' W D _) HB.out.size (fun k e => by cases e; have := HZ5.out; omega)⟩
  case stop =>
    rintro D c pre W _ _ h _
    exact h.elim
/-- a list of records in buffers in memory -/
def HsAt (W : World) (v : Value) (L : List Hd) : Prop := ∃ p c, v = .slice p L.length c ∧ ∀ k (hk : k < L.length), ∃ g, p = some ⟨g, 0, none⟩ ∧ g < W.heap.size ∧ ∀ i, i < 7 → W.cell? ⟨g, k * 7 + i, none⟩ = (clH L[k])[i]?
theorem HsAt.keep {W W' : World} {v : Value} {L : List Hd} (h : HsAt W v L) (hb : Below W.heap.size W W') : HsAt W' v L := by
  obtain ⟨p, c, e, hc⟩ := h
  refine ⟨p, c, e, fun k hk => ?_⟩
  obtain ⟨g, e1, h2, h3⟩ := hc k hk
  exact ⟨g, e1, Nat.lt_of_lt_of_le h2 hb.size, fun i hi => (hb.cell (p := ⟨g, k * 7 + i, none⟩) h2).trans (h3 i hi)⟩
theorem hsAt_own {W : World} {base : Nat} {v : Value} {L : List Hd} (h : W.ownsRow base 82 7 v L.length (flH L)) : HsAt W v L := by
  rcases h.2 with ⟨e, e2⟩ | ⟨g, c, cur, e, hg, hb, h4, h5, h6, h7⟩
  · exact ⟨none, 0, by rw [e, e2], fun k hk => by omega⟩
  · refine ⟨_, c, e, fun k hk => ⟨g, rfl, (Array.getElem?_eq_some_iff.1 hb).1, fun i hi => ?_⟩⟩
    rw [cellH hb]
    have e2 : (cur.toList.take (L.length * 7))[k * 7 + i]? = (clH L[k])[i]? := by rw [h7]; exact flH_get L k i hk hi
    rw [List.getElem?_take, if_pos (by omega)] at e2
    simpa using e2
theorem HsAt.at {W : World} {v : Value} {L : List Hd} (h : HsAt W v L) : ∃ p c, v = .slice p L.length c ∧ ∀ k (hk : k < L.length), ∃ g, p = some ⟨g, 0, none⟩ ∧ g < W.heap.size ∧ W.cell? ⟨g, k * 7, none⟩ = some (.int .i64 L[k].r.id) ∧ W.cell? ⟨g, k * 7 + 1, none⟩ = some (.int .i64 L[k].r.cls) ∧ W.cell? ⟨g, k * 7 + 2, none⟩ = some (.int .i64 L[k].r.made) ∧ W.cell? ⟨g, k * 7 + 3, none⟩ = some (.int .i64 L[k].r.size) ∧ W.cell? ⟨g, k * 7 + 4, none⟩ = some (.int .i64 L[k].r.packed) ∧ W.cell? ⟨g, k * 7 + 5, none⟩ = some (.bool L[k].small) ∧ W.cell? ⟨g, k * 7 + 6, none⟩ = some (.int .i64 L[k].sent) := by
  obtain ⟨p, c, e, hc⟩ := h
  refine ⟨p, c, e, fun k hk => ?_⟩
  obtain ⟨g, e1, h2, h3⟩ := hc k hk
  exact ⟨g, e1, h2, h3 0 (by omega), h3 1 (by omega), h3 2 (by omega), h3 3 (by omega), h3 4 (by omega), h3 5 (by omega), h3 6 (by omega)⟩
set_option maxHeartbeats 1000000 in
theorem Held_any {S : Nat → Prop} {b M : Nat} {v : Value} {cap time : Int} {L : List Hd} (w : World) (h : BufAt w S b M v cap time L) (hlen : L.length ≤ 1000) :
    Calls Try.prog 31 #[.pointer (some ⟨b, 0, none⟩)] w fun e w' => ∃ dv, e = .returned dv ∧ HsAt w' dv L ∧ Below w.heap.size w w' := by
  have c56 := valid_any w h
  have c70 := ranked_any b w
  obtain ⟨A, hA⟩ : ∃ A, A = w.alloc (.cells #[.pointer (some ⟨b, 0, none⟩)] 27) := ⟨_, rfl⟩
  rw [← hA] at c70
  have hBA : Below w.heap.size w A := by rw [hA]; exact (Below.refl _ _).alloc (Nat.le_refl _) _
  have hA0 : A.heap[w.heap.size]? = some (.cells #[.pointer (some ⟨b, 0, none⟩)] 27 (0, 0)) := by rw [hA]; exact World.alloc_heap_new _ _
  have c93 := append93 w.heap.size A (h.below hBA) hlen (Array.getElem?_eq_some_iff.1 hA0).1 ((cellH hA0 0).trans (by simp))
  have c69 : Calls Try.prog 69 #[.func (.func 94) #[] #[.pointer (some ⟨w.heap.size, 0, none⟩)]] A fun e w' => ∃ dv, e = .returned dv ∧ HsAt w' dv L ∧ Below w.heap.size w w' := by
    have HBA := Lib.hid hBA
    clear hA hA0 hBA c56 c70 h
    go_enter Try.func69, Try.ntmps69
    go_wp2_with fail
    refine c93.mono ?_
    rintro e w1 ⟨dv, rfl, hrow, hb⟩
    have HR := Lib.hid (hsAt_own hrow)
    have HB := Lib.hid (HBA.out.trans (hb.mono HBA.out.size))
    clear hrow hb
    go_wp2_with fail
    go_ret
    exact ⟨_, rfl, HR.out, HB.out⟩
  clear h c93 hA0 hBA hA
  go_enter Try.func31, Try.ntmps31
  go_wp2_with fail
  refine c56.mono ?_
  rintro e w1 ⟨rfl, rfl⟩
  go_wp2_with fail
  refine c70.mono ?_
  rintro e w2 ⟨rfl, rfl⟩
  go_wp2_with fail
  refine c69.mono ?_
  rintro e w3 ⟨dv, rfl, hr, hb⟩
  go_wp2_with fail
  go_ret
  exact ⟨_, rfl, hr, hb⟩

end Go.Proofs.Ytbbaehmfadpgeaa

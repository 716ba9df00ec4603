/-
  Buffers: a number is inserted into a row of the call's own.
-/
import Derived.Test.YtbbaehmfadpgeaaBfI
import Derived.Test.YtbbaehmfadpgeaaBfD
namespace Go.Proofs.Ytbbaehmfadpgeaa
open Go.RowKit Go.Shelf
set_option linter.unusedSimpArgs false
open Go.Lib
set_option linter.unusedVariables false
theorem grown_drew {W W' : World} {r : Option Nat} (h : W.drew.grownBy W' r) : W.grownBy W' r := ⟨h.os, h.tape, h.output, h.size, h.block⟩
/-- a block after some of its cells have been written -/
theorem setCells_block (b : Nat) (t : TypeId) : ∀ (vs : List Value) (o : Nat) (W : World) (cur : Array Value), W.heap[b]? = some (.cells cur t (0, 0)) → o + vs.length ≤ cur.size →
    ∃ cur', (W.setCells b o vs).heap[b]? = some (.cells cur' t (0, 0)) ∧ cur'.size = cur.size ∧ ∀ j, cur'[j]? = if o ≤ j ∧ j < o + vs.length then vs[j - o]? else cur[j]? := by
  intro vs
  induction vs with
  | nil =>
    intro o W cur h _
    exact ⟨cur, h, rfl, fun j => by rw [if_neg (by simp)]⟩
  | cons v r ih =>
    intro o W cur h hl
    simp only [List.length_cons] at hl
    obtain ⟨cur', h1, h2, h3⟩ := ih (o + 1) (W.setCell ⟨b, o, none⟩ v) _ (heap_setCell_same _ _ _ _ _ _ h) (by simp; omega)
    refine ⟨cur', h1, by simpa using h2, fun j => ?_⟩
    rw [h3, List.length_cons]
    by_cases e : j = o
    · subst e
      rw [if_neg (by omega), if_pos (by omega)]
      simp [show j < cur.size by omega]
    · by_cases e2 : o + 1 ≤ j ∧ j < o + 1 + r.length
      · rw [if_pos e2, if_pos (by omega), show j - o = (j - (o + 1)) + 1 by omega, List.getElem?_cons_succ]
      · rw [if_neg e2, if_neg (by omega)]
        rw [Array.getElem?_setIfInBounds_ne (by omega)]
theorem setCells_other (b : Nat) : ∀ (vs : List Value) (o : Nat) (W : World) (k : Nat), k ≠ b → (W.setCells b o vs).heap[k]? = W.heap[k]? := by
  intro vs
  induction vs with
  | nil => intro o W k _; rfl
  | cons v r ih =>
    intro o W k hk
    rw [World.setCells, ih _ _ _ hk]
    exact Below.heap_setCell _ _ _ _ hk
theorem setCells_grown (b : Nat) : ∀ (vs : List Value) (o : Nat) (W : World), W.grownBy (W.setCells b o vs) (some b) := by
  intro vs
  induction vs with
  | nil => intro o W; exact ⟨rfl, rfl, rfl, Nat.le_refl _, fun _ _ _ => rfl⟩
  | cons v r ih =>
    intro o W
    have h := ih (o + 1) (W.setCell ⟨b, o, none⟩ v)
    rw [World.setCells]
    refine ⟨h.os, h.tape, h.output, by have := h.size; simpa using this, fun k hk hne => ?_⟩
    rw [h.block k (by simpa using hk) hne]
    exact Below.heap_setCell _ _ _ _ (by simpa using hne)
theorem grown_trans {W W' W'' : World} {r : Option Nat} (h : W.grownBy W' r) (k : W'.grownBy W'' r) : W.grownBy W'' r :=
  ⟨k.os.trans h.os, k.tape.trans h.tape, k.output.trans h.output, Nat.le_trans h.size k.size, fun i hi hn => (k.block i (Nat.lt_of_lt_of_le hi h.size) hn).trans (h.block i hi hn)⟩
/-- one element more, read by its places -/
theorem ins_get (cs : List Value) (z : Value) (i : Nat) (hi : i ≤ cs.length) (j : Nat) : (cs.take i ++ z :: cs.drop i)[j]? = if j < i then cs[j]? else if j = i then some z else cs[j - 1]? := by
  rw [List.getElem?_append, List.length_take, Nat.min_eq_left hi, List.getElem?_take]
  by_cases h : j < i
  · rw [if_pos h, if_pos h, if_pos h]
  · rw [if_neg h, if_neg h]
    by_cases e : j = i
    · subst e; simp
    · rw [if_neg e, show j - i = (j - i - 1) + 1 by omega, List.getElem?_cons_succ, List.getElem?_drop, show i + (j - i - 1) = j - 1 by omega]
theorem ins_row {cs : List Value} {z : Value} {i n : Nat} {cur : Array Value} (hl : cs.length = n) (hi : i ≤ n) (hs : n + 1 ≤ cur.size) (h : ∀ j, j < n + 1 → cur[j]? = if j < i then cs[j]? else if j = i then some z else cs[j - 1]?) : cur.toList.take (n + 1) = cs.take i ++ z :: cs.drop i := by
  refine List.ext_getElem? fun j => ?_
  rw [ins_get cs z i (by omega), List.getElem?_take]
  by_cases hj : j < n + 1
  · rw [if_pos hj, Array.getElem?_toList, h j hj]
  · rw [if_neg hj, if_neg (by omega), if_neg (by omega), List.getElem?_eq_none (by omega)]
theorem zv_one (l : List Int) : ∀ v ∈ zv l, v.oneCell' = true := by
  intro v hv
  obtain ⟨z, _, rfl⟩ := List.mem_map.1 hv
  rfl
/-- slices.Insert of one number into a row of one's own -/
theorem insert_any (w : World) (v : Value) (n i vb : Nat) (l : List Int) (z : Int) (hrow : w.ownsRow 0 2 1 v n (zv l)) (hi : i ≤ n) (hn : n ≤ 1000) (hvb : w.heap[vb]? = some (.cells #[.int .i64 z] 2 (0, 0))) (hne : v.ownBlock ≠ some vb) :
    Calls Try.prog 86 #[v, .int .i64 i, .slice (some ⟨vb, 0, none⟩) 1 1] w fun e w' => ∃ v', e = .returned v' ∧ w'.ownsRow 0 2 1 v' (n + 1) (zv (l.take i ++ z :: l.drop i)) ∧ w.grownBy w' v.ownBlock ∧ (v'.ownBlock = v.ownBlock ∨ v'.ownBlock = some w.heap.size ∧ w.heap.size < w'.heap.size) := by
  have hll : l.length = n := by have := hrow.1; rw [Nat.mul_one] at this; simpa [zv] using this
  have hcl : (zv l).length = n := by simpa [zv] using hll
  have hzl : (zv (l.take i ++ z :: l.drop i)).length = (n + 1) * 1 := by simp [zv]; omega
  have hzi : zv (l.take i ++ z :: l.drop i) = (zv l).take i ++ .int .i64 z :: (zv l).drop i := by simp [zv, List.map_take, List.map_drop]
  have hvs : ∀ j v, [Value.int .i64 z][j]? = some v → w.cell? ⟨vb, 0 + j, none⟩ = some v := fun j v hj => by
    rw [cellH hvb]
    cases j with
    | zero => simpa using hj
    | succ j => simp at hj
  have h1v : ∀ v ∈ [Value.int .i64 z], v.oneCell' = true := fun v hv => by
    rw [List.mem_singleton] at hv
    subst hv
    rfl
  rcases hrow.2 with ⟨rfl, h0⟩ | ⟨g, c, cur, rfl, _, hg, hnc, hcm, hcs, htk⟩
  · obtain rfl : n = 0 := h0
    obtain rfl : i = 0 := by omega
    obtain rfl : l = [] := List.length_eq_zero_iff.1 hll
    refine (ins_end_grow none 0 0 vb 0 1 1 [] [.int .i64 z] w (by omega) (by omega) (by omega) (by omega) rfl rfl (fun _ => rfl) (fun a ha => by cases ha) hvs h1v).mono ?_
    rintro e w' ⟨rfl, rfl⟩
    refine ⟨_, rfl, ⟨hzl, .inr ⟨w.heap.size, _, _, rfl, Nat.zero_le _, World.alloc_heap_new w.drew _, grownCap_ge w _ _ _, grownCap_le_maxLen w _ _ _ (by unfold maxLen; omega), ?_, by simp [zv]⟩⟩, grown_drew (World.grownBy_alloc w.drew _ _), .inr ⟨rfl, by simp⟩⟩
    have := grownCap_ge w 1 0 2
    simp [Builtin.zeroCells, Value.cells]
    omega
  · rw [Nat.mul_one] at hcs htk
    have hgb : vb ≠ g := fun e => hne (by rw [e]; rfl)
    have hcell : ∀ j v, (zv l)[j]? = some v → w.cell? ⟨g, 0 + j, none⟩ = some v := fun j v hj => by
      rw [cellH hg, Nat.zero_add, ← Array.getElem?_toList]
      rw [← htk, List.getElem?_take] at hj
      split at hj
      · exact hj
      · cases hj
    have hcur : ∀ j, j < n → cur[j]? = (zv l)[j]? := fun j hj => by
      rw [← htk, List.getElem?_take, if_pos hj, Array.getElem?_toList]
    by_cases hin : i < n
    · by_cases hroom : n + 1 ≤ c
      · refine (ins_shift g 0 n c i vb 0 1 1 (zv l) [.int .i64 z] w hin (by omega) hroom (by unfold maxLen at hcm; omega) hgb hcl rfl hcell (fun j hj => ?_) (fun j _ => frozH hg _) hvs (zv_one l) h1v 2 2 1 c ?_ ?_ (by omega) (frozH hvb _) (frozH hvb _)).mono ?_
        · rw [cellH hg, Array.getElem?_eq_getElem (by omega)]; rfl
        · simp [World.shape?, hvb]
        · simp [World.shape?, hg, hcs]
        rintro e w' ⟨rfl, rfl⟩
        obtain ⟨c1, a1, a2, a3⟩ := setCells_block g 2 ((zv l).drop i) (0 + (i + 1)) w.drew cur hg (by rw [List.length_drop]; omega)
        obtain ⟨c2, b1, b2, b3⟩ := setCells_block g 2 [.int .i64 z] (0 + i) _ c1 a1 (by simp; omega)
        refine ⟨_, rfl, ⟨hzl, .inr ⟨g, c, c2, rfl, Nat.zero_le _, b1, hroom, hcm, by omega, ?_⟩⟩, grown_trans (grown_drew (setCells_grown g _ _ w.drew)) (setCells_grown g _ _ _), .inl rfl⟩
        rw [Nat.mul_one, hzi]
        refine ins_row hcl (by omega) (by omega) fun j hj => ?_
        rw [b3, List.length_singleton]
        by_cases e1 : j = i
        · subst e1
          rw [if_pos (by omega), if_neg (by omega), if_pos rfl, show j - (0 + j) = 0 by omega]
          rfl
        · rw [if_neg (by omega), a3, List.length_drop, hcl]
          by_cases e2 : j < i
          · rw [if_neg (by omega), if_pos e2, hcur j (by omega)]
          · rw [if_pos (by omega), if_neg e2, if_neg e1, List.getElem?_drop, show i + (j - (0 + (i + 1))) = j - 1 by omega]
      · refine (ins_grow g 0 n c i vb 0 1 1 (zv l) [.int .i64 z] w hin (by omega) hnc (by omega) (by omega) hcl rfl hcell hvs (zv_one l) h1v).mono ?_
        rintro e w' ⟨rfl, rfl⟩
        have hG := grownCap_ge w (n + 1) c 2
        have hGm := grownCap_le_maxLen w (n + 1) c 2 (by unfold maxLen; omega)
        generalize grownCap w (n + 1) c 2 = G at *
        obtain ⟨ROW, hR, hRs, hRj⟩ : ∃ ROW : Array Value, ROW = ((zv l).take i).toArray ++ Builtin.zeroCells (Value.int .i64 0).cells (n + 1 - i) ++ Builtin.zeroCells (Value.int .i64 0).cells (G - (n + 1)) ∧ ROW.size = G ∧ ∀ j, j < i → ROW[j]? = (zv l)[j]? := by
          refine ⟨_, rfl, ?_, fun j hj => ?_⟩
          · simp [Builtin.zeroCells, Value.cells, hcl]; omega
          · rw [Array.append_assoc, Array.getElem?_append_left (by simp [hcl]; omega)]
            simp [List.getElem?_take, hj]
        rw [← hR]
        obtain ⟨c1, a1, a2, a3⟩ := setCells_block w.heap.size 2 [.int .i64 z] i (w.alloc (.cells ROW 2)).drew ROW (World.alloc_heap_new w _) (by simp; omega)
        obtain ⟨c2, b1, b2, b3⟩ := setCells_block w.heap.size 2 ((zv l).drop i) (i + 1) ((w.alloc (.cells ROW 2)).drew.setCells w.heap.size i [.int .i64 z]).drew c1 a1 (by rw [List.length_drop]; omega)
        refine ⟨_, rfl, ⟨hzl, .inr ⟨w.heap.size, G, c2, rfl, Nat.zero_le _, b1, hG, hGm, by omega, ?_⟩⟩, ?_, .inr ⟨rfl, ?_⟩⟩
        · rw [Nat.mul_one, hzi]
          refine ins_row hcl (by omega) (by omega) fun j hj => ?_
          rw [b3, List.length_drop, hcl]
          by_cases e1 : j = i
          · subst e1
            rw [if_neg (by omega), a3, List.length_singleton, if_pos (by omega), if_neg (by omega), if_pos rfl, Nat.sub_self]
            rfl
          · by_cases e2 : j < i
            · rw [if_neg (by omega), a3, List.length_singleton, if_neg (by omega), if_pos e2, hRj j e2]
            · rw [if_pos (by omega), if_neg e2, if_neg e1, List.getElem?_drop, show i + (j - (i + 1)) = j - 1 by omega]
        · have g1 := setCells_grown w.heap.size [.int .i64 z] i (w.alloc (.cells ROW 2)).drew
          have g2 := setCells_grown w.heap.size ((zv l).drop i) (i + 1) ((w.alloc (.cells ROW 2)).drew.setCells w.heap.size i [.int .i64 z]).drew
          have g0 := World.grownBy_alloc w (.cells ROW 2) none
          refine ⟨g2.os.trans (g1.os.trans g0.os), g2.tape.trans (g1.tape.trans g0.tape), g2.output.trans (g1.output.trans g0.output), Nat.le_trans g0.size (Nat.le_trans g1.size g2.size), fun k hk _ => ?_⟩
          rw [setCells_other _ _ _ _ _ (by omega)]
          exact (setCells_other _ _ _ _ _ (by omega)).trans (g0.block k hk (by simp))
        · have g1 := (setCells_grown w.heap.size [.int .i64 z] i (w.alloc (.cells ROW 2)).drew).size
          have g2 := (setCells_grown w.heap.size ((zv l).drop i) (i + 1) ((w.alloc (.cells ROW 2)).drew.setCells w.heap.size i [.int .i64 z]).drew).size
          have g3 : (w.alloc (.cells ROW 2)).drew.heap.size = w.heap.size + 1 := by simp [World.drew]
          have g4 : ((w.alloc (.cells ROW 2)).drew.setCells w.heap.size i [.int .i64 z]).drew.heap.size = ((w.alloc (.cells ROW 2)).drew.setCells w.heap.size i [.int .i64 z]).heap.size := rfl
          omega
    · obtain rfl : i = n := by omega
      by_cases hroom : i + 1 ≤ c
      · refine (ins_end_room g 0 i c vb 0 1 1 [.int .i64 z] w (by omega) hroom (by unfold maxLen at hcm; omega) rfl (fun j hj => ?_) (fun j _ => frozH hg _) hvs h1v).mono ?_
        · rw [cellH hg, Array.getElem?_eq_getElem (by omega)]; rfl
        rintro e w' ⟨rfl, rfl⟩
        obtain ⟨c2, b1, b2, b3⟩ := setCells_block g 2 [.int .i64 z] (0 + i) w cur hg (by simp; omega)
        refine ⟨_, rfl, ⟨hzl, .inr ⟨g, c, c2, rfl, Nat.zero_le _, b1, hroom, hcm, by omega, ?_⟩⟩, setCells_grown g _ _ w, .inl rfl⟩
        rw [Nat.mul_one, hzi]
        refine ins_row hcl (by omega) (by omega) fun j hj => ?_
        rw [b3, List.length_singleton]
        by_cases e1 : j = i
        · subst e1
          rw [if_pos (by omega), if_neg (by omega), if_pos rfl, show j - (0 + j) = 0 by omega]
          rfl
        · rw [if_neg (by omega), if_pos (by omega), hcur j (by omega)]
      · refine (ins_end_grow (some ⟨g, 0, none⟩) i c vb 0 1 1 (zv l) [.int .i64 z] w (by omega) hnc (by omega) (by omega) hcl rfl (fun h => by cases h) (fun a ha j v hj => ?_) hvs h1v).mono ?_
        · obtain rfl : (⟨g, 0, none⟩ : Addr) = a := by simpa using ha
          have := hcell j v hj
          rwa [Addr.add_lit]
        rintro e w' ⟨rfl, rfl⟩
        have hG := grownCap_ge w (i + 1) c 2
        have hGm := grownCap_le_maxLen w (i + 1) c 2 (by unfold maxLen; omega)
        generalize grownCap w (i + 1) c 2 = G at *
        refine ⟨_, rfl, ⟨hzl, .inr ⟨w.heap.size, G, _, rfl, Nat.zero_le _, World.alloc_heap_new w.drew _, hG, hGm, ?_, ?_⟩⟩, ?_, .inr ⟨rfl, by simp⟩⟩
        · simp [Builtin.zeroCells, Value.cells, hcl]; omega
        · rw [Nat.mul_one, hzi, List.take_of_length_le (l := zv l) (by omega), List.drop_of_length_le (by omega)]
          simp [hcl, List.take_append]
          exact List.take_of_length_le (by omega)
        · exact ⟨rfl, rfl, rfl, by simp, fun k hk _ => Below.heap_alloc w.drew _ k hk⟩

end Go.Proofs.Ytbbaehmfadpgeaa

/-
  slices.Clone at elements.
-/
import Derived.Test.YthogahdnidjelaaCheckM
import Derived.Deep.AppendSrc
namespace Go.Proofs.Ythogahdnidjelaa
open Go.RowKit Go.Shelf
set_option linter.unusedSimpArgs false
theorem infoEl : (Try.prog.info? 71).map (fun i => (i.zero, i.size, i.bytes)) = some (some (.agg #[.int .i64 0, .int .i64 0, .int .i64 0, .int .i64 0]), 4, 32) := by kernel_rfl
theorem u22 : Try.prog.underlying 22 = some (.slice 71) := by kernel_rfl
/-- the cells of some elements -/
def flatE (zs : List El) : List Value := zs.flatMap fun x => [.int .i64 x.len, .int .i64 x.lift, .int .i64 x.drag, .int .i64 x.str]
theorem flatE_len (zs : List El) : (flatE zs).length = zs.length * 4 := by
  induction zs with
  | nil => rfl
  | cons z zs ih => simp only [flatE, List.flatMap_cons, List.length_append, List.length_cons, List.length_nil] at *; omega
theorem flatE_get : ∀ (zs : List El) (k : Nat), k < zs.length → (flatE zs)[k * 4]? = some (.int .i64 (el zs k).len) ∧ (flatE zs)[k * 4 + 1]? = some (.int .i64 (el zs k).lift) ∧ (flatE zs)[k * 4 + 2]? = some (.int .i64 (el zs k).drag) ∧ (flatE zs)[k * 4 + 3]? = some (.int .i64 (el zs k).str)
  | [], k, h => by simp at h
  | c :: cs, 0, _ => by simp [flatE, el]
  | c :: cs, k + 1, h => by
    have ih := flatE_get cs k (by simpa using h)
    have e : ∀ j, (flatE (c :: cs))[(k + 1) * 4 + j]? = (flatE cs)[k * 4 + j]? := fun j => by
      have : (k + 1) * 4 + j = k * 4 + j + 4 := by omega
      rw [this]
      simp [flatE]
    have e0 := e 0
    simp only [Nat.add_zero] at e0
    rw [e0, e 1, e 2, e 3]
    have g : el (c :: cs) (k + 1) = el cs k := by simp [el]
    rw [g]
    exact ih
theorem el_cells {W : World} {b off : Nat} {zs : List El}
    (h : ∀ k, k < zs.length → W.cell? ⟨b, off + k * 4, none⟩ = some (.int .i64 (el zs k).len) ∧ W.cell? ⟨b, off + k * 4 + 1, none⟩ = some (.int .i64 (el zs k).lift) ∧
      W.cell? ⟨b, off + k * 4 + 2, none⟩ = some (.int .i64 (el zs k).drag) ∧ W.cell? ⟨b, off + k * 4 + 3, none⟩ = some (.int .i64 (el zs k).str)) :
    ∀ (j : Nat) (u : Value), (flatE zs)[j]? = some u → W.cell? ((⟨b, off, none⟩ : Addr).add j) = some u := by
  intro j u hu
  have hj : j < (flatE zs).length := (List.getElem?_eq_some_iff.1 hu).1
  rw [flatE_len] at hj
  have hk : j / 4 < zs.length := by omega
  obtain ⟨f0, f1, f2, f3⟩ := flatE_get zs (j / 4) hk
  obtain ⟨g0, g1, g2, g3⟩ := h (j / 4) hk
  rw [Addr.add_lit]
  have hm : j % 4 = 0 ∨ j % 4 = 1 ∨ j % 4 = 2 ∨ j % 4 = 3 := by omega
  rcases hm with m | m | m | m
  · rw [show j / 4 * 4 = j by omega] at f0 g0
    rw [hu] at f0; rw [g0, ← f0]
  · rw [show j / 4 * 4 + 1 = j by omega] at f1
    rw [Nat.add_assoc, show j / 4 * 4 + 1 = j by omega] at g1
    rw [hu] at f1; rw [g1, ← f1]
  · rw [show j / 4 * 4 + 2 = j by omega] at f2
    rw [Nat.add_assoc, show j / 4 * 4 + 2 = j by omega] at g2
    rw [hu] at f2; rw [g2, ← f2]
  · rw [show j / 4 * 4 + 3 = j by omega] at f3
    rw [Nat.add_assoc, show j / 4 * 4 + 3 = j by omega] at g3
    rw [hu] at f3; rw [g3, ← f3]
theorem flatE_one (zs : List El) : ∀ u ∈ flatE zs, u.oneCell' = true := by
  intro u hu
  simp only [flatE, List.mem_flatMap] at hu
  obtain ⟨x, -, hx⟩ := hu
  simp only [List.mem_cons, List.not_mem_nil, or_false] at hx
  rcases hx with rfl | rfl | rfl | rfl <;> rfl
theorem some_nil (b off n c : Nat) (w : World) : (Sem.run Try.prog (binOp BinOp.eql 22 (Value.slice (some { block := b, off := off }) n c) (Value.slice none 0 0)) w) = .ok (.bool false) w := by
  kernel_rfl
set_option maxRecDepth 100000 in
set_option maxHeartbeats 4000000 in
theorem clone_any (sv : Value) (zs : List El) (h0 : 0 < zs.length) (hl : zs.length ≤ 40) (w : World) (hI : Els w.heap.size w sv zs) :
    Calls Try.prog 93 #[sv] w fun e w' => ∃ B c, e = .returned (.slice (some ⟨B, 0, none⟩) zs.length c) ∧ w.heap.size ≤ B ∧ Els w'.heap.size w' (.slice (some ⟨B, 0, none⟩) zs.length c) zs ∧ Below w.heap.size w w' := by
  obtain ⟨i0, hi0, hz0, hz1, hz2⟩ := info_parts infoEl
  obtain ⟨a, cap, rfl, hcap, hc⟩ := hI
  obtain ⟨b, off, rfl, hb, -⟩ := hc 0 h0
  have hc2 : ∀ k, k < zs.length → w.cell? ⟨b, off + k * 4, none⟩ = some (.int .i64 (el zs k).len) ∧ w.cell? ⟨b, off + k * 4 + 1, none⟩ = some (.int .i64 (el zs k).lift) ∧
      w.cell? ⟨b, off + k * 4 + 2, none⟩ = some (.int .i64 (el zs k).drag) ∧ w.cell? ⟨b, off + k * 4 + 3, none⟩ = some (.int .i64 (el zs k).str) := fun k hk => by
    obtain ⟨b', off', e, -, g⟩ := hc k hk
    simp only [Option.some.injEq, Addr.mk.injEq] at e
    obtain ⟨rfl, rfl, -⟩ := e
    exact g
  clear hc
  have HC := Lib.hid (el_cells hc2)
  clear hc2
  have hfl := flatE_len zs
  have h1 := flatE_one zs
  generalize hnw : flatE zs = news at *
  have HN := Lib.hid hnw
  have H1 := Lib.hid h1
  clear hnw h1
  generalize hL : zs.length = len at *
  have HL := Lib.hid hL
  clear hL
  have hq := some_nil b off len cap w
  have HS : Src Try.prog i0.size 22 (.slice (some ⟨b, off, none⟩) len cap) len news (w.alloc (.cells #[] 71)) := by
    refine Src.ofSlice _ u22 ⟨b, off, none⟩ len cap news (by rw [hfl, hz1]) (fun j u hu => ?_) H1.out
    have g := HC.out j u hu
    rw [Addr.add_lit] at g ⊢
    exact (Below.cell ((Below.refl w.heap.size w).alloc (Nat.le_refl _) _) (p := ⟨b, off + j, none⟩) hb).trans g
  have hld : (Sem.run Try.prog (loadCellsFrom ⟨b, off, none⟩ 0 (len * 4) #[]) (w.alloc (.cells #[] 71)).drew) = .ok news.toArray (w.alloc (.cells #[] 71)).drew := by
    have h := HS.cellsD
    simpa [Builtin.firstCells, hz1, loadCells] using h
  have hsc : ¬ 281474976710656 < Builtin.nextslicecap len 0 * Try.t71.bytes := by
    have e : Builtin.nextslicecap len 0 = len := by unfold Builtin.nextslicecap; rw [if_pos (by omega)]
    rw [e, show Try.t71.bytes = 32 from rfl]; omega
  have hge := grownCap_ge (w.alloc (.cells #[] 71)) len 0 71
  have hgc : grownCap (w.alloc (.cells #[] 71)) len 0 71 = ((Question.appendCap len 0 71).cut (w.tape w.drawn (Question.appendCap len 0 71))) := rfl
  rw [hgc] at hge
  clear hgc
  go_enter Try.func93, Try.ntmps93
  go_wp2_with fail
  generalize ((Question.appendCap len 0 71).cut (w.tape w.drawn (Question.appendCap len 0 71))) = gc at *
  generalize Builtin.zeroCells #[Value.int IntKind.i64 0, Value.int IntKind.i64 0, Value.int IntKind.i64 0, Value.int IntKind.i64 0] (gc - len) = Z
  go_ret
  refine ⟨w.heap.size + 1, gc, rfl, by omega, ⟨some ⟨w.heap.size + 1, 0, none⟩, gc, by rw [HL.out], by rw [HL.out]; exact hge, fun k hk => ⟨w.heap.size + 1, 0, rfl, by simp, ?_⟩⟩, ?_⟩
  · have hce : ∀ j u, news[j]? = some u → (((w.alloc (Obj.cells #[] 71)).alloc (Obj.cells (news.toArray ++ Z) 71)).drew).cell? ⟨w.heap.size + 1, j, none⟩ = some u := by
      intro j u hu
      have hj : j < news.length := (List.getElem?_eq_some_iff.1 hu).1
      have e : (((w.alloc (Obj.cells #[] 71)).alloc (Obj.cells (news.toArray ++ Z) 71)).drew).heap[w.heap.size + 1]? = some (Obj.cells (news.toArray ++ Z) 71) := by
        have h := World.alloc_heap_new (w.alloc (Obj.cells #[] 71)) (Obj.cells (news.toArray ++ Z) 71)
        rw [show (w.alloc (Obj.cells #[] 71)).heap.size = w.heap.size + 1 by simp] at h
        exact h
      simp only [World.cell?, e]
      simp only [Array.getElem?_append, List.size_toArray, hj, if_true, List.getElem?_toArray, hu]
      rfl
    obtain ⟨f0, f1, f2, f3⟩ := flatE_get zs k hk
    rw [HN.out] at f0 f1 f2 f3
    simp only [Nat.zero_add]
    exact ⟨hce _ _ f0, hce _ _ f1, hce _ _ f2, hce _ _ f3⟩
  · repeat (first | exact Below.refl _ _ | refine Below.drew ?_ | refine Below.alloc ?_ (by first | omega | (simp; done) | (simp; omega)) _)
end Go.Proofs.Ythogahdnidjelaa

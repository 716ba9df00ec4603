/-
  MooringAnswers: the copies of elements, Break and Strong and Holds of both sides, the walk.
-/
import Derived.Test.YtmodplodnimmkaaDoorCheckM
import Derived.Deep.AppendSrc
import Derived.Test.YtmodplodnimmkaaDoorForms
import Derived.Test.YtmodplodnimmkaaDoorStands
import Derived.Test.YtmodplodnimmkaaDoorForceMath
import Derived.Test.YtmodplodnimmkaaDoorRefCheckM
import Derived.Test.YtmodplodnimmkaaDoorRefLifts
import Derived.BigQuiet
import Derived.Deep.QuietTactic
import Derived.Deep.RegionHeld
import Derived.Test.YtmodplodnimmkaaDoorRefPullsM
import Derived.Test.YtmodplodnimmkaaDoorNarAll
namespace Go.Proofs.YtmodplodnimmkaaDoor
open Go.RowKit Go.Shelf
set_option linter.unusedSimpArgs false
theorem infoEl : (Tryd.prog.info? 56).map (fun i => (i.zero, i.size, i.bytes)) = some (some (.agg #[.int .i64 0, .int .i64 0, .int .i64 0, .int .i64 0]), 4, 32) := by kernel_rfl
theorem u22 : Tryd.prog.underlying 22 = some (.slice 56) := by kernel_rfl
/-- the cells of some elements -/
def flatE (zs : List El) : List Value := zs.flatMap fun x => [.int .i64 x.len, .int .i64 x.lift, .int .i64 x.drag, .int .i64 x.str]
theorem flatE_len (zs : List El) : (flatE zs).length = zs.length * 4 := by
  induction zs with
  | nil => rfl
  | cons z zs ih => simp only [flatE, List.flatMap_cons, List.length_append, List.length_cons, List.length_nil] at *; omega
theorem flatE_get : ∀ (zs : List El) (k : Nat), k < zs.length → (flatE zs)[k * 4]? = some (.int .i64 (el zs k).len) ∧ (flatE zs)[k * 4 + 1]? = some (.int .i64 (el zs k).lift) ∧ (flatE zs)[k * 4 + 2]? = some (.int .i64 (el zs k).drag) ∧ (flatE zs)[k * 4 + 3]? = some (.int .i64 (el zs k).str)
  | [], k, h => by simp at h
  | c :: cs, 0, _ => by simp [flatE, el]
  | c :: cs, k + 1, h => by
    have ih := flatE_get cs k (by simpa using h)
    have e : ∀ j, (flatE (c :: cs))[(k + 1) * 4 + j]? = (flatE cs)[k * 4 + j]? := fun j => by
      have : (k + 1) * 4 + j = k * 4 + j + 4 := by omega
      rw [this]
      simp [flatE]
    have e0 := e 0
    simp only [Nat.add_zero] at e0
    rw [e0, e 1, e 2, e 3]
    have g : el (c :: cs) (k + 1) = el cs k := by simp [el]
    rw [g]
    exact ih
theorem el_cells {W : World} {b off : Nat} {zs : List El}
    (h : ∀ k, k < zs.length → W.cell? ⟨b, off + k * 4, none⟩ = some (.int .i64 (el zs k).len) ∧ W.cell? ⟨b, off + k * 4 + 1, none⟩ = some (.int .i64 (el zs k).lift) ∧
      W.cell? ⟨b, off + k * 4 + 2, none⟩ = some (.int .i64 (el zs k).drag) ∧ W.cell? ⟨b, off + k * 4 + 3, none⟩ = some (.int .i64 (el zs k).str)) :
    ∀ (j : Nat) (u : Value), (flatE zs)[j]? = some u → W.cell? ((⟨b, off, none⟩ : Addr).add j) = some u := by
  intro j u hu
  have hj : j < (flatE zs).length := (List.getElem?_eq_some_iff.1 hu).1
  rw [flatE_len] at hj
  have hk : j / 4 < zs.length := by omega
  obtain ⟨f0, f1, f2, f3⟩ := flatE_get zs (j / 4) hk
  obtain ⟨g0, g1, g2, g3⟩ := h (j / 4) hk
  rw [Addr.add_lit]
  have hm : j % 4 = 0 ∨ j % 4 = 1 ∨ j % 4 = 2 ∨ j % 4 = 3 := by omega
  rcases hm with m | m | m | m
  · rw [show j / 4 * 4 = j by omega] at f0 g0
    rw [hu] at f0; rw [g0, ← f0]
  · rw [show j / 4 * 4 + 1 = j by omega] at f1
    rw [Nat.add_assoc, show j / 4 * 4 + 1 = j by omega] at g1
    rw [hu] at f1; rw [g1, ← f1]
  · rw [show j / 4 * 4 + 2 = j by omega] at f2
    rw [Nat.add_assoc, show j / 4 * 4 + 2 = j by omega] at g2
    rw [hu] at f2; rw [g2, ← f2]
  · rw [show j / 4 * 4 + 3 = j by omega] at f3
    rw [Nat.add_assoc, show j / 4 * 4 + 3 = j by omega] at g3
    rw [hu] at f3; rw [g3, ← f3]
theorem flatE_one (zs : List El) : ∀ u ∈ flatE zs, u.oneCell' = true := by
  intro u hu
  simp only [flatE, List.mem_flatMap] at hu
  obtain ⟨x, -, hx⟩ := hu
  simp only [List.mem_cons, List.not_mem_nil, or_false] at hx
  rcases hx with rfl | rfl | rfl | rfl <;> rfl
theorem some_nil (b off n c : Nat) (w : World) : (Sem.run Tryd.prog (binOp BinOp.eql 22 (Value.slice (some { block := b, off := off }) n c) (Value.slice none 0 0)) w) = .ok (.bool false) w := by
  kernel_rfl
set_option maxRecDepth 100000 in
set_option maxHeartbeats 4000000 in
theorem clone_any (sv : Value) (zs : List El) (h0 : 0 < zs.length) (hl : zs.length ≤ 40) (w : World) (hI : Els w.heap.size w sv zs) :
    Calls Tryd.prog 42 #[sv] w fun e w' => ∃ B c, e = .returned (.slice (some ⟨B, 0, none⟩) zs.length c) ∧ w.heap.size ≤ B ∧ Els w'.heap.size w' (.slice (some ⟨B, 0, none⟩) zs.length c) zs ∧ Below w.heap.size w w' := by
  obtain ⟨i0, hi0, hz0, hz1, hz2⟩ := info_parts infoEl
  obtain ⟨a, cap, rfl, hcap, hc⟩ := hI
  obtain ⟨b, off, rfl, hb, -⟩ := hc 0 h0
  have hc2 : ∀ k, k < zs.length → w.cell? ⟨b, off + k * 4, none⟩ = some (.int .i64 (el zs k).len) ∧ w.cell? ⟨b, off + k * 4 + 1, none⟩ = some (.int .i64 (el zs k).lift) ∧
      w.cell? ⟨b, off + k * 4 + 2, none⟩ = some (.int .i64 (el zs k).drag) ∧ w.cell? ⟨b, off + k * 4 + 3, none⟩ = some (.int .i64 (el zs k).str) := fun k hk => by
    obtain ⟨b', off', e, -, g⟩ := hc k hk
    simp only [Option.some.injEq, Addr.mk.injEq] at e
    obtain ⟨rfl, rfl, -⟩ := e
    exact g
  clear hc
  have HC := Lib.hid (el_cells hc2)
  clear hc2
  have hfl := flatE_len zs
  have h1 := flatE_one zs
  generalize hnw : flatE zs = news at *
  have HN := Lib.hid hnw
  have H1 := Lib.hid h1
  clear hnw h1
  generalize hL : zs.length = len at *
  have HL := Lib.hid hL
  clear hL
  have hq := some_nil b off len cap w
  have HS : Src Tryd.prog i0.size 22 (.slice (some ⟨b, off, none⟩) len cap) len news (w.alloc (.cells #[] 56)) := by
    refine Src.ofSlice _ u22 ⟨b, off, none⟩ len cap news (by rw [hfl, hz1]) (fun j u hu => ?_) H1.out
    have g := HC.out j u hu
    rw [Addr.add_lit] at g ⊢
    exact (Below.cell ((Below.refl w.heap.size w).alloc (Nat.le_refl _) _) (p := ⟨b, off + j, none⟩) hb).trans g
  have hld : (Sem.run Tryd.prog (loadCellsFrom ⟨b, off, none⟩ 0 (len * 4) #[]) (w.alloc (.cells #[] 56)).drew) = .ok news.toArray (w.alloc (.cells #[] 56)).drew := by
    have h := HS.cellsD
    simpa [Builtin.firstCells, hz1, loadCells] using h
  have hsc : ¬ 281474976710656 < Builtin.nextslicecap len 0 * Tryd.t56.bytes := by
    have e : Builtin.nextslicecap len 0 = len := by unfold Builtin.nextslicecap; rw [if_pos (by omega)]
    rw [e, show Tryd.t56.bytes = 32 from rfl]; omega
  have hge := grownCap_ge (w.alloc (.cells #[] 56)) len 0 56
  have hgc : grownCap (w.alloc (.cells #[] 56)) len 0 56 = ((Question.appendCap len 0 56).cut (w.tape w.drawn (Question.appendCap len 0 56))) := rfl
  rw [hgc] at hge
  clear hgc
  go_enter Tryd.func42, Tryd.ntmps42
  go_wp2_with fail
  generalize ((Question.appendCap len 0 56).cut (w.tape w.drawn (Question.appendCap len 0 56))) = gc at *
  generalize Builtin.zeroCells #[Value.int IntKind.i64 0, Value.int IntKind.i64 0, Value.int IntKind.i64 0, Value.int IntKind.i64 0] (gc - len) = Z
  go_ret
  refine ⟨w.heap.size + 1, gc, rfl, by omega, ⟨some ⟨w.heap.size + 1, 0, none⟩, gc, by rw [HL.out], by rw [HL.out]; exact hge, fun k hk => ⟨w.heap.size + 1, 0, rfl, by simp, ?_⟩⟩, ?_⟩
  · have hce : ∀ j u, news[j]? = some u → (((w.alloc (Obj.cells #[] 56)).alloc (Obj.cells (news.toArray ++ Z) 56)).drew).cell? ⟨w.heap.size + 1, j, none⟩ = some u := by
      intro j u hu
      have hj : j < news.length := (List.getElem?_eq_some_iff.1 hu).1
      have e : (((w.alloc (Obj.cells #[] 56)).alloc (Obj.cells (news.toArray ++ Z) 56)).drew).heap[w.heap.size + 1]? = some (Obj.cells (news.toArray ++ Z) 56) := by
        have h := World.alloc_heap_new (w.alloc (Obj.cells #[] 56)) (Obj.cells (news.toArray ++ Z) 56)
        rw [show (w.alloc (Obj.cells #[] 56)).heap.size = w.heap.size + 1 by simp] at h
        exact h
      simp only [World.cell?, e]
      simp only [Array.getElem?_append, List.size_toArray, hj, if_true, List.getElem?_toArray, hu]
      rfl
    obtain ⟨f0, f1, f2, f3⟩ := flatE_get zs k hk
    rw [HN.out] at f0 f1 f2 f3
    simp only [Nat.zero_add]
    exact ⟨hce _ _ f0, hce _ _ f1, hce _ _ f2, hce _ _ f3⟩
  · repeat (first | exact Below.refl _ _ | refine Below.drew ?_ | refine Below.alloc ?_ (by first | omega | (simp; done) | (simp; omega)) _)
end Go.Proofs.YtmodplodnimmkaaDoor
namespace Go.Proofs.YtmodplodnimmkaaDoor
open Go.RowKit Go.Shelf
set_option linter.unusedSimpArgs false
theorem el_drop (zs : List El) (m j : Nat) : el (zs.drop m) j = el zs (m + j) := by
  unfold el
  rw [List.getElem?_drop]
theorem Els.drop {n₀ : Nat} {W : World} {b off n cap : Nat} {zs : List El} (h : Els n₀ W (.slice (some ⟨b, off, none⟩) n cap) zs) (m : Nat) (hm : m ≤ zs.length) :
    Els n₀ W (.slice (some ⟨b, off + m * 4, none⟩) (n - m) (cap - m)) (zs.drop m) := by
  obtain ⟨a, c, e, hl, hc⟩ := h
  simp only [Value.slice.injEq] at e
  obtain ⟨rfl, rfl, rfl⟩ := e
  refine ⟨_, _, by rw [List.length_drop], by rw [List.length_drop]; omega, fun k hk => ?_⟩
  rw [List.length_drop] at hk
  obtain ⟨b', off', e, hb, g⟩ := hc (m + k) (by omega)
  simp only [Option.some.injEq, Addr.mk.injEq] at e
  obtain ⟨rfl, rfl, -⟩ := e
  refine ⟨_, _, rfl, hb, ?_⟩
  rw [el_drop, show off + m * 4 + k * 4 = off + (m + k) * 4 by omega]
  exact g
theorem sum_mem {zs : List El} (h : ∀ k, k < zs.length → vE (el zs k) = true) : ∀ k, k < zs.length → -1048576 ≤ (el zs k).lift ∧ (el zs k).lift ≤ 1048576 := fun k hk => ((vE_iff _).1 (h k hk)).2.1
/-- what Break keeps in memory: its mooring, and a result -/
structure BrkAt (B : Nat) (d : Int) (a : Option Addr) (len cap : Nat) (an fr : Int) (W : World) : Prop where
  lt : B + 1 < W.heap.size
  c0 : W.cell? ⟨B, 0, none⟩ = some (.int .i64 d)
  c1 : W.cell? ⟨B, 1, none⟩ = some (.slice a len cap)
  c2 : W.cell? ⟨B, 2, none⟩ = some (.int .i64 an)
  c3 : W.cell? ⟨B, 3, none⟩ = some (.int .i64 fr)
  r0 : W.cell? ⟨B + 1, 0, none⟩ = some (.int .i64 0)
  r1 : W.cell? ⟨B + 1, 1, none⟩ = some (.slice none 0 0)
  r2 : W.cell? ⟨B + 1, 2, none⟩ = some (.int .i64 0)
  r3 : W.cell? ⟨B + 1, 3, none⟩ = some (.int .i64 0)
  f1 : W.frozen? ⟨B, 1, none⟩ = false
  g0 : W.frozen? ⟨B + 1, 0, none⟩ = false
  g1 : W.frozen? ⟨B + 1, 1, none⟩ = false
  g2 : W.frozen? ⟨B + 1, 2, none⟩ = false
  g3 : W.frozen? ⟨B + 1, 3, none⟩ = false
theorem BrkAt.start (w : World) (d : Int) (a : Option Addr) (len cap : Nat) (an fr : Int) :
    BrkAt w.heap.size d a len cap an fr ((w.alloc (.cells #[.int .i64 d, .slice a len cap, .int .i64 an, .int .i64 fr] 24)).alloc (.cells #[.int .i64 0, .slice none 0 0, .int .i64 0, .int .i64 0] 24)) := by
  constructor <;> simp [go_sem]
theorem BrkAt.at {B : Nat} {d : Int} {a : Option Addr} {len cap : Nat} {an fr : Int} {W W' : World} (h : BrkAt B d a len cap an fr W) {n : Nat} (hn : B + 2 ≤ n) (hb : Below n W W') : BrkAt B d a len cap an fr W' := by
  have hs := hb.size
  have hl := h.lt
  exact ⟨by omega, (hb.cell (p := ⟨B, 0, none⟩) (by show B < n; omega)).trans h.c0, (hb.cell (p := ⟨B, 1, none⟩) (by show B < n; omega)).trans h.c1, (hb.cell (p := ⟨B, 2, none⟩) (by show B < n; omega)).trans h.c2, (hb.cell (p := ⟨B, 3, none⟩) (by show B < n; omega)).trans h.c3,
    (hb.cell (p := ⟨B + 1, 0, none⟩) (by show B + 1 < n; omega)).trans h.r0, (hb.cell (p := ⟨B + 1, 1, none⟩) (by show B + 1 < n; omega)).trans h.r1, (hb.cell (p := ⟨B + 1, 2, none⟩) (by show B + 1 < n; omega)).trans h.r2, (hb.cell (p := ⟨B + 1, 3, none⟩) (by show B + 1 < n; omega)).trans h.r3,
    (hb.frozen (p := ⟨B, 1, none⟩) (by show B < n; omega)).trans h.f1, (hb.frozen (p := ⟨B + 1, 0, none⟩) (by show B + 1 < n; omega)).trans h.g0, (hb.frozen (p := ⟨B + 1, 1, none⟩) (by show B + 1 < n; omega)).trans h.g1, (hb.frozen (p := ⟨B + 1, 2, none⟩) (by show B + 1 < n; omega)).trans h.g2, (hb.frozen (p := ⟨B + 1, 3, none⟩) (by show B + 1 < n; omega)).trans h.g3⟩
set_option maxRecDepth 100000 in
set_option maxHeartbeats 8000000 in
theorem break_last (d an fr : Int) (sv : Value) (zs : List El) (k : Nat) (w : World) (hI : Els w.heap.size w sv zs) (hm : mooE d zs an fr = 0) (hk : k + 1 = zs.length) :
    Calls Tryd.prog 12 #[.agg #[.int .i64 d, sv, .int .i64 an, .int .i64 fr], .int .i64 k] w fun e w' => e = .returned (.tuple #[.agg #[.int .i64 0, .slice none 0 0, .int .i64 0, .int .i64 0], .bool false, .int .i64 5]) ∧ Below w.heap.size w w' := by
  have hmo := (mooE_ok hm).2.1
  have c18 := fun w' (hb : Below w.heap.size w w') => checkM_any d an fr sv zs w' (hI.at hb)
  rw [hm] at c18
  obtain ⟨a, cap, rfl, -, -⟩ := hI
  generalize zs.length = len at *
  have c80 := fun W => withinI_any (k : Int) 0 ((len : Int) - 1) W
  rw [show (decide ((0 : Int) ≤ (k : Int)) && decide ((k : Int) ≤ (len : Int) - 1)) = true by rw [decide_eq_true (by omega), decide_eq_true (by omega)]; rfl] at c80
  have hW : IntKind.i64.wrap ((len : Int) - 1) = (k : Int) := by rw [IntKind.wrap_i64]; omega
  rw [show (len : Int) - 1 = (k : Int) by omega] at c80
  have HA := BrkAt.start w d a len cap an fr
  have hBA : Below w.heap.size w ((w.alloc (.cells #[.int .i64 d, .slice a len cap, .int .i64 an, .int .i64 fr] 24)).alloc (.cells #[.int .i64 0, .slice none 0 0, .int .i64 0, .int .i64 0] 24)) := ((Below.refl _ _).alloc (Nat.le_refl _) _).alloc (by simp) _
  obtain ⟨A, hA⟩ : ∃ A, A = (w.alloc (.cells #[.int .i64 d, .slice a len cap, .int .i64 an, .int .i64 fr] 24)).alloc (.cells #[.int .i64 0, .slice none 0 0, .int .i64 0, .int .i64 0] 24) := ⟨_, rfl⟩
  rw [← hA] at HA hBA
  have HH := Lib.hid HA
  have HB := Lib.hid hBA
  have hzA : w.heap.size + 2 ≤ A.heap.size := HA.lt
  clear HA hBA
  go_enter Tryd.func12, Tryd.ntmps12
  go_wp2_with fail
  rw [← hA]
  refine (c18 _ HB.out).mono ?_
  rintro e w1 ⟨rfl, hb⟩
  have HH1 := HH.out.at hzA hb
  have HB1 := Lib.hid (HB.out.trans (hb.mono HB.out.size))
  clear hb hA c18
  obtain ⟨l, c0, c1, c2, c3, r0, r1, r2, r3, f1, g0, g1, g2, g3⟩ := HH1
  go_wp2_with fail
  refine (c80 _).mono ?_
  rintro e w2 ⟨rfl, rfl⟩
  go_wp2_with fail
  refine bodyPost_ret (v := .tuple #[.agg #[.int .i64 0, .slice none 0 0, .int .i64 0, .int .i64 0], .bool false, .int .i64 5]) (by simp [results, Tryd.results12, go_sem, *]) rfl ⟨rfl, ?_⟩
  repeat (first | refine Below.setCell ?_ (by first | omega | (simp; done) | (simp; omega)) _ | exact HB1.out)
theorem Els.set {W : World} {b off n c : Nat} {zs : List El} {p : Addr} (h : Els W.heap.size W (.slice (some ⟨b, off, none⟩) n c) zs) (hp : ¬ b = p.block) (u : Value) :
    Els (W.setCell p u).heap.size (W.setCell p u) (.slice (some ⟨b, off, none⟩) n c) zs := by
  obtain ⟨a, c', e, hl, hc⟩ := h
  refine ⟨a, c', e, hl, fun k hk => ?_⟩
  obtain ⟨b', off', e', hb, g0, g1, g2, g3⟩ := hc k hk
  simp only [Value.slice.injEq] at e
  obtain ⟨rfl, -, -⟩ := e
  simp only [Option.some.injEq, Addr.mk.injEq] at e'
  obtain ⟨rfl, rfl, -⟩ := e'
  refine ⟨_, _, rfl, by simpa using hb, ?_⟩
  have hk : (W.setCell p u).heap[b]? = W.heap[b]? := heap_setCell_other W p b u hp
  simp only [World.cell?, hk]
  simp only [World.cell?] at g0 g1 g2 g3
  exact ⟨g0, g1, g2, g3⟩
theorem nth_lif {zs : List El} {k : Nat} (hk : k < zs.length) : (lifL zs zs.length)[k]?.getD 0 = lifTo zs (k + 1) := lifL_nth zs zs.length k hk
set_option maxRecDepth 100000 in
set_option maxHeartbeats 8000000 in
theorem break_mid (d an fr : Int) (sv : Value) (zs : List El) (k : Nat) (w : World) (hI : Els w.heap.size w sv zs) (hm : mooE d zs an fr = 0) (hk : k + 1 < zs.length) :
    Calls Tryd.prog 12 #[.agg #[.int .i64 d, sv, .int .i64 an, .int .i64 fr], .int .i64 k] w fun e w' => ∃ v, e = .returned (.tuple #[.agg #[.int .i64 d, v, .int .i64 an, .int .i64 fr], .bool (decide (1 ≤ lifTo zs (k + 1))), .int .i64 0]) ∧ Els w'.heap.size w' v (zs.drop (k + 1)) ∧ Below w.heap.size w w' := by
  have hmo := (mooE_ok hm).2.1
  have hels := sum_mem (mooE_ok hm).2.2.1
  have c18 := fun w' (hb : Below w.heap.size w w') => checkM_any d an fr sv zs w' (hI.at hb)
  rw [hm] at c18
  have c52 := fun w' (hb : Below w.heap.size w w') => lifts_any d an fr sv zs hmo hels w' (hI.at hb)
  have HG := Lib.hid (show (lifL zs zs.length)[k]?.getD 0 = lifTo zs (k + 1) from nth_lif (by omega))
  have HLL := lifL_len zs zs.length
  have hI0 := hI
  obtain ⟨a, cap, rfl, hcap, hc⟩ := hI
  obtain ⟨b, off, rfl, -, -⟩ := hc 0 (by omega)
  have c93 := Lib.hid (fun w' (hb : Below w.heap.size w w') => clone_any (.slice (some ⟨b, off + (k + 1) * 4, none⟩) (zs.length - (k + 1)) (cap - (k + 1))) (zs.drop (k + 1)) (by rw [List.length_drop]; omega) (by rw [List.length_drop]; omega) w' ((hI0.at hb).drop (k + 1) (by omega)))
  clear hI0 hc
  generalize lifL zs zs.length = L at *
  generalize lifTo zs (k + 1) = v at *
  have c92 := fun W => floats_any v W
  generalize hdr : zs.drop (k + 1) = ds at *
  clear hdr hels
  generalize zs.length = len at *
  have c80 := fun W => withinI_any (k : Int) 0 ((len : Int) - 1) W
  rw [show (decide ((0 : Int) ≤ (k : Int)) && decide ((k : Int) ≤ (len : Int) - 1)) = true by rw [decide_eq_true (by omega), decide_eq_true (by omega)]; rfl] at c80
  have hW : IntKind.i64.wrap ((len : Int) - 1) = (len : Int) - 1 := by rw [IntKind.wrap_i64]; omega
  generalize hl1 : (len : Int) - 1 = l1 at *
  have hne : ((k : Int) == l1) = false := by rw [beq_eq_false_iff_ne]; omega
  have hne2 : ¬ (k : Int) = l1 := by omega
  have HA := BrkAt.start w d (some ⟨b, off, none⟩) len cap an fr
  have hBA : Below w.heap.size w ((w.alloc (.cells #[.int .i64 d, .slice (some ⟨b, off, none⟩) len cap, .int .i64 an, .int .i64 fr] 24)).alloc (.cells #[.int .i64 0, .slice none 0 0, .int .i64 0, .int .i64 0] 24)) := ((Below.refl _ _).alloc (Nat.le_refl _) _).alloc (by simp) _
  obtain ⟨A, hA⟩ : ∃ A, A = (w.alloc (.cells #[.int .i64 d, .slice (some ⟨b, off, none⟩) len cap, .int .i64 an, .int .i64 fr] 24)).alloc (.cells #[.int .i64 0, .slice none 0 0, .int .i64 0, .int .i64 0] 24) := ⟨_, rfl⟩
  rw [← hA] at HA hBA
  have HH := Lib.hid HA
  have HB := Lib.hid hBA
  have hzA : w.heap.size + 2 ≤ A.heap.size := HA.lt
  clear HA hBA
  go_enter Tryd.func12, Tryd.ntmps12
  go_wp2_with fail
  rw [← hA]
  refine (c18 _ HB.out).mono ?_
  rintro e w1 ⟨rfl, hb⟩
  have HH1 := HH.out.at hzA hb
  have HB1 := Lib.hid (HB.out.trans (hb.mono HB.out.size))
  clear hb hA c18
  have HHh := Lib.hid HH1
  obtain ⟨l, c0, c1, c2, c3, r0, r1, r2, r3, f1, g0, g1, g2, g3⟩ := HH1
  go_wp2_with fail
  refine (c80 _).mono ?_
  rintro e w2 ⟨rfl, rfl⟩
  go_wp2_with fail
  refine (c52 _ HB1.out).mono ?_
  rintro e w3 ⟨vl, rfl, hN, hb⟩
  have HH3 := HHh.out.at l hb
  have HB3 := Lib.hid (HB1.out.trans (hb.mono HB1.out.size))
  obtain ⟨al, cl, rfl, -, hlc⟩ := hN
  obtain ⟨bl, ol, rfl, hbl, hv⟩ := hlc k (by omega)
  rw [HG.out] at hv
  clear hb hlc c0 c1 c2 c3 r0 r1 r2 r3 f1 g0 g1 g2 g3 HHh
  rw [HLL]
  have HHh := Lib.hid HH3
  obtain ⟨l3, c0, c1, c2, c3, r0, r1, r2, r3, f1, g0, g1, g2, g3⟩ := HH3
  have hki : (k : Int) < (len : Int) := by omega
  go_wp2_with fail
  refine (c92 _).mono ?_
  rintro e w4 ⟨rfl, rfl⟩
  have hW2 : IntKind.i64.wrap ((k : Int) + 1) = (k : Int) + 1 := by rw [IntKind.wrap_i64]; omega
  go_wp2_with fail
  refine (c93.out _ HB3.out).mono ?_
  rintro e w5 ⟨B5, c5, rfl, hB5, hE, hb⟩
  have HH5 := HHh.out.at l3 hb
  have HB5 := Lib.hid (HB3.out.trans (hb.mono HB3.out.size))
  have HE := Lib.hid hE
  have n1 : ¬ B5 = w.heap.size := by omega
  have n2 : ¬ B5 = w.heap.size + 1 := by omega
  clear hb hE c0 c1 c2 c3 r0 r1 r2 r3 f1 g0 g1 g2 g3 HHh
  obtain ⟨l5, c0, c1, c2, c3, r0, r1, r2, r3, f1, g0, g1, g2, g3⟩ := HH5
  go_wp2_with fail
  refine bodyPost_ret (v := .tuple #[.agg #[.int .i64 d, .slice (some ⟨B5, 0, none⟩) ds.length c5, .int .i64 an, .int .i64 fr], .bool (decide (1 ≤ v)), .int .i64 0]) (by simp [results, Tryd.results12, go_sem, *]) rfl ⟨_, rfl, ?_, ?_⟩
  · repeat (first | exact HE.out | refine Els.set ?_ (by first | exact n1 | exact n2) _)
  · repeat (first | refine Below.setCell ?_ (by first | omega | (simp; done) | (simp; omega)) _ | exact HB5.out)
end Go.Proofs.YtmodplodnimmkaaDoor
namespace Go.Proofs.YtmodplodnimmkaaDoor
open Go.RowKit Go.Shelf
set_option linter.unusedSimpArgs false
def brkE (d : Int) (zs : List El) (an fr k : Int) : Int := if mooE d zs an fr = 0 then (if k < 0 ∨ (zs.length : Int) ≤ k then 3 else if k = (zs.length : Int) - 1 then 5 else 0) else mooE d zs an fr
def brkL (d : Int) (zs : List El) (an fr k : Int) : List El := if brkE d zs an fr k = 0 then zs.drop (k.toNat + 1) else []
def brkN (d : Int) (zs : List El) (an fr k x : Int) : Int := if brkE d zs an fr k = 0 then x else 0
def brkF (d : Int) (zs : List El) (an fr k : Int) : Bool := decide (brkE d zs an fr k = 0) && decide (1 ≤ lifTo zs (k.toNat + 1))
theorem els_nil (n₀ : Nat) (W : World) : Els n₀ W (.slice none 0 0) [] := ⟨none, 0, rfl, Nat.le_refl _, fun k hk => by simp at hk⟩
set_option maxRecDepth 100000 in
set_option maxHeartbeats 8000000 in
theorem break_err (d an fr : Int) (sv : Value) (zs : List El) (k : Int) (w : World) (hI : Els w.heap.size w sv zs) (hm : ¬ mooE d zs an fr = 0) :
    Calls Tryd.prog 12 #[.agg #[.int .i64 d, sv, .int .i64 an, .int .i64 fr], .int .i64 k] w fun e w' => e = .returned (.tuple #[.agg #[.int .i64 0, .slice none 0 0, .int .i64 0, .int .i64 0], .bool false, .int .i64 (mooE d zs an fr)]) ∧ Below w.heap.size w w' := by
  have c18 := fun w' (hb : Below w.heap.size w w') => checkM_any d an fr sv zs w' (hI.at hb)
  have hb0 : (mooE d zs an fr != 0) = true := by simpa using hm
  generalize mooE d zs an fr = E at *
  clear hm
  obtain ⟨a, cap, rfl, -, -⟩ := hI
  generalize zs.length = len at *
  have HA := BrkAt.start w d a len cap an fr
  have hBA : Below w.heap.size w ((w.alloc (.cells #[.int .i64 d, .slice a len cap, .int .i64 an, .int .i64 fr] 24)).alloc (.cells #[.int .i64 0, .slice none 0 0, .int .i64 0, .int .i64 0] 24)) := ((Below.refl _ _).alloc (Nat.le_refl _) _).alloc (by simp) _
  obtain ⟨A, hA⟩ : ∃ A, A = (w.alloc (.cells #[.int .i64 d, .slice a len cap, .int .i64 an, .int .i64 fr] 24)).alloc (.cells #[.int .i64 0, .slice none 0 0, .int .i64 0, .int .i64 0] 24) := ⟨_, rfl⟩
  rw [← hA] at HA hBA
  have HH := Lib.hid HA
  have HB := Lib.hid hBA
  have hzA : w.heap.size + 2 ≤ A.heap.size := HA.lt
  clear HA hBA
  go_enter Tryd.func12, Tryd.ntmps12
  go_wp2_with fail
  rw [← hA]
  refine (c18 _ HB.out).mono ?_
  rintro e w1 ⟨rfl, hb⟩
  have HH1 := HH.out.at hzA hb
  have HB1 := Lib.hid (HB.out.trans (hb.mono HB.out.size))
  clear hb hA c18
  obtain ⟨l, c0, c1, c2, c3, r0, r1, r2, r3, f1, g0, g1, g2, g3⟩ := HH1
  go_wp2_with fail
  refine bodyPost_ret (v := .tuple #[.agg #[.int .i64 0, .slice none 0 0, .int .i64 0, .int .i64 0], .bool false, .int .i64 E]) (by simp [results, Tryd.results12, go_sem, *]) rfl ⟨rfl, ?_⟩
  repeat (first | refine Below.setCell ?_ (by first | omega | (simp; done) | (simp; omega)) _ | exact HB1.out)
set_option maxRecDepth 100000 in
set_option maxHeartbeats 8000000 in
theorem break_rng (d an fr : Int) (sv : Value) (zs : List El) (k : Int) (w : World) (hI : Els w.heap.size w sv zs) (hm : mooE d zs an fr = 0) (hk : k < 0 ∨ (zs.length : Int) ≤ k) :
    Calls Tryd.prog 12 #[.agg #[.int .i64 d, sv, .int .i64 an, .int .i64 fr], .int .i64 k] w fun e w' => e = .returned (.tuple #[.agg #[.int .i64 0, .slice none 0 0, .int .i64 0, .int .i64 0], .bool false, .int .i64 3]) ∧ Below w.heap.size w w' := by
  have hmo := (mooE_ok hm).2.1
  have c18 := fun w' (hb : Below w.heap.size w w') => checkM_any d an fr sv zs w' (hI.at hb)
  rw [hm] at c18
  obtain ⟨a, cap, rfl, -, -⟩ := hI
  generalize zs.length = len at *
  have c80 := fun W => withinI_any k 0 ((len : Int) - 1) W
  rw [show (decide ((0 : Int) ≤ k) && decide (k ≤ (len : Int) - 1)) = false by rcases hk with h | h; · rw [decide_eq_false (by omega)]; rfl
                                                                               · rw [decide_eq_false (show ¬ k ≤ (len : Int) - 1 by omega), Bool.and_false]] at c80
  have hW : IntKind.i64.wrap ((len : Int) - 1) = (len : Int) - 1 := by rw [IntKind.wrap_i64]; omega
  generalize hl1 : (len : Int) - 1 = l1 at *
  have HA := BrkAt.start w d a len cap an fr
  have hBA : Below w.heap.size w ((w.alloc (.cells #[.int .i64 d, .slice a len cap, .int .i64 an, .int .i64 fr] 24)).alloc (.cells #[.int .i64 0, .slice none 0 0, .int .i64 0, .int .i64 0] 24)) := ((Below.refl _ _).alloc (Nat.le_refl _) _).alloc (by simp) _
  obtain ⟨A, hA⟩ : ∃ A, A = (w.alloc (.cells #[.int .i64 d, .slice a len cap, .int .i64 an, .int .i64 fr] 24)).alloc (.cells #[.int .i64 0, .slice none 0 0, .int .i64 0, .int .i64 0] 24) := ⟨_, rfl⟩
  rw [← hA] at HA hBA
  have HH := Lib.hid HA
  have HB := Lib.hid hBA
  have hzA : w.heap.size + 2 ≤ A.heap.size := HA.lt
  clear HA hBA
  go_enter Tryd.func12, Tryd.ntmps12
  go_wp2_with fail
  rw [← hA]
  refine (c18 _ HB.out).mono ?_
  rintro e w1 ⟨rfl, hb⟩
  have HH1 := HH.out.at hzA hb
  have HB1 := Lib.hid (HB.out.trans (hb.mono HB.out.size))
  clear hb hA c18
  obtain ⟨l, c0, c1, c2, c3, r0, r1, r2, r3, f1, g0, g1, g2, g3⟩ := HH1
  go_wp2_with fail
  refine (c80 _).mono ?_
  rintro e w2 ⟨rfl, rfl⟩
  go_wp2_with fail
  refine bodyPost_ret (v := .tuple #[.agg #[.int .i64 0, .slice none 0 0, .int .i64 0, .int .i64 0], .bool false, .int .i64 3]) (by simp [results, Tryd.results12, go_sem, *]) rfl ⟨rfl, ?_⟩
  repeat (first | refine Below.setCell ?_ (by first | omega | (simp; done) | (simp; omega)) _ | exact HB1.out)
theorem break_any (d an fr k : Int) (sv : Value) (zs : List El) (w : World) (hI : Els w.heap.size w sv zs) :
    Calls Tryd.prog 12 #[.agg #[.int .i64 d, sv, .int .i64 an, .int .i64 fr], .int .i64 k] w fun e w' => ∃ v, e = .returned (.tuple #[.agg #[.int .i64 (brkN d zs an fr k d), v, .int .i64 (brkN d zs an fr k an), .int .i64 (brkN d zs an fr k fr)], .bool (brkF d zs an fr k), .int .i64 (brkE d zs an fr k)]) ∧ Els w'.heap.size w' v (brkL d zs an fr k) ∧ Below w.heap.size w w' := by
  by_cases hm : mooE d zs an fr = 0
  rotate_left
  · have e : brkE d zs an fr k = mooE d zs an fr := if_neg hm
    have e2 : ¬ brkE d zs an fr k = 0 := by rw [e]; exact hm
    have f : brkF d zs an fr k = false := by unfold brkF; rw [decide_eq_false e2]; rfl
    unfold brkL brkN
    rw [if_neg e2, if_neg e2, if_neg e2, if_neg e2, f, e]
    exact (break_err d an fr sv zs k w hI hm).mono fun e w' ⟨he, hb⟩ => ⟨_, he, els_nil _ _, hb⟩
  by_cases hr : k < 0 ∨ (zs.length : Int) ≤ k
  · have e : brkE d zs an fr k = 3 := by unfold brkE; rw [if_pos hm, if_pos hr]
    have e2 : ¬ brkE d zs an fr k = 0 := by rw [e]; decide
    have f : brkF d zs an fr k = false := by unfold brkF; rw [decide_eq_false e2]; rfl
    unfold brkL brkN
    rw [if_neg e2, if_neg e2, if_neg e2, if_neg e2, f, e]
    exact (break_rng d an fr sv zs k w hI hm hr).mono fun e w' ⟨he, hb⟩ => ⟨_, he, els_nil _ _, hb⟩
  obtain ⟨m, rfl⟩ : ∃ m : Nat, k = m := ⟨k.toNat, by omega⟩
  by_cases hl : m + 1 = zs.length
  · have e : brkE d zs an fr (m : Int) = 5 := by unfold brkE; rw [if_pos hm, if_neg hr, if_pos (by omega)]
    have e2 : ¬ brkE d zs an fr (m : Int) = 0 := by rw [e]; decide
    have f : brkF d zs an fr (m : Int) = false := by unfold brkF; rw [decide_eq_false e2]; rfl
    unfold brkL brkN
    rw [if_neg e2, if_neg e2, if_neg e2, if_neg e2, f, e]
    exact (break_last d an fr sv zs m w hI hm hl).mono fun e w' ⟨he, hb⟩ => ⟨_, he, els_nil _ _, hb⟩
  · have e : brkE d zs an fr (m : Int) = 0 := by unfold brkE; rw [if_pos hm, if_neg hr, if_neg (by omega)]
    have f : brkF d zs an fr (m : Int) = decide (1 ≤ lifTo zs (m + 1)) := by unfold brkF; rw [e, Int.toNat_natCast]; rfl
    unfold brkL brkN
    rw [if_pos e, if_pos e, if_pos e, if_pos e, f, e, Int.toNat_natCast]
    exact break_mid d an fr sv zs m w hI hm (by omega)
end Go.Proofs.YtmodplodnimmkaaDoor
namespace Go.Proofs.YtmodplodnimmkaaDoor
open Go.RowKit Go.Shelf
set_option linter.unusedSimpArgs false
theorem load_els {W : World} {b off n c : Nat} {zs : List El} (h : Els W.heap.size W (.slice (some ⟨b, off, none⟩) n c) zs) (hn : zs.length = n) :
    Sem.run Tryd.prog (loadCellsFrom ⟨b, off, none⟩ 0 (n * 4) #[]) (W.alloc (.cells #[] 56)).drew = .ok (flatE zs).toArray (W.alloc (.cells #[] 56)).drew := by
  obtain ⟨i0, hi0, hz0, hz1, hz2⟩ := info_parts infoEl
  obtain ⟨a, c', e, -, hc⟩ := h
  simp only [Value.slice.injEq] at e
  obtain ⟨rfl, rfl, rfl⟩ := e
  have hc2 : ∀ k, k < zs.length → W.cell? ⟨b, off + k * 4, none⟩ = some (.int .i64 (el zs k).len) ∧ W.cell? ⟨b, off + k * 4 + 1, none⟩ = some (.int .i64 (el zs k).lift) ∧
      W.cell? ⟨b, off + k * 4 + 2, none⟩ = some (.int .i64 (el zs k).drag) ∧ W.cell? ⟨b, off + k * 4 + 3, none⟩ = some (.int .i64 (el zs k).str) := fun k hk => by
    obtain ⟨b', off', e, -, g⟩ := hc k hk
    simp only [Option.some.injEq, Addr.mk.injEq] at e
    obtain ⟨rfl, rfl, -⟩ := e
    exact g
  have hbl : 0 < zs.length → b < W.heap.size := fun h0 => by
    obtain ⟨b', off', e, hb, -⟩ := hc 0 h0
    simp only [Option.some.injEq, Addr.mk.injEq] at e
    obtain ⟨rfl, rfl, -⟩ := e
    exact hb
  have HS : Src Tryd.prog i0.size 22 (.slice (some ⟨b, off, none⟩) zs.length c) zs.length (flatE zs) (W.alloc (.cells #[] 56)) := by
    refine Src.ofSlice _ u22 ⟨b, off, none⟩ zs.length c (flatE zs) (by rw [flatE_len, hz1]) (fun j u hu => ?_) (flatE_one zs)
    have hj : j < (flatE zs).length := (List.getElem?_eq_some_iff.1 hu).1
    rw [flatE_len] at hj
    have g := el_cells hc2 j u hu
    rw [Addr.add_lit] at g ⊢
    exact (Below.cell ((Below.refl W.heap.size W).alloc (Nat.le_refl _) _) (p := ⟨b, off + j, none⟩) (hbl (by omega))).trans g
  have h := HS.cellsD
  simpa [Builtin.firstCells, hz1, loadCells] using h
theorem els_made (V : World) (ds : List El) (Z : Array Value) (n c H : Nat) (hV : V.heap.size = H) (hn : ds.length = n) (hc : n ≤ c) :
    Els (((V.alloc (Obj.cells #[] 56)).alloc (Obj.cells ((flatE ds).toArray ++ Z) 56)).drew).heap.size (((V.alloc (Obj.cells #[] 56)).alloc (Obj.cells ((flatE ds).toArray ++ Z) 56)).drew) (.slice (some ⟨H + 1, 0, none⟩) n c) ds := by
  refine ⟨some ⟨H + 1, 0, none⟩, c, by rw [hn], by rw [hn]; exact hc, fun k hk => ⟨H + 1, 0, rfl, by simp; omega, ?_⟩⟩
  have hce : ∀ j u, (flatE ds)[j]? = some u → (((V.alloc (Obj.cells #[] 56)).alloc (Obj.cells ((flatE ds).toArray ++ Z) 56)).drew).cell? ⟨H + 1, j, none⟩ = some u := by
    intro j u hu
    have hj : j < (flatE ds).length := (List.getElem?_eq_some_iff.1 hu).1
    have e : (((V.alloc (Obj.cells #[] 56)).alloc (Obj.cells ((flatE ds).toArray ++ Z) 56)).drew).heap[H + 1]? = some (Obj.cells ((flatE ds).toArray ++ Z) 56) := by
      have h := World.alloc_heap_new (V.alloc (Obj.cells #[] 56)) (Obj.cells ((flatE ds).toArray ++ Z) 56)
      rw [show (V.alloc (Obj.cells #[] 56)).heap.size = H + 1 by simp [hV]] at h
      exact h
    simp only [World.cell?, e]
    simp only [Array.getElem?_append, List.size_toArray, hj, if_true, List.getElem?_toArray, hu]
    rfl
  obtain ⟨f0, f1, f2, f3⟩ := flatE_get ds k hk
  simp only [Nat.zero_add]
  exact ⟨hce _ _ f0, hce _ _ f1, hce _ _ f2, hce _ _ f3⟩
set_option maxRecDepth 100000 in
set_option maxHeartbeats 8000000 in
theorem rbreak_mid (d an fr : Int) (sv : Value) (zs : List El) (k : Nat) (w : World) (hI : Els w.heap.size w sv zs) (hm : mooE d zs an fr = 0) (hk : k + 1 < zs.length) :
    Calls Tryd.prog 13 #[.agg #[.int .i64 d, sv, .int .i64 an, .int .i64 fr], .int .i64 k] w fun e w' => ∃ v, e = .returned (.tuple #[.agg #[.int .i64 d, v, .int .i64 an, .int .i64 fr], .bool (decide (1 ≤ lifTo zs (k + 1))), .int .i64 0]) ∧ Els w'.heap.size w' v (zs.drop (k + 1)) ∧ Below w.heap.size w w' := by
  have hmo := (mooE_ok hm).2.1
  have hels := sum_mem (mooE_ok hm).2.2.1
  have c18 := fun w' (hb : Below w.heap.size w w') => rcheckM_any d an fr sv zs w' (hI.at hb)
  rw [hm] at c18
  have c52 := fun w' (hb : Below w.heap.size w w') => rlifts_any d an fr sv zs hmo hels w' (hI.at hb)
  have HG := Lib.hid (show (lifL zs zs.length)[k]?.getD 0 = lifTo zs (k + 1) from nth_lif (by omega))
  have HLL := lifL_len zs zs.length
  have hI0 := hI
  obtain ⟨a, cap, rfl, hcap, hc⟩ := hI
  obtain ⟨b, off, rfl, -, -⟩ := hc 0 (by omega)
  have HLD := Lib.hid (fun w' (hb : Below w.heap.size w w') => load_els ((hI0.at hb).drop (k + 1) (by omega)) (by rw [List.length_drop]))
  clear hI0 hc
  generalize lifL zs zs.length = L at *
  generalize lifTo zs (k + 1) = v at *
  have hdl : (zs.drop (k + 1)).length = zs.length - (k + 1) := List.length_drop
  have HDL := Lib.hid hdl
  clear hdl
  generalize hdr : zs.drop (k + 1) = ds at *
  clear hdr hels
  generalize zs.length = len at *
  have hk0 : ¬ (k : Int) < 0 := by omega
  have hk1 : ¬ (len : Int) ≤ (k : Int) := by omega
  have hW : IntKind.i64.wrap ((len : Int) - 1) = (len : Int) - 1 := by rw [IntKind.wrap_i64]; omega
  generalize hl1 : (len : Int) - 1 = l1 at *
  have hne : ((k : Int) == l1) = false := by rw [beq_eq_false_iff_ne]; omega
  have hne2 : ¬ (k : Int) = l1 := by omega
  have HA := BrkAt.start w d (some ⟨b, off, none⟩) len cap an fr
  have hBA : Below w.heap.size w ((w.alloc (.cells #[.int .i64 d, .slice (some ⟨b, off, none⟩) len cap, .int .i64 an, .int .i64 fr] 24)).alloc (.cells #[.int .i64 0, .slice none 0 0, .int .i64 0, .int .i64 0] 24)) := ((Below.refl _ _).alloc (Nat.le_refl _) _).alloc (by simp) _
  obtain ⟨A, hA⟩ : ∃ A, A = (w.alloc (.cells #[.int .i64 d, .slice (some ⟨b, off, none⟩) len cap, .int .i64 an, .int .i64 fr] 24)).alloc (.cells #[.int .i64 0, .slice none 0 0, .int .i64 0, .int .i64 0] 24) := ⟨_, rfl⟩
  rw [← hA] at HA hBA
  have HH := Lib.hid HA
  have HB := Lib.hid hBA
  have hzA : w.heap.size + 2 ≤ A.heap.size := HA.lt
  clear HA hBA
  go_enter Tryd.func13, Tryd.ntmps13
  go_wp2_with fail
  rw [← hA]
  refine (c18 _ HB.out).mono ?_
  rintro e w1 ⟨rfl, hb⟩
  have HH1 := HH.out.at hzA hb
  have HB1 := Lib.hid (HB.out.trans (hb.mono HB.out.size))
  clear hb hA c18
  have HHh := Lib.hid HH1
  obtain ⟨l, c0, c1, c2, c3, r0, r1, r2, r3, f1, g0, g1, g2, g3⟩ := HH1
  go_wp2_with fail
  refine (c52 _ HB1.out).mono ?_
  rintro e w3 ⟨vl, rfl, hN, hb⟩
  have HH3 := HHh.out.at l hb
  have HB3 := Lib.hid (HB1.out.trans (hb.mono HB1.out.size))
  obtain ⟨al, cl, rfl, -, hlc⟩ := hN
  obtain ⟨bl, ol, rfl, hbl, hv⟩ := hlc k (by omega)
  rw [HG.out] at hv
  clear hb hlc c0 c1 c2 c3 r0 r1 r2 r3 f1 g0 g1 g2 g3 HHh
  rw [HLL]
  have HHh := Lib.hid HH3
  obtain ⟨l3, c0, c1, c2, c3, r0, r1, r2, r3, f1, g0, g1, g2, g3⟩ := HH3
  have hki : (k : Int) < (len : Int) := by omega
  have hW2 : IntKind.i64.wrap ((k : Int) + 1) = (k : Int) + 1 := by rw [IntKind.wrap_i64]; omega
  have hld := HLD.out _ HB3.out
  have hsc : ¬ 281474976710656 < Builtin.nextslicecap (len - (k + 1)) 0 * Tryd.t56.bytes := by
    have e : Builtin.nextslicecap (len - (k + 1)) 0 = len - (k + 1) := by unfold Builtin.nextslicecap; rw [if_pos (by omega)]
    rw [e, show Tryd.t56.bytes = 32 from rfl]; omega
  have hge := grownCap_ge (w3.alloc (.cells #[] 56)) (len - (k + 1)) 0 56
  have hgc : grownCap (w3.alloc (.cells #[] 56)) (len - (k + 1)) 0 56 = ((Question.appendCap (len - (k + 1)) 0 56).cut (w3.tape w3.drawn (Question.appendCap (len - (k + 1)) 0 56))) := rfl
  rw [hgc] at hge
  have HGE := Lib.hid hge
  clear hgc hge
  have hzz : ¬ len - (k + 1) = 0 := by omega
  have y0 : w.heap.size < w3.heap.size := by omega
  have y1 : ¬ w.heap.size = w3.heap.size := by omega
  have y2 : ¬ w.heap.size + 1 = w3.heap.size := by omega
  have y3 : ¬ w.heap.size = w3.heap.size + 1 := by omega
  have y4 : ¬ w.heap.size + 1 = w3.heap.size + 1 := by omega
  have y5 : w.heap.size < w3.heap.size + 1 := by omega
  have y6 : w.heap.size + 1 < w3.heap.size + 1 := by omega
  have hb2l : (k : Int) + 1 ≤ (len : Int) := by omega
  go_wp2_with fail
  have HGE2 := HGE.out
  clear hld hsc hW hW2 hk0 hk1 hzz hb2l HGE HLD
  generalize ((Question.appendCap (len - (k + 1)) 0 56).cut (w3.tape w3.drawn (Question.appendCap (len - (k + 1)) 0 56))) = gc at HGE2 ⊢
  generalize Builtin.zeroCells #[Value.int IntKind.i64 0, Value.int IntKind.i64 0, Value.int IntKind.i64 0, Value.int IntKind.i64 0] (gc - (len - (k + 1))) = Z
  refine bodyPost_ret (v := .tuple #[.agg #[.int .i64 d, .slice (some ⟨w3.heap.size + 1, 0, none⟩) (len - (k + 1)) gc, .int .i64 an, .int .i64 fr], .bool (decide (1 ≤ v)), .int .i64 0]) (by simp [results, Tryd.results13, go_sem, *]) rfl ⟨_, rfl, ?_, ?_⟩
  · exact els_made _ ds Z (len - (k + 1)) gc w3.heap.size (by simp) HDL.out HGE2
  · exact (((((((HB3.out.setCell (by first | omega | (simp; done) | (simp; omega)) _).setCell (by first | omega | (simp; done) | (simp; omega)) _).setCell (by first | omega | (simp; done) | (simp; omega)) _).setCell (by first | omega | (simp; done) | (simp; omega)) _).setCell (by first | omega | (simp; done) | (simp; omega)) _).alloc (by first | omega | (simp; done) | (simp; omega)) _).alloc (by first | omega | (simp; done) | (simp; omega)) _).drew
end Go.Proofs.YtmodplodnimmkaaDoor
namespace Go.Proofs.YtmodplodnimmkaaDoor
open Go.RowKit Go.Shelf
set_option linter.unusedSimpArgs false
set_option maxRecDepth 100000 in
set_option maxHeartbeats 8000000 in
theorem rbreak_err (d an fr : Int) (sv : Value) (zs : List El) (k : Int) (w : World) (hI : Els w.heap.size w sv zs) (hm : ¬ mooE d zs an fr = 0) :
    Calls Tryd.prog 13 #[.agg #[.int .i64 d, sv, .int .i64 an, .int .i64 fr], .int .i64 k] w fun e w' => e = .returned (.tuple #[.agg #[.int .i64 0, .slice none 0 0, .int .i64 0, .int .i64 0], .bool false, .int .i64 (mooE d zs an fr)]) ∧ Below w.heap.size w w' := by
  have c18 := fun w' (hb : Below w.heap.size w w') => rcheckM_any d an fr sv zs w' (hI.at hb)
  have hb0 : (mooE d zs an fr != 0) = true := by simpa using hm
  generalize mooE d zs an fr = E at *
  clear hm
  obtain ⟨a, cap, rfl, -, -⟩ := hI
  generalize zs.length = len at *
  have HA := BrkAt.start w d a len cap an fr
  have hBA : Below w.heap.size w ((w.alloc (.cells #[.int .i64 d, .slice a len cap, .int .i64 an, .int .i64 fr] 24)).alloc (.cells #[.int .i64 0, .slice none 0 0, .int .i64 0, .int .i64 0] 24)) := ((Below.refl _ _).alloc (Nat.le_refl _) _).alloc (by simp) _
  obtain ⟨A, hA⟩ : ∃ A, A = (w.alloc (.cells #[.int .i64 d, .slice a len cap, .int .i64 an, .int .i64 fr] 24)).alloc (.cells #[.int .i64 0, .slice none 0 0, .int .i64 0, .int .i64 0] 24) := ⟨_, rfl⟩
  rw [← hA] at HA hBA
  have HH := Lib.hid HA
  have HB := Lib.hid hBA
  have hzA : w.heap.size + 2 ≤ A.heap.size := HA.lt
  clear HA hBA
  go_enter Tryd.func13, Tryd.ntmps13
  go_wp2_with fail
  rw [← hA]
  refine (c18 _ HB.out).mono ?_
  rintro e w1 ⟨rfl, hb⟩
  have HH1 := HH.out.at hzA hb
  have HB1 := Lib.hid (HB.out.trans (hb.mono HB.out.size))
  clear hb hA c18
  obtain ⟨l, c0, c1, c2, c3, r0, r1, r2, r3, f1, g0, g1, g2, g3⟩ := HH1
  go_wp2_with fail
  refine bodyPost_ret (v := .tuple #[.agg #[.int .i64 0, .slice none 0 0, .int .i64 0, .int .i64 0], .bool false, .int .i64 E]) (by simp [results, Tryd.results13, go_sem, *]) rfl ⟨rfl, ?_⟩
  repeat (first | refine Below.setCell ?_ (by first | omega | (simp; done) | (simp; omega)) _ | exact HB1.out)
set_option maxRecDepth 100000 in
set_option maxHeartbeats 8000000 in
theorem rbreak_last (d an fr : Int) (sv : Value) (zs : List El) (k : Nat) (w : World) (hI : Els w.heap.size w sv zs) (hm : mooE d zs an fr = 0) (hk : k + 1 = zs.length) :
    Calls Tryd.prog 13 #[.agg #[.int .i64 d, sv, .int .i64 an, .int .i64 fr], .int .i64 k] w fun e w' => e = .returned (.tuple #[.agg #[.int .i64 0, .slice none 0 0, .int .i64 0, .int .i64 0], .bool false, .int .i64 5]) ∧ Below w.heap.size w w' := by
  have hmo := (mooE_ok hm).2.1
  have c18 := fun w' (hb : Below w.heap.size w w') => rcheckM_any d an fr sv zs w' (hI.at hb)
  rw [hm] at c18
  obtain ⟨a, cap, rfl, -, -⟩ := hI
  generalize zs.length = len at *
  have hk0 : ¬ (k : Int) < 0 := by omega
  have hk1 : ¬ (len : Int) ≤ (k : Int) := by omega
  have hW : IntKind.i64.wrap ((len : Int) - 1) = (k : Int) := by rw [IntKind.wrap_i64]; omega
  have HA := BrkAt.start w d a len cap an fr
  have hBA : Below w.heap.size w ((w.alloc (.cells #[.int .i64 d, .slice a len cap, .int .i64 an, .int .i64 fr] 24)).alloc (.cells #[.int .i64 0, .slice none 0 0, .int .i64 0, .int .i64 0] 24)) := ((Below.refl _ _).alloc (Nat.le_refl _) _).alloc (by simp) _
  obtain ⟨A, hA⟩ : ∃ A, A = (w.alloc (.cells #[.int .i64 d, .slice a len cap, .int .i64 an, .int .i64 fr] 24)).alloc (.cells #[.int .i64 0, .slice none 0 0, .int .i64 0, .int .i64 0] 24) := ⟨_, rfl⟩
  rw [← hA] at HA hBA
  have HH := Lib.hid HA
  have HB := Lib.hid hBA
  have hzA : w.heap.size + 2 ≤ A.heap.size := HA.lt
  clear HA hBA
  go_enter Tryd.func13, Tryd.ntmps13
  go_wp2_with fail
  rw [← hA]
  refine (c18 _ HB.out).mono ?_
  rintro e w1 ⟨rfl, hb⟩
  have HH1 := HH.out.at hzA hb
  have HB1 := Lib.hid (HB.out.trans (hb.mono HB.out.size))
  clear hb hA c18
  obtain ⟨l, c0, c1, c2, c3, r0, r1, r2, r3, f1, g0, g1, g2, g3⟩ := HH1
  go_wp2_with fail
  refine bodyPost_ret (v := .tuple #[.agg #[.int .i64 0, .slice none 0 0, .int .i64 0, .int .i64 0], .bool false, .int .i64 5]) (by simp [results, Tryd.results13, go_sem, *]) rfl ⟨rfl, ?_⟩
  repeat (first | refine Below.setCell ?_ (by first | omega | (simp; done) | (simp; omega)) _ | exact HB1.out)
set_option maxRecDepth 100000 in
set_option maxHeartbeats 8000000 in
theorem rbreak_rng (d an fr : Int) (sv : Value) (zs : List El) (k : Int) (w : World) (hI : Els w.heap.size w sv zs) (hm : mooE d zs an fr = 0) (hk : k < 0 ∨ (zs.length : Int) ≤ k) :
    Calls Tryd.prog 13 #[.agg #[.int .i64 d, sv, .int .i64 an, .int .i64 fr], .int .i64 k] w fun e w' => e = .returned (.tuple #[.agg #[.int .i64 0, .slice none 0 0, .int .i64 0, .int .i64 0], .bool false, .int .i64 3]) ∧ Below w.heap.size w w' := by
  have hmo := (mooE_ok hm).2.1
  have c18 := fun w' (hb : Below w.heap.size w w') => rcheckM_any d an fr sv zs w' (hI.at hb)
  rw [hm] at c18
  obtain ⟨a, cap, rfl, -, -⟩ := hI
  generalize zs.length = len at *
  have HA := BrkAt.start w d a len cap an fr
  have hBA : Below w.heap.size w ((w.alloc (.cells #[.int .i64 d, .slice a len cap, .int .i64 an, .int .i64 fr] 24)).alloc (.cells #[.int .i64 0, .slice none 0 0, .int .i64 0, .int .i64 0] 24)) := ((Below.refl _ _).alloc (Nat.le_refl _) _).alloc (by simp) _
  obtain ⟨A, hA⟩ : ∃ A, A = (w.alloc (.cells #[.int .i64 d, .slice a len cap, .int .i64 an, .int .i64 fr] 24)).alloc (.cells #[.int .i64 0, .slice none 0 0, .int .i64 0, .int .i64 0] 24) := ⟨_, rfl⟩
  rw [← hA] at HA hBA
  have HH := Lib.hid HA
  have HB := Lib.hid hBA
  have hzA : w.heap.size + 2 ≤ A.heap.size := HA.lt
  clear HA hBA
  go_enter Tryd.func13, Tryd.ntmps13
  go_wp2_with fail
  rw [← hA]
  refine (c18 _ HB.out).mono ?_
  rintro e w1 ⟨rfl, hb⟩
  have HH1 := HH.out.at hzA hb
  have HB1 := Lib.hid (HB.out.trans (hb.mono HB.out.size))
  clear hb hA c18
  obtain ⟨l, c0, c1, c2, c3, r0, r1, r2, r3, f1, g0, g1, g2, g3⟩ := HH1
  rcases hk with hk | hk
  · have hkd : decide (k < 0) = true := decide_eq_true hk
    go_wp2_with fail
    refine bodyPost_ret (v := .tuple #[.agg #[.int .i64 0, .slice none 0 0, .int .i64 0, .int .i64 0], .bool false, .int .i64 3]) (by simp [results, Tryd.results13, go_sem, *]) rfl ⟨rfl, ?_⟩
    repeat (first | refine Below.setCell ?_ (by first | omega | (simp; done) | (simp; omega)) _ | exact HB1.out)
  · have hkd : decide (k < 0) = false := decide_eq_false (by omega)
    have hn : ¬ k < 0 := by omega
    have hkf : decide ((len : Int) ≤ k) = true := decide_eq_true hk
    go_wp2_with fail
    refine bodyPost_ret (v := .tuple #[.agg #[.int .i64 0, .slice none 0 0, .int .i64 0, .int .i64 0], .bool false, .int .i64 3]) (by simp [results, Tryd.results13, go_sem, *]) rfl ⟨rfl, ?_⟩
    repeat (first | refine Below.setCell ?_ (by first | omega | (simp; done) | (simp; omega)) _ | exact HB1.out)
theorem rbreak_any (d an fr k : Int) (sv : Value) (zs : List El) (w : World) (hI : Els w.heap.size w sv zs) :
    Calls Tryd.prog 13 #[.agg #[.int .i64 d, sv, .int .i64 an, .int .i64 fr], .int .i64 k] w fun e w' => ∃ v, e = .returned (.tuple #[.agg #[.int .i64 (brkN d zs an fr k d), v, .int .i64 (brkN d zs an fr k an), .int .i64 (brkN d zs an fr k fr)], .bool (brkF d zs an fr k), .int .i64 (brkE d zs an fr k)]) ∧ Els w'.heap.size w' v (brkL d zs an fr k) ∧ Below w.heap.size w w' := by
  by_cases hm : mooE d zs an fr = 0
  rotate_left
  · have e : brkE d zs an fr k = mooE d zs an fr := if_neg hm
    have e2 : ¬ brkE d zs an fr k = 0 := by rw [e]; exact hm
    have f : brkF d zs an fr k = false := by unfold brkF; rw [decide_eq_false e2]; rfl
    unfold brkL brkN
    rw [if_neg e2, if_neg e2, if_neg e2, if_neg e2, f, e]
    exact (rbreak_err d an fr sv zs k w hI hm).mono fun e w' ⟨he, hb⟩ => ⟨_, he, els_nil _ _, hb⟩
  by_cases hr : k < 0 ∨ (zs.length : Int) ≤ k
  · have e : brkE d zs an fr k = 3 := by unfold brkE; rw [if_pos hm, if_pos hr]
    have e2 : ¬ brkE d zs an fr k = 0 := by rw [e]; decide
    have f : brkF d zs an fr k = false := by unfold brkF; rw [decide_eq_false e2]; rfl
    unfold brkL brkN
    rw [if_neg e2, if_neg e2, if_neg e2, if_neg e2, f, e]
    exact (rbreak_rng d an fr sv zs k w hI hm hr).mono fun e w' ⟨he, hb⟩ => ⟨_, he, els_nil _ _, hb⟩
  obtain ⟨m, rfl⟩ : ∃ m : Nat, k = m := ⟨k.toNat, by omega⟩
  by_cases hl : m + 1 = zs.length
  · have e : brkE d zs an fr (m : Int) = 5 := by unfold brkE; rw [if_pos hm, if_neg hr, if_pos (by omega)]
    have e2 : ¬ brkE d zs an fr (m : Int) = 0 := by rw [e]; decide
    have f : brkF d zs an fr (m : Int) = false := by unfold brkF; rw [decide_eq_false e2]; rfl
    unfold brkL brkN
    rw [if_neg e2, if_neg e2, if_neg e2, if_neg e2, f, e]
    exact (rbreak_last d an fr sv zs m w hI hm hl).mono fun e w' ⟨he, hb⟩ => ⟨_, he, els_nil _ _, hb⟩
  · have e : brkE d zs an fr (m : Int) = 0 := by unfold brkE; rw [if_pos hm, if_neg hr, if_neg (by omega)]
    have f : brkF d zs an fr (m : Int) = decide (1 ≤ lifTo zs (m + 1)) := by unfold brkF; rw [e, Int.toNat_natCast]; rfl
    unfold brkL brkN
    rw [if_pos e, if_pos e, if_pos e, if_pos e, f, e, Int.toNat_natCast]
    exact rbreak_mid d an fr sv zs m w hI hm (by omega)
end Go.Proofs.YtmodplodnimmkaaDoor
namespace Go.Proofs.YtmodplodnimmkaaDoor
open Go.RowKit Go.Shelf
set_option linter.unusedSimpArgs false
set_option maxRecDepth 100000 in
set_option maxHeartbeats 4000000 in
theorem equal_any (sv tv : Value) (zs : List El) (hl : zs.length ≤ 2147483649) (w : World) (hS : Els w.heap.size w sv zs) (hT : Els w.heap.size w tv zs) :
    Calls Tryd.prog 15 #[sv, tv] w fun e w' => e = .returned (.bool true) ∧ Below w.heap.size w w' := by
  obtain ⟨a1, cap1, rfl, -, hcS⟩ := hS
  obtain ⟨a2, cap2, rfl, -, hcT⟩ := hT
  have HS := Lib.hid hcS
  have HT := Lib.hid hcT
  clear hcS hcT
  generalize zs.length = len at *
  go_enter Tryd.func15, Tryd.ntmps15
  go_wp2_with fail
  go_loopw [5] (fun i wr => ∃ k : Nat, k ≤ len ∧ i = .int .i64 k ∧ Below w.heap.size w wr) (fun i _ => len - (intOf i).toNat)
  case atStart => exact ⟨0, Nat.zero_le _, rfl, Below.refl _ _⟩
  case round =>
    obtain ⟨k, hk, rfl, hB⟩ := hrel
    by_cases hlt : k < len
    · obtain ⟨b1, o1, rfl, hb1, c0, c1, c2, c3⟩ := HS.out k hlt
      obtain ⟨b2, o2, rfl, hb2, d0, d1, d2, d3⟩ := HT.out k hlt
      have k0 := (hB.cell (p := ⟨b1, o1 + k * 4, none⟩) hb1).trans c0
      have k1 := (hB.cell (p := ⟨b1, o1 + k * 4 + 1, none⟩) hb1).trans c1
      have k2 := (hB.cell (p := ⟨b1, o1 + k * 4 + 2, none⟩) hb1).trans c2
      have k3 := (hB.cell (p := ⟨b1, o1 + k * 4 + 3, none⟩) hb1).trans c3
      have l0 := (hB.cell (p := ⟨b2, o2 + k * 4, none⟩) hb2).trans d0
      have l1 := (hB.cell (p := ⟨b2, o2 + k * 4 + 1, none⟩) hb2).trans d1
      have l2 := (hB.cell (p := ⟨b2, o2 + k * 4 + 2, none⟩) hb2).trans d2
      have l3 := (hB.cell (p := ⟨b2, o2 + k * 4 + 3, none⟩) hb2).trans d3
      clear c0 c1 c2 c3 d0 d1 d2 d3
      generalize el zs k = x at *
      have hki : (k : Int) < (len : Int) := by omega
      have HB := Lib.hid hB
      clear hB
      go_wp2_with fail
      refine wp_region_held_drew (S := fun w' => w'.cell? ⟨b1, o1 + k * 4, none⟩ = some (.int .i64 x.len) ∧ w'.cell? ⟨b1, o1 + k * 4 + 1, none⟩ = some (.int .i64 x.lift) ∧ w'.cell? ⟨b1, o1 + k * 4 + 2, none⟩ = some (.int .i64 x.drag) ∧ w'.cell? ⟨b1, o1 + k * 4 + 3, none⟩ = some (.int .i64 x.str) ∧ w'.cell? ⟨b2, o2 + k * 4, none⟩ = some (.int .i64 x.len) ∧ w'.cell? ⟨b2, o2 + k * 4 + 1, none⟩ = some (.int .i64 x.lift) ∧ w'.cell? ⟨b2, o2 + k * 4 + 2, none⟩ = some (.int .i64 x.drag) ∧ w'.cell? ⟨b2, o2 + k * 4 + 3, none⟩ = some (.int .i64 x.str)) (by kernel_rfl) ⟨by simpa [go_sem] using k0, by simpa [go_sem] using k1, by simpa [go_sem] using k2, by simpa [go_sem] using k3, by simpa [go_sem] using l0, by simpa [go_sem] using l1, by simpa [go_sem] using l2, by simpa [go_sem] using l3⟩ (fun hHeld => ?_)
      refine wpAnyH_take (i := 0) (oi := _) (v := Value.slice (some ⟨b1, o1, none⟩) len cap1) rfl (by kernel_rfl) (by kernel_rfl) (by kernel_rfl) (fun _ _ _ h => h) (Or.inl ⟨by rfl, fun w' hSw => ?_⟩) hHeld ?_
      · obtain ⟨t0, t1, t2, t3, t4, t5, t6, t7⟩ := hSw
        go_simp
        try simp [*]
        try (intro hh; exfalso; omega)
        try omega
      try simp only [Act.put, List.setIfInBounds_toArray, List.set_cons_zero, List.set_cons_succ, List.getElem_toArray, List.getElem_cons_succ, List.getElem_cons_zero]
      refine wpAnyH_take (i := 1) (oi := _) (v := Value.int .i64 k) rfl (by kernel_rfl) (by kernel_rfl) (by kernel_rfl) (fun _ _ _ h => h) (Or.inl ⟨by rfl, fun w' hSw => ?_⟩) hHeld ?_
      · obtain ⟨t0, t1, t2, t3, t4, t5, t6, t7⟩ := hSw
        go_simp
        try simp [*]
        try (intro hh; exfalso; omega)
        try omega
      try simp only [Act.put, List.setIfInBounds_toArray, List.set_cons_zero, List.set_cons_succ, List.getElem_toArray, List.getElem_cons_succ, List.getElem_cons_zero]
      refine wpAnyH_take (i := 2) (oi := _) (v := Value.pointer (some ⟨b1, o1 + k * 4, none⟩)) rfl (by kernel_rfl) (by kernel_rfl) (by kernel_rfl) (fun _ _ _ h => h) (Or.inl ⟨by rfl, fun w' hSw => ?_⟩) hHeld ?_
      · obtain ⟨t0, t1, t2, t3, t4, t5, t6, t7⟩ := hSw
        go_simp
        try simp [*]
        try (intro hh; exfalso; omega)
        try omega
      try simp only [Act.put, List.setIfInBounds_toArray, List.set_cons_zero, List.set_cons_succ, List.getElem_toArray, List.getElem_cons_succ, List.getElem_cons_zero]
      refine wpAnyH_take (i := 3) (oi := _) (v := Value.agg #[Value.int .i64 x.len, Value.int .i64 x.lift, Value.int .i64 x.drag, Value.int .i64 x.str]) rfl (by kernel_rfl) (by kernel_rfl) (by kernel_rfl) (fun _ _ _ h => h) (Or.inl ⟨by rfl, fun w' hSw => ?_⟩) hHeld ?_
      · obtain ⟨t0, t1, t2, t3, t4, t5, t6, t7⟩ := hSw
        go_simp
        try simp [*]
        try (intro hh; exfalso; omega)
        try omega
      try simp only [Act.put, List.setIfInBounds_toArray, List.set_cons_zero, List.set_cons_succ, List.getElem_toArray, List.getElem_cons_succ, List.getElem_cons_zero]
      refine wpAnyH_take (i := 4) (oi := _) (v := Value.slice (some ⟨b2, o2, none⟩) len cap2) rfl (by kernel_rfl) (by kernel_rfl) (by kernel_rfl) (fun _ _ _ h => h) (Or.inl ⟨by rfl, fun w' hSw => ?_⟩) hHeld ?_
      · obtain ⟨t0, t1, t2, t3, t4, t5, t6, t7⟩ := hSw
        go_simp
        try simp [*]
        try (intro hh; exfalso; omega)
        try omega
      try simp only [Act.put, List.setIfInBounds_toArray, List.set_cons_zero, List.set_cons_succ, List.getElem_toArray, List.getElem_cons_succ, List.getElem_cons_zero]
      refine wpAnyH_take (i := 5) (oi := _) (v := Value.int .i64 k) rfl (by kernel_rfl) (by kernel_rfl) (by kernel_rfl) (fun _ _ _ h => h) (Or.inl ⟨by rfl, fun w' hSw => ?_⟩) hHeld ?_
      · obtain ⟨t0, t1, t2, t3, t4, t5, t6, t7⟩ := hSw
        go_simp
        try simp [*]
        try (intro hh; exfalso; omega)
        try omega
      try simp only [Act.put, List.setIfInBounds_toArray, List.set_cons_zero, List.set_cons_succ, List.getElem_toArray, List.getElem_cons_succ, List.getElem_cons_zero]
      refine wpAnyH_take (i := 6) (oi := _) (v := Value.pointer (some ⟨b2, o2 + k * 4, none⟩)) rfl (by kernel_rfl) (by kernel_rfl) (by kernel_rfl) (fun _ _ _ h => h) (Or.inl ⟨by rfl, fun w' hSw => ?_⟩) hHeld ?_
      · obtain ⟨t0, t1, t2, t3, t4, t5, t6, t7⟩ := hSw
        go_simp
        try simp [*]
        try (intro hh; exfalso; omega)
        try omega
      try simp only [Act.put, List.setIfInBounds_toArray, List.set_cons_zero, List.set_cons_succ, List.getElem_toArray, List.getElem_cons_succ, List.getElem_cons_zero]
      refine wpAnyH_take (i := 7) (oi := _) (v := Value.agg #[Value.int .i64 x.len, Value.int .i64 x.lift, Value.int .i64 x.drag, Value.int .i64 x.str]) rfl (by kernel_rfl) (by kernel_rfl) (by kernel_rfl) (fun _ _ _ h => h) (Or.inl ⟨by rfl, fun w' hSw => ?_⟩) hHeld ?_
      · obtain ⟨t0, t1, t2, t3, t4, t5, t6, t7⟩ := hSw
        go_simp
        try simp [*]
        try (intro hh; exfalso; omega)
        try omega
      try simp only [Act.put, List.setIfInBounds_toArray, List.set_cons_zero, List.set_cons_succ, List.getElem_toArray, List.getElem_cons_succ, List.getElem_cons_zero]
      refine wpAnyH_take (i := 8) (oi := _) (v := Value.bool false) rfl (by kernel_rfl) (by kernel_rfl) (by kernel_rfl) (fun _ _ _ h => h) (Or.inl ⟨by rfl, fun w' hSw => ?_⟩) hHeld ?_
      · obtain ⟨t0, t1, t2, t3, t4, t5, t6, t7⟩ := hSw
        go_simp
        try simp [*]
        try (intro hh; exfalso; omega)
        try omega
      try simp only [Act.put, List.setIfInBounds_toArray, List.set_cons_zero, List.set_cons_succ, List.getElem_toArray, List.getElem_cons_succ, List.getElem_cons_zero]
      refine wpAnyH_done (by kernel_rfl) ?_ _
      clear hHeld
      go_wp2_with fail
      go_roundw
      case rel => exact ⟨k + 1, by omega, by go_num, (by repeat (first | exact HB.out | exact below_drewN HB.out _ | refine Below.drew ?_))⟩
      case measure => simp [intOf]; omega
    · go_wp2_with fail
      go_ret
      exact ⟨rfl, hB⟩
set_option maxRecDepth 100000 in
set_option maxHeartbeats 4000000 in
theorem same_any (d an fr : Int) (sv tv : Value) (zs : List El) (hl : zs.length ≤ 2147483649) (w : World) (hS : Els w.heap.size w sv zs) (hT : Els w.heap.size w tv zs) :
    Calls Tryd.prog 14 #[.agg #[.int .i64 d, sv, .int .i64 an, .int .i64 fr], .agg #[.int .i64 d, tv, .int .i64 an, .int .i64 fr]] w fun e w' => e = .returned (.bool true) ∧ Below w.heap.size w w' := by
  have c15 := fun w' (hb : Below w.heap.size w w') => equal_any sv tv zs hl w' (hS.at hb) (hT.at hb)
  obtain ⟨a1, cap1, rfl, -, -⟩ := hS
  obtain ⟨a2, cap2, rfl, -, -⟩ := hT
  generalize zs.length = len at *
  have HA := Lib.hid (show Below w.heap.size w ((w.alloc (.cells #[.int .i64 d, .slice a1 len cap1, .int .i64 an, .int .i64 fr] 24)).alloc (.cells #[.int .i64 d, .slice a2 len cap2, .int .i64 an, .int .i64 fr] 24)) from ((Below.refl _ _).alloc (Nat.le_refl _) _).alloc (by simp) _)
  go_enter Tryd.func14, Tryd.ntmps14
  go_wp2_with fail
  refine (c15 _ HA.out).mono ?_
  rintro e w1 ⟨rfl, hb⟩
  have HB := Lib.hid (HA.out.trans (hb.mono (by simp; omega)))
  clear hb
  go_wp2_with fail
  go_ret
  exact ⟨rfl, HB.out⟩
end Go.Proofs.YtmodplodnimmkaaDoor
namespace Go.Proofs.YtmodplodnimmkaaDoor
section
variable {P : Program} {ops : Array Oper} {Q : Exit → Act → World → Prop} {md : Region.Mode} {S S' : World → Prop}
theorem wpAnyH_more (hSS : ∀ w, S' w → S w) : ∀ (fuel : Nat) (listed : Array Bool) (a : Act) (w : World), wpAnyH P md ops Q S' fuel listed a w → wpAnyH P md ops Q S fuel listed a w
  | 0, _, _, _, h => h
  | fuel + 1, _, _, _, h => ⟨h.1, fun i hi => wpOp_mono (fun a' w' h' => ⟨hSS w' h'.1, wpAnyH_more hSS fuel _ a' w' h'.2⟩) (h.2 i hi)⟩
/-- from here on more is known of the world, and kept -/
theorem wpAnyH_switch {fuel : Nat} {listed : Array Bool} {a : Act} {w : World} (hSS : ∀ w, S' w → S w) (hS : S' w) (h : S' w → wpAnyH P md ops Q S' fuel listed a w) : wpAnyH P md ops Q S fuel listed a w :=
  wpAnyH_more hSS fuel listed a w (h hS)
end
end Go.Proofs.YtmodplodnimmkaaDoor
namespace Go.Proofs.YtmodplodnimmkaaDoor
open Go.RowKit Go.Shelf
set_option linter.unusedSimpArgs false
theorem sq_bd2 {v : Int} (h0 : -41943040 ≤ v) (h1 : v ≤ 41943040) : 0 ≤ v * v ∧ v * v ≤ 268435456 * 268435456 := by
  rcases Int.le_total 0 v with h | h
  · exact ⟨Int.mul_nonneg h h, Int.mul_le_mul (by omega) (by omega) h (by decide)⟩
  · have e : v * v = -v * -v := by rw [Int.neg_mul_neg]
    rw [e]
    exact ⟨Int.mul_nonneg (by omega) (by omega), Int.mul_le_mul (by omega) (by omega) (by omega) (by decide)⟩
set_option maxRecDepth 100000 in
set_option maxHeartbeats 20000000 in
theorem rtensionsM_any (d an fr : Int) (sv cv : Value) (zs : List El) (cs : List Pr) (free : Bool) (w : World) (hI : Els w.heap.size w sv zs) (hC : Prs w.heap.size w cv cs) :
    Calls Tryd.prog 31 #[.agg #[.int .i64 d, sv, .int .i64 an, .int .i64 fr], cv, .bool free] w fun e w' => ∃ v, e = .returned (.tuple #[v, .int .i64 (staE d zs an fr cs)]) ∧ Prs w'.heap.size w' v (tenV d zs an fr cs free) ∧ Below w.heap.size w w' := by
  have c1 := fun w' (hb : Below w.heap.size w w') => rall_any d an fr sv cv zs cs w' (hI.at hb) (hC.at hb)
  have HV := Lib.hid (show tenV d zs an fr cs free = if staE d zs an fr cs = 0 then rowL (tenG free zs cs) zs.length else [] from rfl)
  have HOK := Lib.hid (fun (h : staE d zs an fr cs = 0) => (staE_ok h).1)
  have CP := Lib.hid (fun (h : Rig zs cs) w' (hb : Below w.heap.size w w') => rpulls_any d an fr sv cv zs cs free h w' (hI.at hb) (hC.at hb))
  have CL := Lib.hid (fun (h : Rig zs cs) w' (hb : Below w.heap.size w w') => rlifts_any d an fr sv zs h.most (fun k hk => ((vE_iff _).1 (h.els k hk)).2.1) w' (hI.at hb))
  obtain ⟨a, cap, rfl, -, -⟩ := hI
  obtain ⟨c, cap2, rfl, -, -⟩ := hC
  generalize tenV d zs an fr cs free = V at *
  generalize staE d zs an fr cs = E at *
  have HA := Lib.hid (show Below w.heap.size w (w.alloc (.cells #[.int .i64 d, .slice a zs.length cap, .int .i64 an, .int .i64 fr] 24)) from (Below.refl _ _).alloc (Nat.le_refl _) _)
  by_cases hE : E = 0
  rotate_left
  · have hV : V = [] := by rw [HV.out, if_neg hE]
    subst hV
    have hb : (E != 0) = true := by simpa using hE
    clear HV HOK CP CL hE
    generalize zs.length = len at *
    generalize cs.length = len2 at *
    go_enter Tryd.func31, Tryd.ntmps31
    go_wp2_with fail
    refine (c1 _ HA.out).mono ?_
    rintro e w1 ⟨rfl, hb1⟩
    have hB1 := Lib.hid (HA.out.trans (hb1.mono (by simp)))
    clear hb1 c1
    go_wp2_with fail
    go_ret2
    exact ⟨_, rfl, prs_nil _ _, hB1.out⟩
  subst hE
  have hrig := HOK.out rfl
  have hV : V = rowL (tenG free zs cs) zs.length := by rw [HV.out, if_pos rfl]
  subst hV
  have hl := hrig.most
  have cP := CP.out hrig
  have cL := CL.out hrig
  have HPB := Lib.hid (fun k hk => pull_bd hrig free (k := k) hk)
  have HLB := Lib.hid (fun k hk => lif_bd hrig (k := k) hk)
  have HG := Lib.hid (fun k (hk : k < zs.length) => rowL_get (pulG free zs cs) zs.length k hk)
  have HFL := rowL_len (pulG free zs cs) zs.length
  have HGL := Lib.hid (fun k (hk : k < zs.length) => lifL_nth zs zs.length k hk)
  have HLL := lifL_len zs zs.length
  generalize rowL (pulG free zs cs) zs.length = F at *
  generalize lifL zs zs.length = L at *
  clear HV HOK hrig CP CL
  obtain ⟨i0, hi0, hz0, hz1, hz2⟩ := info_parts infoSp
  generalize zs.length = len at *
  generalize cs.length = len2 at *
  go_enter Tryd.func31, Tryd.ntmps31
  go_wp2_with fail
  refine (c1 _ HA.out).mono ?_
  rintro e w1 ⟨rfl, hb1⟩
  have hB1 := HA.out.trans (hb1.mono (by simp))
  have k0 : w1.cell? ⟨w.heap.size, 0, none⟩ = some (.int .i64 d) := (hb1.cell (p := ⟨w.heap.size, 0, none⟩) (by simp)).trans (by simp [go_sem])
  have k1 : w1.cell? ⟨w.heap.size, 1, none⟩ = some (.slice a len cap) := (hb1.cell (p := ⟨w.heap.size, 1, none⟩) (by simp)).trans (by simp [go_sem])
  have k2 : w1.cell? ⟨w.heap.size, 2, none⟩ = some (.int .i64 an) := (hb1.cell (p := ⟨w.heap.size, 2, none⟩) (by simp)).trans (by simp [go_sem])
  have k3 : w1.cell? ⟨w.heap.size, 3, none⟩ = some (.int .i64 fr) := (hb1.cell (p := ⟨w.heap.size, 3, none⟩) (by simp)).trans (by simp [go_sem])
  have z1 : w.heap.size < w1.heap.size := by have := hb1.size; simp at this; omega
  have HB1 := Lib.hid hB1
  clear hb1 c1 hB1
  go_wp2_with fail
  refine wp_region_held_drew (S := fun w' => w'.cell? ⟨w.heap.size, 0, none⟩ = some (.int .i64 d) ∧ w'.cell? ⟨w.heap.size, 1, none⟩ = some (.slice a len cap) ∧ w'.cell? ⟨w.heap.size, 2, none⟩ = some (.int .i64 an) ∧ w'.cell? ⟨w.heap.size, 3, none⟩ = some (.int .i64 fr)) (by kernel_rfl) ⟨by simpa [go_sem] using k0, by simpa [go_sem] using k1, by simpa [go_sem] using k2, by simpa [go_sem] using k3⟩ (fun hHeld => ?_)
  refine wpAnyH_take (i := 0) (oi := _) (v := Value.agg #[.int .i64 d, .slice a len cap, .int .i64 an, .int .i64 fr]) rfl (by kernel_rfl) (by kernel_rfl) (by kernel_rfl) (fun _ _ _ h => h) (Or.inl ⟨by rfl, fun w' hSw => ?_⟩) hHeld ?_
  · obtain ⟨s0, s1, s2, s3⟩ := hSw
    go_simp
    try (intro hh; exfalso; omega)
    try omega
  try simp only [Act.put, List.setIfInBounds_toArray, List.set_cons_zero, List.set_cons_succ, List.getElem_toArray, List.getElem_cons_succ, List.getElem_cons_zero]
  refine wpAnyH_take (i := 1) (oi := _) (v := Value.slice c len2 cap2) rfl (by kernel_rfl) (by kernel_rfl) (by kernel_rfl) (fun _ _ _ h => h) (Or.inl ⟨by rfl, fun w' hSw => ?_⟩) hHeld ?_
  · obtain ⟨s0, s1, s2, s3⟩ := hSw
    go_simp
    try (intro hh; exfalso; omega)
    try omega
  try simp only [Act.put, List.setIfInBounds_toArray, List.set_cons_zero, List.set_cons_succ, List.getElem_toArray, List.getElem_cons_succ, List.getElem_cons_zero]
  refine wpAnyH_take (i := 2) (oi := _) (v := Value.bool free) rfl (by kernel_rfl) (by kernel_rfl) (by kernel_rfl) (fun _ _ _ h => h) (Or.inl ⟨by rfl, fun w' hSw => ?_⟩) hHeld ?_
  · obtain ⟨s0, s1, s2, s3⟩ := hSw
    go_simp
    try (intro hh; exfalso; omega)
    try omega
  try simp only [Act.put, List.setIfInBounds_toArray, List.set_cons_zero, List.set_cons_succ, List.getElem_toArray, List.getElem_cons_succ, List.getElem_cons_zero]
  refine wpAnyH_take (i := 4) (oi := _) (v := Value.agg #[.int .i64 d, .slice a len cap, .int .i64 an, .int .i64 fr]) rfl (by kernel_rfl) (by kernel_rfl) (by kernel_rfl) (fun _ _ _ h => h) (Or.inl ⟨by rfl, fun w' hSw => ?_⟩) hHeld ?_
  · obtain ⟨s0, s1, s2, s3⟩ := hSw
    go_simp
    try (intro hh; exfalso; omega)
    try omega
  try simp only [Act.put, List.setIfInBounds_toArray, List.set_cons_zero, List.set_cons_succ, List.getElem_toArray, List.getElem_cons_succ, List.getElem_cons_zero]
  refine wpAnyH_ready (rs := [3]) (by kernel_rfl) (by simp) ?_
  refine AllReadyH.cons (o := _) rfl (fun K hK => ?_) (AllReadyH.nil)
  go_simp
  go_at_call 36
  refine Calls.mono (cP _ HB1.out.drew) ?_
  rintro e wa ⟨vh, rfl, hP, hba⟩
  have HBa := Lib.hid (HB1.out.drew.trans (hba.mono (by first | omega | (simp only [World.size_drew]; omega))))
  have hza : w1.heap.size ≤ wa.heap.size := hba.size
  have ea0 := (hba.cell (p := ⟨w.heap.size, 0, none⟩) (by first | omega | (simp only [World.size_drew]; omega))).trans (show _ = _ by simpa [go_sem] using k0)
  have ea1 := (hba.cell (p := ⟨w.heap.size, 1, none⟩) (by first | omega | (simp only [World.size_drew]; omega))).trans (show _ = _ by simpa [go_sem] using k1)
  have ea2 := (hba.cell (p := ⟨w.heap.size, 2, none⟩) (by first | omega | (simp only [World.size_drew]; omega))).trans (show _ = _ by simpa [go_sem] using k2)
  have ea3 := (hba.cell (p := ⟨w.heap.size, 3, none⟩) (by first | omega | (simp only [World.size_drew]; omega))).trans (show _ = _ by simpa [go_sem] using k3)
  have HPa := Lib.hid (fun W (h : Below wa.heap.size wa W) => hP.at h)
  obtain ⟨af, cf, rfl, -, -⟩ := hP
  clear hba
  clear hHeld
  refine hK.out _ _ ⟨ea0, ea1, ea2, ea3⟩ (fun hHeld => ?_)
  clear hK K
  try simp only [Act.put, List.setIfInBounds_toArray, List.set_cons_zero, List.set_cons_succ, List.getElem_toArray, List.getElem_cons_succ, List.getElem_cons_zero]
  refine wpAnyH_ready (rs := [5]) (by kernel_rfl) (by simp) ?_
  refine AllReadyH.cons (o := _) rfl (fun K hK => ?_) (AllReadyH.nil)
  go_simp
  go_at_call 37
  refine Calls.mono (cL _ HBa.out) ?_
  rintro e w2 ⟨vl, rfl, hN, hbb⟩
  have HB2 := Lib.hid (HBa.out.trans (hbb.mono (by omega)))
  have hP2 := HPa.out _ hbb
  have eb0 := (hbb.cell (p := ⟨w.heap.size, 0, none⟩) (by show w.heap.size < wa.heap.size; have := hza; omega)).trans ea0
  have eb1 := (hbb.cell (p := ⟨w.heap.size, 1, none⟩) (by show w.heap.size < wa.heap.size; have := hza; omega)).trans ea1
  have eb2 := (hbb.cell (p := ⟨w.heap.size, 2, none⟩) (by show w.heap.size < wa.heap.size; have := hza; omega)).trans ea2
  have eb3 := (hbb.cell (p := ⟨w.heap.size, 3, none⟩) (by show w.heap.size < wa.heap.size; have := hza; omega)).trans ea3
  obtain ⟨al, cl, rfl, -, hlc⟩ := hN
  obtain ⟨af2, cf2, hfe, -, hfc⟩ := hP2
  simp only [Value.slice.injEq] at hfe
  obtain ⟨rfl, -, -⟩ := hfe
  clear hbb
  clear hHeld
  refine hK.out _ _ ⟨eb0, eb1, eb2, eb3⟩ (fun hHeld => ?_)
  clear hK K
  try simp only [Act.put, List.setIfInBounds_toArray, List.set_cons_zero, List.set_cons_succ, List.getElem_toArray, List.getElem_cons_succ, List.getElem_cons_zero]
  refine wpAnyH_take (i := 6) (oi := _) (v := Value.slice af F.length cf) rfl (by kernel_rfl) (by kernel_rfl) (by kernel_rfl) (fun _ _ _ h => h) (Or.inl ⟨by rfl, fun w' hSw => ?_⟩) hHeld ?_
  · obtain ⟨s0, s1, s2, s3⟩ := hSw
    go_simp
    try (intro hh; exfalso; omega)
    try omega
  try simp only [Act.put, List.setIfInBounds_toArray, List.set_cons_zero, List.set_cons_succ, List.getElem_toArray, List.getElem_cons_succ, List.getElem_cons_zero]
  refine wpAnyH_take (i := 7) (oi := _) (v := Value.slice al L.length cl) rfl (by kernel_rfl) (by kernel_rfl) (by kernel_rfl) (fun _ _ _ h => h) (Or.inl ⟨by rfl, fun w' hSw => ?_⟩) hHeld ?_
  · obtain ⟨s0, s1, s2, s3⟩ := hSw
    go_simp
    try (intro hh; exfalso; omega)
    try omega
  try simp only [Act.put, List.setIfInBounds_toArray, List.set_cons_zero, List.set_cons_succ, List.getElem_toArray, List.getElem_cons_succ, List.getElem_cons_zero]
  refine wpAnyH_done (by kernel_rfl) ?_ _
  clear hHeld
  rw [HFL, HLL]
  rw [HFL] at hfc
  rw [HLL] at hlc
  have HF := Lib.hid (show ∀ t, t < len → ∃ b off, af = some ⟨b, off, none⟩ ∧ b < w2.heap.size ∧ w2.cell? ⟨b, off + t * 2, none⟩ = some (.int .i64 (hLo free zs cs (t + 1))) ∧ w2.cell? ⟨b, off + t * 2 + 1, none⟩ = some (.int .i64 (sHi zs cs (t + 1))) from fun t ht => by
    have h := hfc t ht
    rw [HG.out t ht] at h
    exact h)
  have HN := Lib.hid (show ∀ t, t < len → ∃ b off, al = some ⟨b, off, none⟩ ∧ b < w2.heap.size ∧ w2.cell? ⟨b, off + t, none⟩ = some (.int .i64 (lifTo zs (t + 1))) from fun t ht => by
    have h := hlc t ht
    rw [show L[t]?.getD 0 = lifTo zs (t + 1) from HGL.out t ht] at h
    exact h)
  clear hfc hlc HG HGL HPa HBa eb0 eb1 eb2 eb3 ea0 ea1 ea2 ea3 k0 k1 k2 k3 cP cL HFL HLL
  go_wp2_with fail
  go_loopw [11, 12] (fun v i wr => ∃ k : Nat, k ≤ len ∧ i = .int .i64 k ∧ wr.ownsRow w2.heap.size 52 2 v k (flatP (rowL (tenG free zs cs) k)) ∧ Below w2.heap.size w2 wr) (fun _ i _ => len - (intOf i).toNat)
  case atStart => exact ⟨0, Nat.zero_le _, rfl, World.ownsRow_nil _ _ _ _, Below.refl _ _⟩
  case round =>
    obtain ⟨k, hk, rfl, hrow, hB⟩ := hrel
    have hsz := hB.size
    by_cases hlt : k < len
    · obtain ⟨b, off, rfl, hb, e0, e1⟩ := HF.out k hlt
      obtain ⟨b2, off2, rfl, hb2, e2⟩ := HN.out k hlt
      have q1 := HPB.out (k + 1) (by omega)
      have q2 := HLB.out (k + 1) (by omega)
      have HT := Lib.hid (show rowL (tenG free zs cs) (k + 1) = rowL (tenG free zs cs) k ++ [⟨isq (hLo free zs cs (k + 1) * hLo free zs cs (k + 1) + lifTo zs (k + 1) * lifTo zs (k + 1)), isqUp (sHi zs cs (k + 1) * sHi zs cs (k + 1) + lifTo zs (k + 1) * lifTo zs (k + 1))⟩] from rfl)
      have n0 := (hB.cell (p := ⟨b, off + k * 2, none⟩) hb).trans e0
      have n1 := (hB.cell (p := ⟨b, off + k * 2 + 1, none⟩) hb).trans e1
      have n2 := (hB.cell (p := ⟨b2, off2 + k, none⟩) hb2).trans e2
      clear e0 e1 e2
      generalize hLo free zs cs (k + 1) = p at *
      generalize sHi zs cs (k + 1) = q at *
      generalize lifTo zs (k + 1) = v at *
      have bp : 0 ≤ p * p ∧ p * p ≤ 268435456 * 268435456 := ⟨Int.mul_nonneg q1.1 q1.1, Int.mul_le_mul (by omega) (by omega) q1.1 (by decide)⟩
      have bq : 0 ≤ q * q ∧ q * q ≤ 268435456 * 268435456 := ⟨Int.mul_nonneg (by omega) (by omega), Int.mul_le_mul (by omega) (by omega) (by omega) (by decide)⟩
      have bv : 0 ≤ v * v ∧ v * v ≤ 268435456 * 268435456 := sq_bd2 q2.1 q2.2
      have cR := fun W => sqrt_any (p * p + v * v) (by omega) (by omega) W
      have cU := fun W => sqrtUp_any (q * q + v * v) (by omega) (by omega) W
      generalize isq (p * p + v * v) = g0 at *
      generalize isqUp (q * q + v * v) = g1 at *
      generalize E1 : p * p = pp at *
      generalize E2 : q * q = qq at *
      generalize E3 : v * v = vv at *
      generalize E4 : pp + vv = s0 at *
      generalize E5 : qq + vv = s1 at *
      have Wpp : IntKind.i64.wrap pp = pp := by rw [IntKind.wrap_i64]; omega
      have Wqq : IntKind.i64.wrap qq = qq := by rw [IntKind.wrap_i64]; omega
      have Wvv : IntKind.i64.wrap vv = vv := by rw [IntKind.wrap_i64]; omega
      have Ws0 : IntKind.i64.wrap s0 = s0 := by rw [IntKind.wrap_i64]; omega
      have Ws1 : IntKind.i64.wrap s1 = s1 := by rw [IntKind.wrap_i64]; omega
      have HRow := Lib.hid hrow
      have HBr := Lib.hid hB
      have hli : (k : Int) < (len : Int) := by omega
      generalize hnl : flatP (rowL (tenG free zs cs) k) = nl at HRow
      have HNL := Lib.hid hnl
      clear hrow hB hnl
      go_wp2_with fail
      have NO := Lib.hid (fun j (hj : u11.ownBlock = some j) => HRow.out.lt j hj)
      have zb : b < wr.heap.size := by omega
      have zb2 : b2 < wr.heap.size := by omega
      refine wp_region_held_drew (S := fun w' => w'.cell? ⟨b, off + k * 2, none⟩ = some (.int .i64 p) ∧ w'.cell? ⟨b, off + k * 2 + 1, none⟩ = some (.int .i64 q) ∧ w'.cell? ⟨b2, off2 + k, none⟩ = some (.int .i64 v)) (by kernel_rfl) ⟨by simpa [go_sem] using n0, by simpa [go_sem] using n1, by simpa [go_sem] using n2⟩ (fun hHeld => ?_)
      refine wpAnyH_take (i := 0) (oi := _) (v := u11) rfl (by kernel_rfl) (by kernel_rfl) (by kernel_rfl) (fun _ _ _ h => h) (Or.inl ⟨by rfl, fun w' hSw => ?_⟩) hHeld ?_
      · obtain ⟨t0, t1, t2⟩ := hSw
        go_simp
        try simp [*]
        try (intro hh; exfalso; omega)
        try omega
      try simp only [Act.put, List.setIfInBounds_toArray, List.set_cons_zero, List.set_cons_succ, List.getElem_toArray, List.getElem_cons_succ, List.getElem_cons_zero]
      refine wpAnyH_take (i := 1) (oi := _) (v := Value.slice (some ⟨b, off, none⟩) len cf) rfl (by kernel_rfl) (by kernel_rfl) (by kernel_rfl) (fun _ _ _ h => h) (Or.inl ⟨by rfl, fun w' hSw => ?_⟩) hHeld ?_
      · obtain ⟨t0, t1, t2⟩ := hSw
        go_simp
        try simp [*]
        try (intro hh; exfalso; omega)
        try omega
      try simp only [Act.put, List.setIfInBounds_toArray, List.set_cons_zero, List.set_cons_succ, List.getElem_toArray, List.getElem_cons_succ, List.getElem_cons_zero]
      refine wpAnyH_take (i := 2) (oi := _) (v := Value.int .i64 k) rfl (by kernel_rfl) (by kernel_rfl) (by kernel_rfl) (fun _ _ _ h => h) (Or.inl ⟨by rfl, fun w' hSw => ?_⟩) hHeld ?_
      · obtain ⟨t0, t1, t2⟩ := hSw
        go_simp
        try simp [*]
        try (intro hh; exfalso; omega)
        try omega
      try simp only [Act.put, List.setIfInBounds_toArray, List.set_cons_zero, List.set_cons_succ, List.getElem_toArray, List.getElem_cons_succ, List.getElem_cons_zero]
      refine wpAnyH_take (i := 3) (oi := _) (v := Value.pointer (some ⟨b, off + k * 2, none⟩)) rfl (by kernel_rfl) (by kernel_rfl) (by kernel_rfl) (fun _ _ _ h => h) (Or.inl ⟨by rfl, fun w' hSw => ?_⟩) hHeld ?_
      · obtain ⟨t0, t1, t2⟩ := hSw
        go_simp
        try simp [*]
        try (intro hh; exfalso; omega)
        try omega
      try simp only [Act.put, List.setIfInBounds_toArray, List.set_cons_zero, List.set_cons_succ, List.getElem_toArray, List.getElem_cons_succ, List.getElem_cons_zero]
      refine wpAnyH_take (i := 4) (oi := _) (v := Value.pointer (some ⟨b, off + k * 2, none⟩)) rfl (by kernel_rfl) (by kernel_rfl) (by kernel_rfl) (fun _ _ _ h => h) (Or.inl ⟨by rfl, fun w' hSw => ?_⟩) hHeld ?_
      · obtain ⟨t0, t1, t2⟩ := hSw
        go_simp
        try simp [*]
        try (intro hh; exfalso; omega)
        try omega
      try simp only [Act.put, List.setIfInBounds_toArray, List.set_cons_zero, List.set_cons_succ, List.getElem_toArray, List.getElem_cons_succ, List.getElem_cons_zero]
      refine wpAnyH_take (i := 5) (oi := _) (v := Value.int .i64 p) rfl (by kernel_rfl) (by kernel_rfl) (by kernel_rfl) (fun _ _ _ h => h) (Or.inl ⟨by rfl, fun w' hSw => ?_⟩) hHeld ?_
      · obtain ⟨t0, t1, t2⟩ := hSw
        go_simp
        try simp [*]
        try (intro hh; exfalso; omega)
        try omega
      try simp only [Act.put, List.setIfInBounds_toArray, List.set_cons_zero, List.set_cons_succ, List.getElem_toArray, List.getElem_cons_succ, List.getElem_cons_zero]
      refine wpAnyH_take (i := 6) (oi := _) (v := Value.slice (some ⟨b, off, none⟩) len cf) rfl (by kernel_rfl) (by kernel_rfl) (by kernel_rfl) (fun _ _ _ h => h) (Or.inl ⟨by rfl, fun w' hSw => ?_⟩) hHeld ?_
      · obtain ⟨t0, t1, t2⟩ := hSw
        go_simp
        try simp [*]
        try (intro hh; exfalso; omega)
        try omega
      try simp only [Act.put, List.setIfInBounds_toArray, List.set_cons_zero, List.set_cons_succ, List.getElem_toArray, List.getElem_cons_succ, List.getElem_cons_zero]
      refine wpAnyH_take (i := 7) (oi := _) (v := Value.int .i64 k) rfl (by kernel_rfl) (by kernel_rfl) (by kernel_rfl) (fun _ _ _ h => h) (Or.inl ⟨by rfl, fun w' hSw => ?_⟩) hHeld ?_
      · obtain ⟨t0, t1, t2⟩ := hSw
        go_simp
        try simp [*]
        try (intro hh; exfalso; omega)
        try omega
      try simp only [Act.put, List.setIfInBounds_toArray, List.set_cons_zero, List.set_cons_succ, List.getElem_toArray, List.getElem_cons_succ, List.getElem_cons_zero]
      refine wpAnyH_take (i := 8) (oi := _) (v := Value.pointer (some ⟨b, off + k * 2, none⟩)) rfl (by kernel_rfl) (by kernel_rfl) (by kernel_rfl) (fun _ _ _ h => h) (Or.inl ⟨by rfl, fun w' hSw => ?_⟩) hHeld ?_
      · obtain ⟨t0, t1, t2⟩ := hSw
        go_simp
        try simp [*]
        try (intro hh; exfalso; omega)
        try omega
      try simp only [Act.put, List.setIfInBounds_toArray, List.set_cons_zero, List.set_cons_succ, List.getElem_toArray, List.getElem_cons_succ, List.getElem_cons_zero]
      refine wpAnyH_take (i := 9) (oi := _) (v := Value.pointer (some ⟨b, off + k * 2, none⟩)) rfl (by kernel_rfl) (by kernel_rfl) (by kernel_rfl) (fun _ _ _ h => h) (Or.inl ⟨by rfl, fun w' hSw => ?_⟩) hHeld ?_
      · obtain ⟨t0, t1, t2⟩ := hSw
        go_simp
        try simp [*]
        try (intro hh; exfalso; omega)
        try omega
      try simp only [Act.put, List.setIfInBounds_toArray, List.set_cons_zero, List.set_cons_succ, List.getElem_toArray, List.getElem_cons_succ, List.getElem_cons_zero]
      refine wpAnyH_take (i := 10) (oi := _) (v := Value.int .i64 p) rfl (by kernel_rfl) (by kernel_rfl) (by kernel_rfl) (fun _ _ _ h => h) (Or.inl ⟨by rfl, fun w' hSw => ?_⟩) hHeld ?_
      · obtain ⟨t0, t1, t2⟩ := hSw
        go_simp
        try simp [*]
        try (intro hh; exfalso; omega)
        try omega
      try simp only [Act.put, List.setIfInBounds_toArray, List.set_cons_zero, List.set_cons_succ, List.getElem_toArray, List.getElem_cons_succ, List.getElem_cons_zero]
      refine wpAnyH_take (i := 11) (oi := _) (v := Value.int .i64 pp) rfl (by kernel_rfl) (by kernel_rfl) (by kernel_rfl) (fun _ _ _ h => h) (Or.inl ⟨by rfl, fun w' hSw => ?_⟩) hHeld ?_
      · obtain ⟨t0, t1, t2⟩ := hSw
        go_simp
        try simp [*]
        try (intro hh; exfalso; omega)
        try omega
      try simp only [Act.put, List.setIfInBounds_toArray, List.set_cons_zero, List.set_cons_succ, List.getElem_toArray, List.getElem_cons_succ, List.getElem_cons_zero]
      refine wpAnyH_take (i := 12) (oi := _) (v := Value.slice (some ⟨b2, off2, none⟩) len cl) rfl (by kernel_rfl) (by kernel_rfl) (by kernel_rfl) (fun _ _ _ h => h) (Or.inl ⟨by rfl, fun w' hSw => ?_⟩) hHeld ?_
      · obtain ⟨t0, t1, t2⟩ := hSw
        go_simp
        try simp [*]
        try (intro hh; exfalso; omega)
        try omega
      try simp only [Act.put, List.setIfInBounds_toArray, List.set_cons_zero, List.set_cons_succ, List.getElem_toArray, List.getElem_cons_succ, List.getElem_cons_zero]
      refine wpAnyH_take (i := 13) (oi := _) (v := Value.int .i64 k) rfl (by kernel_rfl) (by kernel_rfl) (by kernel_rfl) (fun _ _ _ h => h) (Or.inl ⟨by rfl, fun w' hSw => ?_⟩) hHeld ?_
      · obtain ⟨t0, t1, t2⟩ := hSw
        go_simp
        try simp [*]
        try (intro hh; exfalso; omega)
        try omega
      try simp only [Act.put, List.setIfInBounds_toArray, List.set_cons_zero, List.set_cons_succ, List.getElem_toArray, List.getElem_cons_succ, List.getElem_cons_zero]
      refine wpAnyH_take (i := 14) (oi := _) (v := Value.pointer (some ⟨b2, off2 + k, none⟩)) rfl (by kernel_rfl) (by kernel_rfl) (by kernel_rfl) (fun _ _ _ h => h) (Or.inl ⟨by rfl, fun w' hSw => ?_⟩) hHeld ?_
      · obtain ⟨t0, t1, t2⟩ := hSw
        go_simp
        try simp [*]
        try (intro hh; exfalso; omega)
        try omega
      try simp only [Act.put, List.setIfInBounds_toArray, List.set_cons_zero, List.set_cons_succ, List.getElem_toArray, List.getElem_cons_succ, List.getElem_cons_zero]
      refine wpAnyH_take (i := 15) (oi := _) (v := Value.int .i64 v) rfl (by kernel_rfl) (by kernel_rfl) (by kernel_rfl) (fun _ _ _ h => h) (Or.inl ⟨by rfl, fun w' hSw => ?_⟩) hHeld ?_
      · obtain ⟨t0, t1, t2⟩ := hSw
        go_simp
        try simp [*]
        try (intro hh; exfalso; omega)
        try omega
      try simp only [Act.put, List.setIfInBounds_toArray, List.set_cons_zero, List.set_cons_succ, List.getElem_toArray, List.getElem_cons_succ, List.getElem_cons_zero]
      refine wpAnyH_take (i := 16) (oi := _) (v := Value.slice (some ⟨b2, off2, none⟩) len cl) rfl (by kernel_rfl) (by kernel_rfl) (by kernel_rfl) (fun _ _ _ h => h) (Or.inl ⟨by rfl, fun w' hSw => ?_⟩) hHeld ?_
      · obtain ⟨t0, t1, t2⟩ := hSw
        go_simp
        try simp [*]
        try (intro hh; exfalso; omega)
        try omega
      try simp only [Act.put, List.setIfInBounds_toArray, List.set_cons_zero, List.set_cons_succ, List.getElem_toArray, List.getElem_cons_succ, List.getElem_cons_zero]
      refine wpAnyH_take (i := 17) (oi := _) (v := Value.int .i64 k) rfl (by kernel_rfl) (by kernel_rfl) (by kernel_rfl) (fun _ _ _ h => h) (Or.inl ⟨by rfl, fun w' hSw => ?_⟩) hHeld ?_
      · obtain ⟨t0, t1, t2⟩ := hSw
        go_simp
        try simp [*]
        try (intro hh; exfalso; omega)
        try omega
      try simp only [Act.put, List.setIfInBounds_toArray, List.set_cons_zero, List.set_cons_succ, List.getElem_toArray, List.getElem_cons_succ, List.getElem_cons_zero]
      refine wpAnyH_take (i := 18) (oi := _) (v := Value.pointer (some ⟨b2, off2 + k, none⟩)) rfl (by kernel_rfl) (by kernel_rfl) (by kernel_rfl) (fun _ _ _ h => h) (Or.inl ⟨by rfl, fun w' hSw => ?_⟩) hHeld ?_
      · obtain ⟨t0, t1, t2⟩ := hSw
        go_simp
        try simp [*]
        try (intro hh; exfalso; omega)
        try omega
      try simp only [Act.put, List.setIfInBounds_toArray, List.set_cons_zero, List.set_cons_succ, List.getElem_toArray, List.getElem_cons_succ, List.getElem_cons_zero]
      refine wpAnyH_take (i := 19) (oi := _) (v := Value.int .i64 v) rfl (by kernel_rfl) (by kernel_rfl) (by kernel_rfl) (fun _ _ _ h => h) (Or.inl ⟨by rfl, fun w' hSw => ?_⟩) hHeld ?_
      · obtain ⟨t0, t1, t2⟩ := hSw
        go_simp
        try simp [*]
        try (intro hh; exfalso; omega)
        try omega
      try simp only [Act.put, List.setIfInBounds_toArray, List.set_cons_zero, List.set_cons_succ, List.getElem_toArray, List.getElem_cons_succ, List.getElem_cons_zero]
      refine wpAnyH_take (i := 20) (oi := _) (v := Value.int .i64 vv) rfl (by kernel_rfl) (by kernel_rfl) (by kernel_rfl) (fun _ _ _ h => h) (Or.inl ⟨by rfl, fun w' hSw => ?_⟩) hHeld ?_
      · obtain ⟨t0, t1, t2⟩ := hSw
        go_simp
        try simp [*]
        try (intro hh; exfalso; omega)
        try omega
      try simp only [Act.put, List.setIfInBounds_toArray, List.set_cons_zero, List.set_cons_succ, List.getElem_toArray, List.getElem_cons_succ, List.getElem_cons_zero]
      refine wpAnyH_take (i := 21) (oi := _) (v := Value.int .i64 s0) rfl (by kernel_rfl) (by kernel_rfl) (by kernel_rfl) (fun _ _ _ h => h) (Or.inl ⟨by rfl, fun w' hSw => ?_⟩) hHeld ?_
      · obtain ⟨t0, t1, t2⟩ := hSw
        go_simp
        try simp [*]
        try (intro hh; exfalso; omega)
        try omega
      try simp only [Act.put, List.setIfInBounds_toArray, List.set_cons_zero, List.set_cons_succ, List.getElem_toArray, List.getElem_cons_succ, List.getElem_cons_zero]
      refine wpAnyH_take (i := 23) (oi := _) (v := Value.slice (some ⟨b, off, none⟩) len cf) rfl (by kernel_rfl) (by kernel_rfl) (by kernel_rfl) (fun _ _ _ h => h) (Or.inl ⟨by rfl, fun w' hSw => ?_⟩) hHeld ?_
      · obtain ⟨t0, t1, t2⟩ := hSw
        go_simp
        try simp [*]
        try (intro hh; exfalso; omega)
        try omega
      try simp only [Act.put, List.setIfInBounds_toArray, List.set_cons_zero, List.set_cons_succ, List.getElem_toArray, List.getElem_cons_succ, List.getElem_cons_zero]
      refine wpAnyH_take (i := 24) (oi := _) (v := Value.int .i64 k) rfl (by kernel_rfl) (by kernel_rfl) (by kernel_rfl) (fun _ _ _ h => h) (Or.inl ⟨by rfl, fun w' hSw => ?_⟩) hHeld ?_
      · obtain ⟨t0, t1, t2⟩ := hSw
        go_simp
        try simp [*]
        try (intro hh; exfalso; omega)
        try omega
      try simp only [Act.put, List.setIfInBounds_toArray, List.set_cons_zero, List.set_cons_succ, List.getElem_toArray, List.getElem_cons_succ, List.getElem_cons_zero]
      refine wpAnyH_take (i := 25) (oi := _) (v := Value.pointer (some ⟨b, off + k * 2, none⟩)) rfl (by kernel_rfl) (by kernel_rfl) (by kernel_rfl) (fun _ _ _ h => h) (Or.inl ⟨by rfl, fun w' hSw => ?_⟩) hHeld ?_
      · obtain ⟨t0, t1, t2⟩ := hSw
        go_simp
        try simp [*]
        try (intro hh; exfalso; omega)
        try omega
      try simp only [Act.put, List.setIfInBounds_toArray, List.set_cons_zero, List.set_cons_succ, List.getElem_toArray, List.getElem_cons_succ, List.getElem_cons_zero]
      refine wpAnyH_take (i := 26) (oi := _) (v := Value.pointer (some ⟨b, off + k * 2 + 1, none⟩)) rfl (by kernel_rfl) (by kernel_rfl) (by kernel_rfl) (fun _ _ _ h => h) (Or.inl ⟨by rfl, fun w' hSw => ?_⟩) hHeld ?_
      · obtain ⟨t0, t1, t2⟩ := hSw
        go_simp
        try simp [*]
        try (intro hh; exfalso; omega)
        try omega
      try simp only [Act.put, List.setIfInBounds_toArray, List.set_cons_zero, List.set_cons_succ, List.getElem_toArray, List.getElem_cons_succ, List.getElem_cons_zero]
      refine wpAnyH_take (i := 27) (oi := _) (v := Value.int .i64 q) rfl (by kernel_rfl) (by kernel_rfl) (by kernel_rfl) (fun _ _ _ h => h) (Or.inl ⟨by rfl, fun w' hSw => ?_⟩) hHeld ?_
      · obtain ⟨t0, t1, t2⟩ := hSw
        go_simp
        try simp [*]
        try (intro hh; exfalso; omega)
        try omega
      try simp only [Act.put, List.setIfInBounds_toArray, List.set_cons_zero, List.set_cons_succ, List.getElem_toArray, List.getElem_cons_succ, List.getElem_cons_zero]
      refine wpAnyH_take (i := 28) (oi := _) (v := Value.slice (some ⟨b, off, none⟩) len cf) rfl (by kernel_rfl) (by kernel_rfl) (by kernel_rfl) (fun _ _ _ h => h) (Or.inl ⟨by rfl, fun w' hSw => ?_⟩) hHeld ?_
      · obtain ⟨t0, t1, t2⟩ := hSw
        go_simp
        try simp [*]
        try (intro hh; exfalso; omega)
        try omega
      try simp only [Act.put, List.setIfInBounds_toArray, List.set_cons_zero, List.set_cons_succ, List.getElem_toArray, List.getElem_cons_succ, List.getElem_cons_zero]
      refine wpAnyH_take (i := 29) (oi := _) (v := Value.int .i64 k) rfl (by kernel_rfl) (by kernel_rfl) (by kernel_rfl) (fun _ _ _ h => h) (Or.inl ⟨by rfl, fun w' hSw => ?_⟩) hHeld ?_
      · obtain ⟨t0, t1, t2⟩ := hSw
        go_simp
        try simp [*]
        try (intro hh; exfalso; omega)
        try omega
      try simp only [Act.put, List.setIfInBounds_toArray, List.set_cons_zero, List.set_cons_succ, List.getElem_toArray, List.getElem_cons_succ, List.getElem_cons_zero]
      refine wpAnyH_take (i := 30) (oi := _) (v := Value.pointer (some ⟨b, off + k * 2, none⟩)) rfl (by kernel_rfl) (by kernel_rfl) (by kernel_rfl) (fun _ _ _ h => h) (Or.inl ⟨by rfl, fun w' hSw => ?_⟩) hHeld ?_
      · obtain ⟨t0, t1, t2⟩ := hSw
        go_simp
        try simp [*]
        try (intro hh; exfalso; omega)
        try omega
      try simp only [Act.put, List.setIfInBounds_toArray, List.set_cons_zero, List.set_cons_succ, List.getElem_toArray, List.getElem_cons_succ, List.getElem_cons_zero]
      refine wpAnyH_take (i := 31) (oi := _) (v := Value.pointer (some ⟨b, off + k * 2 + 1, none⟩)) rfl (by kernel_rfl) (by kernel_rfl) (by kernel_rfl) (fun _ _ _ h => h) (Or.inl ⟨by rfl, fun w' hSw => ?_⟩) hHeld ?_
      · obtain ⟨t0, t1, t2⟩ := hSw
        go_simp
        try simp [*]
        try (intro hh; exfalso; omega)
        try omega
      try simp only [Act.put, List.setIfInBounds_toArray, List.set_cons_zero, List.set_cons_succ, List.getElem_toArray, List.getElem_cons_succ, List.getElem_cons_zero]
      refine wpAnyH_take (i := 32) (oi := _) (v := Value.int .i64 q) rfl (by kernel_rfl) (by kernel_rfl) (by kernel_rfl) (fun _ _ _ h => h) (Or.inl ⟨by rfl, fun w' hSw => ?_⟩) hHeld ?_
      · obtain ⟨t0, t1, t2⟩ := hSw
        go_simp
        try simp [*]
        try (intro hh; exfalso; omega)
        try omega
      try simp only [Act.put, List.setIfInBounds_toArray, List.set_cons_zero, List.set_cons_succ, List.getElem_toArray, List.getElem_cons_succ, List.getElem_cons_zero]
      refine wpAnyH_take (i := 33) (oi := _) (v := Value.int .i64 qq) rfl (by kernel_rfl) (by kernel_rfl) (by kernel_rfl) (fun _ _ _ h => h) (Or.inl ⟨by rfl, fun w' hSw => ?_⟩) hHeld ?_
      · obtain ⟨t0, t1, t2⟩ := hSw
        go_simp
        try simp [*]
        try (intro hh; exfalso; omega)
        try omega
      try simp only [Act.put, List.setIfInBounds_toArray, List.set_cons_zero, List.set_cons_succ, List.getElem_toArray, List.getElem_cons_succ, List.getElem_cons_zero]
      refine wpAnyH_take (i := 34) (oi := _) (v := Value.slice (some ⟨b2, off2, none⟩) len cl) rfl (by kernel_rfl) (by kernel_rfl) (by kernel_rfl) (fun _ _ _ h => h) (Or.inl ⟨by rfl, fun w' hSw => ?_⟩) hHeld ?_
      · obtain ⟨t0, t1, t2⟩ := hSw
        go_simp
        try simp [*]
        try (intro hh; exfalso; omega)
        try omega
      try simp only [Act.put, List.setIfInBounds_toArray, List.set_cons_zero, List.set_cons_succ, List.getElem_toArray, List.getElem_cons_succ, List.getElem_cons_zero]
      refine wpAnyH_take (i := 35) (oi := _) (v := Value.int .i64 k) rfl (by kernel_rfl) (by kernel_rfl) (by kernel_rfl) (fun _ _ _ h => h) (Or.inl ⟨by rfl, fun w' hSw => ?_⟩) hHeld ?_
      · obtain ⟨t0, t1, t2⟩ := hSw
        go_simp
        try simp [*]
        try (intro hh; exfalso; omega)
        try omega
      try simp only [Act.put, List.setIfInBounds_toArray, List.set_cons_zero, List.set_cons_succ, List.getElem_toArray, List.getElem_cons_succ, List.getElem_cons_zero]
      refine wpAnyH_take (i := 36) (oi := _) (v := Value.pointer (some ⟨b2, off2 + k, none⟩)) rfl (by kernel_rfl) (by kernel_rfl) (by kernel_rfl) (fun _ _ _ h => h) (Or.inl ⟨by rfl, fun w' hSw => ?_⟩) hHeld ?_
      · obtain ⟨t0, t1, t2⟩ := hSw
        go_simp
        try simp [*]
        try (intro hh; exfalso; omega)
        try omega
      try simp only [Act.put, List.setIfInBounds_toArray, List.set_cons_zero, List.set_cons_succ, List.getElem_toArray, List.getElem_cons_succ, List.getElem_cons_zero]
      refine wpAnyH_take (i := 37) (oi := _) (v := Value.int .i64 v) rfl (by kernel_rfl) (by kernel_rfl) (by kernel_rfl) (fun _ _ _ h => h) (Or.inl ⟨by rfl, fun w' hSw => ?_⟩) hHeld ?_
      · obtain ⟨t0, t1, t2⟩ := hSw
        go_simp
        try simp [*]
        try (intro hh; exfalso; omega)
        try omega
      try simp only [Act.put, List.setIfInBounds_toArray, List.set_cons_zero, List.set_cons_succ, List.getElem_toArray, List.getElem_cons_succ, List.getElem_cons_zero]
      refine wpAnyH_take (i := 38) (oi := _) (v := Value.slice (some ⟨b2, off2, none⟩) len cl) rfl (by kernel_rfl) (by kernel_rfl) (by kernel_rfl) (fun _ _ _ h => h) (Or.inl ⟨by rfl, fun w' hSw => ?_⟩) hHeld ?_
      · obtain ⟨t0, t1, t2⟩ := hSw
        go_simp
        try simp [*]
        try (intro hh; exfalso; omega)
        try omega
      try simp only [Act.put, List.setIfInBounds_toArray, List.set_cons_zero, List.set_cons_succ, List.getElem_toArray, List.getElem_cons_succ, List.getElem_cons_zero]
      refine wpAnyH_take (i := 39) (oi := _) (v := Value.int .i64 k) rfl (by kernel_rfl) (by kernel_rfl) (by kernel_rfl) (fun _ _ _ h => h) (Or.inl ⟨by rfl, fun w' hSw => ?_⟩) hHeld ?_
      · obtain ⟨t0, t1, t2⟩ := hSw
        go_simp
        try simp [*]
        try (intro hh; exfalso; omega)
        try omega
      try simp only [Act.put, List.setIfInBounds_toArray, List.set_cons_zero, List.set_cons_succ, List.getElem_toArray, List.getElem_cons_succ, List.getElem_cons_zero]
      refine wpAnyH_take (i := 40) (oi := _) (v := Value.pointer (some ⟨b2, off2 + k, none⟩)) rfl (by kernel_rfl) (by kernel_rfl) (by kernel_rfl) (fun _ _ _ h => h) (Or.inl ⟨by rfl, fun w' hSw => ?_⟩) hHeld ?_
      · obtain ⟨t0, t1, t2⟩ := hSw
        go_simp
        try simp [*]
        try (intro hh; exfalso; omega)
        try omega
      try simp only [Act.put, List.setIfInBounds_toArray, List.set_cons_zero, List.set_cons_succ, List.getElem_toArray, List.getElem_cons_succ, List.getElem_cons_zero]
      refine wpAnyH_take (i := 41) (oi := _) (v := Value.int .i64 v) rfl (by kernel_rfl) (by kernel_rfl) (by kernel_rfl) (fun _ _ _ h => h) (Or.inl ⟨by rfl, fun w' hSw => ?_⟩) hHeld ?_
      · obtain ⟨t0, t1, t2⟩ := hSw
        go_simp
        try simp [*]
        try (intro hh; exfalso; omega)
        try omega
      try simp only [Act.put, List.setIfInBounds_toArray, List.set_cons_zero, List.set_cons_succ, List.getElem_toArray, List.getElem_cons_succ, List.getElem_cons_zero]
      refine wpAnyH_take (i := 42) (oi := _) (v := Value.int .i64 vv) rfl (by kernel_rfl) (by kernel_rfl) (by kernel_rfl) (fun _ _ _ h => h) (Or.inl ⟨by rfl, fun w' hSw => ?_⟩) hHeld ?_
      · obtain ⟨t0, t1, t2⟩ := hSw
        go_simp
        try simp [*]
        try (intro hh; exfalso; omega)
        try omega
      try simp only [Act.put, List.setIfInBounds_toArray, List.set_cons_zero, List.set_cons_succ, List.getElem_toArray, List.getElem_cons_succ, List.getElem_cons_zero]
      refine wpAnyH_take (i := 43) (oi := _) (v := Value.int .i64 s1) rfl (by kernel_rfl) (by kernel_rfl) (by kernel_rfl) (fun _ _ _ h => h) (Or.inl ⟨by rfl, fun w' hSw => ?_⟩) hHeld ?_
      · obtain ⟨t0, t1, t2⟩ := hSw
        go_simp
        try simp [*]
        try (intro hh; exfalso; omega)
        try omega
      try simp only [Act.put, List.setIfInBounds_toArray, List.set_cons_zero, List.set_cons_succ, List.getElem_toArray, List.getElem_cons_succ, List.getElem_cons_zero]
      refine wpAnyH_ready (rs := [22]) (by kernel_rfl) (by simp) ?_
      refine AllReadyH.cons (o := _) rfl (fun K hK => ?_) (AllReadyH.nil)
      go_simp
      go_at_call 59
      refine Calls.mono (cR _) ?_
      rintro e wq ⟨rfl, rfl⟩
      clear hHeld
      refine hK.out _ _ ⟨by simpa [go_sem] using n0, by simpa [go_sem] using n1, by simpa [go_sem] using n2⟩ (fun hHeld => ?_)
      clear hK K
      try simp only [Act.put, List.setIfInBounds_toArray, List.set_cons_zero, List.set_cons_succ, List.getElem_toArray, List.getElem_cons_succ, List.getElem_cons_zero]
      refine wpAnyH_ready (rs := [44]) (by kernel_rfl) (by simp) ?_
      refine AllReadyH.cons (o := _) rfl (fun K hK => ?_) (AllReadyH.nil)
      go_simp
      go_at_call 60
      refine Calls.mono (cU _) ?_
      rintro e wq ⟨rfl, rfl⟩
      clear hHeld
      refine hK.out _ _ ⟨by simpa [go_sem] using n0, by simpa [go_sem] using n1, by simpa [go_sem] using n2⟩ (fun hHeld => ?_)
      clear hK K
      try simp only [Act.put, List.setIfInBounds_toArray, List.set_cons_zero, List.set_cons_succ, List.getElem_toArray, List.getElem_cons_succ, List.getElem_cons_zero]
      refine wpAnyH_take (i := 45) (oi := _) (v := Value.agg #[.int .i64 g0, .int .i64 g1]) rfl (by kernel_rfl) (by kernel_rfl) (by kernel_rfl) (fun _ _ _ h => h) (Or.inl ⟨by rfl, fun w' hSw => ?_⟩) hHeld ?_
      · obtain ⟨t0, t1, t2⟩ := hSw
        go_simp
        try (intro hh; exfalso; omega)
        try omega
      try simp only [Act.put, List.setIfInBounds_toArray, List.set_cons_zero, List.set_cons_succ, List.getElem_toArray, List.getElem_cons_succ, List.getElem_cons_zero]
      refine wpAnyH_ready (rs := [46]) (by kernel_rfl) (by simp) ?_
      refine AllReadyH.cons (o := _) rfl (fun K hK => ?_) (AllReadyH.nil)
      go_simp
      clear hHeld
      refine hK.out _ _ ⟨by simp [go_sem, *], by simp [go_sem, *], by simp [go_sem, *]⟩ (fun hHeld => ?_)
      clear hK K
      try simp only [Act.put, List.setIfInBounds_toArray, List.set_cons_zero, List.set_cons_succ, List.getElem_toArray, List.getElem_cons_succ, List.getElem_cons_zero]
      refine wpAnyH_ready (rs := [47]) (by kernel_rfl) (by simp) ?_
      refine AllReadyH.cons (o := _) rfl (fun K hK => ?_) (AllReadyH.nil)
      refine step_append_lies _ rfl (.tmp 31) (.tmp 77) 25 rfl w2.heap.size 52 i0 (.agg #[.int .i64 0, .int .i64 0]) 2 16 Tryd.underlying25 hi0 hz0 hz1 hz2 rfl (by decide) u11 k _ (by simp [Act.eval, Act.put]) ((HRow.out.drew).alloc _) ⟨wr.heap.size, 0, none⟩ 1 1 [.int .i64 g0, .int .i64 g1] (by simp [Act.eval, Act.put]) rfl (two_new _ _ _) (by simp [Value.oneCell']) (by decide) (by unfold maxLen; omega) (by omega) (by simp; omega) _ rfl ?_
      intro g cap3 w3 hown hgrow hat hgl
      have hx1 : w3.heap[b]? = wr.heap[b]? := (hgrow.block b (by first | omega | (simp; omega)) (fun e => by have := (NO.out b e.symm).1; omega)).trans (Below.heap_alloc _ _ _ (by first | omega | (simp; omega)))
      have hx2 : w3.heap[b2]? = wr.heap[b2]? := (hgrow.block b2 (by first | omega | (simp; omega)) (fun e => by have := (NO.out b2 e.symm).1; omega)).trans (Below.heap_alloc _ _ _ (by first | omega | (simp; omega)))
      have ew0 := (show w3.cell? ⟨b, off + k * 2, none⟩ = wr.cell? ⟨b, off + k * 2, none⟩ by simp only [World.cell?, hx1]).trans n0
      have ew1 := (show w3.cell? ⟨b, off + k * 2 + 1, none⟩ = wr.cell? ⟨b, off + k * 2 + 1, none⟩ by simp only [World.cell?, hx1]).trans n1
      have ew2 := (show w3.cell? ⟨b2, off2 + k, none⟩ = wr.cell? ⟨b2, off2 + k, none⟩ by simp only [World.cell?, hx2]).trans n2
      have HO3 := Lib.hid hown
      have HB3 := Lib.hid (((HBr.out.drew).alloc (by simp; omega) _).grown hgrow (by simp; omega) (fun j hj => by have := (NO.out j hj).1; omega))
      clear hown hgrow
      clear hHeld
      refine hK.out _ _ ⟨ew0, ew1, ew2⟩ (fun hHeld => ?_)
      clear hK K
      try simp only [Act.put, List.setIfInBounds_toArray, List.set_cons_zero, List.set_cons_succ, List.getElem_toArray, List.getElem_cons_succ, List.getElem_cons_zero]
      refine wpAnyH_take (i := 48) (oi := _) (v := Value.slice (some ⟨g, 0, none⟩) (k + 1) cap3) rfl (by kernel_rfl) (by kernel_rfl) (by kernel_rfl) (fun _ _ _ h => h) (Or.inl ⟨by rfl, fun w' hSw => ?_⟩) hHeld ?_
      · obtain ⟨t0, t1, t2⟩ := hSw
        go_simp
        try (intro hh; exfalso; omega)
        try omega
      try simp only [Act.put, List.setIfInBounds_toArray, List.set_cons_zero, List.set_cons_succ, List.getElem_toArray, List.getElem_cons_succ, List.getElem_cons_zero]
      refine wpAnyH_done (by kernel_rfl) ?_ _
      clear hHeld
      go_wp2_with fail
      go_roundw
      case rel => exact ⟨k + 1, by omega, by go_num, by rw [HT.out, flatP_snoc, HNL.out]; exact HO3.out, HB3.out⟩
      case measure => simp [intOf]; omega
    · obtain rfl : k = len := by omega
      have hn := prs_of_owns (cs := rowL (tenG free zs cs) k) (by rw [rowL_len]; exact hrow)
      have HNf := Lib.hid hn
      have HBf := Lib.hid (HB2.out.trans (hB.mono HB2.out.size))
      clear hn hrow hB
      go_wp2_with fail
      go_ret2
      exact ⟨_, rfl, HNf.out, HBf.out⟩
end Go.Proofs.YtmodplodnimmkaaDoor
namespace Go.Proofs.YtmodplodnimmkaaDoor
open Go.RowKit Go.Shelf
set_option linter.unusedSimpArgs false
theorem ten_ord {zs : List El} {cs : List Pr} (h : Rig zs cs) (free : Bool) {k : Nat} (hk : k ≤ zs.length) : (tenG free zs cs k).lo ≤ (tenG free zs cs k).hi := by
  have hn : NarB cs cs := fun k hk => by
    have := (okC_iff _).1 (h.cur k (by rw [← h.same]; exact hk))
    omega
  exact (nar_ten h rfl hn free hk).2.2
set_option maxRecDepth 100000 in
set_option maxHeartbeats 8000000 in
theorem rstrong_any (d an fr : Int) (sv cv : Value) (zs : List El) (cs : List Pr) (free : Bool) (w : World) (hI : Els w.heap.size w sv zs) (hC : Prs w.heap.size w cv cs) :
    Calls Tryd.prog 9 #[.agg #[.int .i64 d, sv, .int .i64 an, .int .i64 fr], cv, .bool free] w fun e w' => ∃ v, e = .returned (.tuple #[v, .int .i64 (staE d zs an fr cs)]) ∧ Nums w'.heap.size w' v (strV d zs an fr cs free) ∧ Below w.heap.size w w' := by
  have c1 := fun w' (hb : Below w.heap.size w w') => rtensionsM_any d an fr sv cv zs cs free w' (hI.at hb) (hC.at hb)
  have HV := Lib.hid (show strV d zs an fr cs free = if staE d zs an fr cs = 0 then strL free zs cs zs.length else [] from rfl)
  have HT := Lib.hid (fun (h : staE d zs an fr cs = 0) => show tenV d zs an fr cs free = rowL (tenG free zs cs) zs.length from if_pos h)
  have HOK := Lib.hid (fun (h : staE d zs an fr cs = 0) => (staE_ok h).1.most)
  have HORD := Lib.hid (fun (h : staE d zs an fr cs = 0) k (hk : k ≤ zs.length) => ten_ord (staE_ok h).1 free hk)
  obtain ⟨a, cap, rfl, -, hcell⟩ := hI
  obtain ⟨c, cap2, rfl, -, hcur⟩ := hC
  have HC := Lib.hid hcell
  clear hcell hcur
  generalize strV d zs an fr cs free = V at *
  generalize tenV d zs an fr cs free = T at *
  generalize staE d zs an fr cs = E at *
  have HA := Lib.hid (show Below w.heap.size w (w.alloc (.cells #[.int .i64 d, .slice a zs.length cap, .int .i64 an, .int .i64 fr] 24)) from (Below.refl _ _).alloc (Nat.le_refl _) _)
  by_cases hE : E = 0
  rotate_left
  · have hV : V = [] := by rw [HV.out, if_neg hE]
    subst hV
    have hb : (E != 0) = true := by simpa using hE
    clear HV HOK HC hE HT HORD
    generalize zs.length = len at *
    generalize cs.length = len2 at *
    go_enter Tryd.func9, Tryd.ntmps9
    go_wp2_with fail
    refine (c1 _ HA.out).mono ?_
    rintro e w1 ⟨v, rfl, -, hb1⟩
    have hB1 := Lib.hid (HA.out.trans (hb1.mono (by simp)))
    clear hb1 c1
    go_wp2_with fail
    go_ret2
    exact ⟨_, rfl, nums_nil _ _, hB1.out⟩
  subst hE
  have hV : V = strL free zs cs zs.length := by rw [HV.out, if_pos rfl]
  subst hV
  have hl := HOK.out rfl
  obtain rfl := HT.out rfl
  have HG := Lib.hid (fun k (hk : k < zs.length) => rowL_get (tenG free zs cs) zs.length k hk)
  have HFL := rowL_len (tenG free zs cs) zs.length
  generalize rowL (tenG free zs cs) zs.length = F at *
  have HOR := Lib.hid (HORD.out rfl)
  clear HV HOK HT HORD
  obtain ⟨i0, hi0, hz0, hz1, hz2⟩ := info_parts infoA
  generalize zs.length = len at *
  generalize cs.length = len2 at *
  go_enter Tryd.func9, Tryd.ntmps9
  go_wp2_with fail
  refine (c1 _ HA.out).mono ?_
  rintro e w1 ⟨v, rfl, hP, hb1⟩
  have hB1 := HA.out.trans (hb1.mono (by simp))
  have hsl : w1.cell? ⟨w.heap.size, 1, none⟩ = some (.slice a len cap) := (hb1.cell (p := ⟨w.heap.size, 1, none⟩) (by simp)).trans (by simp [go_sem])
  have z1 : w.heap.size < w1.heap.size := by have := hb1.size; simp at this; omega
  have HB1 := Lib.hid hB1
  have HP := Lib.hid hP
  have HSL := Lib.hid hsl
  obtain ⟨at_, ct, rfl⟩ := hP.form
  rw [HFL] at HP
  clear hb1 c1 hB1 hP hsl
  simp only [HFL]
  go_wp2_with fail
  go_loopw [10, 11, 12] (fun v i _ wr => ∃ k : Nat, k ≤ len ∧ i = .int .i64 k ∧ wr.ownsRow w1.heap.size 32 1 v k (numv (strL free zs cs k)) ∧ Below w1.heap.size w1 wr) (fun _ i _ _ => len - (intOf i).toNat)
  case atStart => exact ⟨0, Nat.zero_le _, rfl, World.ownsRow_nil _ _ _ _, Below.refl _ _⟩
  case round =>
    obtain ⟨k, hk, rfl, hrow, hg⟩ := hrel
    have hsz := hg.size
    have hB := HB1.out.trans (hg.mono (Nat.le_of_lt z1))
    by_cases hlt : k < len
    · obtain ⟨b, off, rfl, hb, -, -, -, e3⟩ := HC.out k hlt
      obtain ⟨b2, off2, rfl, hb2, u0, u1⟩ := HP.out.get k (by rw [HFL]; exact hlt)
      rw [HG.out k hlt] at u0 u1
      have hor := HOR.out (k + 1) (by omega)
      have HT := Lib.hid (show strL free zs cs (k + 1) = strL free zs cs k ++ [alwV (el zs k).str (tenG free zs cs (k + 1))] from rfl)
      have m3 := (hB.cell (p := ⟨b, off + k * 4 + 3, none⟩) hb).trans e3
      have n0 := (hg.cell (p := ⟨b2, off2 + k * 2, none⟩) hb2).trans u0
      have n1 := (hg.cell (p := ⟨b2, off2 + k * 2 + 1, none⟩) hb2).trans u1
      have n2 := (hg.cell (p := ⟨w.heap.size, 1, none⟩) z1).trans HSL.out
      generalize (el zs k).str = x3 at *
      generalize tenG free zs cs (k + 1) = z at *
      obtain ⟨y0, y1⟩ := z
      dsimp only at *
      clear e3 u0 u1
      have hki : (k : Int) < (len : Int) := by omega
      have HRow := Lib.hid hrow
      have HGr := Lib.hid hg
      have NO := Lib.hid (fun j (hj : u10.ownBlock = some j) => HRow.out.lt j hj)
      generalize hnl : numv (strL free zs cs k) = nl at HRow
      have HNL := Lib.hid hnl
      clear hrow hB hnl hg
      by_cases h1 : y1 ≤ x3
      · have ha : alwV x3 ⟨y0, y1⟩ = 2 := by unfold alwV; dsimp only; (repeat' split) <;> omega
        clear hor
        go_wp2_with fail
        refine wp_region_held_drew (S := fun w' => w'.cell? ⟨b2, off2 + k * 2, none⟩ = some (.int .i64 y0) ∧ w'.cell? ⟨b2, off2 + k * 2 + 1, none⟩ = some (.int .i64 y1) ∧ w'.cell? ⟨w.heap.size, 1, none⟩ = some (.slice (some ⟨b, off, none⟩) len cap) ∧ w'.cell? ⟨b, off + k * 4 + 3, none⟩ = some (.int .i64 x3)) (by kernel_rfl) ⟨by simpa [go_sem] using n0, by simpa [go_sem] using n1, by simpa [go_sem] using n2, by simpa [go_sem] using m3⟩ (fun hHeld => ?_)
        refine wpAnyH_take (i := 0) (oi := _) (v := Value.slice (some ⟨b2, off2, none⟩) len ct) rfl (by kernel_rfl) (by kernel_rfl) (by kernel_rfl) (fun _ _ _ h => h) (Or.inl ⟨by rfl, fun w' hSw => ?_⟩) hHeld ?_
        · obtain ⟨t0, t1, t2, t3⟩ := hSw
          go_simp
          try simp [*]
          try (intro hh; exfalso; omega)
          try omega
        try simp only [Act.put, List.setIfInBounds_toArray, List.set_cons_zero, List.set_cons_succ, List.getElem_toArray, List.getElem_cons_succ, List.getElem_cons_zero]
        refine wpAnyH_take (i := 1) (oi := _) (v := Value.int .i64 k) rfl (by kernel_rfl) (by kernel_rfl) (by kernel_rfl) (fun _ _ _ h => h) (Or.inl ⟨by rfl, fun w' hSw => ?_⟩) hHeld ?_
        · obtain ⟨t0, t1, t2, t3⟩ := hSw
          go_simp
          try simp [*]
          try (intro hh; exfalso; omega)
          try omega
        try simp only [Act.put, List.setIfInBounds_toArray, List.set_cons_zero, List.set_cons_succ, List.getElem_toArray, List.getElem_cons_succ, List.getElem_cons_zero]
        refine wpAnyH_take (i := 2) (oi := _) (v := Value.pointer (some ⟨b2, off2 + k * 2, none⟩)) rfl (by kernel_rfl) (by kernel_rfl) (by kernel_rfl) (fun _ _ _ h => h) (Or.inl ⟨by rfl, fun w' hSw => ?_⟩) hHeld ?_
        · obtain ⟨t0, t1, t2, t3⟩ := hSw
          go_simp
          try simp [*]
          try (intro hh; exfalso; omega)
          try omega
        try simp only [Act.put, List.setIfInBounds_toArray, List.set_cons_zero, List.set_cons_succ, List.getElem_toArray, List.getElem_cons_succ, List.getElem_cons_zero]
        refine wpAnyH_take (i := 3) (oi := _) (v := Value.pointer (some ⟨b2, off2 + k * 2 + 1, none⟩)) rfl (by kernel_rfl) (by kernel_rfl) (by kernel_rfl) (fun _ _ _ h => h) (Or.inl ⟨by rfl, fun w' hSw => ?_⟩) hHeld ?_
        · obtain ⟨t0, t1, t2, t3⟩ := hSw
          go_simp
          try simp [*]
          try (intro hh; exfalso; omega)
          try omega
        try simp only [Act.put, List.setIfInBounds_toArray, List.set_cons_zero, List.set_cons_succ, List.getElem_toArray, List.getElem_cons_succ, List.getElem_cons_zero]
        refine wpAnyH_take (i := 4) (oi := _) (v := Value.int .i64 y1) rfl (by kernel_rfl) (by kernel_rfl) (by kernel_rfl) (fun _ _ _ h => h) (Or.inl ⟨by rfl, fun w' hSw => ?_⟩) hHeld ?_
        · obtain ⟨t0, t1, t2, t3⟩ := hSw
          go_simp
          try simp [*]
          try (intro hh; exfalso; omega)
          try omega
        try simp only [Act.put, List.setIfInBounds_toArray, List.set_cons_zero, List.set_cons_succ, List.getElem_toArray, List.getElem_cons_succ, List.getElem_cons_zero]
        refine wpAnyH_take (i := 5) (oi := _) (v := Value.pointer (some ⟨w.heap.size, 1, none⟩)) rfl (by kernel_rfl) (by kernel_rfl) (by kernel_rfl) (fun _ _ _ h => h) (Or.inl ⟨by rfl, fun w' hSw => ?_⟩) hHeld ?_
        · obtain ⟨t0, t1, t2, t3⟩ := hSw
          go_simp
          try simp [*]
          try (intro hh; exfalso; omega)
          try omega
        try simp only [Act.put, List.setIfInBounds_toArray, List.set_cons_zero, List.set_cons_succ, List.getElem_toArray, List.getElem_cons_succ, List.getElem_cons_zero]
        refine wpAnyH_take (i := 6) (oi := _) (v := Value.slice (some ⟨b, off, none⟩) len cap) rfl (by kernel_rfl) (by kernel_rfl) (by kernel_rfl) (fun _ _ _ h => h) (Or.inl ⟨by rfl, fun w' hSw => ?_⟩) hHeld ?_
        · obtain ⟨t0, t1, t2, t3⟩ := hSw
          go_simp
          try simp [*]
          try (intro hh; exfalso; omega)
          try omega
        try simp only [Act.put, List.setIfInBounds_toArray, List.set_cons_zero, List.set_cons_succ, List.getElem_toArray, List.getElem_cons_succ, List.getElem_cons_zero]
        refine wpAnyH_take (i := 7) (oi := _) (v := Value.int .i64 k) rfl (by kernel_rfl) (by kernel_rfl) (by kernel_rfl) (fun _ _ _ h => h) (Or.inl ⟨by rfl, fun w' hSw => ?_⟩) hHeld ?_
        · obtain ⟨t0, t1, t2, t3⟩ := hSw
          go_simp
          try simp [*]
          try (intro hh; exfalso; omega)
          try omega
        try simp only [Act.put, List.setIfInBounds_toArray, List.set_cons_zero, List.set_cons_succ, List.getElem_toArray, List.getElem_cons_succ, List.getElem_cons_zero]
        refine wpAnyH_take (i := 8) (oi := _) (v := Value.pointer (some ⟨b, off + k * 4, none⟩)) rfl (by kernel_rfl) (by kernel_rfl) (by kernel_rfl) (fun _ _ _ h => h) (Or.inl ⟨by rfl, fun w' hSw => ?_⟩) hHeld ?_
        · obtain ⟨t0, t1, t2, t3⟩ := hSw
          go_simp
          try simp [*]
          try (intro hh; exfalso; omega)
          try omega
        try simp only [Act.put, List.setIfInBounds_toArray, List.set_cons_zero, List.set_cons_succ, List.getElem_toArray, List.getElem_cons_succ, List.getElem_cons_zero]
        refine wpAnyH_take (i := 9) (oi := _) (v := Value.pointer (some ⟨b, off + k * 4 + 3, none⟩)) rfl (by kernel_rfl) (by kernel_rfl) (by kernel_rfl) (fun _ _ _ h => h) (Or.inl ⟨by rfl, fun w' hSw => ?_⟩) hHeld ?_
        · obtain ⟨t0, t1, t2, t3⟩ := hSw
          go_simp
          try simp [*]
          try (intro hh; exfalso; omega)
          try omega
        try simp only [Act.put, List.setIfInBounds_toArray, List.set_cons_zero, List.set_cons_succ, List.getElem_toArray, List.getElem_cons_succ, List.getElem_cons_zero]
        refine wpAnyH_take (i := 10) (oi := _) (v := Value.int .i64 x3) rfl (by kernel_rfl) (by kernel_rfl) (by kernel_rfl) (fun _ _ _ h => h) (Or.inl ⟨by rfl, fun w' hSw => ?_⟩) hHeld ?_
        · obtain ⟨t0, t1, t2, t3⟩ := hSw
          go_simp
          try simp [*]
          try (intro hh; exfalso; omega)
          try omega
        try simp only [Act.put, List.setIfInBounds_toArray, List.set_cons_zero, List.set_cons_succ, List.getElem_toArray, List.getElem_cons_succ, List.getElem_cons_zero]
        refine wpAnyH_take (i := 11) (oi := _) (v := Value.bool true) rfl (by kernel_rfl) (by kernel_rfl) (by kernel_rfl) (fun _ _ _ h => h) (Or.inl ⟨by rfl, fun w' hSw => ?_⟩) hHeld ?_
        · obtain ⟨t0, t1, t2, t3⟩ := hSw
          go_simp
          try simp [*]
          try (intro hh; exfalso; omega)
          try omega
        try simp only [Act.put, List.setIfInBounds_toArray, List.set_cons_zero, List.set_cons_succ, List.getElem_toArray, List.getElem_cons_succ, List.getElem_cons_zero]
        refine wpAnyH_done (by kernel_rfl) ?_ _
        clear hHeld
        go_wp2_with (at_builtin; refine wpList_append_own _ rfl _ _ 28 rfl w1.heap.size 32 i0 (.int .i64 0) 1 8 Tryd.underlying28 hi0 hz0 hz1 hz2 rfl (by decide) _ _ _ rfl ((HRow.out.alloc _).drew) ⟨wr.heap.size, 0, none⟩ 1 1 [.int .i64 2] rfl rfl (by simp [go_sem]) (by simp [Value.oneCell']) (by unfold maxLen; omega) (by omega) (by simp; omega) ?_; intro v' w5 hrow' hgrow _)
        have hB5 : Below w1.heap.size w1 w5 := ((HGr.out.alloc hsz _).drew).grown hgrow (by simp; omega) (fun j hj => by have := (NO.out j hj).1; omega)
        go_roundw
        case rel => exact ⟨k + 1, by omega, by go_num, by rw [HT.out, ha, numv_snoc, HNL.out]; exact hrow', hB5⟩
        case measure => simp [intOf]; omega
      by_cases h2 : x3 < y0
      · have ha : alwV x3 ⟨y0, y1⟩ = 0 := by unfold alwV; dsimp only; (repeat' split) <;> omega
        clear hor
        go_wp2_with fail
        refine wp_region_held_drew (S := fun w' => w'.cell? ⟨b2, off2 + k * 2, none⟩ = some (.int .i64 y0) ∧ w'.cell? ⟨b2, off2 + k * 2 + 1, none⟩ = some (.int .i64 y1) ∧ w'.cell? ⟨w.heap.size, 1, none⟩ = some (.slice (some ⟨b, off, none⟩) len cap) ∧ w'.cell? ⟨b, off + k * 4 + 3, none⟩ = some (.int .i64 x3)) (by kernel_rfl) ⟨by simpa [go_sem] using n0, by simpa [go_sem] using n1, by simpa [go_sem] using n2, by simpa [go_sem] using m3⟩ (fun hHeld => ?_)
        refine wpAnyH_take (i := 0) (oi := _) (v := Value.slice (some ⟨b2, off2, none⟩) len ct) rfl (by kernel_rfl) (by kernel_rfl) (by kernel_rfl) (fun _ _ _ h => h) (Or.inl ⟨by rfl, fun w' hSw => ?_⟩) hHeld ?_
        · obtain ⟨t0, t1, t2, t3⟩ := hSw
          go_simp
          try simp [*]
          try (intro hh; exfalso; omega)
          try omega
        try simp only [Act.put, List.setIfInBounds_toArray, List.set_cons_zero, List.set_cons_succ, List.getElem_toArray, List.getElem_cons_succ, List.getElem_cons_zero]
        refine wpAnyH_take (i := 1) (oi := _) (v := Value.int .i64 k) rfl (by kernel_rfl) (by kernel_rfl) (by kernel_rfl) (fun _ _ _ h => h) (Or.inl ⟨by rfl, fun w' hSw => ?_⟩) hHeld ?_
        · obtain ⟨t0, t1, t2, t3⟩ := hSw
          go_simp
          try simp [*]
          try (intro hh; exfalso; omega)
          try omega
        try simp only [Act.put, List.setIfInBounds_toArray, List.set_cons_zero, List.set_cons_succ, List.getElem_toArray, List.getElem_cons_succ, List.getElem_cons_zero]
        refine wpAnyH_take (i := 2) (oi := _) (v := Value.pointer (some ⟨b2, off2 + k * 2, none⟩)) rfl (by kernel_rfl) (by kernel_rfl) (by kernel_rfl) (fun _ _ _ h => h) (Or.inl ⟨by rfl, fun w' hSw => ?_⟩) hHeld ?_
        · obtain ⟨t0, t1, t2, t3⟩ := hSw
          go_simp
          try simp [*]
          try (intro hh; exfalso; omega)
          try omega
        try simp only [Act.put, List.setIfInBounds_toArray, List.set_cons_zero, List.set_cons_succ, List.getElem_toArray, List.getElem_cons_succ, List.getElem_cons_zero]
        refine wpAnyH_take (i := 3) (oi := _) (v := Value.pointer (some ⟨b2, off2 + k * 2 + 1, none⟩)) rfl (by kernel_rfl) (by kernel_rfl) (by kernel_rfl) (fun _ _ _ h => h) (Or.inl ⟨by rfl, fun w' hSw => ?_⟩) hHeld ?_
        · obtain ⟨t0, t1, t2, t3⟩ := hSw
          go_simp
          try simp [*]
          try (intro hh; exfalso; omega)
          try omega
        try simp only [Act.put, List.setIfInBounds_toArray, List.set_cons_zero, List.set_cons_succ, List.getElem_toArray, List.getElem_cons_succ, List.getElem_cons_zero]
        refine wpAnyH_take (i := 4) (oi := _) (v := Value.int .i64 y1) rfl (by kernel_rfl) (by kernel_rfl) (by kernel_rfl) (fun _ _ _ h => h) (Or.inl ⟨by rfl, fun w' hSw => ?_⟩) hHeld ?_
        · obtain ⟨t0, t1, t2, t3⟩ := hSw
          go_simp
          try simp [*]
          try (intro hh; exfalso; omega)
          try omega
        try simp only [Act.put, List.setIfInBounds_toArray, List.set_cons_zero, List.set_cons_succ, List.getElem_toArray, List.getElem_cons_succ, List.getElem_cons_zero]
        refine wpAnyH_take (i := 5) (oi := _) (v := Value.pointer (some ⟨w.heap.size, 1, none⟩)) rfl (by kernel_rfl) (by kernel_rfl) (by kernel_rfl) (fun _ _ _ h => h) (Or.inl ⟨by rfl, fun w' hSw => ?_⟩) hHeld ?_
        · obtain ⟨t0, t1, t2, t3⟩ := hSw
          go_simp
          try simp [*]
          try (intro hh; exfalso; omega)
          try omega
        try simp only [Act.put, List.setIfInBounds_toArray, List.set_cons_zero, List.set_cons_succ, List.getElem_toArray, List.getElem_cons_succ, List.getElem_cons_zero]
        refine wpAnyH_take (i := 6) (oi := _) (v := Value.slice (some ⟨b, off, none⟩) len cap) rfl (by kernel_rfl) (by kernel_rfl) (by kernel_rfl) (fun _ _ _ h => h) (Or.inl ⟨by rfl, fun w' hSw => ?_⟩) hHeld ?_
        · obtain ⟨t0, t1, t2, t3⟩ := hSw
          go_simp
          try simp [*]
          try (intro hh; exfalso; omega)
          try omega
        try simp only [Act.put, List.setIfInBounds_toArray, List.set_cons_zero, List.set_cons_succ, List.getElem_toArray, List.getElem_cons_succ, List.getElem_cons_zero]
        refine wpAnyH_take (i := 7) (oi := _) (v := Value.int .i64 k) rfl (by kernel_rfl) (by kernel_rfl) (by kernel_rfl) (fun _ _ _ h => h) (Or.inl ⟨by rfl, fun w' hSw => ?_⟩) hHeld ?_
        · obtain ⟨t0, t1, t2, t3⟩ := hSw
          go_simp
          try simp [*]
          try (intro hh; exfalso; omega)
          try omega
        try simp only [Act.put, List.setIfInBounds_toArray, List.set_cons_zero, List.set_cons_succ, List.getElem_toArray, List.getElem_cons_succ, List.getElem_cons_zero]
        refine wpAnyH_take (i := 8) (oi := _) (v := Value.pointer (some ⟨b, off + k * 4, none⟩)) rfl (by kernel_rfl) (by kernel_rfl) (by kernel_rfl) (fun _ _ _ h => h) (Or.inl ⟨by rfl, fun w' hSw => ?_⟩) hHeld ?_
        · obtain ⟨t0, t1, t2, t3⟩ := hSw
          go_simp
          try simp [*]
          try (intro hh; exfalso; omega)
          try omega
        try simp only [Act.put, List.setIfInBounds_toArray, List.set_cons_zero, List.set_cons_succ, List.getElem_toArray, List.getElem_cons_succ, List.getElem_cons_zero]
        refine wpAnyH_take (i := 9) (oi := _) (v := Value.pointer (some ⟨b, off + k * 4 + 3, none⟩)) rfl (by kernel_rfl) (by kernel_rfl) (by kernel_rfl) (fun _ _ _ h => h) (Or.inl ⟨by rfl, fun w' hSw => ?_⟩) hHeld ?_
        · obtain ⟨t0, t1, t2, t3⟩ := hSw
          go_simp
          try simp [*]
          try (intro hh; exfalso; omega)
          try omega
        try simp only [Act.put, List.setIfInBounds_toArray, List.set_cons_zero, List.set_cons_succ, List.getElem_toArray, List.getElem_cons_succ, List.getElem_cons_zero]
        refine wpAnyH_take (i := 10) (oi := _) (v := Value.int .i64 x3) rfl (by kernel_rfl) (by kernel_rfl) (by kernel_rfl) (fun _ _ _ h => h) (Or.inl ⟨by rfl, fun w' hSw => ?_⟩) hHeld ?_
        · obtain ⟨t0, t1, t2, t3⟩ := hSw
          go_simp
          try simp [*]
          try (intro hh; exfalso; omega)
          try omega
        try simp only [Act.put, List.setIfInBounds_toArray, List.set_cons_zero, List.set_cons_succ, List.getElem_toArray, List.getElem_cons_succ, List.getElem_cons_zero]
        refine wpAnyH_take (i := 11) (oi := _) (v := Value.bool false) rfl (by kernel_rfl) (by kernel_rfl) (by kernel_rfl) (fun _ _ _ h => h) (Or.inl ⟨by rfl, fun w' hSw => ?_⟩) hHeld ?_
        · obtain ⟨t0, t1, t2, t3⟩ := hSw
          go_simp
          try simp [*]
          try (intro hh; exfalso; omega)
          try omega
        try simp only [Act.put, List.setIfInBounds_toArray, List.set_cons_zero, List.set_cons_succ, List.getElem_toArray, List.getElem_cons_succ, List.getElem_cons_zero]
        refine wpAnyH_done (by kernel_rfl) ?_ _
        clear hHeld
        go_wp2_with fail
        refine wp_region_held_drew (S := fun w' => w'.cell? ⟨b2, off2 + k * 2, none⟩ = some (.int .i64 y0) ∧ w'.cell? ⟨b2, off2 + k * 2 + 1, none⟩ = some (.int .i64 y1) ∧ w'.cell? ⟨w.heap.size, 1, none⟩ = some (.slice (some ⟨b, off, none⟩) len cap) ∧ w'.cell? ⟨b, off + k * 4 + 3, none⟩ = some (.int .i64 x3)) (by kernel_rfl) ⟨by simpa [go_sem] using n0, by simpa [go_sem] using n1, by simpa [go_sem] using n2, by simpa [go_sem] using m3⟩ (fun hHeld => ?_)
        refine wpAnyH_take (i := 0) (oi := _) (v := Value.slice (some ⟨b2, off2, none⟩) len ct) rfl (by kernel_rfl) (by kernel_rfl) (by kernel_rfl) (fun _ _ _ h => h) (Or.inl ⟨by rfl, fun w' hSw => ?_⟩) hHeld ?_
        · obtain ⟨t0, t1, t2, t3⟩ := hSw
          go_simp
          try simp [*]
          try (intro hh; exfalso; omega)
          try omega
        try simp only [Act.put, List.setIfInBounds_toArray, List.set_cons_zero, List.set_cons_succ, List.getElem_toArray, List.getElem_cons_succ, List.getElem_cons_zero]
        refine wpAnyH_take (i := 1) (oi := _) (v := Value.int .i64 k) rfl (by kernel_rfl) (by kernel_rfl) (by kernel_rfl) (fun _ _ _ h => h) (Or.inl ⟨by rfl, fun w' hSw => ?_⟩) hHeld ?_
        · obtain ⟨t0, t1, t2, t3⟩ := hSw
          go_simp
          try simp [*]
          try (intro hh; exfalso; omega)
          try omega
        try simp only [Act.put, List.setIfInBounds_toArray, List.set_cons_zero, List.set_cons_succ, List.getElem_toArray, List.getElem_cons_succ, List.getElem_cons_zero]
        refine wpAnyH_take (i := 2) (oi := _) (v := Value.pointer (some ⟨b2, off2 + k * 2, none⟩)) rfl (by kernel_rfl) (by kernel_rfl) (by kernel_rfl) (fun _ _ _ h => h) (Or.inl ⟨by rfl, fun w' hSw => ?_⟩) hHeld ?_
        · obtain ⟨t0, t1, t2, t3⟩ := hSw
          go_simp
          try simp [*]
          try (intro hh; exfalso; omega)
          try omega
        try simp only [Act.put, List.setIfInBounds_toArray, List.set_cons_zero, List.set_cons_succ, List.getElem_toArray, List.getElem_cons_succ, List.getElem_cons_zero]
        refine wpAnyH_take (i := 3) (oi := _) (v := Value.pointer (some ⟨b2, off2 + k * 2, none⟩)) rfl (by kernel_rfl) (by kernel_rfl) (by kernel_rfl) (fun _ _ _ h => h) (Or.inl ⟨by rfl, fun w' hSw => ?_⟩) hHeld ?_
        · obtain ⟨t0, t1, t2, t3⟩ := hSw
          go_simp
          try simp [*]
          try (intro hh; exfalso; omega)
          try omega
        try simp only [Act.put, List.setIfInBounds_toArray, List.set_cons_zero, List.set_cons_succ, List.getElem_toArray, List.getElem_cons_succ, List.getElem_cons_zero]
        refine wpAnyH_take (i := 4) (oi := _) (v := Value.int .i64 y0) rfl (by kernel_rfl) (by kernel_rfl) (by kernel_rfl) (fun _ _ _ h => h) (Or.inl ⟨by rfl, fun w' hSw => ?_⟩) hHeld ?_
        · obtain ⟨t0, t1, t2, t3⟩ := hSw
          go_simp
          try simp [*]
          try (intro hh; exfalso; omega)
          try omega
        try simp only [Act.put, List.setIfInBounds_toArray, List.set_cons_zero, List.set_cons_succ, List.getElem_toArray, List.getElem_cons_succ, List.getElem_cons_zero]
        refine wpAnyH_take (i := 5) (oi := _) (v := Value.pointer (some ⟨w.heap.size, 1, none⟩)) rfl (by kernel_rfl) (by kernel_rfl) (by kernel_rfl) (fun _ _ _ h => h) (Or.inl ⟨by rfl, fun w' hSw => ?_⟩) hHeld ?_
        · obtain ⟨t0, t1, t2, t3⟩ := hSw
          go_simp
          try simp [*]
          try (intro hh; exfalso; omega)
          try omega
        try simp only [Act.put, List.setIfInBounds_toArray, List.set_cons_zero, List.set_cons_succ, List.getElem_toArray, List.getElem_cons_succ, List.getElem_cons_zero]
        refine wpAnyH_take (i := 6) (oi := _) (v := Value.slice (some ⟨b, off, none⟩) len cap) rfl (by kernel_rfl) (by kernel_rfl) (by kernel_rfl) (fun _ _ _ h => h) (Or.inl ⟨by rfl, fun w' hSw => ?_⟩) hHeld ?_
        · obtain ⟨t0, t1, t2, t3⟩ := hSw
          go_simp
          try simp [*]
          try (intro hh; exfalso; omega)
          try omega
        try simp only [Act.put, List.setIfInBounds_toArray, List.set_cons_zero, List.set_cons_succ, List.getElem_toArray, List.getElem_cons_succ, List.getElem_cons_zero]
        refine wpAnyH_take (i := 7) (oi := _) (v := Value.int .i64 k) rfl (by kernel_rfl) (by kernel_rfl) (by kernel_rfl) (fun _ _ _ h => h) (Or.inl ⟨by rfl, fun w' hSw => ?_⟩) hHeld ?_
        · obtain ⟨t0, t1, t2, t3⟩ := hSw
          go_simp
          try simp [*]
          try (intro hh; exfalso; omega)
          try omega
        try simp only [Act.put, List.setIfInBounds_toArray, List.set_cons_zero, List.set_cons_succ, List.getElem_toArray, List.getElem_cons_succ, List.getElem_cons_zero]
        refine wpAnyH_take (i := 8) (oi := _) (v := Value.pointer (some ⟨b, off + k * 4, none⟩)) rfl (by kernel_rfl) (by kernel_rfl) (by kernel_rfl) (fun _ _ _ h => h) (Or.inl ⟨by rfl, fun w' hSw => ?_⟩) hHeld ?_
        · obtain ⟨t0, t1, t2, t3⟩ := hSw
          go_simp
          try simp [*]
          try (intro hh; exfalso; omega)
          try omega
        try simp only [Act.put, List.setIfInBounds_toArray, List.set_cons_zero, List.set_cons_succ, List.getElem_toArray, List.getElem_cons_succ, List.getElem_cons_zero]
        refine wpAnyH_take (i := 9) (oi := _) (v := Value.pointer (some ⟨b, off + k * 4 + 3, none⟩)) rfl (by kernel_rfl) (by kernel_rfl) (by kernel_rfl) (fun _ _ _ h => h) (Or.inl ⟨by rfl, fun w' hSw => ?_⟩) hHeld ?_
        · obtain ⟨t0, t1, t2, t3⟩ := hSw
          go_simp
          try simp [*]
          try (intro hh; exfalso; omega)
          try omega
        try simp only [Act.put, List.setIfInBounds_toArray, List.set_cons_zero, List.set_cons_succ, List.getElem_toArray, List.getElem_cons_succ, List.getElem_cons_zero]
        refine wpAnyH_take (i := 10) (oi := _) (v := Value.int .i64 x3) rfl (by kernel_rfl) (by kernel_rfl) (by kernel_rfl) (fun _ _ _ h => h) (Or.inl ⟨by rfl, fun w' hSw => ?_⟩) hHeld ?_
        · obtain ⟨t0, t1, t2, t3⟩ := hSw
          go_simp
          try simp [*]
          try (intro hh; exfalso; omega)
          try omega
        try simp only [Act.put, List.setIfInBounds_toArray, List.set_cons_zero, List.set_cons_succ, List.getElem_toArray, List.getElem_cons_succ, List.getElem_cons_zero]
        refine wpAnyH_take (i := 11) (oi := _) (v := Value.bool true) rfl (by kernel_rfl) (by kernel_rfl) (by kernel_rfl) (fun _ _ _ h => h) (Or.inl ⟨by rfl, fun w' hSw => ?_⟩) hHeld ?_
        · obtain ⟨t0, t1, t2, t3⟩ := hSw
          go_simp
          try simp [*]
          try (intro hh; exfalso; omega)
          try omega
        try simp only [Act.put, List.setIfInBounds_toArray, List.set_cons_zero, List.set_cons_succ, List.getElem_toArray, List.getElem_cons_succ, List.getElem_cons_zero]
        refine wpAnyH_done (by kernel_rfl) ?_ _
        clear hHeld
        go_wp2_with (at_builtin; refine wpList_append_own _ rfl _ _ 28 rfl w1.heap.size 32 i0 (.int .i64 0) 1 8 Tryd.underlying28 hi0 hz0 hz1 hz2 rfl (by decide) _ _ _ rfl ((HRow.out.alloc _).drew.drew) ⟨wr.heap.size, 0, none⟩ 1 1 [.int .i64 0] rfl rfl (by simp [go_sem]) (by simp [Value.oneCell']) (by unfold maxLen; omega) (by omega) (by simp; omega) ?_; intro v' w5 hrow' hgrow _)
        have hB5 : Below w1.heap.size w1 w5 := ((HGr.out.alloc hsz _).drew.drew).grown hgrow (by simp; omega) (fun j hj => by have := (NO.out j hj).1; omega)
        go_roundw
        case rel => exact ⟨k + 1, by omega, by go_num, by rw [HT.out, ha, numv_snoc, HNL.out]; exact hrow', hB5⟩
        case measure => simp [intOf]; omega
      have ha : alwV x3 ⟨y0, y1⟩ = 1 := by unfold alwV; dsimp only; (repeat' split) <;> omega
      clear hor
      go_wp2_with fail
      refine wp_region_held_drew (S := fun w' => w'.cell? ⟨b2, off2 + k * 2, none⟩ = some (.int .i64 y0) ∧ w'.cell? ⟨b2, off2 + k * 2 + 1, none⟩ = some (.int .i64 y1) ∧ w'.cell? ⟨w.heap.size, 1, none⟩ = some (.slice (some ⟨b, off, none⟩) len cap) ∧ w'.cell? ⟨b, off + k * 4 + 3, none⟩ = some (.int .i64 x3)) (by kernel_rfl) ⟨by simpa [go_sem] using n0, by simpa [go_sem] using n1, by simpa [go_sem] using n2, by simpa [go_sem] using m3⟩ (fun hHeld => ?_)
      refine wpAnyH_take (i := 0) (oi := _) (v := Value.slice (some ⟨b2, off2, none⟩) len ct) rfl (by kernel_rfl) (by kernel_rfl) (by kernel_rfl) (fun _ _ _ h => h) (Or.inl ⟨by rfl, fun w' hSw => ?_⟩) hHeld ?_
      · obtain ⟨t0, t1, t2, t3⟩ := hSw
        go_simp
        try simp [*]
        try (intro hh; exfalso; omega)
        try omega
      try simp only [Act.put, List.setIfInBounds_toArray, List.set_cons_zero, List.set_cons_succ, List.getElem_toArray, List.getElem_cons_succ, List.getElem_cons_zero]
      refine wpAnyH_take (i := 1) (oi := _) (v := Value.int .i64 k) rfl (by kernel_rfl) (by kernel_rfl) (by kernel_rfl) (fun _ _ _ h => h) (Or.inl ⟨by rfl, fun w' hSw => ?_⟩) hHeld ?_
      · obtain ⟨t0, t1, t2, t3⟩ := hSw
        go_simp
        try simp [*]
        try (intro hh; exfalso; omega)
        try omega
      try simp only [Act.put, List.setIfInBounds_toArray, List.set_cons_zero, List.set_cons_succ, List.getElem_toArray, List.getElem_cons_succ, List.getElem_cons_zero]
      refine wpAnyH_take (i := 2) (oi := _) (v := Value.pointer (some ⟨b2, off2 + k * 2, none⟩)) rfl (by kernel_rfl) (by kernel_rfl) (by kernel_rfl) (fun _ _ _ h => h) (Or.inl ⟨by rfl, fun w' hSw => ?_⟩) hHeld ?_
      · obtain ⟨t0, t1, t2, t3⟩ := hSw
        go_simp
        try simp [*]
        try (intro hh; exfalso; omega)
        try omega
      try simp only [Act.put, List.setIfInBounds_toArray, List.set_cons_zero, List.set_cons_succ, List.getElem_toArray, List.getElem_cons_succ, List.getElem_cons_zero]
      refine wpAnyH_take (i := 3) (oi := _) (v := Value.pointer (some ⟨b2, off2 + k * 2 + 1, none⟩)) rfl (by kernel_rfl) (by kernel_rfl) (by kernel_rfl) (fun _ _ _ h => h) (Or.inl ⟨by rfl, fun w' hSw => ?_⟩) hHeld ?_
      · obtain ⟨t0, t1, t2, t3⟩ := hSw
        go_simp
        try simp [*]
        try (intro hh; exfalso; omega)
        try omega
      try simp only [Act.put, List.setIfInBounds_toArray, List.set_cons_zero, List.set_cons_succ, List.getElem_toArray, List.getElem_cons_succ, List.getElem_cons_zero]
      refine wpAnyH_take (i := 4) (oi := _) (v := Value.int .i64 y1) rfl (by kernel_rfl) (by kernel_rfl) (by kernel_rfl) (fun _ _ _ h => h) (Or.inl ⟨by rfl, fun w' hSw => ?_⟩) hHeld ?_
      · obtain ⟨t0, t1, t2, t3⟩ := hSw
        go_simp
        try simp [*]
        try (intro hh; exfalso; omega)
        try omega
      try simp only [Act.put, List.setIfInBounds_toArray, List.set_cons_zero, List.set_cons_succ, List.getElem_toArray, List.getElem_cons_succ, List.getElem_cons_zero]
      refine wpAnyH_take (i := 5) (oi := _) (v := Value.pointer (some ⟨w.heap.size, 1, none⟩)) rfl (by kernel_rfl) (by kernel_rfl) (by kernel_rfl) (fun _ _ _ h => h) (Or.inl ⟨by rfl, fun w' hSw => ?_⟩) hHeld ?_
      · obtain ⟨t0, t1, t2, t3⟩ := hSw
        go_simp
        try simp [*]
        try (intro hh; exfalso; omega)
        try omega
      try simp only [Act.put, List.setIfInBounds_toArray, List.set_cons_zero, List.set_cons_succ, List.getElem_toArray, List.getElem_cons_succ, List.getElem_cons_zero]
      refine wpAnyH_take (i := 6) (oi := _) (v := Value.slice (some ⟨b, off, none⟩) len cap) rfl (by kernel_rfl) (by kernel_rfl) (by kernel_rfl) (fun _ _ _ h => h) (Or.inl ⟨by rfl, fun w' hSw => ?_⟩) hHeld ?_
      · obtain ⟨t0, t1, t2, t3⟩ := hSw
        go_simp
        try simp [*]
        try (intro hh; exfalso; omega)
        try omega
      try simp only [Act.put, List.setIfInBounds_toArray, List.set_cons_zero, List.set_cons_succ, List.getElem_toArray, List.getElem_cons_succ, List.getElem_cons_zero]
      refine wpAnyH_take (i := 7) (oi := _) (v := Value.int .i64 k) rfl (by kernel_rfl) (by kernel_rfl) (by kernel_rfl) (fun _ _ _ h => h) (Or.inl ⟨by rfl, fun w' hSw => ?_⟩) hHeld ?_
      · obtain ⟨t0, t1, t2, t3⟩ := hSw
        go_simp
        try simp [*]
        try (intro hh; exfalso; omega)
        try omega
      try simp only [Act.put, List.setIfInBounds_toArray, List.set_cons_zero, List.set_cons_succ, List.getElem_toArray, List.getElem_cons_succ, List.getElem_cons_zero]
      refine wpAnyH_take (i := 8) (oi := _) (v := Value.pointer (some ⟨b, off + k * 4, none⟩)) rfl (by kernel_rfl) (by kernel_rfl) (by kernel_rfl) (fun _ _ _ h => h) (Or.inl ⟨by rfl, fun w' hSw => ?_⟩) hHeld ?_
      · obtain ⟨t0, t1, t2, t3⟩ := hSw
        go_simp
        try simp [*]
        try (intro hh; exfalso; omega)
        try omega
      try simp only [Act.put, List.setIfInBounds_toArray, List.set_cons_zero, List.set_cons_succ, List.getElem_toArray, List.getElem_cons_succ, List.getElem_cons_zero]
      refine wpAnyH_take (i := 9) (oi := _) (v := Value.pointer (some ⟨b, off + k * 4 + 3, none⟩)) rfl (by kernel_rfl) (by kernel_rfl) (by kernel_rfl) (fun _ _ _ h => h) (Or.inl ⟨by rfl, fun w' hSw => ?_⟩) hHeld ?_
      · obtain ⟨t0, t1, t2, t3⟩ := hSw
        go_simp
        try simp [*]
        try (intro hh; exfalso; omega)
        try omega
      try simp only [Act.put, List.setIfInBounds_toArray, List.set_cons_zero, List.set_cons_succ, List.getElem_toArray, List.getElem_cons_succ, List.getElem_cons_zero]
      refine wpAnyH_take (i := 10) (oi := _) (v := Value.int .i64 x3) rfl (by kernel_rfl) (by kernel_rfl) (by kernel_rfl) (fun _ _ _ h => h) (Or.inl ⟨by rfl, fun w' hSw => ?_⟩) hHeld ?_
      · obtain ⟨t0, t1, t2, t3⟩ := hSw
        go_simp
        try simp [*]
        try (intro hh; exfalso; omega)
        try omega
      try simp only [Act.put, List.setIfInBounds_toArray, List.set_cons_zero, List.set_cons_succ, List.getElem_toArray, List.getElem_cons_succ, List.getElem_cons_zero]
      refine wpAnyH_take (i := 11) (oi := _) (v := Value.bool false) rfl (by kernel_rfl) (by kernel_rfl) (by kernel_rfl) (fun _ _ _ h => h) (Or.inl ⟨by rfl, fun w' hSw => ?_⟩) hHeld ?_
      · obtain ⟨t0, t1, t2, t3⟩ := hSw
        go_simp
        try simp [*]
        try (intro hh; exfalso; omega)
        try omega
      try simp only [Act.put, List.setIfInBounds_toArray, List.set_cons_zero, List.set_cons_succ, List.getElem_toArray, List.getElem_cons_succ, List.getElem_cons_zero]
      refine wpAnyH_done (by kernel_rfl) ?_ _
      clear hHeld
      go_wp2_with fail
      refine wp_region_held_drew (S := fun w' => w'.cell? ⟨b2, off2 + k * 2, none⟩ = some (.int .i64 y0) ∧ w'.cell? ⟨b2, off2 + k * 2 + 1, none⟩ = some (.int .i64 y1) ∧ w'.cell? ⟨w.heap.size, 1, none⟩ = some (.slice (some ⟨b, off, none⟩) len cap) ∧ w'.cell? ⟨b, off + k * 4 + 3, none⟩ = some (.int .i64 x3)) (by kernel_rfl) ⟨by simpa [go_sem] using n0, by simpa [go_sem] using n1, by simpa [go_sem] using n2, by simpa [go_sem] using m3⟩ (fun hHeld => ?_)
      refine wpAnyH_take (i := 0) (oi := _) (v := Value.slice (some ⟨b2, off2, none⟩) len ct) rfl (by kernel_rfl) (by kernel_rfl) (by kernel_rfl) (fun _ _ _ h => h) (Or.inl ⟨by rfl, fun w' hSw => ?_⟩) hHeld ?_
      · obtain ⟨t0, t1, t2, t3⟩ := hSw
        go_simp
        try simp [*]
        try (intro hh; exfalso; omega)
        try omega
      try simp only [Act.put, List.setIfInBounds_toArray, List.set_cons_zero, List.set_cons_succ, List.getElem_toArray, List.getElem_cons_succ, List.getElem_cons_zero]
      refine wpAnyH_take (i := 1) (oi := _) (v := Value.int .i64 k) rfl (by kernel_rfl) (by kernel_rfl) (by kernel_rfl) (fun _ _ _ h => h) (Or.inl ⟨by rfl, fun w' hSw => ?_⟩) hHeld ?_
      · obtain ⟨t0, t1, t2, t3⟩ := hSw
        go_simp
        try simp [*]
        try (intro hh; exfalso; omega)
        try omega
      try simp only [Act.put, List.setIfInBounds_toArray, List.set_cons_zero, List.set_cons_succ, List.getElem_toArray, List.getElem_cons_succ, List.getElem_cons_zero]
      refine wpAnyH_take (i := 2) (oi := _) (v := Value.pointer (some ⟨b2, off2 + k * 2, none⟩)) rfl (by kernel_rfl) (by kernel_rfl) (by kernel_rfl) (fun _ _ _ h => h) (Or.inl ⟨by rfl, fun w' hSw => ?_⟩) hHeld ?_
      · obtain ⟨t0, t1, t2, t3⟩ := hSw
        go_simp
        try simp [*]
        try (intro hh; exfalso; omega)
        try omega
      try simp only [Act.put, List.setIfInBounds_toArray, List.set_cons_zero, List.set_cons_succ, List.getElem_toArray, List.getElem_cons_succ, List.getElem_cons_zero]
      refine wpAnyH_take (i := 3) (oi := _) (v := Value.pointer (some ⟨b2, off2 + k * 2, none⟩)) rfl (by kernel_rfl) (by kernel_rfl) (by kernel_rfl) (fun _ _ _ h => h) (Or.inl ⟨by rfl, fun w' hSw => ?_⟩) hHeld ?_
      · obtain ⟨t0, t1, t2, t3⟩ := hSw
        go_simp
        try simp [*]
        try (intro hh; exfalso; omega)
        try omega
      try simp only [Act.put, List.setIfInBounds_toArray, List.set_cons_zero, List.set_cons_succ, List.getElem_toArray, List.getElem_cons_succ, List.getElem_cons_zero]
      refine wpAnyH_take (i := 4) (oi := _) (v := Value.int .i64 y0) rfl (by kernel_rfl) (by kernel_rfl) (by kernel_rfl) (fun _ _ _ h => h) (Or.inl ⟨by rfl, fun w' hSw => ?_⟩) hHeld ?_
      · obtain ⟨t0, t1, t2, t3⟩ := hSw
        go_simp
        try simp [*]
        try (intro hh; exfalso; omega)
        try omega
      try simp only [Act.put, List.setIfInBounds_toArray, List.set_cons_zero, List.set_cons_succ, List.getElem_toArray, List.getElem_cons_succ, List.getElem_cons_zero]
      refine wpAnyH_take (i := 5) (oi := _) (v := Value.pointer (some ⟨w.heap.size, 1, none⟩)) rfl (by kernel_rfl) (by kernel_rfl) (by kernel_rfl) (fun _ _ _ h => h) (Or.inl ⟨by rfl, fun w' hSw => ?_⟩) hHeld ?_
      · obtain ⟨t0, t1, t2, t3⟩ := hSw
        go_simp
        try simp [*]
        try (intro hh; exfalso; omega)
        try omega
      try simp only [Act.put, List.setIfInBounds_toArray, List.set_cons_zero, List.set_cons_succ, List.getElem_toArray, List.getElem_cons_succ, List.getElem_cons_zero]
      refine wpAnyH_take (i := 6) (oi := _) (v := Value.slice (some ⟨b, off, none⟩) len cap) rfl (by kernel_rfl) (by kernel_rfl) (by kernel_rfl) (fun _ _ _ h => h) (Or.inl ⟨by rfl, fun w' hSw => ?_⟩) hHeld ?_
      · obtain ⟨t0, t1, t2, t3⟩ := hSw
        go_simp
        try simp [*]
        try (intro hh; exfalso; omega)
        try omega
      try simp only [Act.put, List.setIfInBounds_toArray, List.set_cons_zero, List.set_cons_succ, List.getElem_toArray, List.getElem_cons_succ, List.getElem_cons_zero]
      refine wpAnyH_take (i := 7) (oi := _) (v := Value.int .i64 k) rfl (by kernel_rfl) (by kernel_rfl) (by kernel_rfl) (fun _ _ _ h => h) (Or.inl ⟨by rfl, fun w' hSw => ?_⟩) hHeld ?_
      · obtain ⟨t0, t1, t2, t3⟩ := hSw
        go_simp
        try simp [*]
        try (intro hh; exfalso; omega)
        try omega
      try simp only [Act.put, List.setIfInBounds_toArray, List.set_cons_zero, List.set_cons_succ, List.getElem_toArray, List.getElem_cons_succ, List.getElem_cons_zero]
      refine wpAnyH_take (i := 8) (oi := _) (v := Value.pointer (some ⟨b, off + k * 4, none⟩)) rfl (by kernel_rfl) (by kernel_rfl) (by kernel_rfl) (fun _ _ _ h => h) (Or.inl ⟨by rfl, fun w' hSw => ?_⟩) hHeld ?_
      · obtain ⟨t0, t1, t2, t3⟩ := hSw
        go_simp
        try simp [*]
        try (intro hh; exfalso; omega)
        try omega
      try simp only [Act.put, List.setIfInBounds_toArray, List.set_cons_zero, List.set_cons_succ, List.getElem_toArray, List.getElem_cons_succ, List.getElem_cons_zero]
      refine wpAnyH_take (i := 9) (oi := _) (v := Value.pointer (some ⟨b, off + k * 4 + 3, none⟩)) rfl (by kernel_rfl) (by kernel_rfl) (by kernel_rfl) (fun _ _ _ h => h) (Or.inl ⟨by rfl, fun w' hSw => ?_⟩) hHeld ?_
      · obtain ⟨t0, t1, t2, t3⟩ := hSw
        go_simp
        try simp [*]
        try (intro hh; exfalso; omega)
        try omega
      try simp only [Act.put, List.setIfInBounds_toArray, List.set_cons_zero, List.set_cons_succ, List.getElem_toArray, List.getElem_cons_succ, List.getElem_cons_zero]
      refine wpAnyH_take (i := 10) (oi := _) (v := Value.int .i64 x3) rfl (by kernel_rfl) (by kernel_rfl) (by kernel_rfl) (fun _ _ _ h => h) (Or.inl ⟨by rfl, fun w' hSw => ?_⟩) hHeld ?_
      · obtain ⟨t0, t1, t2, t3⟩ := hSw
        go_simp
        try simp [*]
        try (intro hh; exfalso; omega)
        try omega
      try simp only [Act.put, List.setIfInBounds_toArray, List.set_cons_zero, List.set_cons_succ, List.getElem_toArray, List.getElem_cons_succ, List.getElem_cons_zero]
      refine wpAnyH_take (i := 11) (oi := _) (v := Value.bool false) rfl (by kernel_rfl) (by kernel_rfl) (by kernel_rfl) (fun _ _ _ h => h) (Or.inl ⟨by rfl, fun w' hSw => ?_⟩) hHeld ?_
      · obtain ⟨t0, t1, t2, t3⟩ := hSw
        go_simp
        try simp [*]
        try (intro hh; exfalso; omega)
        try omega
      try simp only [Act.put, List.setIfInBounds_toArray, List.set_cons_zero, List.set_cons_succ, List.getElem_toArray, List.getElem_cons_succ, List.getElem_cons_zero]
      refine wpAnyH_done (by kernel_rfl) ?_ _
      clear hHeld
      go_wp2_with (at_builtin; refine wpList_append_own _ rfl _ _ 28 rfl w1.heap.size 32 i0 (.int .i64 0) 1 8 Tryd.underlying28 hi0 hz0 hz1 hz2 rfl (by decide) _ _ _ rfl ((HRow.out.alloc _).drew.drew) ⟨wr.heap.size, 0, none⟩ 1 1 [.int .i64 1] rfl rfl (by simp [go_sem]) (by simp [Value.oneCell']) (by unfold maxLen; omega) (by omega) (by simp; omega) ?_; intro v' w5 hrow' hgrow _)
      have hB5 : Below w1.heap.size w1 w5 := ((HGr.out.alloc hsz _).drew.drew).grown hgrow (by simp; omega) (fun j hj => by have := (NO.out j hj).1; omega)
      go_roundw
      case rel => exact ⟨k + 1, by omega, by go_num, by rw [HT.out, ha, numv_snoc, HNL.out]; exact hrow', hB5⟩
      case measure => simp [intOf]; omega
    · obtain rfl : k = len := by omega
      have HNf := Lib.hid (nums_of_ownsA (xs := strL free zs cs k) (by rw [strL_len]; exact hrow))
      have HBf := Lib.hid hB
      clear hrow hB hg
      go_wp2_with fail
      go_ret2
      exact ⟨_, rfl, HNf.out, HBf.out⟩
end Go.Proofs.YtmodplodnimmkaaDoor
namespace Go.Proofs.YtmodplodnimmkaaDoor
open Go.RowKit Go.Shelf
set_option linter.unusedSimpArgs false
set_option maxRecDepth 100000 in
set_option maxHeartbeats 8000000 in
/-- the pulls, in a block of the call's own -/
theorem rpulls_own (d an fr : Int) (sv cv : Value) (zs : List El) (cs : List Pr) (free : Bool) (hrig : Rig zs cs) (w : World) (hI : Els w.heap.size w sv zs) (hC : Prs w.heap.size w cv cs) :
    Calls Tryd.prog 36 #[.agg #[.int .i64 d, sv, .int .i64 an, .int .i64 fr], cv, .bool free] w fun e w' => ∃ v, e = .returned v ∧ Prs w'.heap.size w' v (rowL (pulG free zs cs) zs.length) ∧ (∀ j, v.ownBlock = some j → w.heap.size ≤ j) ∧ Below w.heap.size w w' := by
  have c1 := fun w' (hb : Below w.heap.size w w') => rforces_any d an fr sv cv zs cs hrig w' (hI.at hb) (hC.at hb)
  obtain ⟨a, cap, rfl, -, -⟩ := hI
  obtain ⟨c, cap2, rfl, -, -⟩ := hC
  have hl := hrig.most
  have HD := Lib.hid (fun k hk => sums_bd hrig k hk)
  have HFB := Lib.hid (fun k hk => force_bd (hrig.els k hk) (hrig.cur k hk))
  have HG := Lib.hid (fun k (hk : k < zs.length) => rowL_get (forG zs cs) zs.length k hk)
  have HFL := rowL_len (forG zs cs) zs.length
  generalize rowL (forG zs cs) zs.length = F at *
  clear hrig
  have HA := Lib.hid (show Below w.heap.size w (w.alloc (.cells #[.int .i64 d, .slice a zs.length cap, .int .i64 an, .int .i64 fr] 24)) from (Below.refl _ _).alloc (Nat.le_refl _) _)
  obtain ⟨i0, hi0, hz0, hz1, hz2⟩ := info_parts infoSp
  generalize zs.length = len at *
  generalize cs.length = len2 at *
  go_enter Tryd.func36, Tryd.ntmps36
  go_wp2_with fail
  refine (c1 _ HA.out).mono ?_
  rintro e w1 ⟨v, rfl, hF, hb1⟩
  have hB1 := HA.out.trans (hb1.mono (by simp))
  have HB1 := Lib.hid hB1
  obtain ⟨af, cf, rfl, -, hfc⟩ := hF
  rw [HFL] at hfc
  have HF := Lib.hid (show ∀ t, t < len → ∃ b off, af = some ⟨b, off, none⟩ ∧ b < w1.heap.size ∧ w1.cell? ⟨b, off + t * 2, none⟩ = some (.int .i64 (fLo (el zs t) (pr cs t))) ∧ w1.cell? ⟨b, off + t * 2 + 1, none⟩ = some (.int .i64 (fHi (el zs t) (pr cs t))) from fun t ht => by
    have h := hfc t ht
    rw [HG.out t ht] at h
    exact h)
  clear hfc hb1 hB1 c1 HG
  rw [HFL]
  clear HFL
  have z0 : w.heap.size ≤ w1.heap.size := HB1.out.size
  go_wp2_with fail
  go_loopw [8, 9, 10, 11] (fun v lo hi i wr => ∃ k : Nat, k ≤ len ∧ i = .int .i64 k ∧ lo = .int .i64 (sLo zs cs k) ∧ hi = .int .i64 (sHi zs cs k) ∧ wr.ownsRow w1.heap.size 52 2 v k (flatP (rowL (pulG free zs cs) k)) ∧ Below w1.heap.size w1 wr) (fun _ _ _ i _ => len - (intOf i).toNat)
  case atStart => exact ⟨0, Nat.zero_le _, rfl, rfl, rfl, World.ownsRow_nil _ _ _ _, Below.refl _ _⟩
  case round =>
    obtain ⟨k, hk, rfl, rfl, rfl, hrow, hB⟩ := hrel
    have hsz := hB.size
    by_cases hlt : k < len
    · obtain ⟨b, off, rfl, hb, e0, e1⟩ := HF.out k hlt
      have s1 := HD.out k (by omega)
      have s2 := HD.out (k + 1) (by omega)
      have hfb := HFB.out k hlt
      have ES := Lib.hid (show sLo zs cs (k + 1) = sLo zs cs k + fLo (el zs k) (pr cs k) ∧ sHi zs cs (k + 1) = sHi zs cs k + fHi (el zs k) (pr cs k) from ⟨rfl, rfl⟩)
      have HT := Lib.hid (show rowL (pulG free zs cs) (k + 1) = rowL (pulG free zs cs) k ++ [⟨hLo free zs cs (k + 1), sHi zs cs (k + 1)⟩] from rfl)
      have n0 := (hB.cell (p := ⟨b, off + k * 2, none⟩) hb).trans e0
      have n1 := (hB.cell (p := ⟨b, off + k * 2 + 1, none⟩) hb).trans e1
      clear e0 e1
      have eS1 := ES.out.1
      have eS2 := ES.out.2
      generalize fLo (el zs k) (pr cs k) = g0 at *
      generalize fHi (el zs k) (pr cs k) = g1 at *
      generalize hlo : sLo zs cs k = lo at *
      generalize hhi : sHi zs cs k = hi at *
      generalize hlo' : sLo zs cs (k + 1) = lo' at *
      generalize hhi' : sHi zs cs (k + 1) = hi' at *
      subst eS1
      subst eS2
      clear hlo hhi
      have W1 : IntKind.i64.wrap (lo + g0) = lo + g0 := by rw [IntKind.wrap_i64]; omega
      have W2 : IntKind.i64.wrap (hi + g1) = hi + g1 := by rw [IntKind.wrap_i64]; omega
      generalize hnl : flatP (rowL (pulG free zs cs) k) = nl at hrow
      have HNL := Lib.hid hnl
      have zb : b < wr.heap.size := by omega
      have HLo := Lib.hid (show sLo zs cs (k + 1) = lo + g0 from hlo')
      have HHi := Lib.hid (show sHi zs cs (k + 1) = hi + g1 from hhi')
      have HRow := Lib.hid hrow
      have HBr := Lib.hid hB
      clear hnl hrow hB hlo' hhi' ES
      cases free
      · have hlo2 : hLo false zs cs (k + 1) = lo + g0 := by show sLo zs cs (k + 1) = _; exact HLo.out
        rw [hlo2] at HT
        clear hlo2
        go_wp2_with (at_builtin; refine wpList_append_own _ rfl _ _ 25 rfl w1.heap.size 52 i0 (.agg #[.int .i64 0, .int .i64 0]) 2 16 Tryd.underlying25 hi0 hz0 hz1 hz2 rfl (by decide) _ _ _ rfl ((HRow.out.alloc _).alloc _) ⟨wr.heap.size + 1, 0, none⟩ 1 1 [.int .i64 (lo + g0), .int .i64 (hi + g1)] rfl rfl (two_new1 _ _ _ _) (by simp [Value.oneCell']) (by unfold maxLen; omega) (by omega) (by simp; omega) ?_; intro v' w5 hrow' hgrow _)
        have hB5 : Below w1.heap.size w1 w5 := ((HBr.out.alloc hsz _).alloc (by simp; omega) _).grown hgrow (by simp; omega) (fun j hj => (HRow.out.lt j hj).1)
        go_roundw
        case rel => exact ⟨k + 1, by omega, by go_num, by rw [HLo.out], by rw [HHi.out], by rw [HT.out, flatP_snoc, HNL.out]; exact hrow', hB5⟩
        case measure => simp [intOf]; omega
      · have hlo2 : hLo true zs cs (k + 1) = max 0 (wid zs cs (k + 1) - (hi + g1)) := by
          rw [← HHi.out]
          rfl
        rw [hlo2] at HT
        clear hlo2
        go_wp2_with fail
        go_loopw [13] (fun i wr2 => ∃ j : Nat, j ≤ k + 1 ∧ i = .int .i64 j ∧ wr2.cell? ⟨wr.heap.size, 0, none⟩ = some (.int .i64 (max 0 (wid zs cs j - (hi + g1)))) ∧ wr2.cell? ⟨wr.heap.size, 1, none⟩ = some (.int .i64 (hi + g1)) ∧ wr2.frozen? ⟨wr.heap.size, 0, none⟩ = false ∧ wr.heap.size < wr2.heap.size ∧ Below wr.heap.size wr wr2) (fun i _ => k + 1 - (intOf i).toNat)
        case atStart => exact ⟨0, Nat.zero_le _, rfl, by rw [show max 0 (wid zs cs 0 - (hi + g1)) = 0 by show max 0 (0 - _) = 0; omega]; simp [go_sem], by simp [go_sem], by simp [go_sem], by simp, by repeat (first | exact Below.refl _ _ | refine Below.setCell ?_ (by simp) _ | refine Below.alloc ?_ (Nat.le_refl _) _)⟩
        case round =>
          obtain ⟨j, hj, rfl, p0, p1, pf, zp, hB2⟩ := hrel
          by_cases hjl : j < k + 1
          · obtain ⟨b', off', he, hb', e0, e1⟩ := HF.out j (by omega)
            simp only [Option.some.injEq, Addr.mk.injEq, and_true] at he
            obtain ⟨rfl, rfl⟩ := he
            have t1 := HD.out j (by omega)
            have t2 := HFB.out j (by omega)
            have HW := Lib.hid (show wid zs cs (j + 1) = max (wid zs cs j) (fLo (el zs j) (pr cs j) + fHi (el zs j) (pr cs j)) from rfl)
            have y0 := (hB2.cell (p := ⟨b, off + j * 2, none⟩) zb).trans ((HBr.out.cell (p := ⟨b, off + j * 2, none⟩) hb').trans e0)
            have y1 := (hB2.cell (p := ⟨b, off + j * 2 + 1, none⟩) zb).trans ((HBr.out.cell (p := ⟨b, off + j * 2 + 1, none⟩) hb').trans e1)
            clear e0 e1
            generalize fLo (el zs j) (pr cs j) = f0 at *
            generalize fHi (el zs j) (pr cs j) = f1 at *
            generalize wid zs cs j = wj at *
            generalize hmx : max 0 (wj - (hi + g1)) = mx at *
            have HS := Lib.hid (show max 0 (wid zs cs (j + 1) - (hi + g1)) = max mx (f0 - (hi + g1 - f1)) by rw [HW.out]; omega)
            have V1 : IntKind.i64.wrap (hi + g1 - f1) = hi + g1 - f1 := by rw [IntKind.wrap_i64]; omega
            have V2 : IntKind.i64.wrap (f0 - (hi + g1 - f1)) = f0 - (hi + g1 - f1) := by rw [IntKind.wrap_i64]; omega
            have d1 : ¬ wr.heap.size = b := by omega
            have d2 : ¬ b = wr.heap.size := by omega
            have HB2 := Lib.hid hB2
            have HJ := Lib.hid (show j + 1 ≤ k + 1 by omega)
            have hli : (j : Int) < (len : Int) := by omega
            clear hB2 n0 n1
            go_wp2_with fail
            go_region
            go_wp2_with fail
            go_roundw
            case rel => exact ⟨j + 1, HJ.out, by go_num, by rw [HS.out]; simp [go_sem, *], by simp [go_sem, *], by simp [go_sem, *], by simpa using zp, by repeat (first | exact HB2.out | refine Below.drew ?_ | refine Below.setCell ?_ (by simp) _)⟩
            case measure => have := HJ.out; simp [intOf]; omega
          · obtain rfl : j = k + 1 := by omega
            have HRow2 := Lib.hid (own_below HRow.out hB2)
            have HB2 := Lib.hid (HBr.out.trans (hB2.mono hsz))
            have hz2' := hB2.size
            clear hB2
            generalize max 0 (wid zs cs (k + 1) - (hi + g1)) = mx at *
            go_wp2_with (at_builtin; refine wpList_append_own _ rfl _ _ 25 rfl w1.heap.size 52 i0 (.agg #[.int .i64 0, .int .i64 0]) 2 16 Tryd.underlying25 hi0 hz0 hz1 hz2 rfl (by decide) _ _ _ rfl (HRow2.out.alloc _) ⟨wr.heap.size, 0, none⟩ 1 1 [.int .i64 mx, .int .i64 (hi + g1)] rfl rfl (two_new _ _ _) (by simp [Value.oneCell']) (by unfold maxLen; omega) (by omega) (by simp; omega) ?_; intro v' w5 hrow' hgrow _)
            have hB5 : Below w1.heap.size w1 w5 := (HB2.out.alloc (by omega) _).grown hgrow (by simp; omega) (fun j hj => (HRow.out.lt j hj).1)
            go_roundw
            case rel => exact ⟨k + 1, by omega, by go_num, by rw [HLo.out], by rw [HHi.out], by rw [HT.out, flatP_snoc, HNL.out]; exact hrow', hB5⟩
            case measure => simp [intOf]; omega
    · obtain rfl : k = len := by omega
      have hn := prs_of_owns (cs := rowL (pulG free zs cs) k) (by rw [rowL_len]; exact hrow)
      have HN := Lib.hid hn
      have HO := Lib.hid (fun j hj => Nat.le_trans z0 (hrow.lt j hj).1)
      have HBf := Lib.hid (HB1.out.trans (hB.mono z0))
      clear hn hrow hB
      go_wp2_with fail
      go_ret
      exact ⟨_, rfl, HN.out, HO.out, HBf.out⟩
set_option maxRecDepth 10000 in
set_option maxHeartbeats 4000000 in
/-- the lifts, in a block of the call's own -/
theorem rlifts_own (d an fr : Int) (sv : Value) (zs : List El) (hl : zs.length ≤ 40) (hv : ∀ k, k < zs.length → -1048576 ≤ (el zs k).lift ∧ (el zs k).lift ≤ 1048576) (w : World) (hI : Els w.heap.size w sv zs) :
    Calls Tryd.prog 37 #[.agg #[.int .i64 d, sv, .int .i64 an, .int .i64 fr]] w fun e w' => ∃ v, e = .returned v ∧ Nums w'.heap.size w' v (lifL zs zs.length) ∧ (∀ j, v.ownBlock = some j → w.heap.size ≤ j) ∧ Below w.heap.size w w' := by
  obtain ⟨a, cap, rfl, -, hcell⟩ := hI
  have HC := Lib.hid hcell
  have HV := Lib.hid hv
  have HD := Lib.hid (lifTo_bd zs hv)
  obtain ⟨i0, hi0, hz0, hz1, hz2⟩ := info_parts infoJ
  clear hcell hv
  generalize zs.length = len at *
  obtain ⟨A, hA⟩ : ∃ A, A = w.alloc (.cells #[.int .i64 d, .slice a len cap, .int .i64 an, .int .i64 fr] 24) := ⟨_, rfl⟩
  have hsl : A.cell? ⟨w.heap.size, 1, none⟩ = some (.slice a len cap) := by rw [hA]; simp [go_sem]
  have hzA : A.heap.size = w.heap.size + 1 := by rw [hA]; simp
  have hbA : Below w.heap.size w A := by rw [hA]; exact (Below.refl _ _).alloc (Nat.le_refl _) _
  have HSL := Lib.hid (fun W (h : Below (w.heap.size + 1) A W) => (h.cell (p := ⟨w.heap.size, 1, none⟩) (Nat.lt_succ_self _)).trans hsl)
  have HBA := Lib.hid hbA
  go_enter Tryd.func37, Tryd.ntmps37
  go_wp2_with fail
  try rw [← hA]
  clear hA hsl hbA
  go_loopw [3, 4, 5] (fun v s i wr => ∃ k : Nat, k ≤ len ∧ i = .int .i64 k ∧ s = .int .i64 (lifTo zs k) ∧ wr.ownsRow (w.heap.size + 1) 2 1 v k (numv (lifL zs k)) ∧ Below (w.heap.size + 1) A wr) (fun _ _ i _ => len - (intOf i).toNat)
  case atStart => exact ⟨0, Nat.zero_le _, rfl, rfl, World.ownsRow_nil _ _ _ _, Below.refl _ _⟩
  case round =>
    obtain ⟨k, hk, rfl, rfl, hrow, hB⟩ := hrel
    have hsz := hB.size
    have hs := HSL.out _ hB
    by_cases hlt : k < len
    · obtain ⟨b, off, rfl, hb, k0, k1, k2, k3⟩ := HC.out k hlt
      have hbd := HD.out k (by omega)
      have hv := HV.out k hlt
      have HT := Lib.hid (show lifTo zs (k + 1) = lifTo zs k + (el zs k).lift from rfl)
      have HL := Lib.hid (show lifL zs (k + 1) = lifL zs k ++ [lifTo zs (k + 1)] from rfl)
      generalize el zs k = x at *
      have hBw := HBA.out.trans (hB.mono (Nat.le_succ _))
      have m1 := (hBw.cell (p := ⟨b, off + k * 4 + 1, none⟩) hb).trans k1
      clear k0 k1 k2 k3 hBw
      generalize lifTo zs k = s at *
      generalize hnl : numv (lifL zs k) = nl at hrow
      have HNL := Lib.hid hnl
      clear hnl
      have hWs : IntKind.i64.wrap (s + x.lift) = s + x.lift := by rw [IntKind.wrap_i64]; omega
      go_wp2_with (at_builtin; refine wpList_append_own _ rfl _ _ 72 rfl (w.heap.size + 1) 2 i0 (.int .i64 0) 1 8 Tryd.underlying72 hi0 hz0 hz1 hz2 rfl (by decide) _ _ _ rfl (hrow.alloc _) ⟨wr.heap.size, 0, none⟩ 1 1 [.int .i64 (s + x.lift)] rfl rfl (one_new2 _ _) (by simp [Value.oneCell']) (by unfold maxLen; omega) (by omega) (by simp; omega) ?_; intro v' w5 hrow' hgrow _)
      have hB5 : Below (w.heap.size + 1) A w5 := (hB.alloc (by omega) _).grown hgrow (by simp; omega) (fun j hj => (hrow.lt j hj).1)
      go_roundw
      case rel => exact ⟨k + 1, by omega, by go_num, by rw [HT.out], by rw [HL.out, HT.out, numv_snoc, HNL.out]; exact hrow', hB5⟩
      case measure => simp [intOf]; omega
    · obtain rfl : k = len := by omega
      have hn := nums_of_owns2 (xs := lifL zs k) (by rw [lifL_len]; exact hrow)
      have HN := Lib.hid hn
      have HO := Lib.hid (fun j hj => Nat.le_of_succ_le (hrow.lt j hj).1)
      have HBw := Lib.hid (HBA.out.trans (hB.mono (Nat.le_succ _)))
      clear hn hrow hB
      go_wp2_with fail
      go_ret
      exact ⟨_, rfl, HN.out, HO.out, HBw.out⟩
set_option maxRecDepth 100000 in
set_option maxHeartbeats 20000000 in
theorem rholds_any (d an fr : Int) (sv cv : Value) (zs : List El) (cs : List Pr) (free : Bool) (w : World) (hI : Els w.heap.size w sv zs) (hC : Prs w.heap.size w cv cs) :
    Calls Tryd.prog 11 #[.agg #[.int .i64 d, sv, .int .i64 an, .int .i64 fr], cv, .bool free] w fun e w' => e = .returned (.tuple #[.int .i64 (holV d zs an fr cs free), .int .i64 (staE d zs an fr cs)]) ∧ Below w.heap.size w w' := by
  have c1 := fun w' (hb : Below w.heap.size w w') => rall_any d an fr sv cv zs cs w' (hI.at hb) (hC.at hb)
  have HV := Lib.hid (show holV d zs an fr cs free = if staE d zs an fr cs = 0 then holA zs an fr cs free else 0 from rfl)
  have HOK := Lib.hid (fun (h : staE d zs an fr cs = 0) => staE_ok h)
  have C36 := Lib.hid (fun (hr : Rig zs cs) w' (hb : Below w.heap.size w w') => rpulls_own d an fr sv cv zs cs free hr w' (hI.at hb) (hC.at hb))
  have C37 := Lib.hid (fun (hr : Rig zs cs) w' (hb : Below w.heap.size w w') => rlifts_own d an fr sv zs hr.most (fun k hk => ((vE_iff _).1 (hr.els k hk)).2.1) w' (hI.at hb))
  obtain ⟨a, cap, rfl, -, -⟩ := hI
  obtain ⟨c, cap2, rfl, -, -⟩ := hC
  generalize holV d zs an fr cs free = V at *
  generalize staE d zs an fr cs = E at *
  have HA := Lib.hid (show Below w.heap.size w (w.alloc (.cells #[.int .i64 d, .slice a zs.length cap, .int .i64 an, .int .i64 fr] 24)) from (Below.refl _ _).alloc (Nat.le_refl _) _)
  by_cases hE : E = 0
  rotate_left
  · have hV : V = 0 := by rw [HV.out, if_neg hE]
    subst hV
    have hb : (E != 0) = true := by simpa using hE
    clear HV HOK C36 C37 hE
    generalize zs.length = len at *
    generalize cs.length = len2 at *
    go_enter Tryd.func11, Tryd.ntmps11
    go_wp2_with fail
    refine (c1 _ HA.out).mono ?_
    rintro e w1 ⟨rfl, hb1⟩
    have hB1 := Lib.hid (HA.out.trans (hb1.mono (by simp)))
    clear hb1 c1
    go_wp2_with fail
    go_ret2
    exact ⟨rfl, hB1.out⟩
  subst hE
  obtain ⟨hrig, -, hmo, -⟩ := HOK.out rfl
  have hV : V = holA zs an fr cs free := by rw [HV.out, if_pos rfl]
  subst hV
  have HVA := Lib.hid (show holA zs an fr cs free = if an - lifTo zs zs.length ≤ 0 then 0 else alwV (fr * (an - lifTo zs zs.length)) ⟨1000 * hLo free zs cs zs.length, 1000 * sHi zs cs zs.length⟩ from rfl)
  have hl := hrig.most
  have hcl := hrig.same
  obtain ⟨⟨an0, an1⟩, fr0, fr1⟩ := moo_ends hmo
  have pb := pull_bd hrig free (k := zs.length) (Nat.le_refl _)
  have lb := lif_bd hrig (k := zs.length) (Nat.le_refl _)
  have hp := hrig.pos
  have c36 := C36.out hrig
  have c37 := C37.out hrig
  have HP1 := Lib.hid (show pr (rowL (pulG free zs cs) zs.length) (zs.length - 1) = ⟨hLo free zs cs zs.length, sHi zs cs zs.length⟩ by rw [rowL_get _ _ _ (by omega)]; rw [show zs.length - 1 + 1 = zs.length by omega]; rfl)
  have HL1 := Lib.hid (show (lifL zs zs.length)[zs.length - 1]?.getD 0 = lifTo zs zs.length by have := lifL_nth zs zs.length (zs.length - 1) (by omega); rw [show zs.length - 1 + 1 = zs.length by omega] at this; exact this)
  have HRL := Lib.hid (rowL_len (pulG free zs cs) zs.length)
  have HLL := Lib.hid (lifL_len zs zs.length)
  generalize rowL (pulG free zs cs) zs.length = R at *
  generalize lifL zs zs.length = L at *
  generalize holA zs an fr cs free = V at *
  clear HV HOK C36 C37 hmo hrig
  generalize lifTo zs zs.length = v at *
  generalize hLo free zs cs zs.length = p at *
  generalize sHi zs cs zs.length = q at *
  generalize sLo zs cs zs.length = q' at *
  generalize cs.length = len2 at *
  generalize zs.length = len at *
  obtain ⟨m, rfl⟩ : ∃ m, len = m + 1 := ⟨len - 1, by omega⟩
  rw [Nat.add_sub_cancel] at HP1 HL1
  have hm1 : IntKind.i64.wrap (((m + 1 : Nat) : Int) - 1) = (m : Int) := by rw [IntKind.wrap_i64]; omega
  have hm2 : IntKind.i64.wrap (m : Int) = (m : Int) := by rw [IntKind.wrap_i64]; omega
  have hm3 : wrap64 (m : Int) = (m : Int) := by unfold wrap64; omega
  have hmlt : (m : Int) < ((m + 1 : Nat) : Int) := by omega
  -- the numbers
  obtain ⟨we, hwe⟩ : ∃ we, we = an - v := ⟨_, rfl⟩
  have W1 : IntKind.i64.wrap (an - v) = we := by rw [hwe, IntKind.wrap_i64]; omega
  have bw : we ≤ 0 ∨ 0 ≤ fr * we ∧ fr * we ≤ 1000 * 50000000 := by
    rcases Int.lt_or_le we 1 with h | h
    · exact .inl (by omega)
    · exact .inr ⟨Int.mul_nonneg fr0 (by omega), Int.mul_le_mul fr1 (by omega) (by omega) (by decide)⟩
  rw [← hwe] at HVA
  obtain ⟨p1, hp1⟩ : ∃ p1, p1 = 1000 * p := ⟨_, rfl⟩
  obtain ⟨q1, hq1⟩ : ∃ q1, q1 = 1000 * q := ⟨_, rfl⟩
  have W3 : IntKind.i64.wrap (1000 * p) = p1 := by rw [hp1, IntKind.wrap_i64]; omega
  have W4 : IntKind.i64.wrap (1000 * q) = q1 := by rw [hq1, IntKind.wrap_i64]; omega
  have hpq : p1 ≤ q1 := by omega
  have hge : decide (an ≤ v) = decide (we ≤ 0) := by rw [hwe]; exact decide_eq_decide.2 (by omega)
  rw [← hp1, ← hq1] at HVA
  clear pb lb hwe hp1 hq1 an0 an1 fr0 fr1 hp hl hcl
  go_enter Tryd.func11, Tryd.ntmps11
  go_wp2_with fail
  refine (c1 _ HA.out).mono ?_
  rintro e w1 ⟨rfl, hb1⟩
  have hB1 := HA.out.trans (hb1.mono (by simp))
  have j0 : w1.cell? ⟨w.heap.size, 0, none⟩ = some (.int .i64 d) := (hb1.cell (p := ⟨w.heap.size, 0, none⟩) (by simp)).trans (by simp [go_sem])
  have j1 : w1.cell? ⟨w.heap.size, 1, none⟩ = some (.slice a (m + 1) cap) := (hb1.cell (p := ⟨w.heap.size, 1, none⟩) (by simp)).trans (by simp [go_sem])
  have j2 : w1.cell? ⟨w.heap.size, 2, none⟩ = some (.int .i64 an) := (hb1.cell (p := ⟨w.heap.size, 2, none⟩) (by simp)).trans (by simp [go_sem])
  have j3 : w1.cell? ⟨w.heap.size, 3, none⟩ = some (.int .i64 fr) := (hb1.cell (p := ⟨w.heap.size, 3, none⟩) (by simp)).trans (by simp [go_sem])
  have z1 : w.heap.size < w1.heap.size := by have := hb1.size; simp at this; omega
  have y1 : ¬ w.heap.size = w1.heap.size := by omega
  have HB1 := Lib.hid hB1
  clear hb1 c1 hB1
  go_wp2_with fail
  refine wp_region_held_drew (S := fun w' => w'.cell? ⟨w.heap.size, 0, none⟩ = some (.int .i64 d) ∧ w'.cell? ⟨w.heap.size, 1, none⟩ = some (.slice a (m + 1) cap) ∧ w'.cell? ⟨w.heap.size, 2, none⟩ = some (.int .i64 an) ∧ w'.cell? ⟨w.heap.size, 3, none⟩ = some (.int .i64 fr)) (by kernel_rfl) ⟨by simpa [go_sem] using j0, by simpa [go_sem] using j1, by simpa [go_sem] using j2, by simpa [go_sem] using j3⟩ (fun hHeld => ?_)
  refine wpAnyH_take (i := 0) (oi := _) (v := Value.agg #[Value.int .i64 d, Value.slice a (m + 1) cap, Value.int .i64 an, Value.int .i64 fr]) rfl (by kernel_rfl) (by kernel_rfl) (by kernel_rfl) (fun _ _ _ h => h) (Or.inl ⟨by rfl, fun w' hSw => ?_⟩) hHeld ?_
  · obtain ⟨t0, t1, t2, t3⟩ := hSw
    go_simp
    try simp [*]
    try (intro hh; exfalso; omega)
    try omega
  try simp only [Act.put, List.setIfInBounds_toArray, List.set_cons_zero, List.set_cons_succ, List.getElem_toArray, List.getElem_cons_succ, List.getElem_cons_zero]
  refine wpAnyH_take (i := 1) (oi := _) (v := Value.slice c len2 cap2) rfl (by kernel_rfl) (by kernel_rfl) (by kernel_rfl) (fun _ _ _ h => h) (Or.inl ⟨by rfl, fun w' hSw => ?_⟩) hHeld ?_
  · obtain ⟨t0, t1, t2, t3⟩ := hSw
    go_simp
    try simp [*]
    try (intro hh; exfalso; omega)
    try omega
  try simp only [Act.put, List.setIfInBounds_toArray, List.set_cons_zero, List.set_cons_succ, List.getElem_toArray, List.getElem_cons_succ, List.getElem_cons_zero]
  refine wpAnyH_take (i := 2) (oi := _) (v := Value.bool free) rfl (by kernel_rfl) (by kernel_rfl) (by kernel_rfl) (fun _ _ _ h => h) (Or.inl ⟨by rfl, fun w' hSw => ?_⟩) hHeld ?_
  · obtain ⟨t0, t1, t2, t3⟩ := hSw
    go_simp
    try simp [*]
    try (intro hh; exfalso; omega)
    try omega
  try simp only [Act.put, List.setIfInBounds_toArray, List.set_cons_zero, List.set_cons_succ, List.getElem_toArray, List.getElem_cons_succ, List.getElem_cons_zero]
  refine wpAnyH_take (i := 4) (oi := _) (v := Value.int .i64 (m : Int)) rfl (by kernel_rfl) (by kernel_rfl) (by kernel_rfl) (fun _ _ _ h => h) (Or.inl ⟨by rfl, fun w' hSw => ?_⟩) hHeld ?_
  · obtain ⟨t0, t1, t2, t3⟩ := hSw
    go_simp
    try simp [*]
    try (intro hh; exfalso; omega)
    try omega
  try simp only [Act.put, List.setIfInBounds_toArray, List.set_cons_zero, List.set_cons_succ, List.getElem_toArray, List.getElem_cons_succ, List.getElem_cons_zero]
  refine wpAnyH_take (i := 7) (oi := _) (v := Value.agg #[Value.int .i64 d, Value.slice a (m + 1) cap, Value.int .i64 an, Value.int .i64 fr]) rfl (by kernel_rfl) (by kernel_rfl) (by kernel_rfl) (fun _ _ _ h => h) (Or.inl ⟨by rfl, fun w' hSw => ?_⟩) hHeld ?_
  · obtain ⟨t0, t1, t2, t3⟩ := hSw
    go_simp
    try simp [*]
    try (intro hh; exfalso; omega)
    try omega
  try simp only [Act.put, List.setIfInBounds_toArray, List.set_cons_zero, List.set_cons_succ, List.getElem_toArray, List.getElem_cons_succ, List.getElem_cons_zero]
  refine wpAnyH_take (i := 9) (oi := _) (v := Value.int .i64 (m : Int)) rfl (by kernel_rfl) (by kernel_rfl) (by kernel_rfl) (fun _ _ _ h => h) (Or.inl ⟨by rfl, fun w' hSw => ?_⟩) hHeld ?_
  · obtain ⟨t0, t1, t2, t3⟩ := hSw
    go_simp
    try simp [*]
    try (intro hh; exfalso; omega)
    try omega
  try simp only [Act.put, List.setIfInBounds_toArray, List.set_cons_zero, List.set_cons_succ, List.getElem_toArray, List.getElem_cons_succ, List.getElem_cons_zero]
  refine wpAnyH_ready (rs := [3, 12]) (by kernel_rfl) (by simp) ?_
  refine AllReadyH.cons (o := _) rfl (fun K hK => ?_) (AllReadyH.cons (o := _) rfl (fun K hK => ?_) (AllReadyH.nil))
  · go_simp
    go_at_call 36
    refine Calls.mono (c36 _ (by repeat (first | exact HB1.out | exact HB2.out | exact HB3.out | refine Below.drew ?_ | refine Below.setCell ?_ (by first | omega | (simp; omega) | (simp; done)) _ | refine Below.alloc ?_ (by first | omega | (simp; omega) | (simp; done)) _))) ?_
    rintro e w2 ⟨v2, rfl, hP, hown, hb⟩
    obtain ⟨a2, ct2, rfl⟩ := hP.form
    obtain ⟨b2, off2, rfl, hb2, u0, u1⟩ := hP.get m (by rw [HRL.out]; omega)
    rw [HP1.out] at u0 u1
    rw [HRL.out]
    clear hP
    have e0 := (hb.cell (p := ⟨w.heap.size, 0, none⟩) (by first | (simp; omega) | omega)).trans (show (w1.drew).cell? ⟨w.heap.size, 0, none⟩ = some (.int .i64 d) by simp [go_sem, *])
    have e1 := (hb.cell (p := ⟨w.heap.size, 1, none⟩) (by first | (simp; omega) | omega)).trans (show (w1.drew).cell? ⟨w.heap.size, 1, none⟩ = some (.slice a (m + 1) cap) by simp [go_sem, *])
    have e2 := (hb.cell (p := ⟨w.heap.size, 2, none⟩) (by first | (simp; omega) | omega)).trans (show (w1.drew).cell? ⟨w.heap.size, 2, none⟩ = some (.int .i64 an) by simp [go_sem, *])
    have e3 := (hb.cell (p := ⟨w.heap.size, 3, none⟩) (by first | (simp; omega) | omega)).trans (show (w1.drew).cell? ⟨w.heap.size, 3, none⟩ = some (.int .i64 fr) by simp [go_sem, *])
    have hown2 := hown b2 rfl
    try simp at hown2
    clear hown
    have z2 : w.heap.size < w2.heap.size := by have := hb.size; (try simp at this); omega
    have y2 : ¬ w.heap.size = w2.heap.size := by omega
    have HB2 := Lib.hid (show Below w.heap.size w w2 from Below.trans (b := w1.drew) (by repeat (first | exact HB1.out | exact HB2.out | exact HB3.out | refine Below.drew ?_ | refine Below.setCell ?_ (by first | omega | (simp; omega) | (simp; done)) _ | refine Below.alloc ?_ (by first | omega | (simp; omega) | (simp; done)) _)) (hb.mono (by first | (simp; omega) | omega)))
    have x2 : w1.heap.size ≤ w2.heap.size := by have := hb.size; (try simp at this); omega
    clear hb
    clear hHeld
    refine hK.out _ _ ⟨e0, e1, e2, e3⟩ (fun hHeld => ?_)
    clear hK K
    try simp only [Act.put, List.setIfInBounds_toArray, List.set_cons_zero, List.set_cons_succ, List.getElem_toArray, List.getElem_cons_succ, List.getElem_cons_zero]
    obtain ⟨hq0, hq1, hq2, hq3⟩ := hHeld
    refine wpAnyH_switch (S' := fun w' => w'.cell? ⟨w.heap.size, 0, none⟩ = some (.int .i64 d) ∧ w'.cell? ⟨w.heap.size, 1, none⟩ = some (.slice a (m + 1) cap) ∧ w'.cell? ⟨w.heap.size, 2, none⟩ = some (.int .i64 an) ∧ w'.cell? ⟨w.heap.size, 3, none⟩ = some (.int .i64 fr) ∧ w'.cell? ⟨b2, off2 + m * 2, none⟩ = some (.int .i64 p) ∧ w'.cell? ⟨b2, off2 + m * 2 + 1, none⟩ = some (.int .i64 q)) (fun w' h => ⟨h.1, h.2.1, h.2.2.1, h.2.2.2.1⟩) ⟨hq0, hq1, hq2, hq3, u0, u1⟩ (fun hHeld => ?_)
    clear hq0 hq1 hq2 hq3
    refine wpAnyH_take (i := 5) (oi := _) (v := Value.pointer (some ⟨b2, off2 + m * 2, none⟩)) rfl (by kernel_rfl) (by kernel_rfl) (by kernel_rfl) (fun _ _ _ h => h) (Or.inl ⟨by rfl, fun w' hSw => ?_⟩) hHeld ?_
    · obtain ⟨t0, t1, t2, t3, t4, t5⟩ := hSw
      go_simp
      try simp [*]
      try (intro hh; exfalso; omega)
      try omega
    try simp only [Act.put, List.setIfInBounds_toArray, List.set_cons_zero, List.set_cons_succ, List.getElem_toArray, List.getElem_cons_succ, List.getElem_cons_zero]
    refine wpAnyH_take (i := 6) (oi := _) (v := Value.agg #[Value.int .i64 p, Value.int .i64 q]) rfl (by kernel_rfl) (by kernel_rfl) (by kernel_rfl) (fun _ _ _ h => h) (Or.inl ⟨by rfl, fun w' hSw => ?_⟩) hHeld ?_
    · obtain ⟨t0, t1, t2, t3, t4, t5⟩ := hSw
      go_simp
      try simp [*]
      try (intro hh; exfalso; omega)
      try omega
    try simp only [Act.put, List.setIfInBounds_toArray, List.set_cons_zero, List.set_cons_succ, List.getElem_toArray, List.getElem_cons_succ, List.getElem_cons_zero]
    refine wpAnyH_ready (rs := [8, 12]) (by kernel_rfl) (by simp) ?_
    refine AllReadyH.cons (o := _) rfl (fun K hK => ?_) (AllReadyH.cons (o := _) rfl (fun K hK => ?_) (AllReadyH.nil))
    · go_simp
      go_at_call 37
      refine Calls.mono (c37 _ (by repeat (first | exact HB1.out | exact HB2.out | exact HB3.out | refine Below.drew ?_ | refine Below.setCell ?_ (by first | omega | (simp; omega) | (simp; done)) _ | refine Below.alloc ?_ (by first | omega | (simp; omega) | (simp; done)) _))) ?_
      rintro e w3 ⟨v3, rfl, hP, hown, hb⟩
      obtain ⟨a3, ct3, rfl⟩ := hP.form
      obtain ⟨b3, off3, rfl, hb3, t0⟩ := hP.get m (by rw [HLL.out]; omega)
      rw [HL1.out] at t0
      rw [HLL.out]
      clear hP
      have g0 := (hb.cell (p := ⟨w.heap.size, 0, none⟩) (by first | (simp; omega) | omega)).trans (show (w2).cell? ⟨w.heap.size, 0, none⟩ = some (.int .i64 d) by simp [go_sem, *])
      have g1 := (hb.cell (p := ⟨w.heap.size, 1, none⟩) (by first | (simp; omega) | omega)).trans (show (w2).cell? ⟨w.heap.size, 1, none⟩ = some (.slice a (m + 1) cap) by simp [go_sem, *])
      have g2 := (hb.cell (p := ⟨w.heap.size, 2, none⟩) (by first | (simp; omega) | omega)).trans (show (w2).cell? ⟨w.heap.size, 2, none⟩ = some (.int .i64 an) by simp [go_sem, *])
      have g3 := (hb.cell (p := ⟨w.heap.size, 3, none⟩) (by first | (simp; omega) | omega)).trans (show (w2).cell? ⟨w.heap.size, 3, none⟩ = some (.int .i64 fr) by simp [go_sem, *])
      have g4 := (hb.cell (p := ⟨b2, off2 + m * 2, none⟩) (by first | (simp; omega) | omega)).trans (show (w2).cell? ⟨b2, off2 + m * 2, none⟩ = some (.int .i64 p) by simp [go_sem, *])
      have g5 := (hb.cell (p := ⟨b2, off2 + m * 2 + 1, none⟩) (by first | (simp; omega) | omega)).trans (show (w2).cell? ⟨b2, off2 + m * 2 + 1, none⟩ = some (.int .i64 q) by simp [go_sem, *])
      have hown3 := hown b3 rfl
      try simp at hown3
      clear hown
      have z3 : w2.heap.size ≤ w3.heap.size := by have := hb.size; (try simp at this); omega
      have y3 : ¬ w.heap.size = w3.heap.size := by omega
      have HB3 := Lib.hid (show Below w.heap.size w w3 from Below.trans (b := w2) (by repeat (first | exact HB1.out | exact HB2.out | exact HB3.out | refine Below.drew ?_ | refine Below.setCell ?_ (by first | omega | (simp; omega) | (simp; done)) _ | refine Below.alloc ?_ (by first | omega | (simp; omega) | (simp; done)) _)) (hb.mono (by first | (simp; omega) | omega)))
      have zz3 : w.heap.size < w3.heap.size := by omega
      have zb3 : b2 < w3.heap.size := by omega
      have q3 : ¬ b2 = w3.heap.size := by omega
      have q3b : ¬ b3 = w3.heap.size := by omega
      clear hb
      clear hHeld
      refine hK.out _ _ ⟨g0, g1, g2, g3, g4, g5⟩ (fun hHeld => ?_)
      clear hK K
      try simp only [Act.put, List.setIfInBounds_toArray, List.set_cons_zero, List.set_cons_succ, List.getElem_toArray, List.getElem_cons_succ, List.getElem_cons_zero]
      obtain ⟨hq0, hq1, hq2, hq3, hq4, hq5⟩ := hHeld
      refine wpAnyH_switch (S' := fun w' => w'.cell? ⟨w.heap.size, 0, none⟩ = some (.int .i64 d) ∧ w'.cell? ⟨w.heap.size, 1, none⟩ = some (.slice a (m + 1) cap) ∧ w'.cell? ⟨w.heap.size, 2, none⟩ = some (.int .i64 an) ∧ w'.cell? ⟨w.heap.size, 3, none⟩ = some (.int .i64 fr) ∧ w'.cell? ⟨b2, off2 + m * 2, none⟩ = some (.int .i64 p) ∧ w'.cell? ⟨b2, off2 + m * 2 + 1, none⟩ = some (.int .i64 q) ∧ w'.cell? ⟨b3, off3 + m, none⟩ = some (.int .i64 v)) (fun w' h => ⟨h.1, h.2.1, h.2.2.1, h.2.2.2.1, h.2.2.2.2.1, h.2.2.2.2.2.1⟩) ⟨hq0, hq1, hq2, hq3, hq4, hq5, t0⟩ (fun hHeld => ?_)
      clear hq0 hq1 hq2 hq3 hq4 hq5
      refine wpAnyH_take (i := 10) (oi := _) (v := Value.pointer (some ⟨b3, off3 + m, none⟩)) rfl (by kernel_rfl) (by kernel_rfl) (by kernel_rfl) (fun _ _ _ h => h) (Or.inl ⟨by rfl, fun w' hSw => ?_⟩) hHeld ?_
      · obtain ⟨t0, t1, t2, t3, t4, t5, t6⟩ := hSw
        go_simp
        try simp [*]
        try (intro hh; exfalso; omega)
        try omega
      try simp only [Act.put, List.setIfInBounds_toArray, List.set_cons_zero, List.set_cons_succ, List.getElem_toArray, List.getElem_cons_succ, List.getElem_cons_zero]
      refine wpAnyH_take (i := 11) (oi := _) (v := Value.int .i64 v) rfl (by kernel_rfl) (by kernel_rfl) (by kernel_rfl) (fun _ _ _ h => h) (Or.inl ⟨by rfl, fun w' hSw => ?_⟩) hHeld ?_
      · obtain ⟨t0, t1, t2, t3, t4, t5, t6⟩ := hSw
        go_simp
        try simp [*]
        try (intro hh; exfalso; omega)
        try omega
      try simp only [Act.put, List.setIfInBounds_toArray, List.set_cons_zero, List.set_cons_succ, List.getElem_toArray, List.getElem_cons_succ, List.getElem_cons_zero]
      refine wpAnyH_ready (rs := [12]) (by kernel_rfl) (by simp) ?_
      refine AllReadyH.cons (o := _) rfl (fun K hK => ?_) (AllReadyH.nil)
      go_simp
      clear hHeld
      refine hK.out _ _ ⟨by simp [go_sem, *], by simp [go_sem, *], by simp [go_sem, *], by simp [go_sem, *], by simp [go_sem, *], by simp [go_sem, *], by simp [go_sem, *]⟩ (fun hHeld => ?_)
      clear hK K
      try simp only [Act.put, List.setIfInBounds_toArray, List.set_cons_zero, List.set_cons_succ, List.getElem_toArray, List.getElem_cons_succ, List.getElem_cons_zero]
      refine wpAnyH_ready (rs := [13]) (by kernel_rfl) (by simp) ?_
      refine AllReadyH.cons (o := _) rfl (fun K hK => ?_) (AllReadyH.nil)
      go_simp
      clear hHeld
      refine hK.out _ _ ⟨by simp [go_sem, *], by simp [go_sem, *], by simp [go_sem, *], by simp [go_sem, *], by simp [go_sem, *], by simp [go_sem, *], by simp [go_sem, *]⟩ (fun hHeld => ?_)
      clear hK K
      try simp only [Act.put, List.setIfInBounds_toArray, List.set_cons_zero, List.set_cons_succ, List.getElem_toArray, List.getElem_cons_succ, List.getElem_cons_zero]
      refine wpAnyH_take (i := 14) (oi := _) (v := Value.int .i64 v) rfl (by kernel_rfl) (by kernel_rfl) (by kernel_rfl) (fun _ _ _ h => h) (Or.inl ⟨by rfl, fun w' hSw => ?_⟩) hHeld ?_
      · obtain ⟨t0, t1, t2, t3, t4, t5, t6⟩ := hSw
        go_simp
        try simp [*]
        try (intro hh; exfalso; omega)
        try omega
      try simp only [Act.put, List.setIfInBounds_toArray, List.set_cons_zero, List.set_cons_succ, List.getElem_toArray, List.getElem_cons_succ, List.getElem_cons_zero]
      refine wpAnyH_done (by kernel_rfl) ?_ _
      clear hHeld
      have HBW := Lib.hid (show Below w.heap.size w (w3.alloc (.cells #[.int .i64 p, .int .i64 q] 52)) from (by repeat (first | exact HB3.out | refine Below.drew ?_ | refine Below.setCell ?_ (by first | omega | (simp; omega) | (simp; done)) _ | refine Below.alloc ?_ (by first | omega | (simp; omega) | (simp; done)) _)))
      clear u0 u1 e0 e1 e2 e3 t0 g4 g5
      by_cases hw0 : we ≤ 0
      · have hv : V = 0 := by rw [HVA.out, if_pos hw0]
        subst hv
        have hA : decide (an ≤ v) = true := by rw [hge]; exact decide_eq_true hw0
        have hA2 : an ≤ v := of_decide_eq_true hA
        clear HVA hge bw
        go_wp2_with fail
        go_ret2
        exact ⟨rfl, HBW.out⟩
      have hA : decide (an ≤ v) = false := by rw [hge]; exact decide_eq_false hw0
      have hA2 : ¬ an ≤ v := of_decide_eq_false hA
      obtain ⟨fw, hfw⟩ : ∃ fw, fw = fr * we := ⟨_, rfl⟩
      have W2 : IntKind.i64.wrap (fr * we) = fw := by rw [hfw, IntKind.wrap_i64]; omega
      have hv : V = alwV fw ⟨p1, q1⟩ := by rw [HVA.out, if_neg hw0, hfw]
      clear HVA hge bw hfw
      by_cases h1 : fw < p1
      · have hv2 : V = 0 := by rw [hv]; unfold alwV; dsimp only; (repeat' split) <;> omega
        clear hv
        subst hv2
        have hd1 : decide (fw < p1) = true := decide_eq_true h1
        go_wp2_with fail
        go_ret2
        exact ⟨rfl, HBW.out⟩
      have hd1 : decide (fw < p1) = false := decide_eq_false h1
      by_cases h2 : q1 ≤ fw
      · have hv2 : V = 2 := by rw [hv]; unfold alwV; dsimp only; (repeat' split) <;> omega
        clear hv
        subst hv2
        have hd2 : decide (q1 ≤ fw) = true := decide_eq_true h2
        go_wp2_with fail
        go_ret2
        exact ⟨rfl, HBW.out⟩
      · have hv2 : V = 1 := by rw [hv]; unfold alwV; dsimp only; (repeat' split) <;> omega
        clear hv
        subst hv2
        have hd2 : decide (q1 ≤ fw) = false := decide_eq_false h2
        go_wp2_with fail
        go_ret2
        exact ⟨rfl, HBW.out⟩
    · go_simp
      clear hHeld
      refine hK.out _ _ ⟨by simp [go_sem, *], by simp [go_sem, *], by simp [go_sem, *], by simp [go_sem, *], by simp [go_sem, *], by simp [go_sem, *]⟩ (fun hHeld => ?_)
      clear hK K
      try simp only [Act.put, List.setIfInBounds_toArray, List.set_cons_zero, List.set_cons_succ, List.getElem_toArray, List.getElem_cons_succ, List.getElem_cons_zero]
      refine wpAnyH_ready (rs := [8]) (by kernel_rfl) (by simp) ?_
      refine AllReadyH.cons (o := _) rfl (fun K hK => ?_) (AllReadyH.nil)
      go_simp
      go_at_call 37
      refine Calls.mono (c37 _ (by repeat (first | exact HB1.out | exact HB2.out | exact HB3.out | refine Below.drew ?_ | refine Below.setCell ?_ (by first | omega | (simp; omega) | (simp; done)) _ | refine Below.alloc ?_ (by first | omega | (simp; omega) | (simp; done)) _))) ?_
      rintro e w3 ⟨v3, rfl, hP, hown, hb⟩
      obtain ⟨a3, ct3, rfl⟩ := hP.form
      obtain ⟨b3, off3, rfl, hb3, t0⟩ := hP.get m (by rw [HLL.out]; omega)
      rw [HL1.out] at t0
      rw [HLL.out]
      clear hP
      have g0 := (hb.cell (p := ⟨w.heap.size, 0, none⟩) (by first | (simp; omega) | omega)).trans (show (w2.alloc (.cells #[.int .i64 0, .int .i64 0] 52)).cell? ⟨w.heap.size, 0, none⟩ = some (.int .i64 d) by simp [go_sem, *])
      have g1 := (hb.cell (p := ⟨w.heap.size, 1, none⟩) (by first | (simp; omega) | omega)).trans (show (w2.alloc (.cells #[.int .i64 0, .int .i64 0] 52)).cell? ⟨w.heap.size, 1, none⟩ = some (.slice a (m + 1) cap) by simp [go_sem, *])
      have g2 := (hb.cell (p := ⟨w.heap.size, 2, none⟩) (by first | (simp; omega) | omega)).trans (show (w2.alloc (.cells #[.int .i64 0, .int .i64 0] 52)).cell? ⟨w.heap.size, 2, none⟩ = some (.int .i64 an) by simp [go_sem, *])
      have g3 := (hb.cell (p := ⟨w.heap.size, 3, none⟩) (by first | (simp; omega) | omega)).trans (show (w2.alloc (.cells #[.int .i64 0, .int .i64 0] 52)).cell? ⟨w.heap.size, 3, none⟩ = some (.int .i64 fr) by simp [go_sem, *])
      have g4 := (hb.cell (p := ⟨b2, off2 + m * 2, none⟩) (by first | (simp; omega) | omega)).trans (show (w2.alloc (.cells #[.int .i64 0, .int .i64 0] 52)).cell? ⟨b2, off2 + m * 2, none⟩ = some (.int .i64 p) by simp [go_sem, *])
      have g5 := (hb.cell (p := ⟨b2, off2 + m * 2 + 1, none⟩) (by first | (simp; omega) | omega)).trans (show (w2.alloc (.cells #[.int .i64 0, .int .i64 0] 52)).cell? ⟨b2, off2 + m * 2 + 1, none⟩ = some (.int .i64 q) by simp [go_sem, *])
      have hown3 := hown b3 rfl
      try simp at hown3
      clear hown
      have z3 : w2.heap.size ≤ w3.heap.size := by have := hb.size; (try simp at this); omega
      have y3 : ¬ w.heap.size = w3.heap.size := by omega
      have HB3 := Lib.hid (show Below w.heap.size w w3 from Below.trans (b := w2.alloc (.cells #[.int .i64 0, .int .i64 0] 52)) (by repeat (first | exact HB1.out | exact HB2.out | exact HB3.out | refine Below.drew ?_ | refine Below.setCell ?_ (by first | omega | (simp; omega) | (simp; done)) _ | refine Below.alloc ?_ (by first | omega | (simp; omega) | (simp; done)) _)) (hb.mono (by first | (simp; omega) | omega)))
      have zz3 : w.heap.size < w3.heap.size := by omega
      have zb3 : b2 < w3.heap.size := by omega
      have q3 : ¬ b2 = w3.heap.size := by omega
      have q3b : ¬ b3 = w3.heap.size := by omega
      have n0 : w3.cell? ⟨w2.heap.size, 0, none⟩ = some (.int .i64 0) := (hb.cell (p := ⟨w2.heap.size, 0, none⟩) (by simp)).trans (by simp [go_sem])
      have n1 : w3.cell? ⟨w2.heap.size, 1, none⟩ = some (.int .i64 0) := (hb.cell (p := ⟨w2.heap.size, 1, none⟩) (by simp)).trans (by simp [go_sem])
      have n2 : w3.frozen? ⟨w2.heap.size, 0, none⟩ = false := (hb.frozen (p := ⟨w2.heap.size, 0, none⟩) (by simp)).trans (by simp [go_sem])
      have n3 : w3.frozen? ⟨w2.heap.size, 1, none⟩ = false := (hb.frozen (p := ⟨w2.heap.size, 1, none⟩) (by simp)).trans (by simp [go_sem])
      have q4 : ¬ w.heap.size = w2.heap.size := by omega
      have q5 : ¬ b2 = w2.heap.size := by omega
      have q6 : ¬ b3 = w2.heap.size := by omega
      clear hb
      clear hHeld
      refine hK.out _ _ ⟨g0, g1, g2, g3, g4, g5⟩ (fun hHeld => ?_)
      clear hK K
      try simp only [Act.put, List.setIfInBounds_toArray, List.set_cons_zero, List.set_cons_succ, List.getElem_toArray, List.getElem_cons_succ, List.getElem_cons_zero]
      obtain ⟨hq0, hq1, hq2, hq3, hq4, hq5⟩ := hHeld
      refine wpAnyH_switch (S' := fun w' => w'.cell? ⟨w.heap.size, 0, none⟩ = some (.int .i64 d) ∧ w'.cell? ⟨w.heap.size, 1, none⟩ = some (.slice a (m + 1) cap) ∧ w'.cell? ⟨w.heap.size, 2, none⟩ = some (.int .i64 an) ∧ w'.cell? ⟨w.heap.size, 3, none⟩ = some (.int .i64 fr) ∧ w'.cell? ⟨b2, off2 + m * 2, none⟩ = some (.int .i64 p) ∧ w'.cell? ⟨b2, off2 + m * 2 + 1, none⟩ = some (.int .i64 q) ∧ w'.cell? ⟨b3, off3 + m, none⟩ = some (.int .i64 v)) (fun w' h => ⟨h.1, h.2.1, h.2.2.1, h.2.2.2.1, h.2.2.2.2.1, h.2.2.2.2.2.1⟩) ⟨hq0, hq1, hq2, hq3, hq4, hq5, t0⟩ (fun hHeld => ?_)
      clear hq0 hq1 hq2 hq3 hq4 hq5
      refine wpAnyH_take (i := 10) (oi := _) (v := Value.pointer (some ⟨b3, off3 + m, none⟩)) rfl (by kernel_rfl) (by kernel_rfl) (by kernel_rfl) (fun _ _ _ h => h) (Or.inl ⟨by rfl, fun w' hSw => ?_⟩) hHeld ?_
      · obtain ⟨t0, t1, t2, t3, t4, t5, t6⟩ := hSw
        go_simp
        try simp [*]
        try (intro hh; exfalso; omega)
        try omega
      try simp only [Act.put, List.setIfInBounds_toArray, List.set_cons_zero, List.set_cons_succ, List.getElem_toArray, List.getElem_cons_succ, List.getElem_cons_zero]
      refine wpAnyH_take (i := 11) (oi := _) (v := Value.int .i64 v) rfl (by kernel_rfl) (by kernel_rfl) (by kernel_rfl) (fun _ _ _ h => h) (Or.inl ⟨by rfl, fun w' hSw => ?_⟩) hHeld ?_
      · obtain ⟨t0, t1, t2, t3, t4, t5, t6⟩ := hSw
        go_simp
        try simp [*]
        try (intro hh; exfalso; omega)
        try omega
      try simp only [Act.put, List.setIfInBounds_toArray, List.set_cons_zero, List.set_cons_succ, List.getElem_toArray, List.getElem_cons_succ, List.getElem_cons_zero]
      refine wpAnyH_ready (rs := [13]) (by kernel_rfl) (by simp) ?_
      refine AllReadyH.cons (o := _) rfl (fun K hK => ?_) (AllReadyH.nil)
      go_simp
      clear hHeld
      refine hK.out _ _ ⟨by simp [go_sem, *], by simp [go_sem, *], by simp [go_sem, *], by simp [go_sem, *], by simp [go_sem, *], by simp [go_sem, *], by simp [go_sem, *]⟩ (fun hHeld => ?_)
      clear hK K
      try simp only [Act.put, List.setIfInBounds_toArray, List.set_cons_zero, List.set_cons_succ, List.getElem_toArray, List.getElem_cons_succ, List.getElem_cons_zero]
      refine wpAnyH_take (i := 14) (oi := _) (v := Value.int .i64 v) rfl (by kernel_rfl) (by kernel_rfl) (by kernel_rfl) (fun _ _ _ h => h) (Or.inl ⟨by rfl, fun w' hSw => ?_⟩) hHeld ?_
      · obtain ⟨t0, t1, t2, t3, t4, t5, t6⟩ := hSw
        go_simp
        try simp [*]
        try (intro hh; exfalso; omega)
        try omega
      try simp only [Act.put, List.setIfInBounds_toArray, List.set_cons_zero, List.set_cons_succ, List.getElem_toArray, List.getElem_cons_succ, List.getElem_cons_zero]
      refine wpAnyH_done (by kernel_rfl) ?_ _
      clear hHeld
      have HBW := Lib.hid (show Below w.heap.size w ((w3.setCell ⟨w2.heap.size, 0, none⟩ (.int .i64 p)).setCell ⟨w2.heap.size, 1, none⟩ (.int .i64 q)) from (by repeat (first | exact HB3.out | refine Below.drew ?_ | refine Below.setCell ?_ (by first | omega | (simp; omega) | (simp; done)) _ | refine Below.alloc ?_ (by first | omega | (simp; omega) | (simp; done)) _)))
      clear u0 u1 e0 e1 e2 e3 t0 g4 g5
      by_cases hw0 : we ≤ 0
      · have hv : V = 0 := by rw [HVA.out, if_pos hw0]
        subst hv
        have hA : decide (an ≤ v) = true := by rw [hge]; exact decide_eq_true hw0
        have hA2 : an ≤ v := of_decide_eq_true hA
        clear HVA hge bw
        go_wp2_with fail
        go_ret2
        exact ⟨rfl, HBW.out⟩
      have hA : decide (an ≤ v) = false := by rw [hge]; exact decide_eq_false hw0
      have hA2 : ¬ an ≤ v := of_decide_eq_false hA
      obtain ⟨fw, hfw⟩ : ∃ fw, fw = fr * we := ⟨_, rfl⟩
      have W2 : IntKind.i64.wrap (fr * we) = fw := by rw [hfw, IntKind.wrap_i64]; omega
      have hv : V = alwV fw ⟨p1, q1⟩ := by rw [HVA.out, if_neg hw0, hfw]
      clear HVA hge bw hfw
      by_cases h1 : fw < p1
      · have hv2 : V = 0 := by rw [hv]; unfold alwV; dsimp only; (repeat' split) <;> omega
        clear hv
        subst hv2
        have hd1 : decide (fw < p1) = true := decide_eq_true h1
        go_wp2_with fail
        go_ret2
        exact ⟨rfl, HBW.out⟩
      have hd1 : decide (fw < p1) = false := decide_eq_false h1
      by_cases h2 : q1 ≤ fw
      · have hv2 : V = 2 := by rw [hv]; unfold alwV; dsimp only; (repeat' split) <;> omega
        clear hv
        subst hv2
        have hd2 : decide (q1 ≤ fw) = true := decide_eq_true h2
        go_wp2_with fail
        go_ret2
        exact ⟨rfl, HBW.out⟩
      · have hv2 : V = 1 := by rw [hv]; unfold alwV; dsimp only; (repeat' split) <;> omega
        clear hv
        subst hv2
        have hd2 : decide (q1 ≤ fw) = false := decide_eq_false h2
        go_wp2_with fail
        go_ret2
        exact ⟨rfl, HBW.out⟩
  · go_simp
    clear hHeld
    refine hK.out _ _ ⟨by simp [go_sem, *], by simp [go_sem, *], by simp [go_sem, *], by simp [go_sem, *]⟩ (fun hHeld => ?_)
    clear hK K
    try simp only [Act.put, List.setIfInBounds_toArray, List.set_cons_zero, List.set_cons_succ, List.getElem_toArray, List.getElem_cons_succ, List.getElem_cons_zero]
    refine wpAnyH_ready (rs := [3]) (by kernel_rfl) (by simp) ?_
    refine AllReadyH.cons (o := _) rfl (fun K hK => ?_) (AllReadyH.nil)
    go_simp
    go_at_call 36
    refine Calls.mono (c36 _ (by repeat (first | exact HB1.out | exact HB2.out | exact HB3.out | refine Below.drew ?_ | refine Below.setCell ?_ (by first | omega | (simp; omega) | (simp; done)) _ | refine Below.alloc ?_ (by first | omega | (simp; omega) | (simp; done)) _))) ?_
    rintro e w2 ⟨v2, rfl, hP, hown, hb⟩
    obtain ⟨a2, ct2, rfl⟩ := hP.form
    obtain ⟨b2, off2, rfl, hb2, u0, u1⟩ := hP.get m (by rw [HRL.out]; omega)
    rw [HP1.out] at u0 u1
    rw [HRL.out]
    clear hP
    have e0 := (hb.cell (p := ⟨w.heap.size, 0, none⟩) (by first | (simp; omega) | omega)).trans (show ((w1.alloc (.cells #[.int .i64 0, .int .i64 0] 52)).drew).cell? ⟨w.heap.size, 0, none⟩ = some (.int .i64 d) by simp [go_sem, *])
    have e1 := (hb.cell (p := ⟨w.heap.size, 1, none⟩) (by first | (simp; omega) | omega)).trans (show ((w1.alloc (.cells #[.int .i64 0, .int .i64 0] 52)).drew).cell? ⟨w.heap.size, 1, none⟩ = some (.slice a (m + 1) cap) by simp [go_sem, *])
    have e2 := (hb.cell (p := ⟨w.heap.size, 2, none⟩) (by first | (simp; omega) | omega)).trans (show ((w1.alloc (.cells #[.int .i64 0, .int .i64 0] 52)).drew).cell? ⟨w.heap.size, 2, none⟩ = some (.int .i64 an) by simp [go_sem, *])
    have e3 := (hb.cell (p := ⟨w.heap.size, 3, none⟩) (by first | (simp; omega) | omega)).trans (show ((w1.alloc (.cells #[.int .i64 0, .int .i64 0] 52)).drew).cell? ⟨w.heap.size, 3, none⟩ = some (.int .i64 fr) by simp [go_sem, *])
    have hown2 := hown b2 rfl
    try simp at hown2
    clear hown
    have z2 : w.heap.size < w2.heap.size := by have := hb.size; (try simp at this); omega
    have y2 : ¬ w.heap.size = w2.heap.size := by omega
    have HB2 := Lib.hid (show Below w.heap.size w w2 from Below.trans (b := (w1.alloc (.cells #[.int .i64 0, .int .i64 0] 52)).drew) (by repeat (first | exact HB1.out | exact HB2.out | exact HB3.out | refine Below.drew ?_ | refine Below.setCell ?_ (by first | omega | (simp; omega) | (simp; done)) _ | refine Below.alloc ?_ (by first | omega | (simp; omega) | (simp; done)) _)) (hb.mono (by first | (simp; omega) | omega)))
    have x2 : w1.heap.size ≤ w2.heap.size := by have := hb.size; (try simp at this); omega
    have q4 : ¬ w.heap.size = w1.heap.size := by omega
    have m0 : w2.cell? ⟨w1.heap.size, 0, none⟩ = some (.int .i64 0) := (hb.cell (p := ⟨w1.heap.size, 0, none⟩) (by simp)).trans (by simp [go_sem])
    have m1 : w2.cell? ⟨w1.heap.size, 1, none⟩ = some (.int .i64 0) := (hb.cell (p := ⟨w1.heap.size, 1, none⟩) (by simp)).trans (by simp [go_sem])
    have m2 : w2.frozen? ⟨w1.heap.size, 0, none⟩ = false := (hb.frozen (p := ⟨w1.heap.size, 0, none⟩) (by simp)).trans (by simp [go_sem])
    have m3 : w2.frozen? ⟨w1.heap.size, 1, none⟩ = false := (hb.frozen (p := ⟨w1.heap.size, 1, none⟩) (by simp)).trans (by simp [go_sem])
    have x2b : w1.heap.size < w2.heap.size := by have := hb.size; (try simp at this); omega
    clear hb
    clear hHeld
    refine hK.out _ _ ⟨e0, e1, e2, e3⟩ (fun hHeld => ?_)
    clear hK K
    try simp only [Act.put, List.setIfInBounds_toArray, List.set_cons_zero, List.set_cons_succ, List.getElem_toArray, List.getElem_cons_succ, List.getElem_cons_zero]
    obtain ⟨hq0, hq1, hq2, hq3⟩ := hHeld
    refine wpAnyH_switch (S' := fun w' => w'.cell? ⟨w.heap.size, 0, none⟩ = some (.int .i64 d) ∧ w'.cell? ⟨w.heap.size, 1, none⟩ = some (.slice a (m + 1) cap) ∧ w'.cell? ⟨w.heap.size, 2, none⟩ = some (.int .i64 an) ∧ w'.cell? ⟨w.heap.size, 3, none⟩ = some (.int .i64 fr) ∧ w'.cell? ⟨b2, off2 + m * 2, none⟩ = some (.int .i64 p) ∧ w'.cell? ⟨b2, off2 + m * 2 + 1, none⟩ = some (.int .i64 q)) (fun w' h => ⟨h.1, h.2.1, h.2.2.1, h.2.2.2.1⟩) ⟨hq0, hq1, hq2, hq3, u0, u1⟩ (fun hHeld => ?_)
    clear hq0 hq1 hq2 hq3
    refine wpAnyH_take (i := 5) (oi := _) (v := Value.pointer (some ⟨b2, off2 + m * 2, none⟩)) rfl (by kernel_rfl) (by kernel_rfl) (by kernel_rfl) (fun _ _ _ h => h) (Or.inl ⟨by rfl, fun w' hSw => ?_⟩) hHeld ?_
    · obtain ⟨t0, t1, t2, t3, t4, t5⟩ := hSw
      go_simp
      try simp [*]
      try (intro hh; exfalso; omega)
      try omega
    try simp only [Act.put, List.setIfInBounds_toArray, List.set_cons_zero, List.set_cons_succ, List.getElem_toArray, List.getElem_cons_succ, List.getElem_cons_zero]
    refine wpAnyH_take (i := 6) (oi := _) (v := Value.agg #[Value.int .i64 p, Value.int .i64 q]) rfl (by kernel_rfl) (by kernel_rfl) (by kernel_rfl) (fun _ _ _ h => h) (Or.inl ⟨by rfl, fun w' hSw => ?_⟩) hHeld ?_
    · obtain ⟨t0, t1, t2, t3, t4, t5⟩ := hSw
      go_simp
      try simp [*]
      try (intro hh; exfalso; omega)
      try omega
    try simp only [Act.put, List.setIfInBounds_toArray, List.set_cons_zero, List.set_cons_succ, List.getElem_toArray, List.getElem_cons_succ, List.getElem_cons_zero]
    refine wpAnyH_ready (rs := [8]) (by kernel_rfl) (by simp) ?_
    refine AllReadyH.cons (o := _) rfl (fun K hK => ?_) (AllReadyH.nil)
    go_simp
    go_at_call 37
    refine Calls.mono (c37 _ (by repeat (first | exact HB1.out | exact HB2.out | exact HB3.out | refine Below.drew ?_ | refine Below.setCell ?_ (by first | omega | (simp; omega) | (simp; done)) _ | refine Below.alloc ?_ (by first | omega | (simp; omega) | (simp; done)) _))) ?_
    rintro e w3 ⟨v3, rfl, hP, hown, hb⟩
    obtain ⟨a3, ct3, rfl⟩ := hP.form
    obtain ⟨b3, off3, rfl, hb3, t0⟩ := hP.get m (by rw [HLL.out]; omega)
    rw [HL1.out] at t0
    rw [HLL.out]
    clear hP
    have g0 := (hb.cell (p := ⟨w.heap.size, 0, none⟩) (by first | (simp; omega) | omega)).trans (show (w2).cell? ⟨w.heap.size, 0, none⟩ = some (.int .i64 d) by simp [go_sem, *])
    have g1 := (hb.cell (p := ⟨w.heap.size, 1, none⟩) (by first | (simp; omega) | omega)).trans (show (w2).cell? ⟨w.heap.size, 1, none⟩ = some (.slice a (m + 1) cap) by simp [go_sem, *])
    have g2 := (hb.cell (p := ⟨w.heap.size, 2, none⟩) (by first | (simp; omega) | omega)).trans (show (w2).cell? ⟨w.heap.size, 2, none⟩ = some (.int .i64 an) by simp [go_sem, *])
    have g3 := (hb.cell (p := ⟨w.heap.size, 3, none⟩) (by first | (simp; omega) | omega)).trans (show (w2).cell? ⟨w.heap.size, 3, none⟩ = some (.int .i64 fr) by simp [go_sem, *])
    have g4 := (hb.cell (p := ⟨b2, off2 + m * 2, none⟩) (by first | (simp; omega) | omega)).trans (show (w2).cell? ⟨b2, off2 + m * 2, none⟩ = some (.int .i64 p) by simp [go_sem, *])
    have g5 := (hb.cell (p := ⟨b2, off2 + m * 2 + 1, none⟩) (by first | (simp; omega) | omega)).trans (show (w2).cell? ⟨b2, off2 + m * 2 + 1, none⟩ = some (.int .i64 q) by simp [go_sem, *])
    have hown3 := hown b3 rfl
    try simp at hown3
    clear hown
    have z3 : w2.heap.size ≤ w3.heap.size := by have := hb.size; (try simp at this); omega
    have y3 : ¬ w.heap.size = w3.heap.size := by omega
    have HB3 := Lib.hid (show Below w.heap.size w w3 from Below.trans (b := w2) (by repeat (first | exact HB1.out | exact HB2.out | exact HB3.out | refine Below.drew ?_ | refine Below.setCell ?_ (by first | omega | (simp; omega) | (simp; done)) _ | refine Below.alloc ?_ (by first | omega | (simp; omega) | (simp; done)) _)) (hb.mono (by first | (simp; omega) | omega)))
    have zz3 : w.heap.size < w3.heap.size := by omega
    have zb3 : b2 < w3.heap.size := by omega
    have q3 : ¬ b2 = w3.heap.size := by omega
    have q3b : ¬ b3 = w3.heap.size := by omega
    have n0 := (hb.cell (p := ⟨w1.heap.size, 0, none⟩) x2b).trans m0
    have n1 := (hb.cell (p := ⟨w1.heap.size, 1, none⟩) x2b).trans m1
    have n2 := (hb.frozen (p := ⟨w1.heap.size, 0, none⟩) x2b).trans m2
    have n3 := (hb.frozen (p := ⟨w1.heap.size, 1, none⟩) x2b).trans m3
    clear hb
    have q5 : ¬ b2 = w1.heap.size := by omega
    have q6 : ¬ b3 = w1.heap.size := by omega
    clear hHeld
    refine hK.out _ _ ⟨g0, g1, g2, g3, g4, g5⟩ (fun hHeld => ?_)
    clear hK K
    try simp only [Act.put, List.setIfInBounds_toArray, List.set_cons_zero, List.set_cons_succ, List.getElem_toArray, List.getElem_cons_succ, List.getElem_cons_zero]
    obtain ⟨hq0, hq1, hq2, hq3, hq4, hq5⟩ := hHeld
    refine wpAnyH_switch (S' := fun w' => w'.cell? ⟨w.heap.size, 0, none⟩ = some (.int .i64 d) ∧ w'.cell? ⟨w.heap.size, 1, none⟩ = some (.slice a (m + 1) cap) ∧ w'.cell? ⟨w.heap.size, 2, none⟩ = some (.int .i64 an) ∧ w'.cell? ⟨w.heap.size, 3, none⟩ = some (.int .i64 fr) ∧ w'.cell? ⟨b2, off2 + m * 2, none⟩ = some (.int .i64 p) ∧ w'.cell? ⟨b2, off2 + m * 2 + 1, none⟩ = some (.int .i64 q) ∧ w'.cell? ⟨b3, off3 + m, none⟩ = some (.int .i64 v)) (fun w' h => ⟨h.1, h.2.1, h.2.2.1, h.2.2.2.1, h.2.2.2.2.1, h.2.2.2.2.2.1⟩) ⟨hq0, hq1, hq2, hq3, hq4, hq5, t0⟩ (fun hHeld => ?_)
    clear hq0 hq1 hq2 hq3 hq4 hq5
    refine wpAnyH_take (i := 10) (oi := _) (v := Value.pointer (some ⟨b3, off3 + m, none⟩)) rfl (by kernel_rfl) (by kernel_rfl) (by kernel_rfl) (fun _ _ _ h => h) (Or.inl ⟨by rfl, fun w' hSw => ?_⟩) hHeld ?_
    · obtain ⟨t0, t1, t2, t3, t4, t5, t6⟩ := hSw
      go_simp
      try simp [*]
      try (intro hh; exfalso; omega)
      try omega
    try simp only [Act.put, List.setIfInBounds_toArray, List.set_cons_zero, List.set_cons_succ, List.getElem_toArray, List.getElem_cons_succ, List.getElem_cons_zero]
    refine wpAnyH_take (i := 11) (oi := _) (v := Value.int .i64 v) rfl (by kernel_rfl) (by kernel_rfl) (by kernel_rfl) (fun _ _ _ h => h) (Or.inl ⟨by rfl, fun w' hSw => ?_⟩) hHeld ?_
    · obtain ⟨t0, t1, t2, t3, t4, t5, t6⟩ := hSw
      go_simp
      try simp [*]
      try (intro hh; exfalso; omega)
      try omega
    try simp only [Act.put, List.setIfInBounds_toArray, List.set_cons_zero, List.set_cons_succ, List.getElem_toArray, List.getElem_cons_succ, List.getElem_cons_zero]
    refine wpAnyH_ready (rs := [13]) (by kernel_rfl) (by simp) ?_
    refine AllReadyH.cons (o := _) rfl (fun K hK => ?_) (AllReadyH.nil)
    go_simp
    clear hHeld
    refine hK.out _ _ ⟨by simp [go_sem, *], by simp [go_sem, *], by simp [go_sem, *], by simp [go_sem, *], by simp [go_sem, *], by simp [go_sem, *], by simp [go_sem, *]⟩ (fun hHeld => ?_)
    clear hK K
    try simp only [Act.put, List.setIfInBounds_toArray, List.set_cons_zero, List.set_cons_succ, List.getElem_toArray, List.getElem_cons_succ, List.getElem_cons_zero]
    refine wpAnyH_take (i := 14) (oi := _) (v := Value.int .i64 v) rfl (by kernel_rfl) (by kernel_rfl) (by kernel_rfl) (fun _ _ _ h => h) (Or.inl ⟨by rfl, fun w' hSw => ?_⟩) hHeld ?_
    · obtain ⟨t0, t1, t2, t3, t4, t5, t6⟩ := hSw
      go_simp
      try simp [*]
      try (intro hh; exfalso; omega)
      try omega
    try simp only [Act.put, List.setIfInBounds_toArray, List.set_cons_zero, List.set_cons_succ, List.getElem_toArray, List.getElem_cons_succ, List.getElem_cons_zero]
    refine wpAnyH_done (by kernel_rfl) ?_ _
    clear hHeld
    have HBW := Lib.hid (show Below w.heap.size w ((w3.setCell ⟨w1.heap.size, 0, none⟩ (.int .i64 p)).setCell ⟨w1.heap.size, 1, none⟩ (.int .i64 q)) from (by repeat (first | exact HB3.out | refine Below.drew ?_ | refine Below.setCell ?_ (by first | omega | (simp; omega) | (simp; done)) _ | refine Below.alloc ?_ (by first | omega | (simp; omega) | (simp; done)) _)))
    clear u0 u1 e0 e1 e2 e3 t0 g4 g5
    by_cases hw0 : we ≤ 0
    · have hv : V = 0 := by rw [HVA.out, if_pos hw0]
      subst hv
      have hA : decide (an ≤ v) = true := by rw [hge]; exact decide_eq_true hw0
      have hA2 : an ≤ v := of_decide_eq_true hA
      clear HVA hge bw
      go_wp2_with fail
      go_ret2
      exact ⟨rfl, HBW.out⟩
    have hA : decide (an ≤ v) = false := by rw [hge]; exact decide_eq_false hw0
    have hA2 : ¬ an ≤ v := of_decide_eq_false hA
    obtain ⟨fw, hfw⟩ : ∃ fw, fw = fr * we := ⟨_, rfl⟩
    have W2 : IntKind.i64.wrap (fr * we) = fw := by rw [hfw, IntKind.wrap_i64]; omega
    have hv : V = alwV fw ⟨p1, q1⟩ := by rw [HVA.out, if_neg hw0, hfw]
    clear HVA hge bw hfw
    by_cases h1 : fw < p1
    · have hv2 : V = 0 := by rw [hv]; unfold alwV; dsimp only; (repeat' split) <;> omega
      clear hv
      subst hv2
      have hd1 : decide (fw < p1) = true := decide_eq_true h1
      go_wp2_with fail
      go_ret2
      exact ⟨rfl, HBW.out⟩
    have hd1 : decide (fw < p1) = false := decide_eq_false h1
    by_cases h2 : q1 ≤ fw
    · have hv2 : V = 2 := by rw [hv]; unfold alwV; dsimp only; (repeat' split) <;> omega
      clear hv
      subst hv2
      have hd2 : decide (q1 ≤ fw) = true := decide_eq_true h2
      go_wp2_with fail
      go_ret2
      exact ⟨rfl, HBW.out⟩
    · have hv2 : V = 1 := by rw [hv]; unfold alwV; dsimp only; (repeat' split) <;> omega
      clear hv
      subst hv2
      have hd2 : decide (q1 ≤ fw) = false := decide_eq_false h2
      go_wp2_with fail
      go_ret2
      exact ⟨rfl, HBW.out⟩

end Go.Proofs.YtmodplodnimmkaaDoor
namespace Go.Proofs.YtmodplodnimmkaaDoor
open Go.RowKit Go.Shelf
set_option linter.unusedSimpArgs false
theorem strV_len (d : Int) (zs : List El) (an fr : Int) (cs : List Pr) (free : Bool) : (strV d zs an fr cs free).length ≤ 40 := by
  unfold strV
  split
  · rename_i h; rw [strL_len]; exact (staE_ok h).1.most
  · simp
theorem brkL_len (d : Int) (zs : List El) (an fr k : Int) : (brkL d zs an fr k).length ≤ 40 := by
  unfold brkL
  split
  · rename_i h
    have hm : mooE d zs an fr = 0 := by
      by_cases h0 : mooE d zs an fr = 0
      · exact h0
      · unfold brkE at h; rw [if_neg h0] at h; exact absurd h h0
    have := (mooE_ok hm).2.1
    rw [List.length_drop]; omega
  · simp
set_option maxRecDepth 100000 in
set_option maxHeartbeats 40000000 in
theorem law_answers (d an fr : Int) (sv cv : Value) (zs : List El) (cs : List Pr) (free : Bool) (kk : Int) (w : World) (hTb : TabAt w) (hI : Els w.heap.size w sv zs) (hC : Prs w.heap.size w cv cs) :
    Calls Tryd.prog 3 #[.agg #[.int .i64 d, sv, .int .i64 an, .int .i64 fr], cv, .bool free, .int .i64 kk] w fun e w' => e = .returned (.bool true) ∧ Below w.heap.size w w' := by
  have hz0w := hTb.lt
  have c8 := fun w' (hb : Below w.heap.size w w') => strong_any d an fr sv cv zs cs free w' (hTb.at hb hz0w) (hI.at hb) (hC.at hb)
  have c9 := fun w' (hb : Below w.heap.size w w') => rstrong_any d an fr sv cv zs cs free w' (hI.at hb) (hC.at hb)
  have c10 := fun w' (hb : Below w.heap.size w w') => holds_any d an fr sv cv zs cs free w' (hTb.at hb hz0w) (hI.at hb) (hC.at hb)
  have c11 := fun w' (hb : Below w.heap.size w w') => rholds_any d an fr sv cv zs cs free w' (hI.at hb) (hC.at hb)
  have c12 := fun w' (hb : Below w.heap.size w w') => break_any d an fr kk sv zs w' (hI.at hb)
  have c13 := fun w' (hb : Below w.heap.size w w') => rbreak_any d an fr kk sv zs w' (hI.at hb)
  have HF := Lib.hid (fun W => fine_any W)
  have n1 := strV_len d zs an fr cs free
  have n2 := brkL_len d zs an fr kk
  have HI0 := Lib.hid hI
  obtain ⟨a, cap, rfl, hcap, hIc⟩ := hI
  have HIc := Lib.hid hIc
  obtain ⟨c, cap2, rfl, -, -⟩ := hC
  have cl := fun W => long_any d an fr a c zs.length cs.length cap cap2 W
  clear hTb hIc
  generalize strV d zs an fr cs free = SV at *
  generalize holV d zs an fr cs free = HV at *
  generalize staE d zs an fr cs = E at *
  generalize brkL d zs an fr kk = BL at *
  generalize brkN d zs an fr kk d = bd at *
  generalize brkN d zs an fr kk an = ban at *
  generalize brkN d zs an fr kk fr = bfr at *
  generalize brkF d zs an fr kk = bf at *
  generalize brkE d zs an fr kk = be at *
  have HZL := Lib.hid (show zs.length = zs.length from rfl)
  generalize hlen : zs.length = len at *
  have HLEN := Lib.hid hlen
  clear hlen HZL
  generalize cs.length = len2 at *
  obtain ⟨A, hA⟩ : ∃ A, A = w.alloc (.cells #[.int .i64 d, .slice a len cap, .int .i64 an, .int .i64 fr] 24) := ⟨_, rfl⟩
  have hzA : A.heap.size = w.heap.size + 1 := by rw [hA]; simp
  have KK := Lib.hid (show ∀ W, Below (w.heap.size + 1) A W → W.cell? ⟨w.heap.size, 0, none⟩ = some (.int .i64 d) ∧ W.cell? ⟨w.heap.size, 1, none⟩ = some (.slice a len cap) ∧ W.cell? ⟨w.heap.size, 2, none⟩ = some (.int .i64 an) ∧ W.cell? ⟨w.heap.size, 3, none⟩ = some (.int .i64 fr) from fun W h => by
    refine ⟨(h.cell (p := ⟨w.heap.size, 0, none⟩) (Nat.lt_succ_self _)).trans ?_, (h.cell (p := ⟨w.heap.size, 1, none⟩) (Nat.lt_succ_self _)).trans ?_, (h.cell (p := ⟨w.heap.size, 2, none⟩) (Nat.lt_succ_self _)).trans ?_, (h.cell (p := ⟨w.heap.size, 3, none⟩) (Nat.lt_succ_self _)).trans ?_⟩ <;> (rw [hA]; simp [go_sem]))
  have HBA := Lib.hid (show ∀ W, Below (w.heap.size + 1) A W → Below w.heap.size w W from fun W h => by
    have e : Below w.heap.size w A := by rw [hA]; exact (Below.refl _ _).alloc (Nat.le_refl _) _
    exact e.trans (h.mono (Nat.le_succ _)))
  cases hl : (decide ((60 : Int) < (len : Int)) || decide ((60 : Int) < (len2 : Int)))
  rotate_left
  · rw [hl] at cl
    clear c8 c9 c10 c11 c12 c13 hl n1 n2 HI0 HIc HLEN
    go_enter Tryd.func3, Tryd.ntmps3
    go_wp2_with fail
    try rw [← hA]
    refine (cl _).mono ?_
    rintro e w1 ⟨rfl, hb⟩
    have hB1 : Below (w.heap.size + 1) A w1 := hb.mono (by omega)
    clear hb hA
    obtain ⟨k0, k1, k2, k3⟩ := KK.out _ hB1
    have HB := Lib.hid (HBA.out _ hB1)
    clear k0 k1 k2 k3
    go_wp2_with fail
    refine (HF.out _).mono ?_
    rintro e w2 ⟨rfl, hb⟩
    have HB2 := Lib.hid (HB.out.trans (hb.mono HB.out.size))
    clear hb
    go_wp2_with fail
    go_ret
    exact ⟨rfl, HB2.out⟩
  have hlen60 : len ≤ 60 := by have := hl; simp at this; omega
  rw [hl] at cl
  clear hl
  go_enter Tryd.func3, Tryd.ntmps3
  go_wp2_with fail
  try rw [← hA]
  refine (cl _).mono ?_
  rintro e w1 ⟨rfl, hb⟩
  have hB1 : Below (w.heap.size + 1) A w1 := hb.mono (by omega)
  clear hb hA
  obtain ⟨k0, k1, k2, k3⟩ := KK.out _ hB1
  go_wp2_with fail
  refine (c8 _ (HBA.out _ hB1)).mono ?_
  rintro e w2 ⟨v2, rfl, hP, hb⟩
  have hB2 : Below (w.heap.size + 1) A w2 := hB1.trans (hb.mono (by have := hB1.size; omega))
  have L0 := Lib.hid hP
  obtain ⟨a0, g0, rfl⟩ := hP.form
  clear hP
  clear hb k0 k1 k2 k3
  obtain ⟨k0, k1, k2, k3⟩ := KK.out _ hB2
  go_wp2_with fail
  refine (c9 _ (HBA.out _ hB2)).mono ?_
  rintro e w3 ⟨v3, rfl, hP, hb⟩
  have hB3 : Below (w.heap.size + 1) A w3 := hB2.trans (hb.mono (by have := hB2.size; omega))
  replace L0 := Lib.hid (L0.out.at hb)
  have L1 := Lib.hid hP
  obtain ⟨a1, g1, rfl⟩ := hP.form
  clear hP
  clear hb k0 k1 k2 k3
  obtain ⟨k0, k1, k2, k3⟩ := KK.out _ hB3
  clear cl c8 c9
  generalize hn : SV.length = n at *
  have HN := Lib.hid hn
  clear hn
  have hs3 := hB3.size
  rw [hzA] at hs3
  have HB3 := Lib.hid hB3
  clear hB1 hB2 hB3 k0 k1 k2 k3
  go_wp2_with fail
  go_loopw [13] (fun i wr => ∃ k : Nat, k ≤ n ∧ i = .int .i64 k ∧ Below w3.heap.size w3 wr) (fun i _ => n - (intOf i).toNat)
  case atStart => exact ⟨0, Nat.zero_le _, rfl, Below.refl _ _⟩
  case round =>
    obtain ⟨k, hk, rfl, hg⟩ := hrel
    by_cases hlt : k < n
    · obtain ⟨b, off, rfl, hb, u0⟩ := L0.out.get k (by rw [HN.out]; exact hlt)
      obtain ⟨b2, off2, rfl, hb2, u1⟩ := L1.out.get k (by rw [HN.out]; exact hlt)
      have m0 := (hg.cell (p := ⟨b, off + k, none⟩) hb).trans u0
      have m1 := (hg.cell (p := ⟨b2, off2 + k, none⟩) hb2).trans u1
      have hki : (k : Int) < (n : Int) := by omega
      clear u0 u1
      generalize SV[k]?.getD 0 = x at *
      have HG := Lib.hid hg
      clear hg c10 c11 c12 c13 hb hb2
      go_wp2_with fail
      go_quiet (fail)
      go_wp2_with fail
      go_roundw
      case rel => exact ⟨k + 1, by omega, by go_num, below_drewN HG.out _⟩
      case measure => simp [intOf]; omega
    have hBr : Below (w.heap.size + 1) A wr := HB3.out.trans (hg.mono hs3)
    obtain ⟨k0, k1, k2, k3⟩ := KK.out _ hBr
    obtain rfl : k = n := by omega
    clear hg HB3 L0 L1
    go_wp2_with fail
    refine (c10 _ (HBA.out _ hBr)).mono ?_
    rintro e w4 ⟨rfl, hb⟩
    have hB4 : Below (w.heap.size + 1) A w4 := hBr.trans (hb.mono (by have := hBr.size; omega))
    clear hb k0 k1 k2 k3
    obtain ⟨k0, k1, k2, k3⟩ := KK.out _ hB4
    go_wp2_with fail
    refine (c11 _ (HBA.out _ hB4)).mono ?_
    rintro e w5 ⟨rfl, hb⟩
    have hB5 : Below (w.heap.size + 1) A w5 := hB4.trans (hb.mono (by have := hB4.size; omega))
    clear hb k0 k1 k2 k3 c10 c11 hB4 hBr
    obtain ⟨k0, k1, k2, k3⟩ := KK.out _ hB5
    have hs5 := hB5.size
    rw [hzA] at hs5
    have z5 : w.heap.size < w5.heap.size := by omega
    have y5 : ¬ w.heap.size = w5.heap.size := by omega
    by_cases h0 : len = 0
    · subst h0
      clear HIc
      cases a
      · go_wp2_with fail
        obtain ⟨w6, hw6⟩ : ∃ W, W = w5.alloc (.cells #[] 56) := ⟨_, rfl⟩
        rw [← hw6]
        have hB6 : Below (w.heap.size + 1) A w6 := by rw [hw6]; exact hB5.alloc (by omega) _
        have HW := Lib.hid (show Els w6.heap.size w6 (.slice (some ⟨w5.heap.size, 0, none⟩) 0 0) zs from ⟨some ⟨w5.heap.size, 0, none⟩, 0, by rw [HLEN.out], by rw [HLEN.out]; exact Nat.le_refl _, fun k hk => by rw [HLEN.out] at hk; omega⟩)
        clear hw6 hB5
        refine (c12 _ (HBA.out _ hB6)).mono ?_
        rintro e w7 ⟨v7, rfl, hP, hb⟩
        have hB7 : Below (w.heap.size + 1) A w7 := hB6.trans (hb.mono (by have := hB6.size; omega))
        have HW7 := Lib.hid (HW.out.at hb)
        have HP7 := Lib.hid hP
        obtain ⟨a7, g7, rfl⟩ := hP.form
        clear hP hb k0 k1 k2 k3 HW hB6
        obtain ⟨k0, k1, k2, k3⟩ := KK.out _ hB7
        have hs7 := hB7.size
        rw [hzA] at hs7
        have z7 : w.heap.size < w7.heap.size := by omega
        have y7 : ¬ w.heap.size = w7.heap.size := by omega
        have y7b : ¬ w7.heap.size = w.heap.size := by omega
        generalize hnb : BL.length = nb at *
        have NBEQ := Lib.hid hnb
        clear hnb
        go_wp2_with fail
        obtain ⟨A7, hA7⟩ : ∃ A7, A7 = w7.alloc (.cells #[.int .i64 bd, .slice a7 nb g7, .int .i64 ban, .int .i64 bfr] 24) := ⟨_, rfl⟩
        have zA7 : A7.heap.size = w7.heap.size + 1 := by rw [hA7]; simp
        have hbA7 : Below w7.heap.size w7 A7 := by rw [hA7]; repeat (first | exact (Below.refl _ _) | refine Below.drew ?_ | refine below_drewN ?_ _ | refine Below.setCell ?_ (by first | omega | (simp; omega) | (simp; done)) _ | refine Below.alloc ?_ (by first | omega | (simp; omega) | (simp; done)) _)
        have K7 := Lib.hid (show ∀ W, Below A7.heap.size A7 W → W.cell? ⟨w7.heap.size, 0, none⟩ = some (.int .i64 bd) ∧ W.cell? ⟨w7.heap.size, 1, none⟩ = some (.slice a7 nb g7) ∧ W.cell? ⟨w7.heap.size, 2, none⟩ = some (.int .i64 ban) ∧ W.cell? ⟨w7.heap.size, 3, none⟩ = some (.int .i64 bfr) from fun W h => by
          refine ⟨(h.cell (p := ⟨w7.heap.size, 0, none⟩) (by rw [zA7]; exact Nat.lt_succ_self _)).trans ?_, (h.cell (p := ⟨w7.heap.size, 1, none⟩) (by rw [zA7]; exact Nat.lt_succ_self _)).trans ?_, (h.cell (p := ⟨w7.heap.size, 2, none⟩) (by rw [zA7]; exact Nat.lt_succ_self _)).trans ?_, (h.cell (p := ⟨w7.heap.size, 3, none⟩) (by rw [zA7]; exact Nat.lt_succ_self _)).trans ?_⟩ <;> (rw [hA7]; simp [go_sem]))
        have hBA7 : Below (w.heap.size + 1) A A7 := hB7.trans (hbA7.mono hs7)
        have HW8 := Lib.hid (HW7.out.at hbA7)
        have HP8 := Lib.hid (HP7.out.at hbA7)
        rw [← hA7]
        clear hA7 hB7 HW7 HP7 k0 k1 k2 k3 hbA7
        refine (c13 _ (HBA.out _ hBA7)).mono ?_
        rintro e w8 ⟨v8, rfl, hP, hb⟩
        have hB8 : Below (w.heap.size + 1) A w8 := hBA7.trans (hb.mono (by have := hBA7.size; omega))
        have HWf := Lib.hid (HW8.out.at hb)
        have HPf := Lib.hid (HP8.out.at hb)
        have HQf := Lib.hid hP
        obtain ⟨a8, g8, rfl⟩ := hP.form
        obtain ⟨q0, q1, q2, q3⟩ := K7.out _ hb
        have hs8 := hb.size
        rw [zA7] at hs8
        clear hP hb HW8 HP8 K7
        obtain ⟨k0, k1, k2, k3⟩ := KK.out _ hB8
        have z8 : w.heap.size < w8.heap.size := by omega
        have y8 : ¬ w.heap.size = w8.heap.size := by omega
        have x8 : w7.heap.size < w8.heap.size := by omega
        have x8b : ¬ w7.heap.size = w8.heap.size := by omega
        rw [NBEQ.out]
        rw [NBEQ.out] at HQf
        go_wp2_with fail
        obtain ⟨A8, hA8⟩ : ∃ A8, A8 = w8.alloc (.cells #[.int .i64 bd, .slice a8 nb g8, .int .i64 ban, .int .i64 bfr] 24) := ⟨_, rfl⟩
        have hbA8 : Below w8.heap.size w8 A8 := by rw [hA8]; repeat (first | exact (Below.refl _ _) | refine Below.drew ?_ | refine below_drewN ?_ _ | refine Below.setCell ?_ (by first | omega | (simp; omega) | (simp; done)) _ | refine Below.alloc ?_ (by first | omega | (simp; omega) | (simp; done)) _)
        have hBA8 : Below (w.heap.size + 1) A A8 := hB8.trans (hbA8.mono (by omega))
        rw [← hA8]
        have HW9 := Lib.hid (HWf.out.at hbA8)
        have HP9 := Lib.hid (HPf.out.at hbA8)
        have HQ9 := Lib.hid (HQf.out.at hbA8)
        clear hA8 HWf HPf HQf
        refine (same_any bd ban bfr _ _ BL (by rw [NBEQ.out]; omega) _ HP9.out HQ9.out).mono ?_
        rintro e w9 ⟨rfl, hb⟩
        have hB9 : Below (w.heap.size + 1) A w9 := hBA8.trans (hb.mono (by have := hBA8.size; omega))
        have HW10 := Lib.hid (HW9.out.at hb)
        clear hb k0 k1 k2 k3 q0 q1 q2 q3 HP9 HQ9 HW9
        obtain ⟨k0, k1, k2, k3⟩ := KK.out _ hB9
        go_wp2_with fail
        refine (equal_any _ _ zs (by rw [HLEN.out]; omega) _ HW10.out (HI0.out.at (HBA.out _ hB9))).mono ?_
        rintro e w10 ⟨rfl, hb⟩
        have hB10 : Below (w.heap.size + 1) A w10 := hB9.trans (hb.mono (by have := hB9.size; omega))
        have HBf := Lib.hid (HBA.out _ hB10)
        clear hb k0 k1 k2 k3 HW10
        go_wp2_with fail
        refine (HF.out _).mono ?_
        rintro e w11 ⟨rfl, hb⟩
        have HBg := Lib.hid (HBf.out.trans (hb.mono HBf.out.size))
        clear hb
        go_wp2_with fail
        go_ret
        exact ⟨rfl, HBg.out⟩
      · go_wp2_with fail
        obtain ⟨w6, hw6⟩ : ∃ W, W = w5.alloc (.cells #[] 56) := ⟨_, rfl⟩
        rw [← hw6]
        have hB6 : Below (w.heap.size + 1) A w6 := by rw [hw6]; exact hB5.alloc (by omega) _
        have HW := Lib.hid (show Els w6.heap.size w6 (.slice (some ⟨w5.heap.size, 0, none⟩) 0 0) zs from ⟨some ⟨w5.heap.size, 0, none⟩, 0, by rw [HLEN.out], by rw [HLEN.out]; exact Nat.le_refl _, fun k hk => by rw [HLEN.out] at hk; omega⟩)
        clear hw6 hB5
        refine (c12 _ (HBA.out _ hB6)).mono ?_
        rintro e w7 ⟨v7, rfl, hP, hb⟩
        have hB7 : Below (w.heap.size + 1) A w7 := hB6.trans (hb.mono (by have := hB6.size; omega))
        have HW7 := Lib.hid (HW.out.at hb)
        have HP7 := Lib.hid hP
        obtain ⟨a7, g7, rfl⟩ := hP.form
        clear hP hb k0 k1 k2 k3 HW hB6
        obtain ⟨k0, k1, k2, k3⟩ := KK.out _ hB7
        have hs7 := hB7.size
        rw [hzA] at hs7
        have z7 : w.heap.size < w7.heap.size := by omega
        have y7 : ¬ w.heap.size = w7.heap.size := by omega
        have y7b : ¬ w7.heap.size = w.heap.size := by omega
        generalize hnb : BL.length = nb at *
        have NBEQ := Lib.hid hnb
        clear hnb
        go_wp2_with fail
        obtain ⟨A7, hA7⟩ : ∃ A7, A7 = w7.alloc (.cells #[.int .i64 bd, .slice a7 nb g7, .int .i64 ban, .int .i64 bfr] 24) := ⟨_, rfl⟩
        have zA7 : A7.heap.size = w7.heap.size + 1 := by rw [hA7]; simp
        have hbA7 : Below w7.heap.size w7 A7 := by rw [hA7]; repeat (first | exact (Below.refl _ _) | refine Below.drew ?_ | refine below_drewN ?_ _ | refine Below.setCell ?_ (by first | omega | (simp; omega) | (simp; done)) _ | refine Below.alloc ?_ (by first | omega | (simp; omega) | (simp; done)) _)
        have K7 := Lib.hid (show ∀ W, Below A7.heap.size A7 W → W.cell? ⟨w7.heap.size, 0, none⟩ = some (.int .i64 bd) ∧ W.cell? ⟨w7.heap.size, 1, none⟩ = some (.slice a7 nb g7) ∧ W.cell? ⟨w7.heap.size, 2, none⟩ = some (.int .i64 ban) ∧ W.cell? ⟨w7.heap.size, 3, none⟩ = some (.int .i64 bfr) from fun W h => by
          refine ⟨(h.cell (p := ⟨w7.heap.size, 0, none⟩) (by rw [zA7]; exact Nat.lt_succ_self _)).trans ?_, (h.cell (p := ⟨w7.heap.size, 1, none⟩) (by rw [zA7]; exact Nat.lt_succ_self _)).trans ?_, (h.cell (p := ⟨w7.heap.size, 2, none⟩) (by rw [zA7]; exact Nat.lt_succ_self _)).trans ?_, (h.cell (p := ⟨w7.heap.size, 3, none⟩) (by rw [zA7]; exact Nat.lt_succ_self _)).trans ?_⟩ <;> (rw [hA7]; simp [go_sem]))
        have hBA7 : Below (w.heap.size + 1) A A7 := hB7.trans (hbA7.mono hs7)
        have HW8 := Lib.hid (HW7.out.at hbA7)
        have HP8 := Lib.hid (HP7.out.at hbA7)
        rw [← hA7]
        clear hA7 hB7 HW7 HP7 k0 k1 k2 k3 hbA7
        refine (c13 _ (HBA.out _ hBA7)).mono ?_
        rintro e w8 ⟨v8, rfl, hP, hb⟩
        have hB8 : Below (w.heap.size + 1) A w8 := hBA7.trans (hb.mono (by have := hBA7.size; omega))
        have HWf := Lib.hid (HW8.out.at hb)
        have HPf := Lib.hid (HP8.out.at hb)
        have HQf := Lib.hid hP
        obtain ⟨a8, g8, rfl⟩ := hP.form
        obtain ⟨q0, q1, q2, q3⟩ := K7.out _ hb
        have hs8 := hb.size
        rw [zA7] at hs8
        clear hP hb HW8 HP8 K7
        obtain ⟨k0, k1, k2, k3⟩ := KK.out _ hB8
        have z8 : w.heap.size < w8.heap.size := by omega
        have y8 : ¬ w.heap.size = w8.heap.size := by omega
        have x8 : w7.heap.size < w8.heap.size := by omega
        have x8b : ¬ w7.heap.size = w8.heap.size := by omega
        rw [NBEQ.out]
        rw [NBEQ.out] at HQf
        go_wp2_with fail
        obtain ⟨A8, hA8⟩ : ∃ A8, A8 = w8.alloc (.cells #[.int .i64 bd, .slice a8 nb g8, .int .i64 ban, .int .i64 bfr] 24) := ⟨_, rfl⟩
        have hbA8 : Below w8.heap.size w8 A8 := by rw [hA8]; repeat (first | exact (Below.refl _ _) | refine Below.drew ?_ | refine below_drewN ?_ _ | refine Below.setCell ?_ (by first | omega | (simp; omega) | (simp; done)) _ | refine Below.alloc ?_ (by first | omega | (simp; omega) | (simp; done)) _)
        have hBA8 : Below (w.heap.size + 1) A A8 := hB8.trans (hbA8.mono (by omega))
        rw [← hA8]
        have HW9 := Lib.hid (HWf.out.at hbA8)
        have HP9 := Lib.hid (HPf.out.at hbA8)
        have HQ9 := Lib.hid (HQf.out.at hbA8)
        clear hA8 HWf HPf HQf
        refine (same_any bd ban bfr _ _ BL (by rw [NBEQ.out]; omega) _ HP9.out HQ9.out).mono ?_
        rintro e w9 ⟨rfl, hb⟩
        have hB9 : Below (w.heap.size + 1) A w9 := hBA8.trans (hb.mono (by have := hBA8.size; omega))
        have HW10 := Lib.hid (HW9.out.at hb)
        clear hb k0 k1 k2 k3 q0 q1 q2 q3 HP9 HQ9 HW9
        obtain ⟨k0, k1, k2, k3⟩ := KK.out _ hB9
        go_wp2_with fail
        refine (equal_any _ _ zs (by rw [HLEN.out]; omega) _ HW10.out (HI0.out.at (HBA.out _ hB9))).mono ?_
        rintro e w10 ⟨rfl, hb⟩
        have hB10 : Below (w.heap.size + 1) A w10 := hB9.trans (hb.mono (by have := hB9.size; omega))
        have HBf := Lib.hid (HBA.out _ hB10)
        clear hb k0 k1 k2 k3 HW10
        go_wp2_with fail
        refine (HF.out _).mono ?_
        rintro e w11 ⟨rfl, hb⟩
        have HBg := Lib.hid (HBf.out.trans (hb.mono HBf.out.size))
        clear hb
        go_wp2_with fail
        go_ret
        exact ⟨rfl, HBg.out⟩
    obtain ⟨b, off, rfl, -, -⟩ := HIc.out 0 (by omega)
    clear HIc
    have hld := load_els (HI0.out.at (HBA.out _ hB5)) HLEN.out
    have hsc : ¬ 281474976710656 < Builtin.nextslicecap len 0 * Tryd.t56.bytes := by
      have e : Builtin.nextslicecap len 0 = len := by unfold Builtin.nextslicecap; rw [if_pos (by omega)]
      rw [e, show Tryd.t56.bytes = 32 from rfl]; omega
    have hge := grownCap_ge (w5.alloc (.cells #[] 56)) len 0 56
    have hgc : grownCap (w5.alloc (.cells #[] 56)) len 0 56 = ((Question.appendCap len 0 56).cut (w5.tape w5.drawn (Question.appendCap len 0 56))) := rfl
    rw [hgc] at hge
    have HGE := Lib.hid hge
    clear hgc hge
    go_wp2_with fail
    have HGE2 := HGE.out
    clear hld hsc HGE
    generalize ((Question.appendCap len 0 56).cut (w5.tape w5.drawn (Question.appendCap len 0 56))) = gc at HGE2 ⊢
    generalize Builtin.zeroCells #[Value.int IntKind.i64 0, Value.int IntKind.i64 0, Value.int IntKind.i64 0, Value.int IntKind.i64 0] (gc - len) = Z
    obtain ⟨w6, hw6⟩ : ∃ W, W = ((w5.alloc (Obj.cells #[] 56)).alloc (Obj.cells ((flatE zs).toArray ++ Z) 56)).drew := ⟨_, rfl⟩
    rw [← hw6]
    have hB6 : Below (w.heap.size + 1) A w6 := by rw [hw6]; exact ((hB5.alloc (by omega) _).alloc (by simp; omega) _).drew
    have HW := Lib.hid (show Els w6.heap.size w6 (.slice (some ⟨w5.heap.size + 1, 0, none⟩) len gc) zs from by rw [hw6]; exact els_made _ zs Z len gc w5.heap.size rfl HLEN.out HGE2)
    clear hw6 hB5
    refine (c12 _ (HBA.out _ hB6)).mono ?_
    rintro e w7 ⟨v7, rfl, hP, hb⟩
    have hB7 : Below (w.heap.size + 1) A w7 := hB6.trans (hb.mono (by have := hB6.size; omega))
    have HW7 := Lib.hid (HW.out.at hb)
    have HP7 := Lib.hid hP
    obtain ⟨a7, g7, rfl⟩ := hP.form
    clear hP hb k0 k1 k2 k3 HW hB6
    obtain ⟨k0, k1, k2, k3⟩ := KK.out _ hB7
    have hs7 := hB7.size
    rw [hzA] at hs7
    have z7 : w.heap.size < w7.heap.size := by omega
    have y7 : ¬ w.heap.size = w7.heap.size := by omega
    have y7b : ¬ w7.heap.size = w.heap.size := by omega
    generalize hnb : BL.length = nb at *
    have NBEQ := Lib.hid hnb
    clear hnb
    go_wp2_with fail
    obtain ⟨A7, hA7⟩ : ∃ A7, A7 = w7.alloc (.cells #[.int .i64 bd, .slice a7 nb g7, .int .i64 ban, .int .i64 bfr] 24) := ⟨_, rfl⟩
    have zA7 : A7.heap.size = w7.heap.size + 1 := by rw [hA7]; simp
    have hbA7 : Below w7.heap.size w7 A7 := by rw [hA7]; repeat (first | exact (Below.refl _ _) | refine Below.drew ?_ | refine below_drewN ?_ _ | refine Below.setCell ?_ (by first | omega | (simp; omega) | (simp; done)) _ | refine Below.alloc ?_ (by first | omega | (simp; omega) | (simp; done)) _)
    have K7 := Lib.hid (show ∀ W, Below A7.heap.size A7 W → W.cell? ⟨w7.heap.size, 0, none⟩ = some (.int .i64 bd) ∧ W.cell? ⟨w7.heap.size, 1, none⟩ = some (.slice a7 nb g7) ∧ W.cell? ⟨w7.heap.size, 2, none⟩ = some (.int .i64 ban) ∧ W.cell? ⟨w7.heap.size, 3, none⟩ = some (.int .i64 bfr) from fun W h => by
      refine ⟨(h.cell (p := ⟨w7.heap.size, 0, none⟩) (by rw [zA7]; exact Nat.lt_succ_self _)).trans ?_, (h.cell (p := ⟨w7.heap.size, 1, none⟩) (by rw [zA7]; exact Nat.lt_succ_self _)).trans ?_, (h.cell (p := ⟨w7.heap.size, 2, none⟩) (by rw [zA7]; exact Nat.lt_succ_self _)).trans ?_, (h.cell (p := ⟨w7.heap.size, 3, none⟩) (by rw [zA7]; exact Nat.lt_succ_self _)).trans ?_⟩ <;> (rw [hA7]; simp [go_sem]))
    have hBA7 : Below (w.heap.size + 1) A A7 := hB7.trans (hbA7.mono hs7)
    have HW8 := Lib.hid (HW7.out.at hbA7)
    have HP8 := Lib.hid (HP7.out.at hbA7)
    rw [← hA7]
    clear hA7 hB7 HW7 HP7 k0 k1 k2 k3 hbA7
    refine (c13 _ (HBA.out _ hBA7)).mono ?_
    rintro e w8 ⟨v8, rfl, hP, hb⟩
    have hB8 : Below (w.heap.size + 1) A w8 := hBA7.trans (hb.mono (by have := hBA7.size; omega))
    have HWf := Lib.hid (HW8.out.at hb)
    have HPf := Lib.hid (HP8.out.at hb)
    have HQf := Lib.hid hP
    obtain ⟨a8, g8, rfl⟩ := hP.form
    obtain ⟨q0, q1, q2, q3⟩ := K7.out _ hb
    have hs8 := hb.size
    rw [zA7] at hs8
    clear hP hb HW8 HP8 K7
    obtain ⟨k0, k1, k2, k3⟩ := KK.out _ hB8
    have z8 : w.heap.size < w8.heap.size := by omega
    have y8 : ¬ w.heap.size = w8.heap.size := by omega
    have x8 : w7.heap.size < w8.heap.size := by omega
    have x8b : ¬ w7.heap.size = w8.heap.size := by omega
    rw [NBEQ.out]
    rw [NBEQ.out] at HQf
    go_wp2_with fail
    obtain ⟨A8, hA8⟩ : ∃ A8, A8 = w8.alloc (.cells #[.int .i64 bd, .slice a8 nb g8, .int .i64 ban, .int .i64 bfr] 24) := ⟨_, rfl⟩
    have hbA8 : Below w8.heap.size w8 A8 := by rw [hA8]; repeat (first | exact (Below.refl _ _) | refine Below.drew ?_ | refine below_drewN ?_ _ | refine Below.setCell ?_ (by first | omega | (simp; omega) | (simp; done)) _ | refine Below.alloc ?_ (by first | omega | (simp; omega) | (simp; done)) _)
    have hBA8 : Below (w.heap.size + 1) A A8 := hB8.trans (hbA8.mono (by omega))
    rw [← hA8]
    have HW9 := Lib.hid (HWf.out.at hbA8)
    have HP9 := Lib.hid (HPf.out.at hbA8)
    have HQ9 := Lib.hid (HQf.out.at hbA8)
    clear hA8 HWf HPf HQf
    refine (same_any bd ban bfr _ _ BL (by rw [NBEQ.out]; omega) _ HP9.out HQ9.out).mono ?_
    rintro e w9 ⟨rfl, hb⟩
    have hB9 : Below (w.heap.size + 1) A w9 := hBA8.trans (hb.mono (by have := hBA8.size; omega))
    have HW10 := Lib.hid (HW9.out.at hb)
    clear hb k0 k1 k2 k3 q0 q1 q2 q3 HP9 HQ9 HW9
    obtain ⟨k0, k1, k2, k3⟩ := KK.out _ hB9
    go_wp2_with fail
    refine (equal_any _ _ zs (by rw [HLEN.out]; omega) _ HW10.out (HI0.out.at (HBA.out _ hB9))).mono ?_
    rintro e w10 ⟨rfl, hb⟩
    have hB10 : Below (w.heap.size + 1) A w10 := hB9.trans (hb.mono (by have := hB9.size; omega))
    have HBf := Lib.hid (HBA.out _ hB10)
    clear hb k0 k1 k2 k3 HW10
    go_wp2_with fail
    refine (HF.out _).mono ?_
    rintro e w11 ⟨rfl, hb⟩
    have HBg := Lib.hid (HBf.out.trans (hb.mono HBf.out.size))
    clear hb
    go_wp2_with fail
    go_ret
    exact ⟨rfl, HBg.out⟩
end Go.Proofs.YtmodplodnimmkaaDoor

/-
  Break, of a valid mooring, at one of its elements.
-/
import Derived.Test.YthogahdnidjelaaForms
import Derived.Test.YthogahdnidjelaaClone
import Derived.Test.YthogahdnidjelaaStands
import Derived.Test.YthogahdnidjelaaForceMath
namespace Go.Proofs.Ythogahdnidjelaa
open Go.RowKit Go.Shelf
set_option linter.unusedSimpArgs false
theorem el_drop (zs : List El) (m j : Nat) : el (zs.drop m) j = el zs (m + j) := by
  unfold el
  rw [List.getElem?_drop]
theorem Els.drop {n₀ : Nat} {W : World} {b off n cap : Nat} {zs : List El} (h : Els n₀ W (.slice (some ⟨b, off, none⟩) n cap) zs) (m : Nat) (hm : m ≤ zs.length) :
    Els n₀ W (.slice (some ⟨b, off + m * 4, none⟩) (n - m) (cap - m)) (zs.drop m) := by
  obtain ⟨a, c, e, hl, hc⟩ := h
  simp only [Value.slice.injEq] at e
  obtain ⟨rfl, rfl, rfl⟩ := e
  refine ⟨_, _, by rw [List.length_drop], by rw [List.length_drop]; omega, fun k hk => ?_⟩
  rw [List.length_drop] at hk
  obtain ⟨b', off', e, hb, g⟩ := hc (m + k) (by omega)
  simp only [Option.some.injEq, Addr.mk.injEq] at e
  obtain ⟨rfl, rfl, -⟩ := e
  refine ⟨_, _, rfl, hb, ?_⟩
  rw [el_drop, show off + m * 4 + k * 4 = off + (m + k) * 4 by omega]
  exact g
theorem sum_mem {zs : List El} (h : ∀ k, k < zs.length → vE (el zs k) = true) : ∀ k, k < zs.length → -1048576 ≤ (el zs k).lift ∧ (el zs k).lift ≤ 1048576 := fun k hk => ((vE_iff _).1 (h k hk)).2.1
/-- what Break keeps in memory: its mooring, and a result -/
structure BrkAt (B : Nat) (d : Int) (a : Option Addr) (len cap : Nat) (an fr : Int) (W : World) : Prop where
  lt : B + 1 < W.heap.size
  c0 : W.cell? ⟨B, 0, none⟩ = some (.int .i64 d)
  c1 : W.cell? ⟨B, 1, none⟩ = some (.slice a len cap)
  c2 : W.cell? ⟨B, 2, none⟩ = some (.int .i64 an)
  c3 : W.cell? ⟨B, 3, none⟩ = some (.int .i64 fr)
  r0 : W.cell? ⟨B + 1, 0, none⟩ = some (.int .i64 0)
  r1 : W.cell? ⟨B + 1, 1, none⟩ = some (.slice none 0 0)
  r2 : W.cell? ⟨B + 1, 2, none⟩ = some (.int .i64 0)
  r3 : W.cell? ⟨B + 1, 3, none⟩ = some (.int .i64 0)
  f1 : W.frozen? ⟨B, 1, none⟩ = false
  g0 : W.frozen? ⟨B + 1, 0, none⟩ = false
  g1 : W.frozen? ⟨B + 1, 1, none⟩ = false
  g2 : W.frozen? ⟨B + 1, 2, none⟩ = false
  g3 : W.frozen? ⟨B + 1, 3, none⟩ = false
theorem BrkAt.start (w : World) (d : Int) (a : Option Addr) (len cap : Nat) (an fr : Int) :
    BrkAt w.heap.size d a len cap an fr ((w.alloc (.cells #[.int .i64 d, .slice a len cap, .int .i64 an, .int .i64 fr] 24)).alloc (.cells #[.int .i64 0, .slice none 0 0, .int .i64 0, .int .i64 0] 24)) := by
  constructor <;> simp [go_sem]
theorem BrkAt.at {B : Nat} {d : Int} {a : Option Addr} {len cap : Nat} {an fr : Int} {W W' : World} (h : BrkAt B d a len cap an fr W) {n : Nat} (hn : B + 2 ≤ n) (hb : Below n W W') : BrkAt B d a len cap an fr W' := by
  have hs := hb.size
  have hl := h.lt
  exact ⟨by omega, (hb.cell (p := ⟨B, 0, none⟩) (by show B < n; omega)).trans h.c0, (hb.cell (p := ⟨B, 1, none⟩) (by show B < n; omega)).trans h.c1, (hb.cell (p := ⟨B, 2, none⟩) (by show B < n; omega)).trans h.c2, (hb.cell (p := ⟨B, 3, none⟩) (by show B < n; omega)).trans h.c3,
    (hb.cell (p := ⟨B + 1, 0, none⟩) (by show B + 1 < n; omega)).trans h.r0, (hb.cell (p := ⟨B + 1, 1, none⟩) (by show B + 1 < n; omega)).trans h.r1, (hb.cell (p := ⟨B + 1, 2, none⟩) (by show B + 1 < n; omega)).trans h.r2, (hb.cell (p := ⟨B + 1, 3, none⟩) (by show B + 1 < n; omega)).trans h.r3,
    (hb.frozen (p := ⟨B, 1, none⟩) (by show B < n; omega)).trans h.f1, (hb.frozen (p := ⟨B + 1, 0, none⟩) (by show B + 1 < n; omega)).trans h.g0, (hb.frozen (p := ⟨B + 1, 1, none⟩) (by show B + 1 < n; omega)).trans h.g1, (hb.frozen (p := ⟨B + 1, 2, none⟩) (by show B + 1 < n; omega)).trans h.g2, (hb.frozen (p := ⟨B + 1, 3, none⟩) (by show B + 1 < n; omega)).trans h.g3⟩
set_option maxRecDepth 100000 in
set_option maxHeartbeats 8000000 in
theorem break_last (d an fr : Int) (sv : Value) (zs : List El) (k : Nat) (w : World) (hI : Els w.heap.size w sv zs) (hm : mooE d zs an fr = 0) (hk : k + 1 = zs.length) :
    Calls Try.prog 49 #[.agg #[.int .i64 d, sv, .int .i64 an, .int .i64 fr], .int .i64 k] w fun e w' => e = .returned (.tuple #[.agg #[.int .i64 0, .slice none 0 0, .int .i64 0, .int .i64 0], .bool false, .int .i64 5]) ∧ Below w.heap.size w w' := by
  have hmo := (mooE_ok hm).2.1
  have c18 := fun w' (hb : Below w.heap.size w w') => checkM_any d an fr sv zs w' (hI.at hb)
  rw [hm] at c18
  obtain ⟨a, cap, rfl, -, -⟩ := hI
  generalize zs.length = len at *
  have c80 := fun W => withinI_any (k : Int) 0 ((len : Int) - 1) W
  rw [show (decide ((0 : Int) ≤ (k : Int)) && decide ((k : Int) ≤ (len : Int) - 1)) = true by rw [decide_eq_true (by omega), decide_eq_true (by omega)]; rfl] at c80
  have hW : IntKind.i64.wrap ((len : Int) - 1) = (k : Int) := by rw [IntKind.wrap_i64]; omega
  rw [show (len : Int) - 1 = (k : Int) by omega] at c80
  have HA := BrkAt.start w d a len cap an fr
  have hBA : Below w.heap.size w ((w.alloc (.cells #[.int .i64 d, .slice a len cap, .int .i64 an, .int .i64 fr] 24)).alloc (.cells #[.int .i64 0, .slice none 0 0, .int .i64 0, .int .i64 0] 24)) := ((Below.refl _ _).alloc (Nat.le_refl _) _).alloc (by simp) _
  obtain ⟨A, hA⟩ : ∃ A, A = (w.alloc (.cells #[.int .i64 d, .slice a len cap, .int .i64 an, .int .i64 fr] 24)).alloc (.cells #[.int .i64 0, .slice none 0 0, .int .i64 0, .int .i64 0] 24) := ⟨_, rfl⟩
  rw [← hA] at HA hBA
  have HH := Lib.hid HA
  have HB := Lib.hid hBA
  have hzA : w.heap.size + 2 ≤ A.heap.size := HA.lt
  clear HA hBA
  go_enter Try.func49, Try.ntmps49
  go_wp2_with fail
  rw [← hA]
  refine (c18 _ HB.out).mono ?_
  rintro e w1 ⟨rfl, hb⟩
  have HH1 := HH.out.at hzA hb
  have HB1 := Lib.hid (HB.out.trans (hb.mono HB.out.size))
  clear hb hA c18
  obtain ⟨l, c0, c1, c2, c3, r0, r1, r2, r3, f1, g0, g1, g2, g3⟩ := HH1
  go_wp2_with fail
  refine (c80 _).mono ?_
  rintro e w2 ⟨rfl, rfl⟩
  go_wp2_with fail
  refine bodyPost_ret (v := .tuple #[.agg #[.int .i64 0, .slice none 0 0, .int .i64 0, .int .i64 0], .bool false, .int .i64 5]) (by simp [results, Try.results49, go_sem, *]) rfl ⟨rfl, ?_⟩
  repeat (first | refine Below.setCell ?_ (by first | omega | (simp; done) | (simp; omega)) _ | exact HB1.out)
theorem Els.set {W : World} {b off n c : Nat} {zs : List El} {p : Addr} (h : Els W.heap.size W (.slice (some ⟨b, off, none⟩) n c) zs) (hp : ¬ b = p.block) (u : Value) :
    Els (W.setCell p u).heap.size (W.setCell p u) (.slice (some ⟨b, off, none⟩) n c) zs := by
  obtain ⟨a, c', e, hl, hc⟩ := h
  refine ⟨a, c', e, hl, fun k hk => ?_⟩
  obtain ⟨b', off', e', hb, g0, g1, g2, g3⟩ := hc k hk
  simp only [Value.slice.injEq] at e
  obtain ⟨rfl, -, -⟩ := e
  simp only [Option.some.injEq, Addr.mk.injEq] at e'
  obtain ⟨rfl, rfl, -⟩ := e'
  refine ⟨_, _, rfl, by simpa using hb, ?_⟩
  have hk : (W.setCell p u).heap[b]? = W.heap[b]? := heap_setCell_other W p b u hp
  simp only [World.cell?, hk]
  simp only [World.cell?] at g0 g1 g2 g3
  exact ⟨g0, g1, g2, g3⟩
theorem nth_lif {zs : List El} {k : Nat} (hk : k < zs.length) : (lifL zs zs.length)[k]?.getD 0 = lifTo zs (k + 1) := lifL_nth zs zs.length k hk
set_option maxRecDepth 100000 in
set_option maxHeartbeats 8000000 in
theorem break_mid (d an fr : Int) (sv : Value) (zs : List El) (k : Nat) (w : World) (hI : Els w.heap.size w sv zs) (hm : mooE d zs an fr = 0) (hk : k + 1 < zs.length) :
    Calls Try.prog 49 #[.agg #[.int .i64 d, sv, .int .i64 an, .int .i64 fr], .int .i64 k] w fun e w' => ∃ v, e = .returned (.tuple #[.agg #[.int .i64 d, v, .int .i64 an, .int .i64 fr], .bool (decide (1 ≤ lifTo zs (k + 1))), .int .i64 0]) ∧ Els w'.heap.size w' v (zs.drop (k + 1)) ∧ Below w.heap.size w w' := by
  have hmo := (mooE_ok hm).2.1
  have hels := sum_mem (mooE_ok hm).2.2.1
  have c18 := fun w' (hb : Below w.heap.size w w') => checkM_any d an fr sv zs w' (hI.at hb)
  rw [hm] at c18
  have c52 := fun w' (hb : Below w.heap.size w w') => lifts_any d an fr sv zs hmo hels w' (hI.at hb)
  have HG := Lib.hid (show (lifL zs zs.length)[k]?.getD 0 = lifTo zs (k + 1) from nth_lif (by omega))
  have HLL := lifL_len zs zs.length
  have hI0 := hI
  obtain ⟨a, cap, rfl, hcap, hc⟩ := hI
  obtain ⟨b, off, rfl, -, -⟩ := hc 0 (by omega)
  have c93 := Lib.hid (fun w' (hb : Below w.heap.size w w') => clone_any (.slice (some ⟨b, off + (k + 1) * 4, none⟩) (zs.length - (k + 1)) (cap - (k + 1))) (zs.drop (k + 1)) (by rw [List.length_drop]; omega) (by rw [List.length_drop]; omega) w' ((hI0.at hb).drop (k + 1) (by omega)))
  clear hI0 hc
  generalize lifL zs zs.length = L at *
  generalize lifTo zs (k + 1) = v at *
  have c92 := fun W => floats_any v W
  generalize hdr : zs.drop (k + 1) = ds at *
  clear hdr hels
  generalize zs.length = len at *
  have c80 := fun W => withinI_any (k : Int) 0 ((len : Int) - 1) W
  rw [show (decide ((0 : Int) ≤ (k : Int)) && decide ((k : Int) ≤ (len : Int) - 1)) = true by rw [decide_eq_true (by omega), decide_eq_true (by omega)]; rfl] at c80
  have hW : IntKind.i64.wrap ((len : Int) - 1) = (len : Int) - 1 := by rw [IntKind.wrap_i64]; omega
  generalize hl1 : (len : Int) - 1 = l1 at *
  have hne : ((k : Int) == l1) = false := by rw [beq_eq_false_iff_ne]; omega
  have hne2 : ¬ (k : Int) = l1 := by omega
  have HA := BrkAt.start w d (some ⟨b, off, none⟩) len cap an fr
  have hBA : Below w.heap.size w ((w.alloc (.cells #[.int .i64 d, .slice (some ⟨b, off, none⟩) len cap, .int .i64 an, .int .i64 fr] 24)).alloc (.cells #[.int .i64 0, .slice none 0 0, .int .i64 0, .int .i64 0] 24)) := ((Below.refl _ _).alloc (Nat.le_refl _) _).alloc (by simp) _
  obtain ⟨A, hA⟩ : ∃ A, A = (w.alloc (.cells #[.int .i64 d, .slice (some ⟨b, off, none⟩) len cap, .int .i64 an, .int .i64 fr] 24)).alloc (.cells #[.int .i64 0, .slice none 0 0, .int .i64 0, .int .i64 0] 24) := ⟨_, rfl⟩
  rw [← hA] at HA hBA
  have HH := Lib.hid HA
  have HB := Lib.hid hBA
  have hzA : w.heap.size + 2 ≤ A.heap.size := HA.lt
  clear HA hBA
  go_enter Try.func49, Try.ntmps49
  go_wp2_with fail
  rw [← hA]
  refine (c18 _ HB.out).mono ?_
  rintro e w1 ⟨rfl, hb⟩
  have HH1 := HH.out.at hzA hb
  have HB1 := Lib.hid (HB.out.trans (hb.mono HB.out.size))
  clear hb hA c18
  have HHh := Lib.hid HH1
  obtain ⟨l, c0, c1, c2, c3, r0, r1, r2, r3, f1, g0, g1, g2, g3⟩ := HH1
  go_wp2_with fail
  refine (c80 _).mono ?_
  rintro e w2 ⟨rfl, rfl⟩
  go_wp2_with fail
  refine (c52 _ HB1.out).mono ?_
  rintro e w3 ⟨vl, rfl, hN, hb⟩
  have HH3 := HHh.out.at l hb
  have HB3 := Lib.hid (HB1.out.trans (hb.mono HB1.out.size))
  obtain ⟨al, cl, rfl, -, hlc⟩ := hN
  obtain ⟨bl, ol, rfl, hbl, hv⟩ := hlc k (by omega)
  rw [HG.out] at hv
  clear hb hlc c0 c1 c2 c3 r0 r1 r2 r3 f1 g0 g1 g2 g3 HHh
  rw [HLL]
  have HHh := Lib.hid HH3
  obtain ⟨l3, c0, c1, c2, c3, r0, r1, r2, r3, f1, g0, g1, g2, g3⟩ := HH3
  have hki : (k : Int) < (len : Int) := by omega
  go_wp2_with fail
  refine (c92 _).mono ?_
  rintro e w4 ⟨rfl, rfl⟩
  have hW2 : IntKind.i64.wrap ((k : Int) + 1) = (k : Int) + 1 := by rw [IntKind.wrap_i64]; omega
  go_wp2_with fail
  refine (c93.out _ HB3.out).mono ?_
  rintro e w5 ⟨B5, c5, rfl, hB5, hE, hb⟩
  have HH5 := HHh.out.at l3 hb
  have HB5 := Lib.hid (HB3.out.trans (hb.mono HB3.out.size))
  have HE := Lib.hid hE
  have n1 : ¬ B5 = w.heap.size := by omega
  have n2 : ¬ B5 = w.heap.size + 1 := by omega
  clear hb hE c0 c1 c2 c3 r0 r1 r2 r3 f1 g0 g1 g2 g3 HHh
  obtain ⟨l5, c0, c1, c2, c3, r0, r1, r2, r3, f1, g0, g1, g2, g3⟩ := HH5
  go_wp2_with fail
  refine bodyPost_ret (v := .tuple #[.agg #[.int .i64 d, .slice (some ⟨B5, 0, none⟩) ds.length c5, .int .i64 an, .int .i64 fr], .bool (decide (1 ≤ v)), .int .i64 0]) (by simp [results, Try.results49, go_sem, *]) rfl ⟨_, rfl, ?_, ?_⟩
  · repeat (first | exact HE.out | refine Els.set ?_ (by first | exact n1 | exact n2) _)
  · repeat (first | refine Below.setCell ?_ (by first | omega | (simp; done) | (simp; omega)) _ | exact HB5.out)
end Go.Proofs.Ythogahdnidjelaa

/-
  Clock: what all make together; the offset at a reading.
-/
import Derived.Test.YtcchmjbedppfnaaCkG
import Derived.RangeFuncCalls
namespace Go.Proofs.Ytcchmjbedppfnaa
open Go.RowKit Go.Shelf
attribute [local go_sem] Oper.semAt_some
set_option linter.unusedSimpArgs false
def Bx2 (W : World) (B : Nat) (u v : Value) : Prop := W.heap[B]? = some (.cells #[u, v] 23 (0, 0))
theorem Bx2.lt {W : World} {B : Nat} {u v : Value} (h : Bx2 W B u v) : B < W.heap.size := (Array.getElem?_eq_some_iff.1 h).1
theorem Bx2.c0 {W : World} {B : Nat} {u v : Value} (h : Bx2 W B u v) : W.cell? ⟨B, 0, none⟩ = some u := by simp [World.cell?, show W.heap[B]? = _ from h]
theorem Bx2.c1 {W : World} {B : Nat} {u v : Value} (h : Bx2 W B u v) : W.cell? ⟨B, 1, none⟩ = some v := by simp [World.cell?, show W.heap[B]? = _ from h]
theorem Bx2.f0 {W : World} {B : Nat} {u v : Value} (h : Bx2 W B u v) (o : Nat) : W.frozen? ⟨B, o, none⟩ = false := by simp [World.frozen?, show W.heap[B]? = _ from h]
theorem Bx2.new (W : World) (u v : Value) : Bx2 (W.alloc (.cells #[u, v] 23)) W.heap.size u v := World.alloc_heap_new W _
theorem Bx2.same {W W' : World} {B : Nat} {u v : Value} (h : Bx2 W B u v) (e : W'.heap[B]? = W.heap[B]?) : Bx2 W' B u v := e.trans h
theorem Bx2.keep {W W' : World} {B : Nat} {u v : Value} (h : Bx2 W B u v) (hb : Below W.heap.size W W') : Bx2 W' B u v := (hb.block B h.lt).trans h
theorem Bx2.kept {W W' : World} {row : Option Nat} {B : Nat} {u v : Value} (h : Bx2 W B u v) (hg : W.grownBy W' row) (hr : ∀ r, row = some r → ∃ o : Obj, W.heap[r]? = some o ∧ o.isCells = false) : Bx2 W' B u v :=
  (hg.block B h.lt (fun e => by obtain ⟨o, ho, hc⟩ := hr B e.symm; rw [show W.heap[B]? = _ from h] at ho; cases ho; cases hc)).trans h
theorem Bx2.set {W : World} {B : Nat} {u v : Value} (h : Bx2 W B u v) (u' v' : Value) : Bx2 ((W.setCell ⟨B, 0, none⟩ u').setCell ⟨B, 1, none⟩ v') B u' v' := by
  have e : W.heap[B]? = _ := h
  unfold Bx2
  simp [World.setCell, Array.getElem?_modify, e]
theorem Bx2.far {W : World} {B C o : Nat} {u v x : Value} (h : Bx2 W B u v) (hne : B ≠ C) : Bx2 (W.setCell ⟨C, o, none⟩ x) B u v :=
  (Below.heap_setCell _ _ _ _ (by show B ≠ C; exact hne)).trans h
def meetS (a b : Int × Int) : Int × Int := (max a.1 b.1, min a.2 b.2)
def meets (f : Int × Int) (ys : List (Int × Int)) : Int × Int := ys.foldl meetS f
theorem meets_snoc (f : Int × Int) (ys : List (Int × Int)) (x : Int × Int) : meets f (ys ++ [x]) = meetS (meets f ys) x := by unfold meets; rw [List.foldl_append]; rfl
def iv (x : Int) : Value := .int .i64 x
/-- between two rounds -/
def CbI (B : Nat) (f : Int × Int) (w : World) (pre : List (Int × Int)) (W : World) : Prop :=
  Bx2 W B (.int .i64 (meets f pre).1) (.int .i64 (meets f pre).2) ∧ Boxed W (B + 1) 120 (.func (.func 73) #[] #[]) ∧ Bx2 W (B + 2) (.int .i64 0) (.int .i64 0) ∧ Below B w W
set_option maxRecDepth 100000 in
set_option maxHeartbeats 4000000 in
theorem combined_in (n : Nat) (hn : 3 ≤ n) (g : Nat) (lb : Array Value) (eg : ∀ args w, (callFunc g args).run Try.prog w = .ok (.enter g args) w)
    (S SpP : List (Int × Int) → Prop) (N : Nat) (n₀ : Nat) (w : World) (f : Int × Int) (hn₀ : n₀ ≤ w.heap.size) (hseq : SeqStopsK Fence.wide (n - 1) Try.prog g lb (fun x : Int × Int => #[spv x]) (Below n₀) S SpP N w) :
    CallsIn Fence.wide n Try.prog 106 #[.func (.func g) #[] lb, spv f, .func (.func 73) #[] #[]] w fun e W' => ∃ ys, S ys ∧ e = .returned (spv (meets f ys)) ∧ Below w.heap.size w W' := by
  unfold spv at *
  refine callsIn_of_wp_marks Try.func106 rfl trivial ?_ rfl
  simp only [Try.ntmps106, List.size_toArray, List.length_cons, List.length_nil, Nat.reduceAdd, Nat.reduceSub, Array.replicate_succ, Array.replicate_zero, List.push_toArray, List.append_toArray, List.nil_append, List.cons_append]
  gi_wp2
  have hV : ∃ V, V = ((w.alloc (.cells #[.int .i64 f.1, .int .i64 f.2] 23)).alloc (.cells #[.func (.func 73) #[] #[]] 120)).alloc (.cells #[.int .i64 0, .int .i64 0] 23) := ⟨_, rfl⟩
  obtain ⟨V, hV⟩ := hV
  rw [← hV]
  have hVz : V.heap.size = w.heap.size + 3 := by rw [hV]; simp
  have hVB : Below w.heap.size w V := by rw [hV]; exact (((Below.refl _ w).alloc (Nat.le_refl _) _).alloc (by simp) _).alloc (by simp; omega) _
  have hV0 : CbI w.heap.size f w [] V := by
    refine ⟨?_, ?_, ?_, hVB⟩
    · rw [hV]
      exact ((Bx2.new w _ _).keep ((Below.refl _ _).alloc (Nat.le_refl _) _)).keep ((Below.refl _ _).alloc (Nat.le_refl _) _)
    · rw [hV]
      have q := ((Boxed.new (w.alloc (.cells #[.int .i64 f.1, .int .i64 f.2] 23)) 120 (.func (.func 73) #[] #[])).alloc (.cells #[.int .i64 0, .int .i64 0] 23))
      rwa [World.size_alloc] at q
    · rw [hV]
      have q := Bx2.new ((w.alloc (.cells #[.int .i64 f.1, .int .i64 f.2] 23)).alloc (.cells #[.func (.func 73) #[] #[]] 120)) (.int .i64 0) (.int .i64 0)
      rwa [World.size_alloc, World.size_alloc] at q
  clear hV
  refine wpIn_rangeFunc_ownH rfl (by omega) (gf := g) (lb := lb) rfl trivial eg hseq (belowK_t (n₀ := n₀)) (belowK_b (by omega)) hVB (fun _ => rfl)
    (CbI w.heap.size f w) (fun _ _ _ => False)
    (fun pre A B row hs hg hr => ⟨hs.1.kept hg (fun r e => (hr r e).2), hs.2.1.kept hg (fun e => by obtain ⟨o, ho, hc⟩ := (hr _ e.symm).2; rw [show A.heap[w.heap.size + 1]? = _ from hs.2.1] at ho; cases ho; cases hc), hs.2.2.1.kept hg (fun r e => (hr r e).2), hs.2.2.2.grown hg (hs.2.2.2.size) (fun k e => by have := (hr k e).1; omega)⟩)
    (fun _ _ _ _ _ hs _ _ => hs)
    hV0
    (fun x a' W => ∃ Bx, w.heap.size + 2 < Bx ∧ Bx2 W Bx (.int .i64 x.1) (.int .i64 x.2) ∧ a' = { tmps := #[.func (.func g) #[] lb, .agg #[.int .i64 f.1, .int .i64 f.2], .func (.func 73) #[] #[], undef, .pointer (some ⟨w.heap.size, 0, none⟩), .pointer (some ⟨w.heap.size + 1, 0, none⟩), .pointer (some ⟨w.heap.size + 1 + 1, 0, none⟩), .pointer (some ⟨Bx, 0, none⟩), .func (.func g) #[] lb, spv x, undef, undef, undef, undef, undef], defers := [] })
    (fun x a' _ X Y row hs hg hr => by obtain ⟨Bx, h1, h2, h3⟩ := hs; exact ⟨Bx, h1, h2.kept hg (fun r e => (hr r e).2), h3⟩)
    ?assign ?body ?done ?stop
  case assign =>
    rintro l pre x W K ⟨hb0, hb1, hb2, hB⟩ hK
    have hlt := hb2.lt
    gi_wp2
    exact hK _ _ ((KeepsOthers.alloc _ _).from _) ((Below.refl _ W).alloc (Nat.le_trans hn₀ hB.size) _) ⟨hb0.keep ((Below.refl _ _).alloc (Nat.le_refl _) _), hb1.alloc _, hb2.keep ((Below.refl _ _).alloc (Nat.le_refl _) _), hB.alloc hB.size _⟩ ⟨W.heap.size, hlt, Bx2.new W _ _, rfl⟩
  case body =>
    rintro l pre x a' W hl ⟨r, hr⟩ ⟨hb0, hb1, hb2, hB⟩ ⟨Bx, hBx, bX, rfl⟩ hlt
    have x0 := bX.c0
    have x1 := bX.c1
    have y0 := hb0.c0
    have y1 := hb0.c1
    have j0 := hb1.cell
    have yf0 := hb0.f0 0
    have yf1 := hb0.f0 1
    have c73 := fun W => meet_any (meets f pre).1 (meets f pre).2 x.1 x.2 W
    have HSN := Lib.hid (meets_snoc f pre x)
    have HM := Lib.hid (show (max (meets f pre).1 x.1, min (meets f pre).2 x.2) = meetS (meets f pre) x from rfl)
    generalize hA : meets f pre = A at *
    have HI := Lib.hid (show Bx2 W w.heap.size (.int .i64 A.1) (.int .i64 A.2) ∧ Boxed W (w.heap.size + 1) 120 (.func (.func 73) #[] #[]) ∧ Bx2 W (w.heap.size + 2) (.int .i64 0) (.int .i64 0) ∧ Below w.heap.size w W from ⟨hb0, hb1, hb2, hB⟩)
    have hz0 := hb0.lt
    obtain ⟨A0, A1⟩ := A
    obtain ⟨X0, X1⟩ := x
    dsimp only at *
    clear hb0 hb1 hb2 hB bX hA
    unfold spv
    gi_wp2
    refine ⟨trivial, fun _ => by omega, ?_⟩
    refine (CallsIn.inRound l (callsIn_wide.2 (c73 _))).mono ?_
    rintro e w2 ⟨rfl, hb⟩
    have hKO : KeepsOthers W w2 := ⟨hb.size, fun k o hk ho => (hb.block k (Array.getElem?_eq_some_iff.1 hk).1).trans hk⟩
    have hc0 := HI.out.1.keep hb
    have HB2 := Lib.hid hb
    have HKO := Lib.hid hKO
    have y0 := hc0.c0
    have y1 := hc0.c1
    have yf0 := hc0.f0 0
    have yf1 := hc0.f0 1
    have HC0 := Lib.hid hc0
    clear hb hKO hc0 x0 x1 j0
    generalize hm0 : max A0 X0 = m0 at *
    generalize hm1 : min A1 X1 = m1 at *
    gi_wp2
    have hBw : Below w.heap.size W w2 := HB2.out.mono (by omega)
    refine ⟨((HKO.out.trans (KeepsOthers.setCell _ _ _)).trans (KeepsOthers.setCell _ _ _)).from _, ?_, ?_, ?_, ?_, ?_⟩
    · exact ((HB2.out.mono (by have := HI.out.2.2.2.size; omega)).setCell (p := ⟨w.heap.size, 0, none⟩) hn₀ _).setCell (p := ⟨w.heap.size, 1, none⟩) hn₀ _
    · rw [HSN.out, ← HM.out]
      exact HC0.out.set _ _
    · have q := HI.out.2.1
      refine (Below.heap_setCell _ _ _ _ (by show w.heap.size + 1 ≠ w.heap.size; omega)).trans ((Below.heap_setCell _ _ _ _ (by show w.heap.size + 1 ≠ w.heap.size; omega)).trans ((HB2.out.block _ q.lt).trans q))
    · exact ((HI.out.2.2.1.keep HB2.out).far (by omega)).far (by omega)
    · exact ((HI.out.2.2.2.trans hBw).setCell (p := ⟨w.heap.size, 0, none⟩) (Nat.le_refl _) _).setCell (p := ⟨w.heap.size, 1, none⟩) (Nat.le_refl _) _
  case done =>
    rintro D ys W hD hys ⟨hb0, hb1, hb2, hB⟩ hK
    have y0 := hb0.c0
    have y1 := hb0.c1
    have z0 := hb2.c0
    have z1 := hb2.c1
    have zf0 := hb2.f0 0
    have zf1 := hb2.f0 1
    have hDz : w.heap.size + 3 ≤ D := by omega
    have hK2 : ((W.setCell ⟨w.heap.size + 1 + 1, 0, none⟩ (.int .i64 (meets f ys).1)).setCell ⟨w.heap.size + 1 + 1, 1, none⟩ (.int .i64 (meets f ys).2)).heap[D]? = some (.deferred (some [])) :=
      (Below.heap_setCell _ _ _ _ (by show D ≠ w.heap.size + 1 + 1; omega)).trans ((Below.heap_setCell _ _ _ _ (by show D ≠ w.heap.size + 1 + 1; omega)).trans hK)
    have hZ := hb2.set (.int .i64 (meets f ys).1) (.int .i64 (meets f ys).2)
    have hBZ : Below w.heap.size w ((W.setCell ⟨w.heap.size + 2, 0, none⟩ (.int .i64 (meets f ys).1)).setCell ⟨w.heap.size + 2, 1, none⟩ (.int .i64 (meets f ys).2)) := (hB.setCell (p := ⟨w.heap.size + 2, 0, none⟩) (by show w.heap.size ≤ w.heap.size + 2; omega) _).setCell (p := ⟨w.heap.size + 2, 1, none⟩) (by show w.heap.size ≤ w.heap.size + 2; omega) _
    have hZ2 : Bx2 (((W.setCell ⟨w.heap.size + 2, 0, none⟩ (.int .i64 (meets f ys).1)).setCell ⟨w.heap.size + 2, 1, none⟩ (.int .i64 (meets f ys).2)).putObj D (.deferred none)) (w.heap.size + 2) (.int .i64 (meets f ys).1) (.int .i64 (meets f ys).2) := (World.putObj_heap_other (by omega)).trans hZ
    have u0 := hZ2.c0
    have u1 := hZ2.c1
    gi_wp2
    refine ⟨by simp, .inl ⟨_, _, rfl, run_takeDeferred hK2, ?_⟩⟩
    refine ⟨.agg #[.int .i64 (meets f ys).1, .int .i64 (meets f ys).2], by simp [results, Try.results106, go_sem, u0, u1], ys, hys, rfl, hBZ.trans (belowK_b (w := w) (Nat.le_refl _) _ D _ _ (by omega) hK2 rfl rfl)⟩
  case stop =>
    rintro D c pre W _ _ h _
    exact h.elim
end Go.Proofs.Ytcchmjbedppfnaa

/-
  Clock: the first contradiction.
-/
import Derived.Test.YtcchmjbedppfnaaCkK
namespace Go.Proofs.Ytcchmjbedppfnaa
open Go.RowKit Go.Shelf
attribute [local go_sem] Oper.semAt_some
set_option linter.unusedSimpArgs false
/-- a block with a pair -/
def Bp (W : World) (B : Nat) (u v : Value) : Prop := W.heap[B]? = some (.cells #[u, v] 134 (0, 0))
theorem Bp.lt {W : World} {B : Nat} {u v : Value} (h : Bp W B u v) : B < W.heap.size := (Array.getElem?_eq_some_iff.1 h).1
theorem Bp.c0 {W : World} {B : Nat} {u v : Value} (h : Bp W B u v) : W.cell? ⟨B, 0, none⟩ = some u := by simp [World.cell?, show W.heap[B]? = _ from h]
theorem Bp.c1 {W : World} {B : Nat} {u v : Value} (h : Bp W B u v) : W.cell? ⟨B, 1, none⟩ = some v := by simp [World.cell?, show W.heap[B]? = _ from h]
theorem Bp.f0 {W : World} {B : Nat} {u v : Value} (h : Bp W B u v) (o : Nat) : W.frozen? ⟨B, o, none⟩ = false := by simp [World.frozen?, show W.heap[B]? = _ from h]
theorem Bp.new (W : World) (u v : Value) : Bp (W.alloc (.cells #[u, v] 134)) W.heap.size u v := World.alloc_heap_new W _
theorem Bp.keep {W W' : World} {B : Nat} {u v : Value} (h : Bp W B u v) (hb : Below W.heap.size W W') : Bp W' B u v := (hb.block B h.lt).trans h
theorem Bp.at {n : Nat} {W W' : World} {B : Nat} {u v : Value} (h : Bp W B u v) (hb : Below n W W') (hB : B < n) : Bp W' B u v := (hb.block B hB).trans h
theorem Bp.kept {W W' : World} {row : Option Nat} {B : Nat} {u v : Value} (h : Bp W B u v) (hg : W.grownBy W' row) (hr : ∀ r, row = some r → ∃ o : Obj, W.heap[r]? = some o ∧ o.isCells = false) : Bp W' B u v :=
  (hg.block B h.lt (fun e => by obtain ⟨o, ho, hc⟩ := hr B e.symm; rw [show W.heap[B]? = _ from h] at ho; cases ho; cases hc)).trans h
theorem Bp.set {W : World} {B : Nat} {u v : Value} (h : Bp W B u v) (u' v' : Value) : Bp ((W.setCell ⟨B, 0, none⟩ u').setCell ⟨B, 1, none⟩ v') B u' v' := by
  have e : W.heap[B]? = _ := h
  unfold Bp
  simp [World.setCell, Array.getElem?_modify, e]
/-- z is the first contradiction, or (0, 0) and there is none -/
def CdP (r : Int) (os : List Of) (z : Nat × Nat) : Prop :=
  (z = (0, 0) ∧ ∀ i k, i < k → k < os.length → cdB r os i k = false) ∨
  (z.1 < z.2 ∧ z.2 < os.length ∧ cdB r os z.1 z.2 = true ∧ ∀ i k, i < k → k < os.length → (k < z.2 ∨ (k = z.2 ∧ i < z.1)) → cdB r os i k = false)
/-- between two pairs -/
def CtI (r : Int) (os : List Of) (V : World) (pre : List (Pq os.length)) (W : World) : Prop := (∀ p ∈ pre, cdB r os p.1.1 p.1.2 = false) ∧ Below V.heap.size V W
/-- at the first contradiction -/
def CtX (r : Int) (os : List Of) (B : Nat) (w : World) (c : Code) (pre : List (Pq os.length)) (W : World) : Prop :=
  c = .ret ∧ ∃ pre' x, pre = pre' ++ [x] ∧ (∀ p ∈ pre', cdB r os p.1.1 p.1.2 = false) ∧ cdB r os x.1.1 x.1.2 = true ∧ Bp W B (.int .i64 x.1.1) (.int .i64 x.1.2) ∧ Below w.heap.size w W
theorem cdP_none {r : Int} {os : List Of} {ys : List (Pq os.length)} (hA : AllQ os.length ys) (h : ∀ p ∈ ys, cdB r os p.1.1 p.1.2 = false) : CdP r os (0, 0) :=
  .inl ⟨rfl, fun i k h1 h2 => by obtain ⟨p, hp, e⟩ := (hA i k).2 ⟨h1, h2⟩; have := h p hp; rwa [e] at this⟩
theorem cdP_some {r : Int} {os : List Of} {pre pre' : List (Pq os.length)} {x : Pq os.length} (hS : SpQ os.length pre) (he : pre = pre' ++ [x]) (h : ∀ p ∈ pre', cdB r os p.1.1 p.1.2 = false) (hx : cdB r os x.1.1 x.1.2 = true) : CdP r os x.1 := by
  obtain ⟨q, y, e, hq⟩ := hS
  rw [he] at e
  obtain ⟨rfl, e2⟩ := List.append_inj' e rfl
  obtain rfl : x = y := by simpa using e2
  refine .inr ⟨x.2.1, x.2.2, hx, fun i k h1 h2 h3 => ?_⟩
  obtain ⟨p, hp, e⟩ := (hq i k).2 ⟨h1, h2, h3⟩
  have := h p hp
  rwa [e] at this
set_option maxRecDepth 100000 in
set_option maxHeartbeats 4000000 in
theorem contradiction_in (n : Nat) (hn : 3 ≤ n) (p r : Int) (sv : Value) (os : List Of) (hv : Valid r os) (w : World) (hO : Ofs w.heap.size w sv os) :
    CallsIn Fence.wide n Try.prog 88 #[.agg #[.int .i64 p, .int .i64 r, sv]] w fun e W' => ∃ z : Nat × Nat, CdP r os z ∧ e = .returned (.agg #[.int .i64 z.1, .int .i64 z.2]) ∧ Below w.heap.size w W' := by
  have hlen := hv.2.1
  obtain ⟨a, cap, hsv⟩ := hO.form
  subst hsv
  have HCT := Lib.hid (fun (i k : Nat) (hi : i < os.length) (hk : k < os.length) W (hb : Below w.heap.size w W) => contradict_any p r (.slice a os.length cap) os hv i k hi hk W (hO.at hb))
  refine callsIn_of_wp_marks Try.func88 rfl trivial ?_ rfl
  simp only [Try.ntmps88, List.size_toArray, List.length_cons, List.length_nil, Nat.reduceAdd, Nat.reduceSub, Array.replicate_succ, Array.replicate_zero, List.push_toArray, List.append_toArray, List.nil_append, List.cons_append]
  gi_wp2
  refine ⟨trivial, fun _ => by omega, ?_⟩
  refine (callsIn_wide.2 (pairs_any _ _)).mono ?_
  rintro e V ⟨rfl, hV⟩
  have hVz : V.heap.size = w.heap.size + 3 := by rw [hV]; simp
  have hVB : Below w.heap.size w V := by rw [hV]; exact (((Below.refl _ w).alloc (Nat.le_refl _) _).alloc (by simp) _).alloc (by simp; omega) _
  have k0 : V.cell? ⟨w.heap.size, 0, none⟩ = some (.int .i64 p) := by rw [hV]; simp [go_sem]
  have k1 : V.cell? ⟨w.heap.size, 1, none⟩ = some (.int .i64 r) := by rw [hV]; simp [go_sem]
  have k2 : V.cell? ⟨w.heap.size, 2, none⟩ = some (.slice a os.length cap) := by rw [hV]; simp [go_sem]
  have kn : V.cell? ⟨w.heap.size + 1 + 1, 0, none⟩ = some (.int .i64 os.length) := by rw [hV]; simp [go_sem]
  have hR : Bp V (w.heap.size + 1) (.int .i64 0) (.int .i64 0) := by
    rw [hV]
    have q := (Bp.new (w.alloc (.cells #[.int .i64 p, .int .i64 r, .slice a os.length cap] 129)) (.int .i64 0) (.int .i64 0)).keep ((Below.refl _ _).alloc (Nat.le_refl _) (.cells #[.int .i64 os.length] 3))
    rwa [World.size_alloc] at q
  have HR := Lib.hid hR
  have HVZ := Lib.hid hVz
  have HVB := Lib.hid hVB
  have HV := Lib.hid hV
  have KK := Lib.hid (show ∀ W, Below V.heap.size V W → W.cell? ⟨w.heap.size, 0, none⟩ = some (.int .i64 p) ∧ W.cell? ⟨w.heap.size, 1, none⟩ = some (.int .i64 r) ∧ W.cell? ⟨w.heap.size, 2, none⟩ = some (.slice a os.length cap) from fun W h => ⟨(h.cell (p := ⟨w.heap.size, 0, none⟩) (by show w.heap.size < V.heap.size; omega)).trans k0, (h.cell (p := ⟨w.heap.size, 1, none⟩) (by show w.heap.size < V.heap.size; omega)).trans k1, (h.cell (p := ⟨w.heap.size, 2, none⟩) (by show w.heap.size < V.heap.size; omega)).trans k2⟩)
  clear hV hVz hVB k0 k1 k2 hR
  gi_wp2
  try rw [← HV.out]
  refine wpIn_rangeFunc_ownH rfl (by omega) (gf := 159) (lb := #[.pointer (some ⟨w.heap.size + 1 + 1, 0, none⟩)]) rfl trivial (enters_of Try.func159 (by kernel_rfl) rfl) (pairs_stops (n - 1) (by omega) (w.heap.size + 1 + 1) os.length hlen V kn) (fun _ _ => trivial) (fun _ _ _ _ _ _ _ _ => trivial) (Below.refl _ _) (fun _ => rfl)
    (CtI r os V) (CtX r os (w.heap.size + 1) w)
    (fun pre A B row hs hg hr => ⟨hs.1, hs.2.grown hg hs.2.size (fun k e => (hr k e).1)⟩)
    (fun c pre A B row hs hg hr => by
      obtain ⟨e, pre', x, e1, e2, e3, e4, e5⟩ := hs
      exact ⟨e, pre', x, e1, e2, e3, e4.kept hg (fun r e => (hr r e).2), e5.grown hg e5.size (fun k e => by have := (hr k e).1; have := HVZ.out; omega)⟩)
    ⟨fun p hp => (by cases hp), Below.refl _ _⟩
    (fun x a' W => ∃ Bx, V.heap.size ≤ Bx ∧ Bp W Bx (.int .i64 x.1.1) (.int .i64 x.1.2) ∧ a' = { tmps := #[.agg #[.int .i64 p, .int .i64 r, .slice a os.length cap], .pointer (some ⟨w.heap.size, 0, none⟩), .pointer (some ⟨w.heap.size + 1, 0, none⟩), .pointer (some ⟨Bx, 0, none⟩), .pointer (some ⟨w.heap.size, 2, none⟩), .slice a os.length cap, .int .i64 os.length, .func (.func 159) #[] #[.pointer (some ⟨w.heap.size + 1 + 1, 0, none⟩)], .agg #[.int .i64 x.1.1, .int .i64 x.1.2], undef, undef, undef, undef, undef, undef, undef, undef], defers := [] })
    (fun x a' _ X Y row hs hg hr => by obtain ⟨Bx, h1, h2, h3⟩ := hs; exact ⟨Bx, h1, h2.kept hg (fun r e => (hr r e).2), h3⟩)
    ?assign ?body ?done ?stop
  case assign =>
    rintro l pre x W K ⟨hin, hB⟩ hK
    have hz := hB.size
    unfold pqs
    gi_wp2
    exact hK _ _ ((KeepsOthers.alloc _ _).from _) trivial ⟨hin, hB.alloc hB.size _⟩ ⟨W.heap.size, hz, Bp.new W _ _, rfl⟩
  case body =>
    rintro l pre x a' W hl ⟨r0, hr0⟩ ⟨hin, hB⟩ ⟨Bx, hBx, bX, rfl⟩ hlt
    have x0 := bX.c0
    have x1 := bX.c1
    obtain ⟨k0, k1, k2⟩ := KK.out _ hB
    have c96 := HCT.out x.1.1 x.1.2 (by have := x.2; omega) x.2.2
    have HIN := Lib.hid hin
    have HB := Lib.hid hB
    have HX := Lib.hid bX
    have hWB := HVB.out.trans (hB.mono (by have := HVZ.out; omega))
    have HC := Lib.hid (c96 W hWB)
    have HWB := Lib.hid hWB
    clear hin hB bX c96 hWB
    gi_wp2
    refine ⟨trivial, fun _ => by omega, ?_⟩
    refine (CallsIn.inRound l (callsIn_wide.2 HC.out)).mono ?_
    rintro e w2 ⟨rfl, hb⟩
    have hKO : KeepsOthers W w2 := ⟨hb.size, fun k o hk ho => (hb.block k (Array.getElem?_eq_some_iff.1 hk).1).trans hk⟩
    have HKO := Lib.hid hKO
    have HB2 := Lib.hid (HB.out.trans (hb.mono HB.out.size))
    have HWB2 := Lib.hid (HWB.out.trans (hb.mono HWB.out.size))
    have x0 := (HX.out.keep hb).c0
    have x1 := (HX.out.keep hb).c1
    have hR2 := HR.out.at HB2.out (by have := HVZ.out; omega)
    have HR2 := Lib.hid hR2
    have y0 := hR2.c0
    have y1 := hR2.c1
    have yf0 := hR2.f0 0
    have yf1 := hR2.f0 1
    clear hb hKO hR2 k0 k1 k2
    generalize hcd : cdB r os x.1.1 x.1.2 = cd at *
    have HCD := Lib.hid hcd
    clear hcd
    cases cd
    · gi_wp2
      refine ⟨HKO.out.from _, trivial, fun p hp => ?_, HB2.out⟩
      rcases List.mem_append.1 hp with h | h
      · exact HIN.out p h
      · have e : p = x := by simpa using h
        rw [e]; exact HCD.out
    · gi_wp2
      exact ⟨((HKO.out.trans (KeepsOthers.setCell _ _ _)).trans (KeepsOthers.setCell _ _ _)).from _, rfl, pre, x, rfl, HIN.out, HCD.out, HR2.out.set _ _, (HWB2.out.setCell (p := ⟨w.heap.size + 1, 0, none⟩) (by show w.heap.size ≤ w.heap.size + 1; omega) _).setCell (p := ⟨w.heap.size + 1, 1, none⟩) (by show w.heap.size ≤ w.heap.size + 1; omega) _⟩
  case done =>
    rintro D ys W hD hys ⟨hin, hB⟩ hK
    have HZ := Lib.hid (cdP_none hys hin)
    have HB := Lib.hid hB
    have hDz := HVZ.out
    clear hin hB
    gi_wp2
    refine ⟨trivial, fun _ => by omega, ?_⟩
    refine (callsIn_wide.2 (none_any _)).mono ?_
    rintro e w2 ⟨rfl, hb⟩
    have hK1 : w2.heap[D]? = some (.deferred (some [])) := (hb.block D (Array.getElem?_eq_some_iff.1 hK).1).trans hK
    have hBw := HB.out.trans (hb.mono HB.out.size)
    have hR2 := HR.out.at hBw (by omega)
    have hK2 : ((w2.setCell ⟨w.heap.size + 1, 0, none⟩ (.int .i64 0)).setCell ⟨w.heap.size + 1, 1, none⟩ (.int .i64 0)).heap[D]? = some (.deferred (some [])) :=
      (Below.heap_setCell _ _ _ _ (by show D ≠ w.heap.size + 1; omega)).trans ((Below.heap_setCell _ _ _ _ (by show D ≠ w.heap.size + 1; omega)).trans hK1)
    have hBZ : Below w.heap.size w ((w2.setCell ⟨w.heap.size + 1, 0, none⟩ (.int .i64 0)).setCell ⟨w.heap.size + 1, 1, none⟩ (.int .i64 0)) := ((HVB.out.trans (hBw.mono (by omega))).setCell (p := ⟨w.heap.size + 1, 0, none⟩) (by show w.heap.size ≤ w.heap.size + 1; omega) _).setCell (p := ⟨w.heap.size + 1, 1, none⟩) (by show w.heap.size ≤ w.heap.size + 1; omega) _
    have hZ2 : Bp (((w2.setCell ⟨w.heap.size + 1, 0, none⟩ (.int .i64 0)).setCell ⟨w.heap.size + 1, 1, none⟩ (.int .i64 0)).putObj D (.deferred none)) (w.heap.size + 1) (.int .i64 0) (.int .i64 0) := (World.putObj_heap_other (by omega)).trans (hR2.set _ _)
    have u0 := hZ2.c0
    have u1 := hZ2.c1
    have y0 := hR2.c0
    have y1 := hR2.c1
    have yf0 := hR2.f0 0
    have yf1 := hR2.f0 1
    have hsz : w.heap.size ≤ ((w2.setCell ⟨w.heap.size + 1, 0, none⟩ (.int .i64 0)).setCell ⟨w.heap.size + 1, 1, none⟩ (.int .i64 0)).heap.size := hBZ.size
    clear hb hBw
    gi_wp2
    refine ⟨by simp, .inl ⟨_, _, rfl, run_takeDeferred hK2, ?_⟩⟩
    exact ⟨.agg #[.int .i64 0, .int .i64 0], by simp [results, Try.results88, go_sem, u0, u1], (0, 0), HZ.out, rfl, hBZ.trans (belowK_b (w := w) (Nat.le_refl _) _ D _ _ (by omega) hK2 rfl rfl)⟩
  case stop =>
    rintro D c pre W hD hS ⟨rfl, pre', x, he, hin, hx, hb, hB⟩ hK
    have HZ := Lib.hid (cdP_some hS he hin hx)
    have hDz := HVZ.out
    have hZ2 : Bp (W.putObj D (.deferred none)) (w.heap.size + 1) (.int .i64 x.1.1) (.int .i64 x.1.2) := (World.putObj_heap_other (by omega)).trans hb
    have u0 := hZ2.c0
    have u1 := hZ2.c1
    gi_wp2
    refine ⟨by simp, .inl ⟨_, _, rfl, run_takeDeferred hK, ?_⟩⟩
    exact ⟨.agg #[.int .i64 x.1.1, .int .i64 x.1.2], by simp [results, Try.results88, go_sem, u0, u1], x.1, HZ.out, rfl, hB.trans (belowK_b (w := w) (Nat.le_refl _) _ D _ _ (by omega) hK rfl rfl)⟩
theorem contradiction_any (p r : Int) (sv : Value) (os : List Of) (hv : Valid r os) (w : World) (hO : Ofs w.heap.size w sv os) :
    Calls Try.prog 88 #[.agg #[.int .i64 p, .int .i64 r, sv]] w fun e W' => ∃ z : Nat × Nat, CdP r os z ∧ e = .returned (.agg #[.int .i64 z.1, .int .i64 z.2]) ∧ Below w.heap.size w W' :=
  callsIn_wide.1 (contradiction_in 10 (by omega) p r sv os hv w hO)
end Go.Proofs.Ytcchmjbedppfnaa

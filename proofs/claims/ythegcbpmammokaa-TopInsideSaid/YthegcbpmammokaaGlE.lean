/-
  Glider in this seat: boxes in boxes; rows of the call's own.
-/
import Derived.Test.YthegcbpmammokaaGlD
namespace Go.Proofs.Ythegcbpmammokaa
open Go.RowKit
set_option linter.unusedSimpArgs false
set_option maxHeartbeats 4000000
set_option maxRecDepth 100000
theorem own_keep {W W' : World} {base : Nat} {e : TypeId} {size n : Nat} {v : Value} {xs : List Value} (h : W.ownsRow base e size v n xs) (hs : ∀ j, v.ownBlock = some j → W'.heap[j]? = W.heap[j]?) : W'.ownsRow base e size v n xs := by
  refine ⟨h.1, ?_⟩
  rcases h.2 with ⟨rfl, h0⟩ | ⟨g, cap, cur, rfl, hb, hg, r1, r2, r3, r4⟩
  · exact .inl ⟨rfl, h0⟩
  · exact .inr ⟨g, cap, cur, rfl, hb, (hs g rfl).trans hg, r1, r2, r3, r4⟩
theorem own_below {W W' : World} {base : Nat} {e : TypeId} {size n : Nat} {v : Value} {xs : List Value} (h : W.ownsRow base e size v n xs) (hb : Below W.heap.size W W') : W'.ownsRow base e size v n xs :=
  own_keep h fun j hj => hb.block j (h.lt j hj).2
theorem own_form {W : World} {base : Nat} {e : TypeId} {size n : Nat} {v : Value} {xs : List Value} (h : W.ownsRow base e size v n xs) : ∃ a c, v = .slice a n c := by
  rcases h.2 with ⟨rfl, h0⟩ | ⟨g, cap, cur, rfl, hb, hg, r1, r2, r3, r4⟩
  · exact ⟨none, 0, by rw [h0]⟩
  · exact ⟨_, _, rfl⟩
theorem infoA : (Try.prog.info? 46).map (fun i => (i.zero, i.size, i.bytes)) = some (some (.int .i64 0), 1, 8) := by kernel_rfl
theorem infoB : (Try.prog.info? 29).map (fun i => (i.zero, i.size, i.bytes)) = some (some (.agg #[.int .i64 0, .int .i64 0, .int .i64 0, .int .i64 0]), 4, 32) := by kernel_rfl
def numv (xs : List Int) : List Value := xs.map (.int .i64 ·)
theorem numv_snoc (xs : List Int) (x : Int) : numv (xs ++ [x]) = numv xs ++ [.int .i64 x] := by simp [numv]
theorem one_newA (W : World) (x : Value) : ∀ (j : Nat) (u : Value), [x][j]? = some u → (W.alloc (.cells #[x] 46)).cell? ((⟨W.heap.size, 0, none⟩ : Addr).add j) = some u := by
  intro j u hj
  match j, hj with
  | 0, hj => simp at hj; subst hj; simp [Addr.add]
theorem four_newB (W : World) (x y z u : Value) : ∀ (j : Nat) (t : Value), [x, y, z, u][j]? = some t → (W.alloc (.cells #[x, y, z, u] 29)).cell? ((⟨W.heap.size, 0, none⟩ : Addr).add j) = some t := by
  intro j t hj
  match j, hj with
  | 0, hj => simp at hj; subst hj; simp [Addr.add]
  | 1, hj => simp at hj; subst hj; simp [Addr.add]
  | 2, hj => simp at hj; subst hj; simp [Addr.add]
  | 3, hj => simp at hj; subst hj; simp [Addr.add]
/-- a row of answers of the call's own -/
theorem sla_of_owns {W : World} {base : Nat} {v : Value} {xs : List Int} (hl : xs.length ≤ 9223372036854775807) (h : W.ownsRow base 46 1 v xs.length (numv xs)) : SlA W v xs := by
  rcases h.2 with ⟨rfl, h0⟩ | ⟨g, cap, cur, rfl, hb, hg, r1, r2, r3, r4⟩
  · exact .inl ⟨none, 0, rfl, List.eq_nil_of_length_eq_zero h0⟩
  · refine .inr ⟨g, 0, cap, rfl, hl, (Array.getElem?_eq_some_iff.1 hg).1, fun j hj => ?_⟩
    have e : cur.toList[j]? = some (.int .i64 (xs[j]?.getD 0)) := by
      have h4 : (cur.toList.take (xs.length * 1))[j]? = (numv xs)[j]? := by rw [r4]
      rw [List.getElem?_take_of_lt (by omega)] at h4
      rw [h4]
      simp [numv, hj]
    rw [Nat.zero_add]
    simp only [World.cell?, hg]
    simpa using e
def flatQ (zs : List Q4) : List Value := zs.flatMap fun x => [.int .i64 x.a, .int .i64 x.b, .int .i64 x.c, .int .i64 x.d]
theorem flatQ_snoc (cs : List Q4) (x : Q4) : flatQ (cs ++ [x]) = flatQ cs ++ [.int .i64 x.a, .int .i64 x.b, .int .i64 x.c, .int .i64 x.d] := by simp [flatQ]
theorem flatQ_get : ∀ (zs : List Q4) (k : Nat), k < zs.length → (flatQ zs)[k * 4]? = some (.int .i64 (q4 zs k).a) ∧ (flatQ zs)[k * 4 + 1]? = some (.int .i64 (q4 zs k).b) ∧ (flatQ zs)[k * 4 + 2]? = some (.int .i64 (q4 zs k).c) ∧ (flatQ zs)[k * 4 + 3]? = some (.int .i64 (q4 zs k).d)
  | [], k, h => by simp at h
  | c :: cs, 0, _ => by simp [flatQ, q4]
  | c :: cs, k + 1, h => by
    have ih := flatQ_get cs k (by simpa using h)
    have e : ∀ j, (flatQ (c :: cs))[(k + 1) * 4 + j]? = (flatQ cs)[k * 4 + j]? := fun j => by
      have : (k + 1) * 4 + j = k * 4 + j + 4 := by omega
      rw [this]
      simp [flatQ]
    have e0 := e 0
    simp only [Nat.add_zero] at e0
    rw [e0, e 1, e 2, e 3]
    have g : q4 (c :: cs) (k + 1) = q4 cs k := by simp [q4]
    rw [g]
    exact ih
theorem q4s_of_owns {W : World} {base : Nat} {v : Value} {cs : List Q4} (h : W.ownsRow base 29 4 v cs.length (flatQ cs)) : Q4s W.heap.size W v cs := by
  rcases h.2 with ⟨rfl, h0⟩ | ⟨g, cap, cur, rfl, hb, hg, r1, r2, r3, r4⟩
  · exact ⟨none, 0, by rw [h0], by omega, fun j hj => by omega⟩
  · refine ⟨_, cap, rfl, r1, fun j hj => ⟨g, 0, rfl, (Array.getElem?_eq_some_iff.1 hg).1, ?_⟩⟩
    obtain ⟨e1, e2, e3, e4⟩ := flatQ_get cs j hj
    have h4 : ∀ i, i < cs.length * 4 → cur.toList[i]? = (flatQ cs)[i]? := by
      intro i hi
      rw [← r4, List.getElem?_take_of_lt hi]
    rw [Nat.zero_add]
    simp only [World.cell?, hg]
    refine ⟨?_, ?_, ?_, ?_⟩
    · have := (h4 (j * 4) (by omega)).trans e1; simpa using this
    · have := (h4 (j * 4 + 1) (by omega)).trans e2; simpa using this
    · have := (h4 (j * 4 + 2) (by omega)).trans e3; simpa using this
    · have := (h4 (j * 4 + 3) (by omega)).trans e4; simpa using this
/-- whether a box is in another one -/
def insV (x y : Q4) : Int := (allS [(inS x.a x.b y.a y.b).v, (inS x.c x.d y.c y.d).v]).v
theorem inS_bd (a b c d : Int) : 0 ≤ (inS a b c d).v ∧ (inS a b c d).v ≤ 2 := by
  unfold inS
  split
  · split
    · decide
    · split <;> decide
  · decide
theorem ans_two {x y : Int} (hx : 0 ≤ x ∧ x ≤ 2) (hy : 0 ≤ y ∧ y ≤ 2) : ansL [x, y] = 0 := by
  unfold ansL
  rw [if_neg (by simp), if_pos]
  simp [okA, hx, hy]
theorem insV_bd (x y : Q4) : 0 ≤ insV x y ∧ insV x y ≤ 2 := by
  have h1 := inS_bd x.a x.b y.a y.b
  have h2 := inS_bd x.c x.d y.c y.d
  unfold insV allS
  rw [if_pos (ans_two h1 h2)]
  show 0 ≤ min (min 2 _) _ ∧ min (min 2 _) _ ≤ 2
  omega
theorem all_two {x y : Q4} : (allS [(inS x.a x.b y.a y.b).v, (inS x.c x.d y.c y.d).v]).e = 0 := by
  unfold allS
  rw [if_pos (ans_two (inS_bd _ _ _ _) (inS_bd _ _ _ _))]
theorem sla_two (W : World) (x y : Int) : SlA (W.alloc (.cells #[.int .i64 x, .int .i64 y] 46)) (.slice (some ⟨W.heap.size, 0, none⟩) 2 2) [x, y] := by
  refine .inr ⟨W.heap.size, 0, 2, rfl, by simp, by simp, fun k hk => ?_⟩
  rw [cellHB (World.alloc_heap_new W _) _]
  match k, hk with
  | 0, _ => rfl
  | 1, _ => rfl
/-- two boxes one after another -/
theorem boxed_two (w : World) (c1 c2 : Array Value) (t1 t2 : TypeId) : (∀ o, ((w.alloc (.cells c1 t1)).alloc (.cells c2 t2)).cell? ⟨w.heap.size, o, none⟩ = c1[o]?) ∧ (∀ o, ((w.alloc (.cells c1 t1)).alloc (.cells c2 t2)).cell? ⟨w.heap.size + 1, o, none⟩ = c2[o]?) ∧
    ((w.alloc (.cells c1 t1)).alloc (.cells c2 t2)).heap.size = w.heap.size + 2 ∧ Below w.heap.size w ((w.alloc (.cells c1 t1)).alloc (.cells c2 t2)) := by
  refine ⟨fun o => ?_, fun o => ?_, by simp, ((Below.refl _ _).alloc (Nat.le_refl _) _).alloc (by simp) _⟩
  · have hb := (Below.refl (w.alloc (.cells c1 t1)).heap.size (w.alloc (.cells c1 t1))).alloc (Nat.le_refl _) (.cells c2 t2)
    exact (hb.cell (p := ⟨w.heap.size, o, none⟩) (by simp)).trans (cellHB (World.alloc_heap_new w _) o)
  · have h := World.alloc_heap_new (w.alloc (.cells c1 t1)) (.cells c2 t2)
    rw [show (w.alloc (.cells c1 t1)).heap.size = w.heap.size + 1 by simp] at h
    exact cellHB h o
theorem inside_any (x y : Q4) (w : World) :
    Calls Try.prog 49 #[.agg #[.int .i64 x.a, .int .i64 x.b, .int .i64 x.c, .int .i64 x.d], .agg #[.int .i64 y.a, .int .i64 y.b, .int .i64 y.c, .int .i64 y.d]] w fun e w' => e = .returned (.int .i64 (insV x y)) ∧ Below w.heap.size w w' := by
  have c1 := fun W => in_any x.a x.b y.a y.b W
  have c2 := fun W => in_any x.c x.d y.c y.d W
  have HA2 := Lib.hid (show (allS [(inS x.a x.b y.a y.b).v, (inS x.c x.d y.c y.d).v]).e = 0 from all_two)
  have HV := Lib.hid (show insV x y = (allS [(inS x.a x.b y.a y.b).v, (inS x.c x.d y.c y.d).v]).v from rfl)
  generalize (inS x.a x.b y.a y.b).v = p at *
  generalize (inS x.c x.d y.c y.d).v = q at *
  generalize (inS x.a x.b y.a y.b).e = pe at *
  generalize (inS x.c x.d y.c y.d).e = qe at *
  have c3 := fun v W hv => all_any [p, q] v W hv
  generalize allS [p, q] = r at *
  rw [HA2.out] at c3
  generalize r.v = rv at *
  obtain ⟨A, hA⟩ : ∃ A, A = (w.alloc (.cells #[.int .i64 x.a, .int .i64 x.b, .int .i64 x.c, .int .i64 x.d] 29)).alloc (.cells #[.int .i64 y.a, .int .i64 y.b, .int .i64 y.c, .int .i64 y.d] 29) := ⟨_, rfl⟩
  obtain ⟨k, j, hzA, hBA⟩ := boxed_two w #[.int .i64 x.a, .int .i64 x.b, .int .i64 x.c, .int .i64 x.d] #[.int .i64 y.a, .int .i64 y.b, .int .i64 y.c, .int .i64 y.d] 29 29
  rw [← hA] at k j hzA hBA
  have HBA := Lib.hid hBA
  clear hBA
  have KK := Lib.hid (show ∀ W, Below A.heap.size A W → W.cell? ⟨w.heap.size, 0, none⟩ = some (.int .i64 x.a) ∧ W.cell? ⟨w.heap.size, 1, none⟩ = some (.int .i64 x.b) ∧ W.cell? ⟨w.heap.size, 2, none⟩ = some (.int .i64 x.c) ∧ W.cell? ⟨w.heap.size, 3, none⟩ = some (.int .i64 x.d) ∧ W.cell? ⟨w.heap.size + 1, 0, none⟩ = some (.int .i64 y.a) ∧ W.cell? ⟨w.heap.size + 1, 1, none⟩ = some (.int .i64 y.b) ∧ W.cell? ⟨w.heap.size + 1, 2, none⟩ = some (.int .i64 y.c) ∧ W.cell? ⟨w.heap.size + 1, 3, none⟩ = some (.int .i64 y.d) from fun W h => ⟨(h.cell (p := ⟨w.heap.size, 0, none⟩) (by show w.heap.size < A.heap.size; omega)).trans (k 0), (h.cell (p := ⟨w.heap.size, 1, none⟩) (by show w.heap.size < A.heap.size; omega)).trans (k 1), (h.cell (p := ⟨w.heap.size, 2, none⟩) (by show w.heap.size < A.heap.size; omega)).trans (k 2), (h.cell (p := ⟨w.heap.size, 3, none⟩) (by show w.heap.size < A.heap.size; omega)).trans (k 3), (h.cell (p := ⟨w.heap.size + 1, 0, none⟩) (by show w.heap.size + 1 < A.heap.size; omega)).trans (j 0), (h.cell (p := ⟨w.heap.size + 1, 1, none⟩) (by show w.heap.size + 1 < A.heap.size; omega)).trans (j 1), (h.cell (p := ⟨w.heap.size + 1, 2, none⟩) (by show w.heap.size + 1 < A.heap.size; omega)).trans (j 2), (h.cell (p := ⟨w.heap.size + 1, 3, none⟩) (by show w.heap.size + 1 < A.heap.size; omega)).trans (j 3)⟩)
  clear k j hzA
  generalize insV x y = iv at *
  generalize x.a = xa at *
  generalize x.b = xb at *
  generalize x.c = xc at *
  generalize x.d = xd at *
  generalize y.a = ya at *
  generalize y.b = yb at *
  generalize y.c = yc at *
  generalize y.d = yd at *
  obtain ⟨k0, k1, k2, k3, j0, j1, j2, j3⟩ := KK.out _ (Below.refl _ _)
  go_enter Try.func49, Try.ntmps49
  go_upto_region 1 with fail
  rw [← hA]
  clear hA
  go_wp2_with fail
  refine (c1 _).mono ?_
  rintro e w1 ⟨rfl, hb⟩
  have HB1 := Lib.hid hb
  clear hb k0 k1 k2 k3 j0 j1 j2 j3 c1
  obtain ⟨k0, k1, k2, k3, j0, j1, j2, j3⟩ := KK.out _ HB1.out
  go_wp2_with fail
  refine (c2 _).mono ?_
  rintro e w2 ⟨rfl, hb⟩
  have HB2 := Lib.hid (HB1.out.trans (hb.mono HB1.out.size))
  clear hb k0 k1 k2 k3 j0 j1 j2 j3 c2
  go_wp2_with fail
  refine (c3 _ _ (sla_two _ _ _)).mono ?_
  rintro e w3 ⟨rfl, hw⟩
  subst hw
  have HB3 := Lib.hid (HBA.out.trans ((HB2.out.alloc HB2.out.size (.cells #[.int .i64 p, .int .i64 q] 46)).mono HBA.out.size))
  clear c3
  go_wp2_with fail
  go_ret
  exact ⟨by rw [HV.out]; rfl, HB3.out⟩
theorem within12_any (x y : Q4) (h1 : (inS x.a x.b y.a y.b).e = 0) (h2 : (inS x.c x.d y.c y.d).e = 0) (w : World) :
    Calls Try.prog 12 #[.agg #[.int .i64 x.a, .int .i64 x.b, .int .i64 x.c, .int .i64 x.d], .agg #[.int .i64 y.a, .int .i64 y.b, .int .i64 y.c, .int .i64 y.d]] w fun e w' => e = .returned (.tuple #[.int .i64 (insV x y), .bool true]) ∧ Below w.heap.size w w' := by
  have c1 := fun W => in_any x.a x.b y.a y.b W
  have c2 := fun W => in_any x.c x.d y.c y.d W
  have HA2 := Lib.hid (show (allS [(inS x.a x.b y.a y.b).v, (inS x.c x.d y.c y.d).v]).e = 0 from all_two)
  have HV := Lib.hid (show insV x y = (allS [(inS x.a x.b y.a y.b).v, (inS x.c x.d y.c y.d).v]).v from rfl)
  rw [h1] at c1
  rw [h2] at c2
  clear h1 h2
  generalize (inS x.a x.b y.a y.b).v = p at *
  generalize (inS x.c x.d y.c y.d).v = q at *
  generalize (inS x.a x.b y.a y.b).e = pe at *
  generalize (inS x.c x.d y.c y.d).e = qe at *
  have c3 := fun v W hv => all_any [p, q] v W hv
  generalize allS [p, q] = r at *
  rw [HA2.out] at c3
  generalize r.v = rv at *
  obtain ⟨A, hA⟩ : ∃ A, A = (w.alloc (.cells #[.int .i64 x.a, .int .i64 x.b, .int .i64 x.c, .int .i64 x.d] 29)).alloc (.cells #[.int .i64 y.a, .int .i64 y.b, .int .i64 y.c, .int .i64 y.d] 29) := ⟨_, rfl⟩
  obtain ⟨k, j, hzA, hBA⟩ := boxed_two w #[.int .i64 x.a, .int .i64 x.b, .int .i64 x.c, .int .i64 x.d] #[.int .i64 y.a, .int .i64 y.b, .int .i64 y.c, .int .i64 y.d] 29 29
  rw [← hA] at k j hzA hBA
  have HBA := Lib.hid hBA
  clear hBA
  have KK := Lib.hid (show ∀ W, Below A.heap.size A W → W.cell? ⟨w.heap.size, 0, none⟩ = some (.int .i64 x.a) ∧ W.cell? ⟨w.heap.size, 1, none⟩ = some (.int .i64 x.b) ∧ W.cell? ⟨w.heap.size, 2, none⟩ = some (.int .i64 x.c) ∧ W.cell? ⟨w.heap.size, 3, none⟩ = some (.int .i64 x.d) ∧ W.cell? ⟨w.heap.size + 1, 0, none⟩ = some (.int .i64 y.a) ∧ W.cell? ⟨w.heap.size + 1, 1, none⟩ = some (.int .i64 y.b) ∧ W.cell? ⟨w.heap.size + 1, 2, none⟩ = some (.int .i64 y.c) ∧ W.cell? ⟨w.heap.size + 1, 3, none⟩ = some (.int .i64 y.d) from fun W h => ⟨(h.cell (p := ⟨w.heap.size, 0, none⟩) (by show w.heap.size < A.heap.size; omega)).trans (k 0), (h.cell (p := ⟨w.heap.size, 1, none⟩) (by show w.heap.size < A.heap.size; omega)).trans (k 1), (h.cell (p := ⟨w.heap.size, 2, none⟩) (by show w.heap.size < A.heap.size; omega)).trans (k 2), (h.cell (p := ⟨w.heap.size, 3, none⟩) (by show w.heap.size < A.heap.size; omega)).trans (k 3), (h.cell (p := ⟨w.heap.size + 1, 0, none⟩) (by show w.heap.size + 1 < A.heap.size; omega)).trans (j 0), (h.cell (p := ⟨w.heap.size + 1, 1, none⟩) (by show w.heap.size + 1 < A.heap.size; omega)).trans (j 1), (h.cell (p := ⟨w.heap.size + 1, 2, none⟩) (by show w.heap.size + 1 < A.heap.size; omega)).trans (j 2), (h.cell (p := ⟨w.heap.size + 1, 3, none⟩) (by show w.heap.size + 1 < A.heap.size; omega)).trans (j 3)⟩)
  clear k j hzA
  generalize insV x y = iv at *
  generalize x.a = xa at *
  generalize x.b = xb at *
  generalize x.c = xc at *
  generalize x.d = xd at *
  generalize y.a = ya at *
  generalize y.b = yb at *
  generalize y.c = yc at *
  generalize y.d = yd at *
  obtain ⟨k0, k1, k2, k3, j0, j1, j2, j3⟩ := KK.out _ (Below.refl _ _)
  go_enter Try.func12, Try.ntmps12
  go_upto_region 1 with fail
  rw [← hA]
  clear hA
  go_wp2_with fail
  refine (c1 _).mono ?_
  rintro e w1 ⟨rfl, hb⟩
  have HB1 := Lib.hid hb
  clear hb k0 k1 k2 k3 j0 j1 j2 j3 c1
  obtain ⟨k0, k1, k2, k3, j0, j1, j2, j3⟩ := KK.out _ HB1.out
  go_wp2_with fail
  refine (c2 _).mono ?_
  rintro e w2 ⟨rfl, hb⟩
  have HB2 := Lib.hid (HB1.out.trans (hb.mono HB1.out.size))
  clear hb k0 k1 k2 k3 j0 j1 j2 j3 c2
  go_wp2_with fail
  refine (c3 _ _ (sla_two _ _ _)).mono ?_
  rintro e w3 ⟨rfl, hw⟩
  subst hw
  have HB3 := Lib.hid (HBA.out.trans ((HB2.out.alloc HB2.out.size (.cells #[.int .i64 p, .int .i64 q] 46)).mono HBA.out.size))
  clear c3
  go_wp2_with fail
  go_ret2
  exact ⟨by rw [HV.out]; rfl, HB3.out⟩
end Go.Proofs.Ythegcbpmammokaa

/-
  Rows of spans that a call makes; sums in memory.
-/
import Derived.Test.YthogahdnidjelaaAdd
import Derived.Test.YthogahdnidjelaaTens
import Derived.OwnWalk
namespace Go.Proofs.Ythogahdnidjelaa
open Go.RowKit Go.Shelf
set_option linter.unusedSimpArgs false
theorem infoSp : (Try.prog.info? 41).map (fun i => (i.zero, i.size, i.bytes)) = some (some (.agg #[.int .i64 0, .int .i64 0]), 2, 16) := by kernel_rfl
def flatP (cs : List Pr) : List Value := cs.flatMap fun p => [.int .i64 p.lo, .int .i64 p.hi]
theorem flatP_snoc (cs : List Pr) (x : Pr) : flatP (cs ++ [x]) = flatP cs ++ [.int .i64 x.lo, .int .i64 x.hi] := by simp [flatP]
theorem flatP_get : ∀ (cs : List Pr) (k : Nat), k < cs.length → (flatP cs)[k * 2]? = some (.int .i64 (pr cs k).lo) ∧ (flatP cs)[k * 2 + 1]? = some (.int .i64 (pr cs k).hi)
  | [], k, h => by simp at h
  | c :: cs, 0, _ => by simp [flatP, pr]
  | c :: cs, k + 1, h => by
    have ih := flatP_get cs k (by simpa using h)
    have e : flatP (c :: cs) = .int .i64 c.lo :: .int .i64 c.hi :: flatP cs := by simp [flatP]
    have e2 : pr (c :: cs) (k + 1) = pr cs k := by simp [pr]
    rw [e, e2, show (k + 1) * 2 = k * 2 + 1 + 1 by omega, show k * 2 + 1 + 1 + 1 = (k * 2 + 1) + 1 + 1 by omega]
    simpa using ih
theorem two_new (W : World) (x y : Value) : ∀ (j : Nat) (u : Value), [x, y][j]? = some u → (W.alloc (.cells #[x, y] 41)).cell? ((⟨W.heap.size, 0, none⟩ : Addr).add j) = some u := by
  intro j u hj
  match j, hj with
  | 0, hj => simp at hj; subst hj; simp [Addr.add]
  | 1, hj => simp at hj; subst hj; simp [Addr.add]
theorem prs_of_owns {W : World} {base : Nat} {v : Value} {cs : List Pr} (h : W.ownsRow base 41 2 v cs.length (flatP cs)) : Prs W.heap.size W v cs := by
  rcases h.2 with ⟨rfl, h0⟩ | ⟨g, cap, cur, rfl, hb, hg, r1, r2, r3, r4⟩
  · exact ⟨none, 0, by rw [h0], by omega, fun j hj => by omega⟩
  · refine ⟨_, cap, rfl, r1, fun j hj => ⟨g, 0, rfl, (Array.getElem?_eq_some_iff.1 hg).1, ?_⟩⟩
    obtain ⟨e1, e2⟩ := flatP_get cs j hj
    have h4 : ∀ i, i < cs.length * 2 → cur.toList[i]? = (flatP cs)[i]? := by
      intro i hi
      rw [← r4, List.getElem?_take_of_lt hi]
    rw [Nat.zero_add]
    simp only [World.cell?, hg]
    refine ⟨?_, ?_⟩
    · have := (h4 (j * 2) (by omega)).trans e1; simpa using this
    · have := (h4 (j * 2 + 1) (by omega)).trans e2; simpa using this
/-- a row of the call's own stays if its block stays -/
theorem own_keep {W W' : World} {base : Nat} {e : TypeId} {size n : Nat} {v : Value} {xs : List Value} (h : W.ownsRow base e size v n xs) (hs : ∀ j, v.ownBlock = some j → W'.heap[j]? = W.heap[j]?) : W'.ownsRow base e size v n xs := by
  refine ⟨h.1, ?_⟩
  rcases h.2 with ⟨rfl, h0⟩ | ⟨g, cap, cur, rfl, hb, hg, r1, r2, r3, r4⟩
  · exact .inl ⟨rfl, h0⟩
  · exact .inr ⟨g, cap, cur, rfl, hb, (hs g rfl).trans hg, r1, r2, r3, r4⟩
theorem setS_size (W : World) (B : Nat) (a b c d : Int) : (setS W B a b c d).heap.size = W.heap.size := by
  unfold setS
  simp
theorem setS_other (W : World) (B : Nat) (a b c d : Int) {k : Nat} (h : k ≠ B) : (setS W B a b c d).heap[k]? = W.heap[k]? := by
  unfold setS
  rw [Below.heap_setCell _ _ _ _ h, Below.heap_setCell _ _ _ _ h, Below.heap_setCell _ _ _ _ h, Below.heap_setCell _ _ _ _ h]
theorem setS_step {n : Nat} {W0 W W' : World} {B : Nat} {a b c d : Int} (h : Below n W0 W) (hn : n ≤ B) (hs : n ≤ W.heap.size) (hb : Below W.heap.size (setS W B a b c d) W') : Below n W0 W' := by
  refine Below.trans (b := setS W B a b c d) ?_ (hb.mono hs)
  unfold setS
  exact (((h.setCell hn _).setCell hn _).setCell hn _).setCell hn _
theorem SumsAt.step {W W' : World} {B : Nat} {free : Bool} {lift lo hi wd a b c d : Int} (h : SumsAt W B free lift lo hi wd) (hb : Below W.heap.size (setS W B a b c d) W') : SumsAt W' B free a b c d := by
  have z := h.lt
  have hz := hb.size
  rw [setS_size] at hz
  obtain ⟨-, k0, k1, k2, k3, k4, f1, f2, f3, f4⟩ := h
  refine ⟨by omega, (hb.cell (p := ⟨B, 0, none⟩) z).trans ?_, (hb.cell (p := ⟨B, 1, none⟩) z).trans ?_, (hb.cell (p := ⟨B, 2, none⟩) z).trans ?_, (hb.cell (p := ⟨B, 3, none⟩) z).trans ?_, (hb.cell (p := ⟨B, 4, none⟩) z).trans ?_,
    (hb.frozen (p := ⟨B, 1, none⟩) z).trans ?_, (hb.frozen (p := ⟨B, 2, none⟩) z).trans ?_, (hb.frozen (p := ⟨B, 3, none⟩) z).trans ?_, (hb.frozen (p := ⟨B, 4, none⟩) z).trans ?_⟩ <;> (unfold setS; simp [go_sem, *])
/-- what is laid below each element -/
def rowL (G : Nat → Pr) : Nat → List Pr
  | 0 => []
  | k + 1 => rowL G k ++ [G (k + 1)]
theorem rowL_len (G : Nat → Pr) : ∀ k, (rowL G k).length = k
  | 0 => rfl
  | k + 1 => by simp [rowL, rowL_len G k]
theorem rowL_get (G : Nat → Pr) : ∀ n k, k < n → pr (rowL G n) k = G (k + 1)
  | 0, k, h => by omega
  | n + 1, k, h => by
    unfold pr
    simp only [rowL]
    rcases Nat.lt_or_ge k n with g | g
    · rw [List.getElem?_append_left (by rw [rowL_len]; exact g)]
      exact rowL_get G n k g
    · obtain rfl : k = n := by omega
      rw [List.getElem?_append_right (by rw [rowL_len]; exact Nat.le_refl _), rowL_len]
      simp
def pulG (free : Bool) (zs : List El) (cs : List Pr) (k : Nat) : Pr := ⟨hLo free zs cs k, sHi zs cs k⟩
noncomputable def tenG (free : Bool) (zs : List El) (cs : List Pr) (k : Nat) : Pr :=
  ⟨isq (hLo free zs cs k * hLo free zs cs k + lifTo zs k * lifTo zs k), isqUp (sHi zs cs k * sHi zs cs k + lifTo zs k * lifTo zs k)⟩
theorem plo_eq (free : Bool) (zs : List El) (cs : List Pr) (k : Nat) : plo free (sLo zs cs k) (sHi zs cs k) (wid zs cs k) = hLo free zs cs k := rfl
/-- the sums below the first k elements in memory -/
def RigAt (W : World) (B : Nat) (free : Bool) (zs : List El) (cs : List Pr) (k : Nat) : Prop := SumsAt W B free (lifTo zs k) (sLo zs cs k) (sHi zs cs k) (wid zs cs k)
theorem find_pull {zs : List El} {cs : List Pr} (h : Rig zs cs) (free : Bool) (B : Nat) {k : Nat} (hk : k ≤ zs.length) (w : World) (hS : RigAt w B free zs cs k) :
    Calls Try.prog 62 #[.pointer (some ⟨B, 0, none⟩)] w fun e w' => e = .returned (prv (pulG free zs cs k)) ∧ Below w.heap.size w w' := by
  have b := sums_bd h k hk
  have m := h.most
  exact pull_any B free _ _ _ _ (by omega) (by omega) (by omega) (by omega) w hS
theorem find_tension {zs : List El} {cs : List Pr} (h : Rig zs cs) (free : Bool) (B : Nat) {k : Nat} (hk : k ≤ zs.length) (w : World) (hS : RigAt w B free zs cs k) :
    Calls Try.prog 65 #[.pointer (some ⟨B, 0, none⟩)] w fun e w' => e = .returned (prv (tenG free zs cs k)) ∧ Below w.heap.size w w' := by
  have b := sums_bd h k hk
  have m := h.most
  have p := pull_bd h free hk
  have l := lif_bd h hk
  have := tension_any B free (lifTo zs k) (sLo zs cs k) (sHi zs cs k) (wid zs cs k) (by omega) (by rw [plo_eq]; omega) (by rw [plo_eq]; omega) (by omega) (by omega) w hS
  exact this
theorem rig_add {zs : List El} {cs : List Pr} (h : Rig zs cs) (free : Bool) (B : Nat) {k : Nat} (hk : k < zs.length) (w : World) (hS : RigAt w B free zs cs k) :
    Calls Try.prog 97 #[.pointer (some ⟨B, 0, none⟩), elv (el zs k), prv (pr cs k)] w fun e w' => e = .returned (.tuple #[]) ∧ RigAt w' B free zs cs (k + 1) ∧
      Below w.heap.size (setS w B (lifTo zs (k + 1)) (sLo zs cs (k + 1)) (sHi zs cs (k + 1)) (wid zs cs (k + 1))) w' := by
  have b := sums_bd h k (by omega)
  have m := h.most
  have l := lif_bd h (k := k) (by omega)
  refine (add_any B free _ _ _ _ (el zs k) (pr cs k) (h.els k hk) (h.cur k hk) (by omega) (by omega) (by omega) w hS).mono ?_
  rintro e w' ⟨he, hb⟩
  exact ⟨he, SumsAt.step hS hb, hb⟩
end Go.Proofs.Ythogahdnidjelaa

/-
  Clock: exchanges and offsets in memory; a clock is learnt.
-/
import Derived.Test.YtcchmjbedppfnaaCkD
import Derived.Laws.AppendOwn
namespace Go.Proofs.Ytcchmjbedppfnaa
open Go.RowKit Go.Shelf
set_option linter.unusedSimpArgs false
theorem own_keep {W W' : World} {base : Nat} {e : TypeId} {size n : Nat} {v : Value} {xs : List Value} (h : W.ownsRow base e size v n xs) (hs : ∀ j, v.ownBlock = some j → W'.heap[j]? = W.heap[j]?) : W'.ownsRow base e size v n xs := by
  refine ⟨h.1, ?_⟩
  rcases h.2 with ⟨rfl, h0⟩ | ⟨g, cap, cur, rfl, hb, hg, r1, r2, r3, r4⟩
  · exact .inl ⟨rfl, h0⟩
  · exact .inr ⟨g, cap, cur, rfl, hb, (hs g rfl).trans hg, r1, r2, r3, r4⟩
theorem own_below {W W' : World} {base : Nat} {e : TypeId} {size n : Nat} {v : Value} {xs : List Value} (h : W.ownsRow base e size v n xs) (hb : Below W.heap.size W W') : W'.ownsRow base e size v n xs :=
  own_keep h fun j hj => hb.block j (h.lt j hj).2
theorem own_set {W : World} {base : Nat} {e : TypeId} {size n : Nat} {v : Value} {xs : List Value} (h : W.ownsRow base e size v n xs) (b o : Nat) (u : Value) (hb : b < base) : (W.setCell ⟨b, o, none⟩ u).ownsRow base e size v n xs :=
  own_keep h fun j hj => Below.heap_setCell _ _ _ _ (by have := (h.lt j hj).1; show j ≠ b; omega)
theorem own_form {W : World} {base : Nat} {e : TypeId} {size n : Nat} {v : Value} {xs : List Value} (h : W.ownsRow base e size v n xs) : ∃ a c, v = .slice a n c := by
  rcases h.2 with ⟨rfl, h0⟩ | ⟨g, cap, cur, rfl, hb, hg, r1, r2, r3, r4⟩
  · exact ⟨none, 0, by rw [h0]⟩
  · exact ⟨_, _, rfl⟩
def xc (xs : List Xc) (k : Nat) : Xc := xs[k]?.getD default
def Xcs (n₀ : Nat) (W : World) (sv : Value) (xs : List Xc) : Prop :=
  ∃ a cap, sv = .slice a xs.length cap ∧ xs.length ≤ cap ∧ ∀ k, k < xs.length → ∃ b off, a = some ⟨b, off, none⟩ ∧ b < n₀ ∧
    W.cell? ⟨b, off + k * 8, none⟩ = some (.int .i64 (xc xs k).se) ∧ W.cell? ⟨b, off + k * 8 + 1, none⟩ = some (.int .i64 (xc xs k).he) ∧
    W.cell? ⟨b, off + k * 8 + 2, none⟩ = some (.int .i64 (xc xs k).an) ∧ W.cell? ⟨b, off + k * 8 + 3, none⟩ = some (.int .i64 (xc xs k).ba) ∧
    W.cell? ⟨b, off + k * 8 + 4, none⟩ = some (.int .i64 (xc xs k).fLo) ∧ W.cell? ⟨b, off + k * 8 + 5, none⟩ = some (.int .i64 (xc xs k).fHi) ∧
    W.cell? ⟨b, off + k * 8 + 6, none⟩ = some (.int .i64 (xc xs k).hLo) ∧ W.cell? ⟨b, off + k * 8 + 7, none⟩ = some (.int .i64 (xc xs k).hHi)
theorem Xcs.at {W W' : World} {sv : Value} {xs : List Xc} (h : Xcs W.heap.size W sv xs) (hb : Below W.heap.size W W') : Xcs W'.heap.size W' sv xs := by
  obtain ⟨a, cap, e, hl, hc⟩ := h
  refine ⟨a, cap, e, hl, fun k hk => ?_⟩
  obtain ⟨b, off, h1, h2, c0, c1, c2, c3, c4, c5, c6, c7⟩ := hc k hk
  exact ⟨b, off, h1, Nat.lt_of_lt_of_le h2 hb.size, (hb.cell (p := ⟨b, _, none⟩) h2).trans c0, (hb.cell (p := ⟨b, _, none⟩) h2).trans c1, (hb.cell (p := ⟨b, _, none⟩) h2).trans c2, (hb.cell (p := ⟨b, _, none⟩) h2).trans c3, (hb.cell (p := ⟨b, _, none⟩) h2).trans c4, (hb.cell (p := ⟨b, _, none⟩) h2).trans c5, (hb.cell (p := ⟨b, _, none⟩) h2).trans c6, (hb.cell (p := ⟨b, _, none⟩) h2).trans c7⟩
theorem Xcs.form {n₀ : Nat} {W : World} {sv : Value} {xs : List Xc} (h : Xcs n₀ W sv xs) : ∃ a c, sv = .slice a xs.length c := by
  obtain ⟨a, c, rfl, -, -⟩ := h
  exact ⟨a, c, rfl⟩
/-- an offset with its reading -/
structure Of where
  lo : Int
  hi : Int
  rd : Int
  deriving Inhabited
def of (os : List Of) (k : Nat) : Of := os[k]?.getD default
def Ofs (n₀ : Nat) (W : World) (sv : Value) (os : List Of) : Prop :=
  ∃ a cap, sv = .slice a os.length cap ∧ os.length ≤ cap ∧ ∀ k, k < os.length → ∃ b off, a = some ⟨b, off, none⟩ ∧ b < n₀ ∧
    W.cell? ⟨b, off + k * 3, none⟩ = some (.int .i64 (of os k).lo) ∧ W.cell? ⟨b, off + k * 3 + 1, none⟩ = some (.int .i64 (of os k).hi) ∧ W.cell? ⟨b, off + k * 3 + 2, none⟩ = some (.int .i64 (of os k).rd)
theorem Ofs.mono {n₀ m : Nat} {W W' : World} {sv : Value} {os : List Of} (h : Ofs n₀ W sv os) (hb : Below n₀ W W') (hm : n₀ ≤ m) : Ofs m W' sv os := by
  obtain ⟨a, cap, e, hl, hc⟩ := h
  refine ⟨a, cap, e, hl, fun k hk => ?_⟩
  obtain ⟨b, off, h1, h2, c0, c1, c2⟩ := hc k hk
  exact ⟨b, off, h1, Nat.lt_of_lt_of_le h2 hm, (hb.cell (p := ⟨b, _, none⟩) h2).trans c0, (hb.cell (p := ⟨b, _, none⟩) h2).trans c1, (hb.cell (p := ⟨b, _, none⟩) h2).trans c2⟩
theorem Ofs.at {W W' : World} {sv : Value} {os : List Of} (h : Ofs W.heap.size W sv os) (hb : Below W.heap.size W W') : Ofs W'.heap.size W' sv os := h.mono hb hb.size
theorem Ofs.form {n₀ : Nat} {W : World} {sv : Value} {os : List Of} (h : Ofs n₀ W sv os) : ∃ a c, sv = .slice a os.length c := by
  obtain ⟨a, c, rfl, -, -⟩ := h
  exact ⟨a, c, rfl⟩
theorem ofs_nil (n₀ : Nat) (W : World) : Ofs n₀ W (.slice none 0 0) [] := ⟨none, 0, rfl, Nat.le_refl _, fun k hk => by simp at hk⟩
def flatO : List Of → List Value
  | [] => []
  | o :: os => .int .i64 o.lo :: .int .i64 o.hi :: .int .i64 o.rd :: flatO os
theorem flatO_get : ∀ (os : List Of) (j : Nat), j < os.length → (flatO os)[j * 3]? = some (.int .i64 (of os j).lo) ∧ (flatO os)[j * 3 + 1]? = some (.int .i64 (of os j).hi) ∧ (flatO os)[j * 3 + 2]? = some (.int .i64 (of os j).rd)
  | o :: os, 0, _ => ⟨rfl, rfl, rfl⟩
  | o :: os, j + 1, h => by
    have ih := flatO_get os j (by simpa using h)
    have e : (j + 1) * 3 = j * 3 + 3 := by omega
    rw [e]
    simpa [flatO, of] using ih
theorem flatO_snoc (os : List Of) (o : Of) : flatO (os ++ [o]) = flatO os ++ [.int .i64 o.lo, .int .i64 o.hi, .int .i64 o.rd] := by
  induction os with
  | nil => rfl
  | cons x os ih => simp [flatO, ih]
theorem ofs_of_owns {W : World} {base : Nat} {v : Value} {os : List Of} (h : W.ownsRow base 122 3 v os.length (flatO os)) : Ofs W.heap.size W v os := by
  rcases h.2 with ⟨rfl, h0⟩ | ⟨g, cap, cur, rfl, hb, hg, r1, r2, r3, r4⟩
  · exact ⟨none, 0, by rw [h0], by omega, fun j hj => by omega⟩
  · refine ⟨_, cap, rfl, r1, fun j hj => ⟨g, 0, rfl, (Array.getElem?_eq_some_iff.1 hg).1, ?_⟩⟩
    obtain ⟨e1, e2, e3⟩ := flatO_get os j hj
    have h4 : ∀ i, i < os.length * 3 → cur.toList[i]? = (flatO os)[i]? := by
      intro i hi
      rw [← r4, List.getElem?_take_of_lt hi]
    rw [Nat.zero_add]
    simp only [World.cell?, hg]
    refine ⟨?_, ?_, ?_⟩
    · have := (h4 (j * 3) (by omega)).trans e1; simpa using this
    · have := (h4 (j * 3 + 1) (by omega)).trans e2; simpa using this
    · have := (h4 (j * 3 + 2) (by omega)).trans e3; simpa using this
theorem three_new (W : World) (x y z : Value) : ∀ (j : Nat) (u : Value), [x, y, z][j]? = some u → (W.alloc (.cells #[x, y, z] 122)).cell? ((⟨W.heap.size, 0, none⟩ : Addr).add j) = some u := by
  intro j u hj
  match j, hj with
  | 0, hj => simp at hj; subst hj; simp [Addr.add]
  | 1, hj => simp at hj; subst hj; simp [Addr.add]
  | 2, hj => simp at hj; subst hj; simp [Addr.add]
theorem info_parts {t : TypeId} {z : Value} {size bytes : Nat} (h : (Try.prog.info? t).map (fun i => (i.zero, i.size, i.bytes)) = some (some z, size, bytes)) : ∃ i, Try.prog.info? t = some i ∧ i.zero = some z ∧ i.size = size ∧ i.bytes = bytes := by
  cases e : Try.prog.info? t with
  | none => simp [e] at h
  | some i =>
    simp [e] at h
    exact ⟨i, rfl, h.1, h.2.1, h.2.2⟩
theorem infoOf : (Try.prog.info? 122).map (fun i => (i.zero, i.size, i.bytes)) = some (some (.agg #[.int .i64 0, .int .i64 0, .int .i64 0]), 3, 24) := by kernel_rfl
def ofX (r : Int) (x : Xc) : Of := ⟨offL r x, offH r x, x.ba⟩
def okX (r : Int) (x : Xc) : Bool := decide ((offR r x).e = 0) && vB (offR r x).lo (offR r x).hi
def lrnE (p r : Int) (xs : List Xc) : Int := if xs.length < 1 then 6 else if 64 < xs.length then 6 else if p < -1 then 2 else if rtB r = false then 2 else if xs.all (okX r) = true then 0 else 2
theorem okX_get {r : Int} {x : Xc} (h : okX r x = true) : offR r x = ⟨offL r x, offH r x, 0⟩ ∧ vB (offL r x) (offH r x) = true ∧ xcB x = true ∧ rtB r = true ∧ offL r x ≤ offH r x := by
  unfold okX at h
  rw [Bool.and_eq_true, decide_eq_true_iff] at h
  obtain ⟨h1, h2⟩ := h
  unfold offR at *
  split at h1
  · split at h1
    · split at h1
      · rename_i a b c
        rw [if_pos a, if_pos b, if_pos c] at h2
        rw [if_pos a, if_pos b, if_pos c]
        exact ⟨rfl, h2, a, b, c⟩
      · exact absurd h1 (by decide)
    · exact absurd h1 (by decide)
  · exact absurd h1 (by decide)
end Go.Proofs.Ytcchmjbedppfnaa

/-
  Clock: clocks in memory; a house in a row of one's own; a house is entered.
-/
import Derived.Test.YtcchmjbedppfnaaCkU
namespace Go.Proofs.Ytcchmjbedppfnaa
open Go.RowKit Go.Shelf
set_option linter.unusedSimpArgs false
theorem Xcs.mono {n₀ m : Nat} {W W' : World} {sv : Value} {xs : List Xc} (h : Xcs n₀ W sv xs) (hb : Below n₀ W W') (hm : n₀ ≤ m) : Xcs m W' sv xs := by
  obtain ⟨a, cap, e, hl, hc⟩ := h
  refine ⟨a, cap, e, hl, fun k hk => ?_⟩
  obtain ⟨b, off, h1, h2, c0, c1, c2, c3, c4, c5, c6, c7⟩ := hc k hk
  exact ⟨b, off, h1, Nat.lt_of_lt_of_le h2 hm, (hb.cell (p := ⟨b, _, none⟩) h2).trans c0, (hb.cell (p := ⟨b, _, none⟩) h2).trans c1, (hb.cell (p := ⟨b, _, none⟩) h2).trans c2, (hb.cell (p := ⟨b, _, none⟩) h2).trans c3, (hb.cell (p := ⟨b, _, none⟩) h2).trans c4, (hb.cell (p := ⟨b, _, none⟩) h2).trans c5, (hb.cell (p := ⟨b, _, none⟩) h2).trans c6, (hb.cell (p := ⟨b, _, none⟩) h2).trans c7⟩
/-- a clock as it is given -/
structure Cl where
  p : Int
  r : Int
  xs : List Xc
  deriving Inhabited
def cl (cs : List Cl) (k : Nat) : Cl := cs[k]?.getD default
def Cls (n₀ : Nat) (W : World) (sv : Value) (cs : List Cl) : Prop :=
  ∃ a cap, sv = .slice a cs.length cap ∧ cs.length ≤ cap ∧ ∀ k, k < cs.length → ∃ b off s, a = some ⟨b, off, none⟩ ∧ b < n₀ ∧
    W.cell? ⟨b, off + k * 3, none⟩ = some (.int .i64 (cl cs k).p) ∧ W.cell? ⟨b, off + k * 3 + 1, none⟩ = some (.int .i64 (cl cs k).r) ∧ W.cell? ⟨b, off + k * 3 + 2, none⟩ = some s ∧ Xcs n₀ W s (cl cs k).xs
theorem Cls.mono {n₀ m : Nat} {W W' : World} {sv : Value} {cs : List Cl} (h : Cls n₀ W sv cs) (hb : Below n₀ W W') (hm : n₀ ≤ m) : Cls m W' sv cs := by
  obtain ⟨a, cap, e, hl, hc⟩ := h
  refine ⟨a, cap, e, hl, fun k hk => ?_⟩
  obtain ⟨b, off, s, h1, h2, c0, c1, c2, ho⟩ := hc k hk
  exact ⟨b, off, s, h1, Nat.lt_of_lt_of_le h2 hm, (hb.cell (p := ⟨b, _, none⟩) h2).trans c0, (hb.cell (p := ⟨b, _, none⟩) h2).trans c1, (hb.cell (p := ⟨b, _, none⟩) h2).trans c2, ho.mono hb hm⟩
theorem Cls.at {W W' : World} {sv : Value} {cs : List Cl} (h : Cls W.heap.size W sv cs) (hb : Below W.heap.size W W') : Cls W'.heap.size W' sv cs := h.mono hb hb.size
theorem Cls.form {n₀ : Nat} {W : World} {sv : Value} {cs : List Cl} (h : Cls n₀ W sv cs) : ∃ a c, sv = .slice a cs.length c := by
  obtain ⟨a, c, rfl, -, -⟩ := h
  exact ⟨a, c, rfl⟩
/-- what is known of a clock that is given -/
def knC (c : Cl) : Kc := ⟨c.p, c.r, ofTo c.r c.xs c.xs.length⟩
/-- the first error of clocks -/
def fstE : List Cl → Int
  | [] => 0
  | c :: cs => if lrnE c.p c.r c.xs = 0 then fstE cs else lrnE c.p c.r c.xs
theorem fstE_bad : ∀ {cs : List Cl} {k : Nat}, k < cs.length → (∀ j, j < k → lrnE (cl cs j).p (cl cs j).r (cl cs j).xs = 0) → lrnE (cl cs k).p (cl cs k).r (cl cs k).xs ≠ 0 → fstE cs = lrnE (cl cs k).p (cl cs k).r (cl cs k).xs
  | c :: cs, 0, _, _, h => by
    show (if lrnE c.p c.r c.xs = 0 then fstE cs else lrnE c.p c.r c.xs) = lrnE c.p c.r c.xs
    exact if_neg h
  | c :: cs, k + 1, hk, hj, h => by
    have h0 : lrnE c.p c.r c.xs = 0 := hj 0 (Nat.zero_lt_succ _)
    show (if lrnE c.p c.r c.xs = 0 then fstE cs else lrnE c.p c.r c.xs) = _
    rw [if_pos h0]
    exact fstE_bad (cs := cs) (k := k) (by simpa using hk) (fun j hjk => hj (j + 1) (by omega)) h
theorem fstE_ok : ∀ {cs : List Cl}, (∀ j, j < cs.length → lrnE (cl cs j).p (cl cs j).r (cl cs j).xs = 0) → fstE cs = 0
  | [], _ => rfl
  | c :: cs, h => by
    have h0 : lrnE c.p c.r c.xs = 0 := h 0 (Nat.zero_lt_succ _)
    show (if lrnE c.p c.r c.xs = 0 then fstE cs else lrnE c.p c.r c.xs) = _
    rw [if_pos h0]
    exact fstE_ok (cs := cs) fun j hjk => h (j + 1) (by simpa using hjk)
theorem kc_map (cs : List Cl) (k : Nat) (hk : k < cs.length) : kc (cs.map knC) k = knC (cl cs k) := by
  unfold kc cl
  rw [List.getElem?_eq_getElem (by simpa using hk), List.getElem?_eq_getElem hk]
  simp
/-- which error a house has -/
noncomputable def entE (cs : List Cl) : Int := if cs.length < 1 then 6 else if 32 < cs.length then 6 else if fstE cs ≠ 0 then fstE cs else if jnB (cs.map knC) = false then 2 else if shB (cs.map knC) = false then 5 else 0
/-- the first k clocks are known -/
def knTo (cs : List Cl) : Nat → List Kc
  | 0 => []
  | k + 1 => knTo cs k ++ [knC (cl cs k)]
theorem knTo_take (cs : List Cl) : ∀ k, k ≤ cs.length → knTo cs k = (cs.take k).map knC
  | 0, _ => rfl
  | k + 1, h => by
    show knTo cs k ++ [knC (cl cs k)] = _
    rw [knTo_take cs k (by omega), List.take_add_one, List.map_append]
    congr 1
    unfold cl
    rw [List.getElem?_eq_getElem h]
    rfl
theorem knTo_all (cs : List Cl) : knTo cs cs.length = cs.map knC := by rw [knTo_take cs _ (Nat.le_refl _), List.take_length]
def flatK : List (Kc × Value) → List Value
  | [] => []
  | c :: cs => .int .i64 c.1.p :: .int .i64 c.1.r :: c.2 :: flatK cs
theorem flatK_get : ∀ (cs : List (Kc × Value)) (j : Nat) (h : j < cs.length), (flatK cs)[j * 3]? = some (.int .i64 (cs[j]'h).1.p) ∧ (flatK cs)[j * 3 + 1]? = some (.int .i64 (cs[j]'h).1.r) ∧ (flatK cs)[j * 3 + 2]? = some (cs[j]'h).2
  | c :: cs, 0, _ => ⟨rfl, rfl, rfl⟩
  | c :: cs, j + 1, h => by
    have ih := flatK_get cs j (by simpa using h)
    have e : (j + 1) * 3 = j * 3 + 3 := by omega
    rw [e]
    simpa [flatK] using ih
theorem flatK_snoc (cs : List (Kc × Value)) (c : Kc × Value) : flatK (cs ++ [c]) = flatK cs ++ [.int .i64 c.1.p, .int .i64 c.1.r, c.2] := by
  induction cs with
  | nil => rfl
  | cons x cs ih => simp [flatK, ih]
/-- two rows of different types lie in different blocks -/
theorem row_apart {W : World} {b1 b2 s1 s2 n1 n2 : Nat} {t1 t2 : TypeId} {v1 v2 : Value} {x1 x2 : List Value} (ht : t1 ≠ t2) (h1 : W.ownsRow b1 t1 s1 v1 n1 x1) (h2 : W.ownsRow b2 t2 s2 v2 n2 x2) : ∀ j, v1.ownBlock = some j → v2.ownBlock = some j → False := by
  intro j e1 e2
  rcases h1.2 with ⟨rfl, -⟩ | ⟨g, cap, cur, rfl, -, hg, -⟩
  · exact absurd e1 (by simp [Value.ownBlock])
  rcases h2.2 with ⟨rfl, -⟩ | ⟨g', cap', cur', rfl, -, hg', -⟩
  · exact absurd e2 (by simp [Value.ownBlock])
  simp only [Value.ownBlock, Option.some.injEq] at e1 e2
  subst e1 e2
  rw [hg] at hg'
  simp only [Option.some.injEq, Obj.cells.injEq] at hg'
  exact ht hg'.2.1
/-- a house in a row of one's own -/
def HouseAt (base n : Nat) (W : World) (sv : Value) (ks : List (Kc × Value)) : Prop := W.ownsRow base 129 3 sv ks.length (flatK ks) ∧ ∀ c ∈ ks, OwnO n W c.2 c.1.os
theorem OwnO.below {n : Nat} {W W' : World} {v : Value} {os : List Of} (h : OwnO n W v os) (hb : Below W.heap.size W W') : OwnO n W' v os := by
  obtain ⟨base, hn, hr⟩ := h
  exact ⟨base, hn, own_below hr hb⟩
theorem OwnO.ofs {n : Nat} {W : World} {v : Value} {os : List Of} (h : OwnO n W v os) : Ofs W.heap.size W v os := by
  obtain ⟨base, hn, hr⟩ := h
  exact ofs_of_owns hr
theorem OwnO.le {n m : Nat} {W : World} {v : Value} {os : List Of} (h : OwnO n W v os) (hm : m ≤ n) : OwnO m W v os := by
  obtain ⟨base, hn, hr⟩ := h
  exact ⟨base, Nat.le_trans hm hn, hr⟩
theorem HouseAt.nil (base n : Nat) (W : World) : HouseAt base n W (.slice none 0 0) [] := ⟨World.ownsRow_nil _ _ _ _, fun c hc => by simp at hc⟩
theorem HouseAt.below {base n : Nat} {W W' : World} {sv : Value} {ks : List (Kc × Value)} (h : HouseAt base n W sv ks) (hb : Below W.heap.size W W') : HouseAt base n W' sv ks := ⟨own_below h.1 hb, fun c hc => (h.2 c hc).below hb⟩
theorem HouseAt.grown {base n : Nat} {W W' : World} {sv v' v : Value} {ks : List (Kc × Value)} {k : Kc} (h : HouseAt base n W sv ks) (hk : OwnO n W v k.os) (hg : W.grownBy W' sv.ownBlock) (hr : W'.ownsRow base 129 3 v' (ks.length + 1) (flatK ks ++ [.int .i64 k.p, .int .i64 k.r, v])) : HouseAt base n W' v' (ks ++ [(k, v)]) := by
  refine ⟨by rw [flatK_snoc, List.length_append]; exact hr, fun c hc => ?_⟩
  have hall : OwnO n W c.2 c.1.os := by
    rcases List.mem_append.1 hc with hc | hc
    · exact h.2 c hc
    · simp at hc; subst hc; exact hk
  obtain ⟨b2, hn, hr2⟩ := hall
  exact ⟨b2, hn, own_keep hr2 fun j hj => hg.block j (hr2.lt j hj).2 (fun e => row_apart (by decide) h.1 hr2 j e.symm hj)⟩
theorem HouseAt.kcs {base n : Nat} {W : World} {sv : Value} {ks : List (Kc × Value)} (h : HouseAt base n W sv ks) : Kcs W.heap.size W sv (ks.map Prod.fst) := by
  obtain ⟨h1, h2⟩ := h
  rcases h1.2 with ⟨rfl, h0⟩ | ⟨g, cap, cur, rfl, hb, hg, r1, r2, r3, r4⟩
  · exact ⟨none, 0, by rw [List.length_map, h0], by rw [List.length_map]; omega, fun j hj => by rw [List.length_map] at hj; omega⟩
  · refine ⟨_, cap, by rw [List.length_map], by rw [List.length_map]; exact r1, fun j hj => ?_⟩
    rw [List.length_map] at hj
    obtain ⟨e1, e2, e3⟩ := flatK_get ks j hj
    have h4 : ∀ i, i < ks.length * 3 → cur.toList[i]? = (flatK ks)[i]? := by
      intro i hi
      rw [← r4, List.getElem?_take_of_lt hi]
    have ek : kc (ks.map Prod.fst) j = (ks[j]'hj).1 := by
      unfold kc
      rw [List.getElem?_map, List.getElem?_eq_getElem hj]
      rfl
    rw [ek]
    refine ⟨g, 0, (ks[j]'hj).2, rfl, (Array.getElem?_eq_some_iff.1 hg).1, ?_⟩
    rw [Nat.zero_add]
    simp only [World.cell?, hg]
    refine ⟨?_, ?_, ?_, (h2 _ (List.getElem_mem hj)).ofs⟩
    · have := (h4 (j * 3) (by omega)).trans e1; simpa using this
    · have := (h4 (j * 3 + 1) (by omega)).trans e2; simpa using this
    · have := (h4 (j * 3 + 2) (by omega)).trans e3; simpa using this
theorem infoKc : (Try.prog.info? 129).map (fun i => (i.zero, i.size, i.bytes)) = some (some (.agg #[.int .i64 0, .int .i64 0, .slice none 0 0]), 3, 40) := by kernel_rfl
theorem three_newK (W : World) (x y z : Value) : ∀ (j : Nat) (u : Value), [x, y, z][j]? = some u → (W.alloc (.cells #[x, y, z] 129)).cell? ((⟨W.heap.size, 0, none⟩ : Addr).add j) = some u := by
  intro j u hj
  match j, hj with
  | 0, hj => simp at hj; subst hj; simp [Addr.add]
  | 1, hj => simp at hj; subst hj; simp [Addr.add]
  | 2, hj => simp at hj; subst hj; simp [Addr.add]
end Go.Proofs.Ytcchmjbedppfnaa

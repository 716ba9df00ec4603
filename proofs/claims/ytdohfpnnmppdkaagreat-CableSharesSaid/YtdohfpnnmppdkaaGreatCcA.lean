/-
  Cables: the reference's currents.
-/
import Derived.Test.YtdohfpnnmppdkaaGreatCbX
import Derived.Test.YtdohfpnnmppdkaaGreatCbJ
namespace Go.Proofs.YtdohfpnnmppdkaaGreat
open Go.RowKit Go.Shelf
set_option linter.unusedSimpArgs false
attribute [local go_sem] Oper.semAt_some
theorem infoI23 : (Tryz.prog.info? 23).map (fun i => (i.zero, i.size, i.bytes)) = some (some (.agg #[.int .i64 0, .int .i64 0]), 2, 16) := by kernel_rfl
theorem two_new (W : World) (x y : Value) : ∀ (j : Nat) (u : Value), [x, y][j]? = some u → (W.alloc (.cells #[x, y] 23)).cell? ((⟨W.heap.size, 0, none⟩ : Addr).add j) = some u := by
  intro j u hj
  match j, hj with
  | 0, h => simp at h; subst h; simp [Addr.add, go_sem]
  | 1, h => simp at h; subst h; simp [Addr.add, go_sem]
/-- spans one after another -/
def spL (f : Nat → Int × Int) (n : Nat) : List Value := (List.range (n * 2)).map (spc f)
theorem spL_zero (f : Nat → Int × Int) : spL f 0 = [] := rfl
theorem spL_succ (f : Nat → Int × Int) (n : Nat) : spL f (n + 1) = spL f n ++ [.int .i64 (f n).1, .int .i64 (f n).2] := by
  unfold spL
  rw [show (n + 1) * 2 = n * 2 + 1 + 1 by omega, List.range_succ, List.range_succ]
  simp only [List.map_append, List.map_cons, List.map_nil, List.append_assoc, List.cons_append, List.nil_append]
  rw [spc_even, spc_odd]
theorem spL_len (f : Nat → Int × Int) (n : Nat) : (spL f n).length = n * 2 := by unfold spL; simp
theorem spL_get (f : Nat → Int × Int) (n : Nat) {j : Nat} (hj : j < n * 2) : (spL f n)[j]? = some (spc f j) := by unfold spL; simp [hj]
/-- n spans in memory -/
def Sv (n₀ : Nat) (W : World) (v : Value) (n : Nat) (f : Nat → Int × Int) : Prop :=
  ∃ a cap, v = .slice a n cap ∧ n ≤ cap ∧ ∀ k, k < n → ∃ b off, a = some ⟨b, off, none⟩ ∧ b < n₀ ∧ W.cell? ⟨b, off + k * 2, none⟩ = some (.int .i64 (f k).1) ∧ W.cell? ⟨b, off + k * 2 + 1, none⟩ = some (.int .i64 (f k).2)
theorem Sv.mono {n₀ m : Nat} {W W' : World} {v : Value} {n : Nat} {f : Nat → Int × Int} (h : Sv n₀ W v n f) (hb : Below n₀ W W') (hm : n₀ ≤ m) : Sv m W' v n f := by
  obtain ⟨a, cap, h1, h2, h3⟩ := h
  refine ⟨a, cap, h1, h2, fun k hk => ?_⟩
  obtain ⟨b, off, e, hlt, c0, c1⟩ := h3 k hk
  exact ⟨b, off, e, by omega, (hb.cell (p := ⟨b, _, none⟩) hlt).trans c0, (hb.cell (p := ⟨b, _, none⟩) hlt).trans c1⟩
theorem Sv.at {W W' : World} {v : Value} {n : Nat} {f : Nat → Int × Int} (h : Sv W.heap.size W v n f) (hb : Below W.heap.size W W') : Sv W'.heap.size W' v n f := h.mono hb hb.size
theorem Sv.form {n₀ : Nat} {W : World} {v : Value} {n : Nat} {f : Nat → Int × Int} (h : Sv n₀ W v n f) : ∃ a c, v = .slice a n c := by
  obtain ⟨a, c, h, _⟩ := h; exact ⟨a, c, h⟩
theorem sv_nil (n₀ : Nat) (W : World) (f : Nat → Int × Int) : Sv n₀ W (.slice none 0 0) 0 f := ⟨_, _, rfl, Nat.le_refl _, fun _ h => absurd h (Nat.not_lt_zero _)⟩
theorem sv_of_row {W : World} {g n : Nat} {f : Nat → Int × Int} (h : RowC W g 23 (n * 2) (spc f)) : Sv W.heap.size W (.slice (some ⟨g, 0, none⟩) n n) n f := by
  refine ⟨_, _, rfl, Nat.le_refl _, fun k hk => ⟨g, 0, rfl, h.lt, ?_, ?_⟩⟩
  · rw [Nat.zero_add, h.cell (by omega), spc_even]
  · rw [Nat.zero_add, h.cell (by omega), spc_odd]
theorem sv_of_own {W : World} {base : Nat} {v : Value} {n : Nat} {f : Nat → Int × Int} (h : W.ownsRow base 23 2 v n (spL f n)) : Sv W.heap.size W v n f := by
  obtain ⟨hl, h⟩ := h
  rcases h with ⟨hv, h0⟩ | ⟨g, cap, cur, hv, hb, hg, hc1, hc2, hs, ht⟩
  · subst hv
    subst h0
    exact sv_nil _ _ _
  · subst hv
    refine ⟨_, _, rfl, hc1, fun k hk => ⟨g, 0, rfl, (Array.getElem?_eq_some_iff.1 hg).1, ?_, ?_⟩⟩
    all_goals
      rw [cellHB hg, Nat.zero_add]
    · have e : cur.toList[k * 2]? = (spL f n)[k * 2]? := by rw [← ht, List.getElem?_take_of_lt (by omega)]
      rw [spL_get f n (by omega), spc_even] at e
      simpa using e
    · have e : cur.toList[k * 2 + 1]? = (spL f n)[k * 2 + 1]? := by rw [← ht, List.getElem?_take_of_lt (by omega)]
      rw [spL_get f n (by omega), spc_odd] at e
      simpa using e
/-- an element of a row of numbers of the call's own -/
theorem own3_cell {W : World} {base : Nat} {v : Value} {m : Nat} {l : List Nat} (h : W.ownsRow base 3 1 v m (flatN l)) {i : Nat} (hi : i < m) : ∃ g cap, v = .slice (some ⟨g, 0, none⟩) m cap ∧ m ≤ cap ∧ base ≤ g ∧ g < W.heap.size ∧ W.cell? ⟨g, i, none⟩ = some (.int .i64 (tn l i : Int)) := by
  obtain ⟨hl, h⟩ := h
  rcases h with ⟨hv, h0⟩ | ⟨g, cap, cur, hv, hb, hg, hc1, hc2, hs, ht⟩
  · omega
  · refine ⟨g, cap, hv, hc1, hb, (Array.getElem?_eq_some_iff.1 hg).1, ?_⟩
    have hlen : l.length = m := by unfold flatN at hl; simpa using hl
    rw [cellHB hg]
    have e : cur.toList[i]? = (flatN l)[i]? := by rw [← ht, List.getElem?_take_of_lt (by omega)]
    have e2 : cur[i]? = (flatN l)[i]? := by simpa using e
    rw [e2]
    unfold flatN tn
    simp [hlen, hi]
/-- the sum of the first numbers of a list -/
def smN (f : Nat → Int) (L : List Nat) (i : Nat) : Int := ((L.take i).map f).sum
theorem smN_zero (f : Nat → Int) (L : List Nat) : smN f L 0 = 0 := rfl
theorem smN_succ (f : Nat → Int) {L : List Nat} {i : Nat} (hi : i < L.length) : smN f L (i + 1) = smN f L i + f (tn L i) := by
  unfold smN
  rw [tn_take hi]
  simp
theorem smN_bd {f : Nat → Int} {L : List Nat} {M : Int} (h : ∀ x, x ∈ L → 0 ≤ f x ∧ f x ≤ M) : ∀ i, i ≤ L.length → 0 ≤ smN f L i ∧ smN f L i ≤ i * M := by
  intro i
  induction i with
  | zero => intro _; simp [smN]
  | succ i ih =>
    intro hi
    have h1 := ih (by omega)
    have h2 := h _ (tn_mem (L := L) (i := i) (by omega))
    have e : ((i + 1 : Nat) : Int) * M = i * M + M := by rw [Int.natCast_add, Int.add_mul]; simp
    rw [smN_succ f (by omega), e]
    omega
theorem smN_pick (f : Nat → Int) (p : Nat → Bool) : ∀ n, smN f (pick n p) (pick n p).length = sm f p n := by
  intro n
  have e : ∀ l : List Nat, smN f l l.length = (l.map f).sum := fun l => by unfold smN; rw [List.take_length]
  rw [e]
  induction n with
  | zero => rfl
  | succ n ih =>
    cases hp : p n
    · rw [pick_no hp, ih]; simp [sm, hp]
    · rw [pick_yes hp, List.map_append, List.sum_append, ih]; simp [sm, hp]
end Go.Proofs.YtdohfpnnmppdkaaGreat

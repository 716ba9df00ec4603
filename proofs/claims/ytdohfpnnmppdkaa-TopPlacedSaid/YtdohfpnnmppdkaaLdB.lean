/-
  Cables: rows of measurements, and where a fault is located.
-/
import Derived.Test.YtdohfpnnmppdkaaLdA
import Derived.Test.YtdohfpnnmppdkaaLcE
namespace Go.Proofs.Ytdohfpnnmppdkaa
open Go.RowKit Go.Shelf
set_option linter.unusedSimpArgs false
open Go.RowKit Go.Shelf
set_option linter.unusedSimpArgs false
attribute [local go_sem] Oper.semAt_some
def msV (m : Ms) : List Value := [.int .i64 m.kd, .int .i64 m.v0, .int .i64 m.v1, .int .i64 m.b0, .int .i64 m.b1]
/-- measurements one after another -/
def flM (l : List Ms) : List Value := l.flatMap msV
theorem flM_nil : flM [] = [] := rfl
theorem flM_cons (m : Ms) (l : List Ms) : flM (m :: l) = msV m ++ flM l := rfl
theorem flM_snoc (l : List Ms) (m : Ms) : flM (l ++ [m]) = flM l ++ msV m := by simp [flM, List.flatMap_append]
theorem flM_len (l : List Ms) : (flM l).length = l.length * 5 := by
  induction l with
  | nil => rfl
  | cons m l ih => rw [flM_cons, List.length_append, ih]; simp [msV]; omega
theorem flM_get (l : List Ms) : ∀ k, k < l.length → (flM l)[k * 5]? = some (.int .i64 (ms l k).kd) ∧ (flM l)[k * 5 + 1]? = some (.int .i64 (ms l k).v0) ∧ (flM l)[k * 5 + 2]? = some (.int .i64 (ms l k).v1) ∧ (flM l)[k * 5 + 3]? = some (.int .i64 (ms l k).b0) ∧ (flM l)[k * 5 + 4]? = some (.int .i64 (ms l k).b1) := by
  induction l with
  | nil => intro k h; simp at h
  | cons m l ih =>
    intro k h
    rw [flM_cons]
    cases k with
    | zero => exact ⟨rfl, rfl, rfl, rfl, rfl⟩
    | succ k =>
      obtain ⟨h0, h1, h2, h3, h4⟩ := ih k (by simpa using h)
      have e : ms (m :: l) (k + 1) = ms l k := by simp [ms]
      have hl : (msV m).length = 5 := rfl
      rw [e]
      refine ⟨?_, ?_, ?_, ?_, ?_⟩
      · rw [List.getElem?_append_right (by rw [hl]; omega), hl, show (k + 1) * 5 - 5 = k * 5 by omega]; exact h0
      · rw [List.getElem?_append_right (by rw [hl]; omega), hl, show (k + 1) * 5 + 1 - 5 = k * 5 + 1 by omega]; exact h1
      · rw [List.getElem?_append_right (by rw [hl]; omega), hl, show (k + 1) * 5 + 2 - 5 = k * 5 + 2 by omega]; exact h2
      · rw [List.getElem?_append_right (by rw [hl]; omega), hl, show (k + 1) * 5 + 3 - 5 = k * 5 + 3 by omega]; exact h3
      · rw [List.getElem?_append_right (by rw [hl]; omega), hl, show (k + 1) * 5 + 4 - 5 = k * 5 + 4 by omega]; exact h4
theorem flM_one (l : List Ms) : ∀ u, u ∈ flM l → u.oneCell' = true := by
  intro u hu
  unfold flM at hu
  obtain ⟨m, _, h⟩ := List.mem_flatMap.1 hu
  simp only [msV, List.mem_cons, List.not_mem_nil, or_false] at h
  rcases h with rfl | rfl | rfl | rfl | rfl <;> rfl
theorem ownM_form {W : World} {base n : Nat} {v : Value} {l : List Ms} (h : W.ownsRow base 52 5 v n (flM l)) : (v = .slice none 0 0 ∧ n = 0) ∨ ∃ g cap, v = .slice (some ⟨g, 0, none⟩) n cap ∧ n ≤ cap ∧ g < W.heap.size ∧ ∀ j, j < n * 5 → W.cell? ⟨g, j, none⟩ = (flM l)[j]? := by
  rcases h.2 with ⟨hv, h0⟩ | ⟨g, cap, cur, hv, hb, hg, hc, _⟩
  · exact .inl ⟨hv, h0⟩
  · subst hv
    exact .inr ⟨g, cap, rfl, hc, (Array.getElem?_eq_some_iff.1 hg).1, fun j hj => h.cellAt j hj⟩
theorem msA_of_own {W : World} {base : Nat} {v : Value} {l : List Ms} {n : Nat} (hn : l.length = n) (h : W.ownsRow base 52 5 v n (flM l)) : MsA W.heap.size W v l := by
  subst hn
  rcases ownM_form h with ⟨hv, h0⟩ | ⟨g, cap, hv, hc, hg, hcell⟩
  · exact ⟨none, 0, by rw [h0]; exact hv, by omega, fun k hk => by omega⟩
  · subst hv
    refine ⟨some ⟨g, 0, none⟩, cap, rfl, hc, fun k hk => ⟨g, 0, rfl, hg, ?_⟩⟩
    obtain ⟨h0, h1, h2, h3, h4⟩ := flM_get l k hk
    simp only [Nat.zero_add]
    exact ⟨(hcell _ (by omega)).trans h0, (hcell _ (by omega)).trans h1, (hcell _ (by omega)).trans h2, (hcell _ (by omega)).trans h3, (hcell _ (by omega)).trans h4⟩
theorem ms_tail (l : List Ms) (k : Nat) : ms l.tail k = ms l (k + 1) := by simp [ms]
theorem msA_tail {W : World} {base g cap n : Nat} {l : List Ms} (hn : l.length = n) (h0 : 0 < n) (h : W.ownsRow base 52 5 (.slice (some ⟨g, 0, none⟩) n cap) n (flM l)) : MsA W.heap.size W (.slice (some ⟨g, 5, none⟩) (n - 1) (cap - 1)) l.tail := by
  subst hn
  rcases ownM_form h with ⟨hv, _⟩ | ⟨g', cap', hv, hc, hg, hcell⟩
  · cases hv
  · simp only [Value.slice.injEq, Option.some.injEq, Addr.mk.injEq] at hv
    obtain ⟨⟨rfl, -, -⟩, -, rfl⟩ := hv
    refine ⟨some ⟨g, 5, none⟩, cap - 1, by rw [List.length_tail], by rw [List.length_tail]; omega, fun k hk => ⟨g, 5, rfl, hg, ?_⟩⟩
    rw [List.length_tail] at hk
    obtain ⟨h0, h1, h2, h3, h4⟩ := flM_get l (k + 1) (by omega)
    rw [ms_tail]
    have e : ∀ c, 5 + k * 5 + c = (k + 1) * 5 + c := fun c => by omega
    refine ⟨?_, ?_, ?_, ?_, ?_⟩
    · rw [show 5 + k * 5 = (k + 1) * 5 by omega]; exact (hcell _ (by omega)).trans h0
    · rw [e 1]; exact (hcell _ (by omega)).trans h1
    · rw [e 2]; exact (hcell _ (by omega)).trans h2
    · rw [e 3]; exact (hcell _ (by omega)).trans h3
    · rw [e 4]; exact (hcell _ (by omega)).trans h4
theorem five_new (W : World) (m : Ms) : ∀ (j : Nat) (u : Value), (msV m)[j]? = some u → (W.alloc (.cells #[.int .i64 m.kd, .int .i64 m.v0, .int .i64 m.v1, .int .i64 m.b0, .int .i64 m.b1] 52)).cell? ((⟨W.heap.size, 0, none⟩ : Addr).add j) = some u := by
  intro j u hj
  unfold msV at hj
  match j, hj with
  | 0, h => simp at h; subst h; simp [Addr.add, go_sem]
  | 1, h => simp at h; subst h; simp [Addr.add, go_sem]
  | 2, h => simp at h; subst h; simp [Addr.add, go_sem]
  | 3, h => simp at h; subst h; simp [Addr.add, go_sem]
  | 4, h => simp at h; subst h; simp [Addr.add, go_sem]
theorem infoI52 : (Try.prog.info? 52).map (fun i => (i.zero, i.size, i.bytes)) = some (some (.agg #[.int .i64 0, .int .i64 0, .int .i64 0, .int .i64 0, .int .i64 0]), 5, 40) := by kernel_rfl
/-- measurements that all hold m agree, and what they agree on holds m -/
theorem loc_good {l : List Ms} {m : Int} (h0 : 0 < l.length) (h1 : l.length ≤ 32) (he : errL l = 0) (hm : ∀ x, x ∈ l → (dsM x).lo ≤ m ∧ m ≤ (dsM x).hi) : locR l = ⟨(comL l).1, (comL l).2, 0⟩ ∧ (comL l).1 ≤ m ∧ m ≤ (comL l).2 := by
  have a := ((comL_iff h0 m).1).2 (fun x hx => (hm x hx).1)
  have b := ((comL_iff h0 m).2).2 (fun x hx => (hm x hx).2)
  rw [locR_ok h0 (by omega) he, if_neg (by omega)]
  exact ⟨rfl, a, b⟩
theorem loc_rev {l : List Ms} {m : Int} (h0 : 0 < l.length) (h1 : l.length ≤ 32) (he : errL l = 0) (hm : ∀ x, x ∈ l → (dsM x).lo ≤ m ∧ m ≤ (dsM x).hi) : locR l.reverse = locR l := by
  have e : comL l.reverse = comL l := comL_same (by simpa using h0) (fun x => by simp)
  rw [(loc_good h0 h1 he hm).1, (loc_good (l := l.reverse) (by simpa using h0) (by simpa using h1) (errL_zero.2 (fun x hx => errL_zero.1 he x (by simpa using hx))) (fun x hx => hm x (by simpa using hx))).1, e]
theorem loc_tail {l : List Ms} {m : Int} (h0 : 1 < l.length) (h1 : l.length ≤ 32) (he : errL l = 0) (hm : ∀ x, x ∈ l → (dsM x).lo ≤ m ∧ m ≤ (dsM x).hi) : (locR l.tail).e = 0 ∧ (locR l.tail).lo ≤ (locR l).lo ∧ (locR l).hi ≤ (locR l.tail).hi := by
  have ht : 0 < l.tail.length := by simp; omega
  rw [(loc_good (by omega) h1 he hm).1, (loc_good ht (by simp; omega) (errL_zero.2 (fun x hx => errL_zero.1 he x (List.mem_of_mem_tail hx))) (fun x hx => hm x (List.mem_of_mem_tail hx))).1]
  refine ⟨rfl, ?_, ?_⟩
  · exact ((comL_iff ht _).1).2 (fun x hx => ((comL_iff (l := l) (by omega) _).1).1 (Int.le_refl _) x (List.mem_of_mem_tail hx))
  · exact ((comL_iff ht _).2).2 (fun x hx => ((comL_iff (l := l) (by omega) _).2).1 (Int.le_refl _) x (List.mem_of_mem_tail hx))
/-- a touched segment is among the touched ones -/
theorem sgL_mem {ls : List Int} {p : List Nat} {a b : Int} {j : Nat} (h : a ≤ sgB ls p (j + 1) ∧ sgB ls p j ≤ b) : ∀ n, j < n → sgK p j ∈ sgL ls p a b n := by
  intro n
  induction n with
  | zero => intro h; omega
  | succ n ih =>
    intro hj
    by_cases e : j = n
    · subst e; rw [sgL_in h]; simp
    · have q := ih (by omega)
      unfold sgL
      split
      · exact List.mem_append.2 (.inl q)
      · exact q
end Go.Proofs.Ytdohfpnnmppdkaa

/-
  Cables: requests of lesser ranks, greater limits (mathematics; rows in memory).
-/
import Derived.Test.YtdohfpnnmppdkaaShO
import Derived.Test.YtdohfpnnmppdkaaNaB
namespace Go.Proofs.Ytdohfpnnmppdkaa
open Go.RowKit Go.Shelf
set_option linter.unusedSimpArgs false
/-- a node with a greater limit -/
def grdN (ns : List Nd) (m : Int) (k : Nat) : Nd := { nd ns k with lim := min 3932160 ((nd ns k).lim + m) }
def grdL (ns : List Nd) (m : Int) : List Nd := (List.range ns.length).map (grdN ns m)
theorem grdL_len (ns : List Nd) (m : Int) : (grdL ns m).length = ns.length := by unfold grdL; simp
theorem grdL_nd {ns : List Nd} {m : Int} {k : Nat} (hk : k < ns.length) : nd (grdL ns m) k = grdN ns m k := by unfold grdL nd; simp [hk]
theorem grdL_par (ns : List Nd) (m : Int) : par (grdL ns m) = par ns := by
  funext k
  unfold par
  rw [grdL_len]
  by_cases h : k < ns.length
  · rw [if_pos h, if_pos h, grdL_nd h]; rfl
  · rw [if_neg h, if_neg h]
theorem grdL_valid {sl sh : Int} {ns : List Nd} {m : Int} (hm : 0 ≤ m) (h : ValidC sl sh ns) : ValidC sl sh (grdL ns m) := by
  refine ⟨by rw [grdL_len]; exact h.pos, by rw [grdL_len]; exact h.len, h.sup, fun k hk => ?_⟩
  · rw [grdL_len] at hk
    rw [grdL_nd hk]
    obtain ⟨h1, h2⟩ := h.all k hk
    refine ⟨?_, ?_⟩
    · unfold joinB at h1 ⊢
      rw [decide_eq_true_iff] at h1 ⊢
      exact h1
    · unfold nodeB at h2 ⊢
      rw [decide_eq_true_iff] at h2 ⊢
      obtain ⟨a, b, c⟩ := h2
      refine ⟨a, ?_, c⟩
      show 0 ≤ min 3932160 ((nd ns k).lim + m) ∧ min 3932160 ((nd ns k).lim + m) ≤ 3932160
      omega
theorem grdL_lim {sl sh : Int} {ns : List Nd} {m : Int} (hm : 0 ≤ m) (h : ValidC sl sh ns) (k : Nat) : limF ns k ≤ limF (grdL ns m) k := by
  unfold limF
  rw [grdL_len]
  by_cases hk : k < ns.length
  · rw [if_pos hk, if_pos hk, grdL_nd hk]
    show (nd ns k).lim ≤ min 3932160 ((nd ns k).lim + m)
    have := (h.all.node hk).2.1
    omega
  · rw [if_neg hk, if_neg hk]; exact Int.le_refl _
/-- with the limits of the first k nodes greater -/
def mgF (ns : List Nd) (m : Int) (k j : Nat) : Nd := if j < k then grdN ns m j else nd ns j
theorem mg_set (ns : List Nd) (m : Int) (k x : Nat) : ndc (mgF ns m (k + 1)) x = if x = k * 8 + 3 then .int .i64 (min 3932160 ((nd ns k).lim + m)) else ndc (mgF ns m k) x := by
  obtain ⟨j, hj⟩ := eight x
  by_cases hk : j = k
  · subst hk
    have e1 : mgF ns m (j + 1) j = grdN ns m j := if_pos (by omega)
    have e2 : mgF ns m j j = nd ns j := if_neg (by omega)
    rcases hj with rfl | rfl | rfl | rfl | rfl | rfl | rfl | rfl
    · rw [if_neg (by omega), ndc_0, ndc_0, e1, e2]; rfl
    · rw [if_neg (by omega), ndc_1, ndc_1, e1, e2]; rfl
    · rw [if_neg (by omega), ndc_2, ndc_2, e1, e2]; rfl
    · rw [if_pos rfl, ndc_3, e1]; rfl
    · rw [if_neg (by omega), ndc_4, ndc_4, e1, e2]; rfl
    · rw [if_neg (by omega), ndc_5, ndc_5, e1, e2]; rfl
    · rw [if_neg (by omega), ndc_6, ndc_6, e1, e2]; rfl
    · rw [if_neg (by omega), ndc_7, ndc_7, e1, e2]; rfl
  · have e : mgF ns m (k + 1) j = mgF ns m k j := by
      unfold mgF
      by_cases h : j < k
      · rw [if_pos h, if_pos (by omega)]
      · rw [if_neg h, if_neg (by omega)]
    rcases hj with rfl | rfl | rfl | rfl | rfl | rfl | rfl | rfl
    · rw [if_neg (by omega), ndc_0, ndc_0, e]
    · rw [if_neg (by omega), ndc_1, ndc_1, e]
    · rw [if_neg (by omega), ndc_2, ndc_2, e]
    · rw [if_neg (by omega), ndc_3, ndc_3, e]
    · rw [if_neg (by omega), ndc_4, ndc_4, e]
    · rw [if_neg (by omega), ndc_5, ndc_5, e]
    · rw [if_neg (by omega), ndc_6, ndc_6, e]
    · rw [if_neg (by omega), ndc_7, ndc_7, e]
theorem ndr_set1 {W : World} {G n cap : Nat} {f g : Nat → Nd} (h : NdR W G n cap f) {j : Nat} {v : Value} (hj : j < n * 8) (hg : ∀ x, ndc g x = if x = j then v else ndc f x) : NdR (W.setCell ⟨G, j, none⟩ v) G n cap g := by
  obtain ⟨r, hr⟩ := h
  refine ⟨r, (hr.set j v).ext fun x hx => ?_⟩
  by_cases e : x = j
  · subst e; rw [if_pos rfl, if_pos hj, hg, if_pos rfl]
  · rw [if_neg e]
    by_cases e2 : x < n * 8
    · rw [if_pos e2, if_pos e2, hg, if_neg e]
    · rw [if_neg e2, if_neg e2]
/-- what a node gets, by lists -/
theorem later_eq (P : Nat → Nat) (lim rk rq rq' : Nat → Int) (n : Nat) (L : Int) (h : ∀ k, k < n → L ≤ rk k → rq k = rq' k) (k : Nat) (hk : k < n) (hL : L ≤ rk k) :
    (shF P lim (ti (fL rq n)) (ordO (ti (fL rk n)) n)).2 k = (shF P lim (ti (fL rq' n)) (ordO (ti (fL rk n)) n)).2 k := by
  refine share_later P (ti (fL rk n)) lim _ _ L n _ (ordO_turn _ n) (fun j hj hr => ?_) k (by rw [fL_ti _ hk]; exact hL)
  rw [fL_ti _ hj] at hr
  rw [fL_ti _ hj, fL_ti _ hj]
  exact h j hj hr
theorem first_le (P : Nat → Nat) (lim lim' rk rq : Nat → Int) (n : Nat) (hn : 0 < n) (hl : ∀ k, lim k ≤ lim' k) :
    tn (ordO rk n) 0 < n ∧ (shF P lim rq (ordO rk n)).2 (tn (ordO rk n) 0) ≤ (shF P lim' rq (ordO rk n)).2 (tn (ordO rk n) 0) := by
  have hT := ordO_turn rk n
  cases hod : ordO rk n with
  | nil => have := hT.len; rw [hod] at this; simp at this; omega
  | cons f l =>
    rw [hod] at hT
    refine ⟨(hT.all _).1 (by simp [tn]), ?_⟩
    exact share_first P rk lim lim' rq n f l hT hl
theorem fL_bd {f : Nat → Int} {n : Nat} (h : ∀ k, k < n → 0 ≤ f k ∧ f k ≤ 65536) (k : Nat) : 0 ≤ ti (fL f n) k ∧ ti (fL f n) k ≤ 65536 := by
  by_cases hk : k < n
  · rw [fL_ti _ hk]; exact h k hk
  · have : ti (fL f n) k = 0 := by unfold ti; rw [List.getElem?_eq_none (by rw [fL_len]; omega)]; rfl
    rw [this]; decide
/-- a row of numbers that a call has built -/
theorem own_row {W : World} {base n : Nat} {t : TypeId} {v : Value} {f : Nat → Int} (h : W.ownsRow base t 1 v n (fI f n)) (hn : 0 < n) : ∃ g cap J, v = .slice (some ⟨g, 0, none⟩) n cap ∧ base ≤ g ∧ n ≤ cap ∧ RowC W g t cap (rmC n J f) := by
  rcases h.2 with ⟨_, e⟩ | ⟨g, cap, cur, hv, hb, hg, hc1, hc2, hs, ht⟩
  · omega
  · refine ⟨g, cap, fun j => cur[j]?.getD undef, hv, hb, hc1, cur, hg, by omega, fun j hj => ?_⟩
    unfold rmC
    by_cases h : j < n
    · rw [if_pos h]
      have e : cur.toList[j]? = (fI f n)[j]? := by rw [← ht, List.getElem?_take_of_lt (by omega)]
      have e2 : cur[j]? = (fI f n)[j]? := by simpa using e
      rw [e2]
      unfold fI
      simp [h]
    · rw [if_neg h]
      simp [show j < cur.size by omega]
theorem row_il {W : World} {g n cap : Nat} {t : TypeId} {J : Nat → Value} {f : Nat → Int} (h : RowC W g t cap (rmC n J f)) (hc : n ≤ cap) : Il W.heap.size W (.slice (some ⟨g, 0, none⟩) n cap) (fL f n) :=
  ⟨some ⟨g, 0, none⟩, cap, by rw [fL_len], by rw [fL_len]; exact hc, fun k hk => ⟨g, 0, rfl, h.lt, by
    rw [fL_len] at hk
    rw [Nat.zero_add, fL_ti f hk, h.cell (by omega), rmC_lt hk]⟩⟩
theorem row_at {W : World} {g n cap : Nat} {t : TypeId} {J : Nat → Value} {f : Nat → Int} (h : RowC W g t cap (rmC n J f)) (hc : n ≤ cap) {k : Nat} (hk : k < n) : W.cell? ⟨g, k, none⟩ = some (.int .i64 (f k)) := by
  rw [h.cell (by omega), rmC_lt hk]
/-- a list of numbers that is read -/
def Rd (W : World) (v : Value) (n : Nat) (f : Nat → Int) : Prop := ∃ b off c, v = .slice (some ⟨b, off, none⟩) n c ∧ b < W.heap.size ∧ ∀ Z, Below W.heap.size W Z → ∀ k, k < n → Z.cell? ⟨b, off + k, none⟩ = some (.int .i64 (f k))
theorem rd_of_il {W : World} {v : Value} {n : Nat} {f : Nat → Int} (h : Il W.heap.size W v (fL f n)) (hn : 0 < n) : Rd W v n f := by
  obtain ⟨a, c, rfl, -, hc⟩ := h
  rw [fL_len] at hc ⊢
  obtain ⟨b, off, rfl, hb, -⟩ := hc 0 hn
  refine ⟨b, off, c, rfl, hb, fun Z hZ k hk => ?_⟩
  obtain ⟨b', off', h1, h2, h3⟩ := hc k hk
  simp only [Option.some.injEq, Addr.mk.injEq] at h1
  obtain ⟨rfl, rfl, -⟩ := h1
  rw [fL_ti f hk] at h3
  exact (hZ.cell (p := ⟨_, _, none⟩) h2).trans h3
end Go.Proofs.Ytdohfpnnmppdkaa

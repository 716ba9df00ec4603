/-
  Cables: nodes in a row of their own.
-/
import Derived.Test.YtdohfpnnmppdkaaGreatNaA
import Derived.Test.YtdohfpnnmppdkaaGreatNarMath
namespace Go.Proofs.YtdohfpnnmppdkaaGreat
open Go.RowKit Go.Shelf
set_option linter.unusedSimpArgs false
attribute [local go_sem] Oper.semAt_some
/-- the node with narrower spans -/
def narN (ns : List Nd) (ps : List Int) (k : Nat) : Nd :=
  ⟨(nd ns k).par, pickV (nd ns k).ol (nd ns k).oh (min (atV ps (4 * k + 4)) (atV ps (4 * k + 5))), pickV (nd ns k).ol (nd ns k).oh (max (atV ps (4 * k + 4)) (atV ps (4 * k + 5))), (nd ns k).lim,
   pickV (nd ns k).ll (nd ns k).lh (min (atV ps (4 * k + 2)) (atV ps (4 * k + 3))), pickV (nd ns k).ll (nd ns k).lh (max (atV ps (4 * k + 2)) (atV ps (4 * k + 3))), (nd ns k).lea, (nd ns k).del⟩
def narL (ns : List Nd) (ps : List Int) : List Nd := (List.range ns.length).map (narN ns ps)
theorem narL_len (ns : List Nd) (ps : List Int) : (narL ns ps).length = ns.length := by unfold narL; simp
theorem narL_nd {ns : List Nd} {ps : List Int} {k : Nat} (hk : k < ns.length) : nd (narL ns ps) k = narN ns ps k := by unfold narL nd; simp [hk]
theorem pick_two {lo hi p q : Int} (h : lo ≤ hi) (hp : 0 ≤ p ∧ p ≤ 255) (hq : 0 ≤ q ∧ q ≤ 255) : lo ≤ pickV lo hi (min p q) ∧ pickV lo hi (min p q) ≤ pickV lo hi (max p q) ∧ pickV lo hi (max p q) ≤ hi := by
  refine ⟨(pickV_in h (by omega) (by omega)).1, pickV_mono h (by omega), (pickV_in h (by omega) (by omega)).2⟩
theorem narL_nar {ns : List Nd} (hv : AllN ns) {ps : List Int} (hb : Byt ps) : Nar ns (narL ns ps) := by
  have h1 : ∀ k, k < ns.length → (nd ns k).ll ≤ pickV (nd ns k).ll (nd ns k).lh (min (atV ps (4 * k + 2)) (atV ps (4 * k + 3))) ∧ pickV (nd ns k).ll (nd ns k).lh (min (atV ps (4 * k + 2)) (atV ps (4 * k + 3))) ≤ pickV (nd ns k).ll (nd ns k).lh (max (atV ps (4 * k + 2)) (atV ps (4 * k + 3))) ∧ pickV (nd ns k).ll (nd ns k).lh (max (atV ps (4 * k + 2)) (atV ps (4 * k + 3))) ≤ (nd ns k).lh := fun k hk => pick_two (hv.node hk).2.2.1.1 (atV_in hb _) (atV_in hb _)
  have h2 : ∀ k, k < ns.length → (nd ns k).ol ≤ pickV (nd ns k).ol (nd ns k).oh (min (atV ps (4 * k + 4)) (atV ps (4 * k + 5))) ∧ pickV (nd ns k).ol (nd ns k).oh (min (atV ps (4 * k + 4)) (atV ps (4 * k + 5))) ≤ pickV (nd ns k).ol (nd ns k).oh (max (atV ps (4 * k + 4)) (atV ps (4 * k + 5))) ∧ pickV (nd ns k).ol (nd ns k).oh (max (atV ps (4 * k + 4)) (atV ps (4 * k + 5))) ≤ (nd ns k).oh := fun k hk => pick_two (hv.node hk).1.1 (atV_in hb _) (atV_in hb _)
  refine ⟨narL_len _ _, fun k hk => ?_, fun k hk => ?_, fun k hk => ?_, fun k hk => ?_, fun k hk => ?_, fun k hk => ?_, fun k hk => ?_⟩
  all_goals rw [narL_nd hk]
  · exact ⟨rfl, rfl, rfl, rfl⟩
  · exact (h1 k hk).1
  · exact (h1 k hk).2.1
  · exact (h1 k hk).2.2
  · exact (h2 k hk).1
  · exact (h2 k hk).2.1
  · exact (h2 k hk).2.2
/-- the cells of nodes, one after another -/
def ndc (f : Nat → Nd) (j : Nat) : Value :=
  if j % 8 = 0 then .int .i64 (f (j / 8)).par else if j % 8 = 1 then .int .i64 (f (j / 8)).ol else if j % 8 = 2 then .int .i64 (f (j / 8)).oh else if j % 8 = 3 then .int .i64 (f (j / 8)).lim else
  if j % 8 = 4 then .int .i64 (f (j / 8)).ll else if j % 8 = 5 then .int .i64 (f (j / 8)).lh else if j % 8 = 6 then .int .i64 (f (j / 8)).lea else .int .i64 (f (j / 8)).del
theorem ndc_0 (f : Nat → Nd) (k : Nat) : ndc f (k * 8) = .int .i64 (f k).par := by
  unfold ndc
  have h1 : (k * 8) % 8 = 0 := by omega
  have h2 : (k * 8) / 8 = k := by omega
  rw [h1, h2]; rfl
theorem ndc_1 (f : Nat → Nd) (k : Nat) : ndc f (k * 8 + 1) = .int .i64 (f k).ol := by
  unfold ndc
  have h1 : (k * 8 + 1) % 8 = 1 := by omega
  have h2 : (k * 8 + 1) / 8 = k := by omega
  rw [h1, h2]; rfl
theorem ndc_2 (f : Nat → Nd) (k : Nat) : ndc f (k * 8 + 2) = .int .i64 (f k).oh := by
  unfold ndc
  have h1 : (k * 8 + 2) % 8 = 2 := by omega
  have h2 : (k * 8 + 2) / 8 = k := by omega
  rw [h1, h2]; rfl
theorem ndc_3 (f : Nat → Nd) (k : Nat) : ndc f (k * 8 + 3) = .int .i64 (f k).lim := by
  unfold ndc
  have h1 : (k * 8 + 3) % 8 = 3 := by omega
  have h2 : (k * 8 + 3) / 8 = k := by omega
  rw [h1, h2]; rfl
theorem ndc_4 (f : Nat → Nd) (k : Nat) : ndc f (k * 8 + 4) = .int .i64 (f k).ll := by
  unfold ndc
  have h1 : (k * 8 + 4) % 8 = 4 := by omega
  have h2 : (k * 8 + 4) / 8 = k := by omega
  rw [h1, h2]; rfl
theorem ndc_5 (f : Nat → Nd) (k : Nat) : ndc f (k * 8 + 5) = .int .i64 (f k).lh := by
  unfold ndc
  have h1 : (k * 8 + 5) % 8 = 5 := by omega
  have h2 : (k * 8 + 5) / 8 = k := by omega
  rw [h1, h2]; rfl
theorem ndc_6 (f : Nat → Nd) (k : Nat) : ndc f (k * 8 + 6) = .int .i64 (f k).lea := by
  unfold ndc
  have h1 : (k * 8 + 6) % 8 = 6 := by omega
  have h2 : (k * 8 + 6) / 8 = k := by omega
  rw [h1, h2]; rfl
theorem ndc_7 (f : Nat → Nd) (k : Nat) : ndc f (k * 8 + 7) = .int .i64 (f k).del := by
  unfold ndc
  have h1 : (k * 8 + 7) % 8 = 7 := by omega
  have h2 : (k * 8 + 7) / 8 = k := by omega
  rw [h1, h2]; rfl
theorem eight (j : Nat) : ∃ k, j = k * 8 ∨ j = k * 8 + 1 ∨ j = k * 8 + 2 ∨ j = k * 8 + 3 ∨ j = k * 8 + 4 ∨ j = k * 8 + 5 ∨ j = k * 8 + 6 ∨ j = k * 8 + 7 := ⟨j / 8, by omega⟩
theorem nds_cells {n₀ : Nat} {W : World} {nb off cap : Nat} {ns : List Nd} (h : Nds n₀ W (.slice (some ⟨nb, off, none⟩) ns.length cap) ns) {j : Nat} (hj : j < ns.length * 8) : W.cell? ⟨nb, off + j, none⟩ = some (ndc (nd ns) j) := by
  obtain ⟨k, hk⟩ := eight j
  obtain ⟨a, c, e, -, hcc⟩ := h
  simp only [Value.slice.injEq] at e
  obtain ⟨rfl, -, -⟩ := e
  obtain ⟨b, o, h1, h2, e0, e1, e2, e3, e4, e5, e6, e7⟩ := hcc k (by omega)
  simp only [Option.some.injEq, Addr.mk.injEq] at h1
  obtain ⟨rfl, rfl, -⟩ := h1
  rcases hk with rfl | rfl | rfl | rfl | rfl | rfl | rfl | rfl
  · rw [ndc_0]; exact e0
  · rw [ndc_1, ← e1]; congr 1
  · rw [ndc_2, ← e2]; congr 1
  · rw [ndc_3, ← e3]; congr 1
  · rw [ndc_4, ← e4]; congr 1
  · rw [ndc_5, ← e5]; congr 1
  · rw [ndc_6, ← e6]; congr 1
  · rw [ndc_7, ← e7]; congr 1
/-- a block of nodes of the call's own -/
def NdR (W : World) (G n cap : Nat) (f : Nat → Nd) : Prop := ∃ r : Nat → Value, RowC W G 45 (cap * 8) (fun j => if j < n * 8 then ndc f j else r j)
theorem NdR.keep {W W' : World} {G n cap : Nat} {f : Nat → Nd} (h : NdR W G n cap f) (hb : Below W.heap.size W W') : NdR W' G n cap f := by
  obtain ⟨r, h⟩ := h; exact ⟨r, h.keep hb⟩
theorem NdR.far {W : World} {G n cap b o : Nat} {f : Nat → Nd} {v : Value} (h : NdR W G n cap f) (hne : G ≠ b) : NdR (W.setCell ⟨b, o, none⟩ v) G n cap f := by
  obtain ⟨r, h⟩ := h; exact ⟨r, h.far hne⟩
theorem NdR.drew {W : World} {G n cap : Nat} {f : Nat → Nd} (h : NdR W G n cap f) : NdR W.drew G n cap f := by
  obtain ⟨r, h⟩ := h; exact ⟨r, h.drew⟩
theorem NdR.lt {W : World} {G n cap : Nat} {f : Nat → Nd} (h : NdR W G n cap f) : G < W.heap.size := by
  obtain ⟨r, h⟩ := h; exact h.lt
theorem NdR.cell {W : World} {G n cap : Nat} {f : Nat → Nd} (h : NdR W G n cap f) (hc : n ≤ cap) {j : Nat} (hj : j < n * 8) : W.cell? ⟨G, j, none⟩ = some (ndc f j) := by
  obtain ⟨r, h⟩ := h
  rw [h.cell (by omega), if_pos hj]
theorem NdR.froz {W : World} {G n cap : Nat} {f : Nat → Nd} (h : NdR W G n cap f) (j : Nat) : W.frozen? ⟨G, j, none⟩ = false := by
  obtain ⟨r, h⟩ := h; exact h.froz j
theorem NdR.set2 {W : World} {G n cap : Nat} {f g : Nat → Nd} (h : NdR W G n cap f) {i j : Nat} {u v : Value} (hi : i < n * 8) (hj : j < n * 8) (hg : ∀ x, x < n * 8 → ndc g x = if x = j then v else if x = i then u else ndc f x) : NdR ((W.setCell ⟨G, i, none⟩ u).setCell ⟨G, j, none⟩ v) G n cap g := by
  obtain ⟨r, h⟩ := h
  refine ⟨r, ((h.set i u).set j v).ext fun x _ => ?_⟩
  by_cases hx : x < n * 8
  · rw [if_pos hx, if_pos hx, hg x hx]
  · rw [if_neg hx, if_neg hx, if_neg (by omega), if_neg (by omega)]
theorem ndr_of_own {W : World} {base n : Nat} {v : Value} {f : Nat → Nd} (hn : 0 < n) (h : W.ownsRow base 45 8 v n ((List.range (n * 8)).map (ndc f))) : ∃ g cap, v = .slice (some ⟨g, 0, none⟩) n cap ∧ base ≤ g ∧ n ≤ cap ∧ NdR W g n cap f := by
  obtain ⟨hl, h⟩ := h
  rcases h with ⟨hv, h0⟩ | ⟨g, cap, cur, hv, hb, hg, hc1, hc2, hs, ht⟩
  · omega
  · refine ⟨g, cap, hv, hb, hc1, fun j => cur[j]?.getD undef, cur, hg, hs, fun j hj => ?_⟩
    show cur[j]? = some (if j < n * 8 then ndc f j else cur[j]?.getD undef)
    by_cases hx : j < n * 8
    · rw [if_pos hx]
      have e : cur.toList[j]? = ((List.range (n * 8)).map (ndc f))[j]? := by rw [← ht, List.getElem?_take_of_lt hx]
      simpa [hx] using e
    · rw [if_neg hx]
      have hjs : j < cur.size := by omega
      simp [hjs]
theorem nds_of_ndr {W : World} {G cap : Nat} {ns : List Nd} {f : Nat → Nd} (h : NdR W G ns.length cap f) (hc : ns.length ≤ cap) (hf : ∀ k, k < ns.length → f k = nd ns k) : Nds W.heap.size W (.slice (some ⟨G, 0, none⟩) ns.length cap) ns := by
  refine ⟨_, _, rfl, hc, fun k hk => ⟨G, 0, rfl, h.lt, ?_⟩⟩
  have e := hf k hk
  simp only [Nat.zero_add]
  refine ⟨?_, ?_, ?_, ?_, ?_, ?_, ?_, ?_⟩
  · rw [h.cell hc (by omega), ndc_0, e]
  · rw [h.cell hc (by omega), ndc_1, e]
  · rw [h.cell hc (by omega), ndc_2, e]
  · rw [h.cell hc (by omega), ndc_3, e]
  · rw [h.cell hc (by omega), ndc_4, e]
  · rw [h.cell hc (by omega), ndc_5, e]
  · rw [h.cell hc (by omega), ndc_6, e]
  · rw [h.cell hc (by omega), ndc_7, e]
/-- the nodes when k of them are narrower; midL: the loads of the node k, too -/
def midF (ns : List Nd) (ps : List Int) (k j : Nat) : Nd := if j < k then narN ns ps j else nd ns j
def midG (ns : List Nd) (ps : List Int) (k j : Nat) : Nd := if j = k then { nd ns k with ll := (narN ns ps k).ll, lh := (narN ns ps k).lh } else midF ns ps k j
theorem mid_load (ns : List Nd) (ps : List Int) (k x : Nat) : ndc (midG ns ps k) x = if x = k * 8 + 5 then .int .i64 (narN ns ps k).lh else if x = k * 8 + 4 then .int .i64 (narN ns ps k).ll else ndc (midF ns ps k) x := by
  obtain ⟨j, hj⟩ := eight x
  have hF : midF ns ps k k = nd ns k := if_neg (Nat.lt_irrefl _)
  have hG : midG ns ps k k = { nd ns k with ll := (narN ns ps k).ll, lh := (narN ns ps k).lh } := if_pos rfl
  by_cases e : j = k
  · subst e
    rcases hj with rfl | rfl | rfl | rfl | rfl | rfl | rfl | rfl
    · rw [if_neg (by omega), if_neg (by omega), ndc_0, ndc_0, hF, hG]
    · rw [if_neg (by omega), if_neg (by omega), ndc_1, ndc_1, hF, hG]
    · rw [if_neg (by omega), if_neg (by omega), ndc_2, ndc_2, hF, hG]
    · rw [if_neg (by omega), if_neg (by omega), ndc_3, ndc_3, hF, hG]
    · rw [if_neg (by omega), if_pos rfl, ndc_4, hG]
    · rw [if_pos rfl, ndc_5, hG]
    · rw [if_neg (by omega), if_neg (by omega), ndc_6, ndc_6, hF, hG]
    · rw [if_neg (by omega), if_neg (by omega), ndc_7, ndc_7, hF, hG]
  · have hGj : midG ns ps k j = midF ns ps k j := if_neg e
    rw [if_neg (by omega), if_neg (by omega)]
    rcases hj with rfl | rfl | rfl | rfl | rfl | rfl | rfl | rfl
    · rw [ndc_0, ndc_0, hGj]
    · rw [ndc_1, ndc_1, hGj]
    · rw [ndc_2, ndc_2, hGj]
    · rw [ndc_3, ndc_3, hGj]
    · rw [ndc_4, ndc_4, hGj]
    · rw [ndc_5, ndc_5, hGj]
    · rw [ndc_6, ndc_6, hGj]
    · rw [ndc_7, ndc_7, hGj]
theorem mid_ohms (ns : List Nd) (ps : List Int) (k x : Nat) : ndc (midF ns ps (k + 1)) x = if x = k * 8 + 2 then .int .i64 (narN ns ps k).oh else if x = k * 8 + 1 then .int .i64 (narN ns ps k).ol else ndc (midG ns ps k) x := by
  obtain ⟨j, hj⟩ := eight x
  have hF : midF ns ps (k + 1) k = narN ns ps k := if_pos (by omega)
  have hG : midG ns ps k k = { nd ns k with ll := (narN ns ps k).ll, lh := (narN ns ps k).lh } := if_pos rfl
  by_cases e : j = k
  · subst e
    rcases hj with rfl | rfl | rfl | rfl | rfl | rfl | rfl | rfl
    · rw [if_neg (by omega), if_neg (by omega), ndc_0, ndc_0, hF, hG]; rfl
    · rw [if_neg (by omega), if_pos rfl, ndc_1, hF]
    · rw [if_pos rfl, ndc_2, hF]
    · rw [if_neg (by omega), if_neg (by omega), ndc_3, ndc_3, hF, hG]; rfl
    · rw [if_neg (by omega), if_neg (by omega), ndc_4, ndc_4, hF, hG]
    · rw [if_neg (by omega), if_neg (by omega), ndc_5, ndc_5, hF, hG]
    · rw [if_neg (by omega), if_neg (by omega), ndc_6, ndc_6, hF, hG]; rfl
    · rw [if_neg (by omega), if_neg (by omega), ndc_7, ndc_7, hF, hG]; rfl
  · have hGj : midG ns ps k j = midF ns ps k j := if_neg e
    have hFj : midF ns ps (k + 1) j = midF ns ps k j := by
      unfold midF
      by_cases h : j < k
      · rw [if_pos h, if_pos (by omega)]
      · rw [if_neg h, if_neg (by omega)]
    rw [if_neg (by omega), if_neg (by omega)]
    rcases hj with rfl | rfl | rfl | rfl | rfl | rfl | rfl | rfl
    · rw [ndc_0, ndc_0, hGj, hFj]
    · rw [ndc_1, ndc_1, hGj, hFj]
    · rw [ndc_2, ndc_2, hGj, hFj]
    · rw [ndc_3, ndc_3, hGj, hFj]
    · rw [ndc_4, ndc_4, hGj, hFj]
    · rw [ndc_5, ndc_5, hGj, hFj]
    · rw [ndc_6, ndc_6, hGj, hFj]
    · rw [ndc_7, ndc_7, hGj, hFj]
theorem infoI62 : (Tryz.prog.info? 45).map (fun i => (i.zero, i.size, i.bytes)) = some (some (.agg #[.int .i64 0, .int .i64 0, .int .i64 0, .int .i64 0, .int .i64 0, .int .i64 0, .int .i64 0, .int .i64 0]), 8, 64) := by kernel_rfl
end Go.Proofs.YtdohfpnnmppdkaaGreat

/-
  Cables: nodes in a row of their own.
-/
import Derived.Test.YtdohfpnnmppdkaaCcC
import Derived.Test.YtdohfpnnmppdkaaCbC
import Derived.Test.YtdohfpnnmppdkaaCbK
import Derived.Test.YtdohfpnnmppdkaaFrame
import Derived.Test.YtdohfpnnmppdkaaCblVal
namespace Go.Proofs.Ytdohfpnnmppdkaa
open Go.RowKit Go.Shelf
set_option linter.unusedSimpArgs false
attribute [local go_sem] Oper.semAt_some
/-- the cells of nodes, one after another -/
def ndc (f : Nat → Nd) (j : Nat) : Value :=
  if j % 8 = 0 then .int .i64 (f (j / 8)).par else if j % 8 = 1 then .int .i64 (f (j / 8)).ol else if j % 8 = 2 then .int .i64 (f (j / 8)).oh else if j % 8 = 3 then .int .i64 (f (j / 8)).lim else
  if j % 8 = 4 then .int .i64 (f (j / 8)).ll else if j % 8 = 5 then .int .i64 (f (j / 8)).lh else if j % 8 = 6 then .int .i64 (f (j / 8)).lea else .int .i64 (f (j / 8)).del
theorem ndc_0 (f : Nat → Nd) (k : Nat) : ndc f (k * 8) = .int .i64 (f k).par := by
  unfold ndc
  have h1 : (k * 8) % 8 = 0 := by omega
  have h2 : (k * 8) / 8 = k := by omega
  rw [h1, h2]; rfl
theorem ndc_1 (f : Nat → Nd) (k : Nat) : ndc f (k * 8 + 1) = .int .i64 (f k).ol := by
  unfold ndc
  have h1 : (k * 8 + 1) % 8 = 1 := by omega
  have h2 : (k * 8 + 1) / 8 = k := by omega
  rw [h1, h2]; rfl
theorem ndc_2 (f : Nat → Nd) (k : Nat) : ndc f (k * 8 + 2) = .int .i64 (f k).oh := by
  unfold ndc
  have h1 : (k * 8 + 2) % 8 = 2 := by omega
  have h2 : (k * 8 + 2) / 8 = k := by omega
  rw [h1, h2]; rfl
theorem ndc_3 (f : Nat → Nd) (k : Nat) : ndc f (k * 8 + 3) = .int .i64 (f k).lim := by
  unfold ndc
  have h1 : (k * 8 + 3) % 8 = 3 := by omega
  have h2 : (k * 8 + 3) / 8 = k := by omega
  rw [h1, h2]; rfl
theorem ndc_4 (f : Nat → Nd) (k : Nat) : ndc f (k * 8 + 4) = .int .i64 (f k).ll := by
  unfold ndc
  have h1 : (k * 8 + 4) % 8 = 4 := by omega
  have h2 : (k * 8 + 4) / 8 = k := by omega
  rw [h1, h2]; rfl
theorem ndc_5 (f : Nat → Nd) (k : Nat) : ndc f (k * 8 + 5) = .int .i64 (f k).lh := by
  unfold ndc
  have h1 : (k * 8 + 5) % 8 = 5 := by omega
  have h2 : (k * 8 + 5) / 8 = k := by omega
  rw [h1, h2]; rfl
theorem ndc_6 (f : Nat → Nd) (k : Nat) : ndc f (k * 8 + 6) = .int .i64 (f k).lea := by
  unfold ndc
  have h1 : (k * 8 + 6) % 8 = 6 := by omega
  have h2 : (k * 8 + 6) / 8 = k := by omega
  rw [h1, h2]; rfl
theorem ndc_7 (f : Nat → Nd) (k : Nat) : ndc f (k * 8 + 7) = .int .i64 (f k).del := by
  unfold ndc
  have h1 : (k * 8 + 7) % 8 = 7 := by omega
  have h2 : (k * 8 + 7) / 8 = k := by omega
  rw [h1, h2]; rfl
theorem eight (j : Nat) : ∃ k, j = k * 8 ∨ j = k * 8 + 1 ∨ j = k * 8 + 2 ∨ j = k * 8 + 3 ∨ j = k * 8 + 4 ∨ j = k * 8 + 5 ∨ j = k * 8 + 6 ∨ j = k * 8 + 7 := ⟨j / 8, by omega⟩
theorem nds_cells {n₀ : Nat} {W : World} {nb off cap : Nat} {ns : List Nd} (h : Nds n₀ W (.slice (some ⟨nb, off, none⟩) ns.length cap) ns) {j : Nat} (hj : j < ns.length * 8) : W.cell? ⟨nb, off + j, none⟩ = some (ndc (nd ns) j) := by
  obtain ⟨k, hk⟩ := eight j
  obtain ⟨a, c, e, -, hcc⟩ := h
  simp only [Value.slice.injEq] at e
  obtain ⟨rfl, -, -⟩ := e
  obtain ⟨b, o, h1, h2, e0, e1, e2, e3, e4, e5, e6, e7⟩ := hcc k (by omega)
  simp only [Option.some.injEq, Addr.mk.injEq] at h1
  obtain ⟨rfl, rfl, -⟩ := h1
  rcases hk with rfl | rfl | rfl | rfl | rfl | rfl | rfl | rfl
  · rw [ndc_0]; exact e0
  · rw [ndc_1, ← e1]; congr 1
  · rw [ndc_2, ← e2]; congr 1
  · rw [ndc_3, ← e3]; congr 1
  · rw [ndc_4, ← e4]; congr 1
  · rw [ndc_5, ← e5]; congr 1
  · rw [ndc_6, ← e6]; congr 1
  · rw [ndc_7, ← e7]; congr 1
/-- a block of nodes of the call's own -/
def NdR (W : World) (G n cap : Nat) (f : Nat → Nd) : Prop := ∃ r : Nat → Value, RowC W G 62 (cap * 8) (fun j => if j < n * 8 then ndc f j else r j)
theorem NdR.far {W : World} {G n cap b o : Nat} {f : Nat → Nd} {v : Value} (h : NdR W G n cap f) (hne : G ≠ b) : NdR (W.setCell ⟨b, o, none⟩ v) G n cap f := by
  obtain ⟨r, h⟩ := h; exact ⟨r, h.far hne⟩
theorem NdR.drew {W : World} {G n cap : Nat} {f : Nat → Nd} (h : NdR W G n cap f) : NdR W.drew G n cap f := by
  obtain ⟨r, h⟩ := h; exact ⟨r, h.drew⟩
theorem NdR.lt {W : World} {G n cap : Nat} {f : Nat → Nd} (h : NdR W G n cap f) : G < W.heap.size := by
  obtain ⟨r, h⟩ := h; exact h.lt
theorem NdR.cell {W : World} {G n cap : Nat} {f : Nat → Nd} (h : NdR W G n cap f) (hc : n ≤ cap) {j : Nat} (hj : j < n * 8) : W.cell? ⟨G, j, none⟩ = some (ndc f j) := by
  obtain ⟨r, h⟩ := h
  rw [h.cell (by omega), if_pos hj]
theorem NdR.froz {W : World} {G n cap : Nat} {f : Nat → Nd} (h : NdR W G n cap f) (j : Nat) : W.frozen? ⟨G, j, none⟩ = false := by
  obtain ⟨r, h⟩ := h; exact h.froz j
theorem ndr_of_own {W : World} {base n : Nat} {v : Value} {f : Nat → Nd} (hn : 0 < n) (h : W.ownsRow base 62 8 v n ((List.range (n * 8)).map (ndc f))) : ∃ g cap, v = .slice (some ⟨g, 0, none⟩) n cap ∧ base ≤ g ∧ n ≤ cap ∧ NdR W g n cap f := by
  obtain ⟨hl, h⟩ := h
  rcases h with ⟨hv, h0⟩ | ⟨g, cap, cur, hv, hb, hg, hc1, hc2, hs, ht⟩
  · omega
  · refine ⟨g, cap, hv, hb, hc1, fun j => cur[j]?.getD undef, cur, hg, hs, fun j hj => ?_⟩
    show cur[j]? = some (if j < n * 8 then ndc f j else cur[j]?.getD undef)
    by_cases hx : j < n * 8
    · rw [if_pos hx]
      have e : cur.toList[j]? = ((List.range (n * 8)).map (ndc f))[j]? := by rw [← ht, List.getElem?_take_of_lt hx]
      simpa [hx] using e
    · rw [if_neg hx]
      have hjs : j < cur.size := by omega
      simp [hjs]
theorem nds_of_ndr {W : World} {G cap : Nat} {ns : List Nd} {f : Nat → Nd} (h : NdR W G ns.length cap f) (hc : ns.length ≤ cap) (hf : ∀ k, k < ns.length → f k = nd ns k) : Nds W.heap.size W (.slice (some ⟨G, 0, none⟩) ns.length cap) ns := by
  refine ⟨_, _, rfl, hc, fun k hk => ⟨G, 0, rfl, h.lt, ?_⟩⟩
  have e := hf k hk
  simp only [Nat.zero_add]
  refine ⟨?_, ?_, ?_, ?_, ?_, ?_, ?_, ?_⟩
  · rw [h.cell hc (by omega), ndc_0, e]
  · rw [h.cell hc (by omega), ndc_1, e]
  · rw [h.cell hc (by omega), ndc_2, e]
  · rw [h.cell hc (by omega), ndc_3, e]
  · rw [h.cell hc (by omega), ndc_4, e]
  · rw [h.cell hc (by omega), ndc_5, e]
  · rw [h.cell hc (by omega), ndc_6, e]
  · rw [h.cell hc (by omega), ndc_7, e]
theorem infoI62 : (Try.prog.info? 62).map (fun i => (i.zero, i.size, i.bytes)) = some (some (.agg #[.int .i64 0, .int .i64 0, .int .i64 0, .int .i64 0, .int .i64 0, .int .i64 0, .int .i64 0, .int .i64 0]), 8, 64) := by kernel_rfl
end Go.Proofs.Ytdohfpnnmppdkaa

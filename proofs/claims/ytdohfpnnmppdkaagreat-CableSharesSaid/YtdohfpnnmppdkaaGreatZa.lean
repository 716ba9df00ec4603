/-
  Cables: nodes that draw just what they are granted.
-/
import Derived.Test.YtdohfpnnmppdkaaGreatLtMath
import Derived.Test.YtdohfpnnmppdkaaGreatCcD
import Derived.Deep.CutRange
namespace Go.Proofs.YtdohfpnnmppdkaaGreat
open Go.RowKit Go.Shelf
set_option linter.unusedSimpArgs false
attribute [local go_sem] Oper.semAt_some
/-- a node that draws just what it is granted -/
def dwN (ns : List Nd) (g : Nat → Int) (k : Nat) : Nd := { nd ns k with ll := g k, lh := g k }
def dwL (ns : List Nd) (g : Nat → Int) : List Nd := (List.range ns.length).map (dwN ns g)
theorem dwL_len (ns : List Nd) (g : Nat → Int) : (dwL ns g).length = ns.length := by unfold dwL; simp
theorem dwL_nd {ns : List Nd} {g : Nat → Int} {k : Nat} (hk : k < ns.length) : nd (dwL ns g) k = dwN ns g k := by unfold dwL nd; simp [hk]
theorem dwL_par (ns : List Nd) (g : Nat → Int) : par (dwL ns g) = par ns := by
  funext k
  unfold par
  rw [dwL_len]
  by_cases h : k < ns.length
  · rw [if_pos h, if_pos h, dwL_nd h]; rfl
  · rw [if_neg h, if_neg h]
theorem dwL_valid {sl sh : Int} {ns : List Nd} {g : Nat → Int} (hg : ∀ k, k < ns.length → 0 ≤ g k ∧ g k ≤ 65536) (h : ValidC sl sh ns) : ValidC sl sh (dwL ns g) := by
  refine ⟨by rw [dwL_len]; exact h.pos, by rw [dwL_len]; exact h.len, h.sup, fun k hk => ?_⟩
  rw [dwL_len] at hk
  rw [dwL_nd hk]
  obtain ⟨h1, h2⟩ := h.all k hk
  refine ⟨?_, ?_⟩
  · unfold joinB at h1 ⊢
    rw [decide_eq_true_iff] at h1 ⊢
    exact h1
  · unfold nodeB at h2 ⊢
    rw [decide_eq_true_iff] at h2 ⊢
    obtain ⟨a, b, c, d⟩ := h2
    refine ⟨a, b, ?_, d⟩
    show g k ≤ g k ∧ 0 ≤ g k ∧ g k ≤ 65536
    have := hg k hk
    omega
/-- what a segment carries -/
def caF (ns : List Nd) (g : Nat → Int) (k : Nat) : Int := sm g (fun i => decide (k ∈ pth (par ns) i)) ns.length
theorem sm_extz {f f' : Nat → Int} {p : Nat → Bool} : ∀ n, (∀ i, i < n → f i = f' i) → sm f p n = sm f' p n := by
  intro n
  induction n with
  | zero => intro _; rfl
  | succ n ih =>
    intro h
    show sm f p n + _ = sm f' p n + _
    rw [ih fun i hi => h i (by omega), h n (by omega)]
theorem dwL_cur {ns : List Nd} (g : Nat → Int) (k : Nat) : curL (dwL ns g) k = caF ns g k ∧ curH (dwL ns g) k = caF ns g k := by
  unfold curL curH caF
  rw [dwL_len, dwL_par]
  exact ⟨sm_extz _ fun i hi => by rw [dwL_nd hi]; rfl, sm_extz _ fun i hi => by rw [dwL_nd hi]; rfl⟩
/-- with the loads of the first k nodes -/
def dwF (ns : List Nd) (g : Nat → Int) (k j : Nat) : Nd := if j < k then dwN ns g j else nd ns j
theorem dw_set (ns : List Nd) (g : Nat → Int) (k x : Nat) : ndc (dwF ns g (k + 1)) x = if x = k * 8 + 5 then .int .i64 (g k) else if x = k * 8 + 4 then .int .i64 (g k) else ndc (dwF ns g k) x := by
  obtain ⟨j, hj⟩ := eight x
  by_cases hk : j = k
  · subst hk
    have e1 : dwF ns g (j + 1) j = dwN ns g j := if_pos (by omega)
    have e2 : dwF ns g j j = nd ns j := if_neg (by omega)
    rcases hj with rfl | rfl | rfl | rfl | rfl | rfl | rfl | rfl
    · rw [if_neg (by omega), if_neg (by omega), ndc_0, ndc_0, e1, e2]; rfl
    · rw [if_neg (by omega), if_neg (by omega), ndc_1, ndc_1, e1, e2]; rfl
    · rw [if_neg (by omega), if_neg (by omega), ndc_2, ndc_2, e1, e2]; rfl
    · rw [if_neg (by omega), if_neg (by omega), ndc_3, ndc_3, e1, e2]; rfl
    · rw [if_neg (by omega), if_pos rfl, ndc_4, e1]; rfl
    · rw [if_pos rfl, ndc_5, e1]; rfl
    · rw [if_neg (by omega), if_neg (by omega), ndc_6, ndc_6, e1, e2]; rfl
    · rw [if_neg (by omega), if_neg (by omega), ndc_7, ndc_7, e1, e2]; rfl
  · have e : dwF ns g (k + 1) j = dwF ns g k j := by
      unfold dwF
      by_cases h : j < k
      · rw [if_pos h, if_pos (by omega)]
      · rw [if_neg h, if_neg (by omega)]
    rcases hj with rfl | rfl | rfl | rfl | rfl | rfl | rfl | rfl
    · rw [if_neg (by omega), if_neg (by omega), ndc_0, ndc_0, e]
    · rw [if_neg (by omega), if_neg (by omega), ndc_1, ndc_1, e]
    · rw [if_neg (by omega), if_neg (by omega), ndc_2, ndc_2, e]
    · rw [if_neg (by omega), if_neg (by omega), ndc_3, ndc_3, e]
    · rw [if_neg (by omega), if_neg (by omega), ndc_4, ndc_4, e]
    · rw [if_neg (by omega), if_neg (by omega), ndc_5, ndc_5, e]
    · rw [if_neg (by omega), if_neg (by omega), ndc_6, ndc_6, e]
    · rw [if_neg (by omega), if_neg (by omega), ndc_7, ndc_7, e]
theorem some_nilN (nb off n cap : Nat) (w : World) : (Sem.run Tryz.prog (binOp BinOp.eql 24 (Value.slice (some { block := nb, off := off }) n cap) (Value.slice none 0 0)) w) = .ok (.bool false) w := by
  kernel_rfl
set_option maxRecDepth 100000 in
set_option maxHeartbeats 8000000 in
/-- the nodes in a row of the call's own -/
theorem clone_any (nb off cap : Nat) (ns : List Nd) (hn0 : 0 < ns.length) (hn : ns.length ≤ 60) (w : World) (hN : Nds w.heap.size w (.slice (some ⟨nb, off, none⟩) ns.length cap) ns) :
    Calls Tryz.prog 56 #[.slice (some ⟨nb, off, none⟩) ns.length cap] w fun e w' => ∃ G cp, e = .returned (.slice (some ⟨G, 0, none⟩) ns.length cp) ∧ w.heap.size ≤ G ∧ ns.length ≤ cp ∧ NdR w' G ns.length cp (nd ns) ∧ Below w.heap.size w w' := by
  obtain ⟨i0, hi0, hz0, hz1, hz2⟩ := info_parts infoI62
  have HCELL := Lib.hid (show ∀ W, Below w.heap.size w W → ∀ j u, ((List.range (ns.length * 8)).map (ndc (nd ns)))[j]? = some u → W.cell? ((⟨nb, off, none⟩ : Addr).add j) = some u from fun W h j u hu => by
    have hj : j < ns.length * 8 := by
      by_cases hj : j < ns.length * 8
      · exact hj
      · rw [List.getElem?_eq_none (by simpa using hj)] at hu; cases hu
    rw [add_at, nds_cells (hN.at h) hj]
    simpa [hj] using hu)
  have HONE := Lib.hid (show ∀ u, u ∈ (List.range (ns.length * 8)).map (ndc (nd ns)) → u.oneCell' = true from fun u hu => by
    obtain ⟨j, _, rfl⟩ := List.mem_map.1 hu
    unfold ndc
    (repeat' split) <;> rfl)
  have HLEN := Lib.hid (show ((List.range (ns.length * 8)).map (ndc (nd ns))).length = ns.length * 8 by simp)
  have HROW := Lib.hid (fun (W : World) base v (h : W.ownsRow base 45 8 v ns.length ((List.range (ns.length * 8)).map (ndc (nd ns)))) => ndr_of_own hn0 h)
  have hnil := some_nilN nb off ns.length cap w
  clear hN
  generalize (List.range (ns.length * 8)).map (ndc (nd ns)) = NW at *
  generalize nd ns = nf at *
  generalize ns.length = n at *
  have hm8 : n * 64 ≤ 3840 := by omega
  go_enter Tryz.func56, Tryz.ntmps56
  go_wp2_with (at_builtin; refine wpList_append_own _ rfl _ _ 24 rfl w.heap.size 45 i0 (.agg #[.int .i64 0, .int .i64 0, .int .i64 0, .int .i64 0, .int .i64 0, .int .i64 0, .int .i64 0, .int .i64 0]) 8 64 Tryz.underlying24 hi0 hz0 hz1 hz2 rfl (by decide) _ _ _ rfl (World.ownsRow_made w #[] 0 (Nat.le_refl _) (by unfold maxLen; omega) rfl) ⟨nb, off, none⟩ n cap NW rfl HLEN.out (HCELL.out _ ((Below.refl _ _).alloc (Nat.le_refl _) _)) HONE.out (by unfold maxLen; omega) (by omega) (by simp) ?_; intro v' w6 hown' hgrow _; rw [Nat.zero_add, List.nil_append] at hown'; obtain ⟨G, cp, rfl, hG, hcp, hNd⟩ := HROW.out _ _ _ hown'; have HB6 := Lib.hid (show Below w.heap.size w w6 from ((Below.refl w.heap.size w).alloc (Nat.le_refl _) _).grown hgrow (by simp) (fun r e => ((World.ownsRow_made w #[] 0 (Nat.le_refl _) (by unfold maxLen; omega) rfl : (w.alloc (.cells #[] 45)).ownsRow w.heap.size 45 8 _ 0 []).lt r e).1)); have HNd := Lib.hid hNd; have HGG := Lib.hid hG; have HCP := Lib.hid hcp; clear hown' hgrow hNd hG hcp)
  go_ret
  exact ⟨G, cp, rfl, HGG.out, HCP.out, HNd.out, HB6.out⟩
end Go.Proofs.YtdohfpnnmppdkaaGreat

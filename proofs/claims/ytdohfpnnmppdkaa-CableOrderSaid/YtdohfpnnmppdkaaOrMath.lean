/-
  Cables: several faults in any order (mathematics).
-/
import Derived.Test.YtdohfpnnmppdkaaBrMath
import Derived.Test.YtdohfpnnmppdkaaLawBreakers
namespace Go.Proofs.Ytdohfpnnmppdkaa
open Go.RowKit Go.Shelf
set_option linter.unusedSimpArgs false
/-- faults by small numbers -/
def ordL (n : Nat) (fs : List Int) (i : Nat) : List Nat := (fs.take i).map (fun z => 1 + z.toNat % (n - 1))
theorem ord_succ {n : Nat} {fs : List Int} {i : Nat} (hi : i < fs.length) : ordL n fs (i + 1) = ordL n fs i ++ [1 + (ti fs i).toNat % (n - 1)] := by
  unfold ordL
  rw [ti_take hi, List.map_append]; rfl
theorem ord_len {n : Nat} {fs : List Int} {i : Nat} (hi : i ≤ fs.length) : (ordL n fs i).length = i := by
  unfold ordL
  rw [List.length_map, List.length_take]; omega
theorem ord_mem {n : Nat} (hn : 2 ≤ n) {fs : List Int} {i x : Nat} (h : x ∈ ordL n fs i) : 0 < x ∧ x < n := by
  obtain ⟨z, _, rfl⟩ := List.mem_map.1 h
  have := Nat.mod_lt z.toNat (show 0 < n - 1 by omega)
  omega
theorem ti_zs {l : List Nat} {i : Nat} (hi : i < l.length) : ti (zs l) i = (tn l i : Int) := by unfold ti zs tn; simp [hi]
theorem okF_zs {ns : List Nd} {l : List Nat} (h : ∀ x, x ∈ l → 0 < x ∧ x < ns.length) : OkF ns (zs l) := by
  intro k hk
  have hk' : k < l.length := by rwa [zs_len] at hk
  rw [ti_zs hk']
  have := h _ (tn_mem hk')
  omega
theorem los_zs {sl sh : Int} {ns : List Nd} {l : List Nat} {ks : List Int} (hs : stuE sl sh ns ks = 0) (hl : l.length ≤ 60) (h : ∀ x, x ∈ l → 0 < x ∧ x < ns.length) : losE sl sh ns (zs l) ks = 0 :=
  los_ok hs (by rw [zs_len]; omega) (okF_zs h)
theorem lost_back {ns : List Nd} (hv : AllN ns) (hc : Coo ns 1) {l : List Nat} {ks : List Int} (h : ∀ x, x ∈ l → 0 < x ∧ x < ns.length) : lostL ns ks (zs l) = lostL ns ks (zs l.reverse) :=
  lost_rev hv (by decide) hc (okF_zs h) (fun z => by rw [mem_zs, mem_zs, List.mem_reverse])
theorem lost_lt {ns : List Nd} (hv : AllN ns) {l : List Nat} {ks : List Int} (h : ∀ x, x ∈ l → 0 < x ∧ x < ns.length) {y : Nat} (hy : y ∈ lostL ns ks (zs l)) : y < ns.length :=
  gone_lt hv (okF_zs h) _ (Nat.le_refl _) (mem_pick.1 hy).2
/-- with each node its subtree is lost -/
theorem lost_sub {ns : List Nd} (hv : AllN ns) (hl : ns.length ≤ 60) {l : List Nat} {ks : List Int} (h : ∀ x, x ∈ l → 0 < x ∧ x < ns.length) {x y : Nat} (hy : y ∈ lostL ns ks (zs l)) (hx : x ∈ sub (par ns) ns.length y) : x ∈ lostL ns ks (zs l) := by
  obtain ⟨h1, h2⟩ := mem_pick.1 hx
  exact mem_pick.2 ⟨by omega, gone_down hv (okF_zs h) h1 (of_decide_eq_true h2) _ (Nat.le_refl _) (mem_pick.1 hy).2⟩
/-- one fault more never makes fewer nodes lost -/
theorem lost_more {ns : List Nd} (hv : AllN ns) {l : List Nat} {x y : Nat} {ks : List Int} (_ : ∀ x, x ∈ l → 0 < x ∧ x < ns.length) (hy : y ∈ lostL ns ks (zs l)) : y ∈ lostL ns ks (zs (l ++ [x])) := by
  have _ := hv
  obtain ⟨h1, h2⟩ := mem_pick.1 hy
  refine mem_pick.2 ⟨h1, ?_⟩
  have e : ∀ k, k ≤ l.length → goneF ns ks (zs (l ++ [x])) k = goneF ns ks (zs l) k := by
    intro k
    induction k with
    | zero => intro _; rfl
    | succ k ih =>
      intro hk
      show goneS ns ks (goneF ns ks (zs (l ++ [x])) k) (ti (zs (l ++ [x])) k).toNat = goneS ns ks (goneF ns ks (zs l) k) (ti (zs l) k).toNat
      rw [ih (by omega), ti_zs (by simp; omega), ti_zs (by omega)]
      congr 2
      unfold tn
      rw [List.getElem?_append_left (by omega)]
  refine gone_mono ns ks _ y _ l.length (by rw [zs_len]; simp) ?_
  rw [e _ (Nat.le_refl _)]
  rw [zs_len] at h2
  exact h2
/-- a fault is lost itself -/
theorem lost_self {ns : List Nd} (hv : AllN ns) (hl : ns.length ≤ 60) {l : List Nat} {x : Nat} {ks : List Int} (h : ∀ y, y ∈ l ++ [x] → 0 < y ∧ y < ns.length) : x ∈ lostL ns ks (zs (l ++ [x])) := by
  have hx := h x (by simp)
  have q := gone_self hv (zs := ks) (okF_zs h) (k := l.length) (by rw [zs_len]; simp)
  have e : ti (zs (l ++ [x])) l.length = (x : Int) := by
    rw [ti_zs (by simp)]
    unfold tn
    simp
  rw [e, Int.toNat_natCast] at q
  have e2 : (zs (l ++ [x])).length = l.length + 1 := by rw [zs_len]; simp
  exact mem_pick.2 ⟨by omega, by rw [e2]; exact q⟩
theorem lost_nil (ns : List Nd) (ks : List Int) : lostL ns ks (zs []) = [] := by
  unfold lostL pick
  rw [List.filter_eq_nil_iff]
  intro y _
  simp [zs, goneF]
theorem dist_sym {a b : Option Nat} (h : a = none ∨ a ≠ b) : b = none ∨ b ≠ a := by
  cases b with
  | none => exact .inl rfl
  | some k => exact .inr fun e => by subst e; rcases h with h | h; cases h; exact h rfl
theorem dist_new {a a' b : Option Nat} {H : Nat} (h : a = none ∨ a ≠ b) (hob : a' = a ∨ a' = some H) (hlt : ∀ k, b = some k → k < H) : a' = none ∨ a' ≠ b := by
  rcases hob with rfl | rfl
  · exact h
  · exact .inr fun e => by have := hlt H e.symm; omega
theorem dist_far {a b : Option Nat} {H : Nat} (ha : ∀ k, a = some k → k < H) (hb : ∃ g, b = some g ∧ H ≤ g) : a = none ∨ a ≠ b := by
  obtain ⟨g, rfl, hg⟩ := hb
  cases a with
  | none => exact .inl rfl
  | some k => exact .inr fun e => by have := ha k rfl; simp at e; omega
/-- a shorter slice of a row -/
theorem il_short {W : World} {base : Nat} {g m cap : Nat} {l r : List Nat} (h : W.ownsRow base 3 1 (.slice (some ⟨g, 0, none⟩) m cap) m (flatN (l ++ r))) (hm : (l ++ r).length = m) : Il W.heap.size W (.slice (some ⟨g, 0, none⟩) l.length cap) (zs l) := by
  have hlm : l.length ≤ m := by rw [← hm]; simp
  have h' := h.2
  have hcap : m ≤ cap := by
    rcases h' with ⟨hv, _⟩ | ⟨g', cap', cur, hv, _, _, hc, _⟩
    · cases hv
    · simp only [Value.slice.injEq] at hv
      omega
  refine ⟨some ⟨g, 0, none⟩, cap, by rw [zs_len], by rw [zs_len]; omega, fun k hk => ?_⟩
  have hk' : k < l.length := by rwa [zs_len] at hk
  obtain ⟨g', c', e, -, -, hlt, c0⟩ := own3_cell h (i := k) (by omega)
  simp only [Value.slice.injEq, Option.some.injEq, Addr.mk.injEq] at e
  obtain ⟨⟨rfl, -, -⟩, -, -⟩ := e
  refine ⟨g, 0, rfl, hlt, ?_⟩
  rw [Nat.zero_add, c0, ti_zs hk']
  congr 3
  unfold tn
  rw [List.getElem?_append_left hk']
end Go.Proofs.Ytdohfpnnmppdkaa

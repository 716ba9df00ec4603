/-
  Cables: stuck breakers, and the first one that opens (mathematics).
-/
import Derived.Test.YtdohfpnnmppdkaaBkE
import Derived.Test.YtdohfpnnmppdkaaBkMath
namespace Go.Proofs.Ytdohfpnnmppdkaa
open Go.RowKit Go.Shelf
set_option linter.unusedSimpArgs false
/-- the breakers that are stuck, by small numbers -/
def hldL (ns : List Nd) (n : Nat) (zs : List Int) (i : Nat) : List Nat := ((zs.take i).map (fun z => z.toNat % n)).filter (brk ns)
theorem hld_zero (ns : List Nd) (n : Nat) (zs : List Int) : hldL ns n zs 0 = [] := rfl
theorem ti_take {zs : List Int} {k : Nat} (hk : k < zs.length) : zs.take (k + 1) = zs.take k ++ [ti zs k] := by
  rw [List.take_succ_eq_append_getElem hk]; simp [ti, hk]
theorem hld_yes {ns : List Nd} {n : Nat} {zs : List Int} {i : Nat} (hi : i < zs.length) (h : brk ns ((ti zs i).toNat % n) = true) : hldL ns n zs (i + 1) = hldL ns n zs i ++ [(ti zs i).toNat % n] := by
  unfold hldL
  rw [ti_take hi, List.map_append, List.filter_append]
  simp [h]
theorem hld_no {ns : List Nd} {n : Nat} {zs : List Int} {i : Nat} (hi : i < zs.length) (h : brk ns ((ti zs i).toNat % n) = false) : hldL ns n zs (i + 1) = hldL ns n zs i := by
  unfold hldL
  rw [ti_take hi, List.map_append, List.filter_append]
  simp [h]
theorem hld_len (ns : List Nd) (n : Nat) (zs : List Int) (i : Nat) : (hldL ns n zs i).length ≤ i := by
  unfold hldL
  refine Nat.le_trans (List.length_filter_le _ _) ?_
  rw [List.length_map]
  exact List.length_take_le _ _
theorem hld_mem {ns : List Nd} {n : Nat} (hn : 0 < n) {zs : List Int} {i x : Nat} (h : x ∈ hldL ns n zs i) : x < n ∧ brk ns x = true := by
  obtain ⟨h1, h2⟩ := List.mem_filter.1 h
  obtain ⟨z, _, rfl⟩ := List.mem_map.1 h1
  exact ⟨Nat.mod_lt _ hn, h2⟩
theorem hld_stu {sl sh : Int} {ns : List Nd} (hv : ValidC sl sh ns) {l : List Nat} (hl : l.length ≤ 16) (hm : ∀ x, x ∈ l → x < ns.length ∧ brk ns x = true) : stuE sl sh ns (zs l) = 0 := by
  rw [stuE_def, if_pos hv.err]
  have hz : (zs l).length = l.length := by unfold zs; simp
  rw [if_neg (by rw [hz]; omega), if_pos]
  intro k hk
  obtain ⟨h0, h1⟩ := mem_zs.1 (ti_mem hk)
  obtain ⟨h2, h3⟩ := hm _ h1
  unfold okS
  rw [h3, decide_eq_true (by omega)]
  rfl
/-- the first breaker that is not stuck, of the first nodes of a path -/
def wanF (ns : List Nd) (zs : List Int) (L : List Nat) (i : Nat) : Nat := fstN ns zs (L.take i)
theorem wan_zero (ns : List Nd) (zs : List Int) (L : List Nat) : wanF ns zs L 0 = 0 := rfl
theorem wan_step {ns : List Nd} {zs : List Int} {L : List Nat} {i : Nat} (hi : i < L.length) (hpos : ∀ x, x ∈ L → freeB ns zs x = true → x ≠ 0) (h0 : wanF ns zs L i = 0) : wanF ns zs L (i + 1) = if freeB ns zs (tn L i) = true then tn L i else 0 := by
  unfold wanF fstN at h0 ⊢
  rw [tn_take hi, List.filter_append]
  cases hl : (L.take i).filter (freeB ns zs) with
  | nil =>
    rw [List.nil_append]
    cases hf : freeB ns zs (tn L i) <;> simp [hf]
  | cons b r =>
    rw [hl] at h0
    have hb : b ∈ (L.take i).filter (freeB ns zs) := by rw [hl]; simp
    obtain ⟨h1, h2⟩ := List.mem_filter.1 hb
    exact absurd h0 (hpos b (List.mem_of_mem_take h1) h2)
theorem wan_all (ns : List Nd) (zs : List Int) (L : List Nat) : wanF ns zs L L.length = fstN ns zs L := by unfold wanF; rw [List.take_length]
theorem wan_stop {ns : List Nd} {zs : List Int} {L : List Nat} {i : Nat} (h : wanF ns zs L i ≠ 0) : wanF ns zs L i = fstN ns zs L := by
  unfold wanF fstN at h ⊢
  cases hl : (L.take i).filter (freeB ns zs) with
  | nil => rw [hl] at h; exact absurd rfl h
  | cons b r =>
    have e : L = L.take i ++ L.drop i := (List.take_append_drop i L).symm
    have e2 : L.filter (freeB ns zs) = (L.take i).filter (freeB ns zs) ++ (L.drop i).filter (freeB ns zs) := by rw [← List.filter_append, ← e]
    rw [e2, hl]
    rfl
theorem free_pos {ns : List Nd} (hv : AllN ns) (hn : 0 < ns.length) {zs : List Int} {x : Nat} (h : freeB ns zs x = true) : x ≠ 0 := by
  intro e
  subst e
  rw [freeB, brk_zero hv hn] at h
  simp at h
end Go.Proofs.Ytdohfpnnmppdkaa

/-
  Cables: probes.
-/
import Derived.Test.YtdohfpnnmppdkaaLdB
import Derived.Test.YtdohfpnnmppdkaaLcI
import Derived.Test.YtdohfpnnmppdkaaEvFn
import Derived.Test.YtdohfpnnmppdkaaCbF
import Derived.Test.YtdohfpnnmppdkaaCcC
namespace Go.Proofs.Ytdohfpnnmppdkaa
open Go.RowKit Go.Shelf
set_option linter.unusedSimpArgs false
open Go.RowKit Go.Shelf
set_option linter.unusedSimpArgs false
attribute [local go_sem] Oper.semAt_some
structure Pb where
  kd : Int
  p : Int
  e0 : Int
  e1 : Int
  e2 : Int
  e3 : Int
  deriving Inhabited
def pb (l : List Pb) (k : Nat) : Pb := l[k]?.getD default
def OkPb (x : Pb) : Prop := (0 ≤ x.kd ∧ x.kd ≤ 255) ∧ (0 ≤ x.p ∧ x.p ≤ 65535) ∧ (0 ≤ x.e0 ∧ x.e0 ≤ 65535) ∧ (0 ≤ x.e1 ∧ x.e1 ≤ 65535) ∧ (0 ≤ x.e2 ∧ x.e2 ≤ 65535) ∧ (0 ≤ x.e3 ∧ x.e3 ≤ 65535)
/-- probes in memory -/
def PbA (n₀ : Nat) (W : World) (v : Value) (l : List Pb) : Prop :=
  ∃ a cap, v = .slice a l.length cap ∧ l.length ≤ cap ∧ ∀ k, k < l.length → ∃ b off, a = some ⟨b, off, none⟩ ∧ b < n₀ ∧ OkPb (pb l k) ∧ W.cell? ⟨b, off + k * 6, none⟩ = some (.int .u8 (pb l k).kd) ∧ W.cell? ⟨b, off + k * 6 + 1, none⟩ = some (.int .u16 (pb l k).p) ∧ W.cell? ⟨b, off + k * 6 + 2, none⟩ = some (.int .u16 (pb l k).e0) ∧ W.cell? ⟨b, off + k * 6 + 3, none⟩ = some (.int .u16 (pb l k).e1) ∧ W.cell? ⟨b, off + k * 6 + 4, none⟩ = some (.int .u16 (pb l k).e2) ∧ W.cell? ⟨b, off + k * 6 + 5, none⟩ = some (.int .u16 (pb l k).e3)
def pbM (m : Int) (x : Pb) : Ms := prMs x.kd x.p x.e0 x.e1 x.e2 x.e3 m
theorem pbM_ms (m : Int) (l : List Pb) {k : Nat} (hk : k < l.length) : ms (l.map (pbM m)) k = pbM m (pb l k) := by simp [ms, pb, hk]
theorem pbM_in {m : Int} {x : Pb} (h : OkPb x) (hm : 0 ≤ m) (he : (dsM (pbM m x)).e = 0) : (dsM (pbM m x)).lo ≤ m ∧ m ≤ (dsM (pbM m x)).hi :=
  pr_in h.2.1.1 h.2.2.1.1 h.2.2.2.1.1 h.2.2.2.2.1.1 h.2.2.2.2.2.1 hm he
theorem pb_all {n₀ : Nat} {W : World} {v : Value} {l : List Pb} (h : PbA n₀ W v l) : ∀ x, x ∈ l → OkPb x := by
  obtain ⟨a, c, -, -, hz⟩ := h
  intro x hx
  obtain ⟨k, hk, e⟩ := List.mem_iff_getElem.1 hx
  obtain ⟨_, _, _, _, q, _⟩ := hz k hk
  have e2 : pb l k = x := by unfold pb; rw [List.getElem?_eq_getElem hk]; exact e
  rw [e2] at q
  exact q
theorem loc_vB {l : List Ms} {m : Int} (h0 : 0 < l.length) (he : errL l = 0) (hm : ∀ x, x ∈ l → (dsM x).lo ≤ m ∧ m ≤ (dsM x).hi) : vB (comL l).1 (comL l).2 = true := by
  have hx : ms l 0 ∈ l := by unfold ms; simp [h0]
  have v := (vB_iff _ _).1 (dsM_valid (errL_zero.1 he _ hx))
  have a := ((comL_iff h0 (comL l).1).1).1 (Int.le_refl _) _ hx
  have b := ((comL_iff h0 (comL l).2).2).1 (Int.le_refl _) _ hx
  have c := ((comL_iff h0 m).1).2 (fun x hx => (hm x hx).1)
  have d := ((comL_iff h0 m).2).2 (fun x hx => (hm x hx).2)
  rw [vB_iff]
  omega
/-- a path ends at the shore -/
theorem pth_end {P : Nat → Nat} (hP : Tree P) (k : Nat) {m : Nat} (hm : (pth P k).length = m + 1) : tn (pth P k) m = 0 := by
  have q := pth_nxt hP k m (by omega)
  have e : nxt (pth P k) (m + 1) = -1 := if_neg (by omega)
  rw [e] at q
  by_cases h : tn (pth P k) m = 0
  · exact h
  · rw [if_neg h] at q; omega
def lnF (ls : List Int) (n j : Nat) : Int := if 1 ≤ j ∧ j < n then 10 * atV ls j else 0
theorem lnF_lenB {ls : List Int} (h : Byt ls) {n : Nat} : lenB (fL (lnF ls n) n) = true := by
  refine decide_eq_true ⟨?_, fun k hk => ?_⟩
  · by_cases h0 : 0 < n
    · rw [fL_ti _ h0]; exact if_neg (by omega)
    · have e : n = 0 := by omega
      subst e; rfl
  · rw [fL_len] at hk
    rw [fL_ti _ hk]
    unfold lnF
    have q := atV_in h k
    split <;> omega
theorem lnF_succ (ls : List Int) {i j : Nat} (hi : 1 ≤ i) : lnF ls (i + 1) j = if j = i then 10 * atV ls i else lnF ls i j := by
  unfold lnF
  by_cases e : j = i
  · subst e; rw [if_pos ⟨hi, by omega⟩, if_pos rfl]
  · rw [if_neg e]
    by_cases h : 1 ≤ j ∧ j < i
    · rw [if_pos h, if_pos (by omega)]
    · rw [if_neg h, if_neg (by omega)]
theorem lnF_one (ls : List Int) (j : Nat) : lnF ls 1 j = 0 := if_neg (by omega)
theorem lnF_bd {ls : List Int} (h : Byt ls) (n j : Nat) : 0 ≤ lnF ls n j ∧ lnF ls n j ≤ 2550 := by
  unfold lnF
  have q := atV_in h j
  split <;> omega
theorem il_row {W : World} {g n : Nat} {f : Nat → Int} (h : RowC W g 2 n (fun j => .int .i64 (f j))) : Il W.heap.size W (.slice (some ⟨g, 0, none⟩) n n) (fL f n) := by
  refine ⟨some ⟨g, 0, none⟩, n, by rw [fL_len], by rw [fL_len]; exact Nat.le_refl _, fun k hk => ⟨g, 0, rfl, h.lt, ?_⟩⟩
  rw [fL_len] at hk
  rw [Nat.zero_add, fL_ti _ hk]
  exact h.cell hk
end Go.Proofs.Ytdohfpnnmppdkaa

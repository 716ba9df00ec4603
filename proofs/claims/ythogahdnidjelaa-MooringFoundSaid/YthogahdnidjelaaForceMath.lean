/-
  Forces, pulls, tensions, offsets and rises of moorings: the mathematics.
-/
import Derived.Test.YthogahdnidjelaaLifts
import Derived.Test.YthogahdnidjelaaSliceMin
namespace Go.Proofs.Ythogahdnidjelaa
open Go.RowKit Go.Shelf
set_option linter.unusedSimpArgs false
/-- a span: any two numbers -/
structure Pr where
  lo : Int
  hi : Int
instance : Inhabited Pr := ⟨⟨0, 0⟩⟩
def prv (a : Pr) : Value := .agg #[.int .i64 a.lo, .int .i64 a.hi]
def pr (cs : List Pr) (k : Nat) : Pr := cs[k]?.getD default
/-- the slice value holds these spans, in a block below n₀; or it is nil -/
def Prs (n₀ : Nat) (W : World) (sv : Value) (cs : List Pr) : Prop :=
  ∃ a cap, sv = .slice a cs.length cap ∧ cs.length ≤ cap ∧ ∀ k, k < cs.length → ∃ b off, a = some ⟨b, off, none⟩ ∧ b < n₀ ∧
    W.cell? ⟨b, off + k * 2, none⟩ = some (.int .i64 (pr cs k).lo) ∧ W.cell? ⟨b, off + k * 2 + 1, none⟩ = some (.int .i64 (pr cs k).hi)
theorem Prs.at {W W' : World} {sv : Value} {cs : List Pr} (h : Prs W.heap.size W sv cs) (hb : Below W.heap.size W W') : Prs W'.heap.size W' sv cs := by
  obtain ⟨a, cap, e, hl, hc⟩ := h
  refine ⟨a, cap, e, hl, fun k hk => ?_⟩
  obtain ⟨b, off, h1, h2, h3, h4⟩ := hc k hk
  exact ⟨b, off, h1, Nat.lt_of_lt_of_le h2 hb.size, (hb.cell (p := ⟨b, off + k * 2, none⟩) h2).trans h3, (hb.cell (p := ⟨b, off + k * 2 + 1, none⟩) h2).trans h4⟩
def standB (zs : List El) : Bool := decide (1 ≤ leastTo (lifL zs zs.length) ((lifL zs zs.length).length - 1))
/-- a current -/
def okC (a : Pr) : Bool := vB a.lo a.hi && (decide (0 ≤ a.lo) && decide (a.hi ≤ 3000))
theorem okC_iff (a : Pr) : okC a = true ↔ 0 ≤ a.lo ∧ a.lo ≤ a.hi ∧ a.hi ≤ 3000 := by
  simp only [okC, vB, Bool.and_eq_true, decide_eq_true_eq]
  omega
def curE (d : Int) (zs : List El) (an fr : Int) (cs : List Pr) : Int :=
  if mooE d zs an fr = 0 then (if cs.length = zs.length then (if cs.all okC = true then 0 else 2) else 17) else mooE d zs an fr
def staE (d : Int) (zs : List El) (an fr : Int) (cs : List Pr) : Int :=
  if curE d zs an fr cs = 0 then (if standB zs = true then 0 else 10) else curE d zs an fr cs
theorem call_bad {cs : List Pr} {k : Nat} (hk : k < cs.length) (h : okC (pr cs k) = false) : ¬ cs.all okC = true := by
  intro h2
  have := List.all_eq_true.1 h2 cs[k] (List.getElem_mem hk)
  unfold pr at h
  rw [List.getElem?_eq_getElem hk, Option.getD_some, this] at h
  exact absurd h (by decide)
theorem call_ok {cs : List Pr} (h : ∀ k, k < cs.length → okC (pr cs k) = true) : cs.all okC = true := by
  refine List.all_eq_true.2 fun z hz => ?_
  obtain ⟨k, hk, rfl⟩ := List.getElem_of_mem hz
  have := h k hk
  unfold pr at this
  rwa [List.getElem?_eq_getElem hk, Option.getD_some] at this
theorem vE_iff (x : El) : vE x = true ↔ (0 ≤ x.len ∧ x.len ≤ 1048576) ∧ (-1048576 ≤ x.lift ∧ x.lift ≤ 1048576) ∧ (0 ≤ x.drag ∧ x.drag ≤ 65536) ∧ (1 ≤ x.str ∧ x.str ≤ 16777216) := by
  simp only [vE, Bool.and_eq_true, btw_iff]
/-- what a mooring that is valid has -/
structure Rig (zs : List El) (cs : List Pr) : Prop where
  pos : 0 < zs.length
  most : zs.length ≤ 40
  same : cs.length = zs.length
  els : ∀ k, k < zs.length → vE (el zs k) = true
  cur : ∀ k, k < zs.length → okC (pr cs k) = true
theorem mooE_ok {d : Int} {zs : List El} {an fr : Int} (h : mooE d zs an fr = 0) : 0 < zs.length ∧ zs.length ≤ 40 ∧ (∀ k, k < zs.length → vE (el zs k) = true) ∧ mooOk d an fr = true := by
  unfold mooE at h
  split at h
  · exact absurd h (by decide)
  · split at h
    · exact absurd h (by decide)
    · split at h
      · split at h
        · rename_i h1 h2 h3 h4
          refine ⟨by omega, by omega, fun k hk => ?_, h3⟩
          unfold el
          rw [List.getElem?_eq_getElem hk, Option.getD_some]
          exact List.all_eq_true.1 h4 _ (List.getElem_mem hk)
        · exact absurd h (by decide)
      · exact absurd h (by decide)
theorem curE_ok {d : Int} {zs : List El} {an fr : Int} {cs : List Pr} (h : curE d zs an fr cs = 0) : Rig zs cs ∧ mooE d zs an fr = 0 := by
  unfold curE at h
  split at h
  · rename_i h0
    split at h
    · rename_i h1
      split at h
      · rename_i h2
        obtain ⟨a, b, c, _⟩ := mooE_ok h0
        refine ⟨⟨a, b, h1, c, fun k hk => ?_⟩, h0⟩
        unfold pr
        rw [List.getElem?_eq_getElem (by omega), Option.getD_some]
        exact List.all_eq_true.1 h2 _ (List.getElem_mem _)
      · exact absurd h (by decide)
    · exact absurd h (by decide)
  · rename_i h0; exact absurd h h0
theorem staE_ok {d : Int} {zs : List El} {an fr : Int} {cs : List Pr} (h : staE d zs an fr cs = 0) : Rig zs cs ∧ standB zs = true ∧ mooE d zs an fr = 0 ∧ curE d zs an fr cs = 0 := by
  unfold staE at h
  split at h
  · rename_i h0
    split at h
    · rename_i h1
      exact ⟨(curE_ok h0).1, h1, (curE_ok h0).2, h0⟩
    · exact absurd h (by decide)
  · rename_i h0; exact absurd h h0
/-- the force on an element: its ends -/
def fLo (x : El) (a : Pr) : Int := x.drag * a.lo * a.lo / 1000000
def fHi (x : El) (a : Pr) : Int := (x.drag * a.hi * a.hi + 1000000 - 1) / 1000000
theorem drag_bd {g s : Int} (h0 : 0 ≤ g) (h1 : g ≤ 65536) (s0 : 0 ≤ s) (s1 : s ≤ 3000) : 0 ≤ g * s ∧ g * s ≤ 196608000 ∧ 0 ≤ g * s * s ∧ g * s * s ≤ 589824000000 := by
  have e1 : 0 ≤ g * s := Int.mul_nonneg h0 s0
  have e2 : g * s ≤ 65536 * 3000 := Int.mul_le_mul h1 s1 s0 (by decide)
  have e3 : 0 ≤ g * s * s := Int.mul_nonneg e1 s0
  have e4 : g * s * s ≤ 65536 * 3000 * 3000 := Int.mul_le_mul e2 s1 s0 (by decide)
  omega
theorem drag_mono {g s t : Int} (h0 : 0 ≤ g) (s0 : 0 ≤ s) (h : s ≤ t) : g * s * s ≤ g * t * t :=
  Int.mul_le_mul (Int.mul_le_mul_of_nonneg_left h h0) h s0 (Int.mul_nonneg h0 (by omega))
theorem force_bd {x : El} {a : Pr} (hx : vE x = true) (ha : okC a = true) : 0 ≤ fLo x a ∧ fLo x a ≤ fHi x a ∧ fHi x a ≤ 589824 := by
  obtain ⟨-, -, ⟨g0, g1⟩, -⟩ := (vE_iff x).1 hx
  obtain ⟨a0, a1, a2⟩ := (okC_iff a).1 ha
  have b1 := drag_bd g0 g1 a0 (by omega)
  have b2 := drag_bd g0 g1 (s := a.hi) (by omega) a2
  have b3 := drag_mono g0 a0 a1
  unfold fLo fHi
  omega
/-- the sums of the forces on the first k elements; the greatest sum of both ends of one force -/
def sLo (zs : List El) (cs : List Pr) : Nat → Int
  | 0 => 0
  | k + 1 => sLo zs cs k + fLo (el zs k) (pr cs k)
def sHi (zs : List El) (cs : List Pr) : Nat → Int
  | 0 => 0
  | k + 1 => sHi zs cs k + fHi (el zs k) (pr cs k)
def wid (zs : List El) (cs : List Pr) : Nat → Int
  | 0 => 0
  | k + 1 => max (wid zs cs k) (fLo (el zs k) (pr cs k) + fHi (el zs k) (pr cs k))
theorem sums_bd {zs : List El} {cs : List Pr} (h : Rig zs cs) : ∀ k, k ≤ zs.length → 0 ≤ sLo zs cs k ∧ sLo zs cs k ≤ sHi zs cs k ∧ sHi zs cs k ≤ 589824 * (k : Int) ∧ 0 ≤ wid zs cs k ∧ wid zs cs k ≤ sLo zs cs k + sHi zs cs k
  | 0, _ => by simp [sLo, sHi, wid]
  | k + 1, hk => by
    have ih := sums_bd h k (by omega)
    have f := force_bd (h.els k (by omega)) (h.cur k (by omega))
    simp only [sLo, sHi, wid]
    omega
/-- the lower end of the pull below the first k elements (the upper one is sHi) -/
def hLo (free : Bool) (zs : List El) (cs : List Pr) (k : Nat) : Int := if free = true then max 0 (wid zs cs k - sHi zs cs k) else sLo zs cs k
theorem pull_bd {zs : List El} {cs : List Pr} (h : Rig zs cs) (free : Bool) {k : Nat} (hk : k ≤ zs.length) : 0 ≤ hLo free zs cs k ∧ hLo free zs cs k ≤ sLo zs cs k ∧ hLo free zs cs k ≤ sHi zs cs k ∧ sHi zs cs k ≤ 23592960 := by
  have b := sums_bd h k hk
  have m := h.most
  unfold hLo
  split <;> omega
theorem lif_bd {zs : List El} {cs : List Pr} (h : Rig zs cs) {k : Nat} (hk : k ≤ zs.length) : -41943040 ≤ lifTo zs k ∧ lifTo zs k ≤ 41943040 := by
  have := lifTo_bd zs (fun k hk => ((vE_iff _).1 (h.els k hk)).2.1) k hk
  have := h.most
  omega
theorem leastTo_le (l : List Int) : ∀ k j, j ≤ k → leastTo l k ≤ nth l j
  | 0, j, h => by obtain rfl : j = 0 := by omega
                  exact Int.le_refl _
  | k + 1, j, h => by
    simp only [leastTo]
    rcases Nat.lt_or_ge j (k + 1) with g | g
    · have := leastTo_le l k j (by omega); omega
    · obtain rfl : j = k + 1 := by omega
      omega
theorem leastTo_ge (l : List Int) (m : Int) : ∀ k, (∀ j, j ≤ k → m ≤ nth l j) → m ≤ leastTo l k
  | 0, h => h 0 (Nat.le_refl _)
  | k + 1, h => by
    simp only [leastTo]
    have := leastTo_ge l m k (fun j hj => h j (by omega))
    have := h (k + 1) (Nat.le_refl _)
    omega
theorem lifL_nth (zs : List El) : ∀ n k, k < n → nth (lifL zs n) k = lifTo zs (k + 1)
  | 0, k, h => by omega
  | n + 1, k, h => by
    unfold nth
    simp only [lifL]
    rcases Nat.lt_or_ge k n with g | g
    · rw [List.getElem?_append_left (by rw [lifL_len]; exact g)]
      exact lifL_nth zs n k g
    · obtain rfl : k = n := by omega
      rw [List.getElem?_append_right (by rw [lifL_len]; exact Nat.le_refl _), lifL_len]
      simp
/-- it stands just if each lift is at least 1 -/
theorem standB_iff {zs : List El} (h0 : 0 < zs.length) : standB zs = true ↔ ∀ k, k < zs.length → 1 ≤ lifTo zs (k + 1) := by
  unfold standB
  rw [decide_eq_true_eq, lifL_len]
  constructor
  · intro h k hk
    have := leastTo_le (lifL zs zs.length) (zs.length - 1) k (by omega)
    rw [lifL_nth _ _ _ hk] at this
    omega
  · intro h
    refine leastTo_ge _ _ _ fun j hj => ?_
    rw [lifL_nth _ _ _ (by omega)]
    exact h j (by omega)
end Go.Proofs.Ythogahdnidjelaa

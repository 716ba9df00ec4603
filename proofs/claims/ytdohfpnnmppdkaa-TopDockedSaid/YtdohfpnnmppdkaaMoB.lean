/-
  MoB: the watch circle's top (layer 2), ported from its own seat, in the cable seat (Answers, Lifts, ForceMath).
-/
import Derived.Test.YtdohfpnnmppdkaaMoA
import Derived.Deep.RegionHeld3
import Derived.WalkKit
import Derived.Laws.AppendOwn
import Derived.RangeFuncNested
import Derived.OwnWalk
namespace Go.Proofs.Ytdohfpnnmppdkaa.Moo
open Go.RowKit Go.Shelf
set_option linter.unusedSimpArgs false
def numv (xs : List Int) : List Value := xs.map (.int .i64 ·)
theorem numv_snoc (xs : List Int) (x : Int) : numv (xs ++ [x]) = numv xs ++ [.int .i64 x] := by simp [numv]
end Go.Proofs.Ytdohfpnnmppdkaa.Moo
namespace Go.Proofs.Ytdohfpnnmppdkaa.Moo
open Go.RowKit Go.Shelf
set_option linter.unusedSimpArgs false
theorem infoJ : (Try.prog.info? 2).map (fun i => (i.zero, i.size, i.bytes)) = some (some (.int .i64 0), 1, 8) := by kernel_rfl
theorem one_new2 (W : World) (x : Value) : ∀ (j : Nat) (u : Value), [x][j]? = some u → (W.alloc (.cells #[x] 2)).cell? ((⟨W.heap.size, 0, none⟩ : Addr).add j) = some u := by
  intro j u hj
  match j, hj with
  | 0, hj => simp at hj; subst hj; simp [Addr.add]
theorem nums_of_owns2 {W : World} {base : Nat} {v : Value} {xs : List Int} (h : W.ownsRow base 2 1 v xs.length (numv xs)) : Nums W.heap.size W v xs := by
  rcases h.2 with ⟨rfl, h0⟩ | ⟨g, cap, cur, rfl, hb, hg, r1, r2, r3, r4⟩
  · exact ⟨none, 0, by rw [h0], by omega, fun j hj => by omega⟩
  · refine ⟨_, cap, rfl, r1, fun j hj => ⟨g, 0, rfl, (Array.getElem?_eq_some_iff.1 hg).1, ?_⟩⟩
    have e : cur.toList[j]? = some (.int .i64 (xs[j]?.getD 0)) := by
      have h4 : (cur.toList.take (xs.length * 1))[j]? = (numv xs)[j]? := by rw [r4]
      rw [List.getElem?_take_of_lt (by omega)] at h4
      rw [h4]
      simp [numv, hj]
    rw [Nat.zero_add]
    simp only [World.cell?, hg]
    simpa using e
/-- the lift below the first k elements -/
def lifTo (zs : List El) : Nat → Int
  | 0 => 0
  | k + 1 => lifTo zs k + (el zs k).lift
/-- the lifts below the first k elements, each -/
def lifL (zs : List El) : Nat → List Int
  | 0 => []
  | k + 1 => lifL zs k ++ [lifTo zs (k + 1)]
theorem lifL_len (zs : List El) : ∀ k, (lifL zs k).length = k
  | 0 => rfl
  | k + 1 => by simp [lifL, lifL_len zs k]
theorem lifTo_bd (zs : List El) (h : ∀ k, k < zs.length → -1048576 ≤ (el zs k).lift ∧ (el zs k).lift ≤ 1048576) : ∀ k, k ≤ zs.length → -1048576 * (k : Int) ≤ lifTo zs k ∧ lifTo zs k ≤ 1048576 * (k : Int)
  | 0, _ => by simp [lifTo]
  | k + 1, hk => by
    have ih := lifTo_bd zs h k (by omega)
    have := h k (by omega)
    simp only [lifTo]
    omega
set_option maxRecDepth 10000 in
set_option maxHeartbeats 2000000 in
theorem lifts_any (d an fr : Int) (sv : Value) (zs : List El) (hl : zs.length ≤ 40) (hv : ∀ k, k < zs.length → -1048576 ≤ (el zs k).lift ∧ (el zs k).lift ≤ 1048576) (w : World) (hI : Els w.heap.size w sv zs) :
    Calls Try.prog 218 #[.agg #[.int .i64 d, sv, .int .i64 an, .int .i64 fr]] w fun e w' => ∃ v, e = .returned v ∧ Nums w'.heap.size w' v (lifL zs zs.length) ∧ Below w.heap.size w w' := by
  obtain ⟨a, cap, rfl, hcap, hcell⟩ := hI
  have HC := Lib.hid hcell
  have HV := Lib.hid hv
  have HD := Lib.hid (lifTo_bd zs hv)
  obtain ⟨i0, hi0, hz0, hz1, hz2⟩ := info_parts infoJ
  have hb8 : i0.bytes * zs.length ≤ 281474976710656 := by rw [hz2]; omega
  clear hcell hv
  generalize zs.length = len at *
  go_enter Try.func218, Try.ntmps218
  go_wp2_with (at_make; (refine wpList_make_own _ rfl _ _ 50 rfl w.heap.size 2 i0 (.int .i64 0) 1 Try.underlying50 hi0 hz0 hz1 _ _ _ len rfl rfl rfl hb8 (by unfold maxLen; omega) (by simp) ?_); intro w1 hown1 hgrow1; have hB1 : Below w.heap.size w w1 := ((Below.refl _ _).alloc (Nat.le_refl _) _).grown hgrow1 (by simp) (fun j hj => by cases hj); have hsl : w1.cell? ⟨w.heap.size, 1, none⟩ = some (.slice a len cap) := hgrow1.cell (by simp [go_sem]) (by simp))
  go_loopw [3, 4, 14] (fun v bl i wr => ∃ k : Nat, k ≤ len ∧ i = .int .i64 k ∧ bl = .int .i64 (lifTo zs k) ∧ wr.ownsRow w.heap.size 2 1 v k (numv (lifL zs k)) ∧ Below w.heap.size w wr) (fun _ _ i _ => len - (intOf i).toNat)
  case atStart => exact ⟨0, Nat.zero_le _, rfl, rfl, by rw [World.size_alloc] at hown1; exact hown1, hB1⟩
  case round =>
    obtain ⟨k, hk, rfl, rfl, hrow, hB⟩ := hrel
    have hsz := hB.size
    by_cases hlt : k < len
    · obtain ⟨b, off, rfl, hb, k0, k1, k2, k3⟩ := HC.out k hlt
      have hbd := HD.out k (by omega)
      have hv := HV.out k hlt
      have HT := Lib.hid (show lifTo zs (k + 1) = lifTo zs k + (el zs k).lift from rfl)
      have HL := Lib.hid (show lifL zs (k + 1) = lifL zs k ++ [lifTo zs (k + 1)] from rfl)
      generalize el zs k = x at *
      have m0 := (hB.cell (p := ⟨b, off + k * 4, none⟩) hb).trans k0
      have m1 := (hB.cell (p := ⟨b, off + k * 4 + 1, none⟩) hb).trans k1
      have m2 := (hB.cell (p := ⟨b, off + k * 4 + 2, none⟩) hb).trans k2
      have m3 := (hB.cell (p := ⟨b, off + k * 4 + 3, none⟩) hb).trans k3
      clear k0 k1 k2 k3
      generalize lifTo zs k = s at *
      generalize hnl : numv (lifL zs k) = nl at hrow
      have HNL := Lib.hid hnl
      clear hnl
      have hWs : IntKind.i64.wrap (s + x.lift) = s + x.lift := by rw [IntKind.wrap_i64]; omega
      go_wp2_with (at_builtin; refine wpList_append_own _ rfl _ _ 50 rfl w.heap.size 2 i0 (.int .i64 0) 1 8 Try.underlying50 hi0 hz0 hz1 hz2 rfl (by decide) _ _ _ rfl ((hrow.alloc _).alloc _) ⟨wr.heap.size + 1, 0, none⟩ 1 1 [.int .i64 (s + x.lift)] rfl rfl (by have := one_new2 (wr.alloc (.cells #[.int .i64 x.len, .int .i64 x.lift, .int .i64 x.drag, .int .i64 x.str] 170)) (.int .i64 (s + x.lift)); simpa using this) (by simp [Value.oneCell']) (by unfold maxLen; omega) (by omega) (by simp; omega) ?_; intro v' w5 hrow' hgrow _)
      have hB5 : Below w.heap.size w w5 := ((hB.alloc (by omega) _).alloc (by simp; omega) _).grown hgrow (by simp; omega) (fun j hj => (hrow.lt j hj).1)
      go_roundw
      case rel => exact ⟨k + 1, by omega, by go_num, by rw [HT.out], by rw [HL.out, HT.out, numv_snoc, HNL.out]; exact hrow', hB5⟩
      case measure => simp [intOf]; omega
    · obtain rfl : k = len := by omega
      have hn := nums_of_owns2 (xs := lifL zs k) (by rw [lifL_len]; exact hrow)
      go_wp2_with fail
      go_ret
      exact ⟨_, rfl, hn, hB⟩
end Go.Proofs.Ytdohfpnnmppdkaa.Moo
namespace Go.Proofs.Ytdohfpnnmppdkaa.Moo
open Go.RowKit Go.Shelf
set_option linter.unusedSimpArgs false
/-- a span: any two numbers -/
structure Pr where
  lo : Int
  hi : Int
instance : Inhabited Pr := ⟨⟨0, 0⟩⟩
def prv (a : Pr) : Value := .agg #[.int .i64 a.lo, .int .i64 a.hi]
def pr (cs : List Pr) (k : Nat) : Pr := cs[k]?.getD default
/-- the slice value holds these spans, in a block below n₀; or it is nil -/
def Prs (n₀ : Nat) (W : World) (sv : Value) (cs : List Pr) : Prop :=
  ∃ a cap, sv = .slice a cs.length cap ∧ cs.length ≤ cap ∧ ∀ k, k < cs.length → ∃ b off, a = some ⟨b, off, none⟩ ∧ b < n₀ ∧
    W.cell? ⟨b, off + k * 2, none⟩ = some (.int .i64 (pr cs k).lo) ∧ W.cell? ⟨b, off + k * 2 + 1, none⟩ = some (.int .i64 (pr cs k).hi)
theorem Prs.at {W W' : World} {sv : Value} {cs : List Pr} (h : Prs W.heap.size W sv cs) (hb : Below W.heap.size W W') : Prs W'.heap.size W' sv cs := by
  obtain ⟨a, cap, e, hl, hc⟩ := h
  refine ⟨a, cap, e, hl, fun k hk => ?_⟩
  obtain ⟨b, off, h1, h2, h3, h4⟩ := hc k hk
  exact ⟨b, off, h1, Nat.lt_of_lt_of_le h2 hb.size, (hb.cell (p := ⟨b, off + k * 2, none⟩) h2).trans h3, (hb.cell (p := ⟨b, off + k * 2 + 1, none⟩) h2).trans h4⟩
def standB (zs : List El) : Bool := decide (1 ≤ leastTo (lifL zs zs.length) ((lifL zs zs.length).length - 1))
/-- a current -/
def okC (a : Pr) : Bool := vB a.lo a.hi && (decide (0 ≤ a.lo) && decide (a.hi ≤ 3000))
theorem okC_iff (a : Pr) : okC a = true ↔ 0 ≤ a.lo ∧ a.lo ≤ a.hi ∧ a.hi ≤ 3000 := by
  simp only [okC, vB, Bool.and_eq_true, decide_eq_true_eq]
  omega
def curE (d : Int) (zs : List El) (an fr : Int) (cs : List Pr) : Int :=
  if mooE d zs an fr = 0 then (if cs.length = zs.length then (if cs.all okC = true then 0 else 2) else 17) else mooE d zs an fr
def staE (d : Int) (zs : List El) (an fr : Int) (cs : List Pr) : Int :=
  if curE d zs an fr cs = 0 then (if standB zs = true then 0 else 10) else curE d zs an fr cs
theorem call_bad {cs : List Pr} {k : Nat} (hk : k < cs.length) (h : okC (pr cs k) = false) : ¬ cs.all okC = true := by
  intro h2
  have := List.all_eq_true.1 h2 cs[k] (List.getElem_mem hk)
  unfold pr at h
  rw [List.getElem?_eq_getElem hk, Option.getD_some, this] at h
  exact absurd h (by decide)
theorem call_ok {cs : List Pr} (h : ∀ k, k < cs.length → okC (pr cs k) = true) : cs.all okC = true := by
  refine List.all_eq_true.2 fun z hz => ?_
  obtain ⟨k, hk, rfl⟩ := List.getElem_of_mem hz
  have := h k hk
  unfold pr at this
  rwa [List.getElem?_eq_getElem hk, Option.getD_some] at this
theorem vE_iff (x : El) : vE x = true ↔ (0 ≤ x.len ∧ x.len ≤ 1048576) ∧ (-1048576 ≤ x.lift ∧ x.lift ≤ 1048576) ∧ (0 ≤ x.drag ∧ x.drag ≤ 65536) ∧ (1 ≤ x.str ∧ x.str ≤ 16777216) := by
  simp only [vE, Bool.and_eq_true, btw_iff]
/-- what a mooring that is valid has -/
structure Rig (zs : List El) (cs : List Pr) : Prop where
  pos : 0 < zs.length
  most : zs.length ≤ 40
  same : cs.length = zs.length
  els : ∀ k, k < zs.length → vE (el zs k) = true
  cur : ∀ k, k < zs.length → okC (pr cs k) = true
theorem mooE_ok {d : Int} {zs : List El} {an fr : Int} (h : mooE d zs an fr = 0) : 0 < zs.length ∧ zs.length ≤ 40 ∧ (∀ k, k < zs.length → vE (el zs k) = true) ∧ mooOk d an fr = true := by
  unfold mooE at h
  split at h
  · exact absurd h (by decide)
  · split at h
    · exact absurd h (by decide)
    · split at h
      · split at h
        · rename_i h1 h2 h3 h4
          refine ⟨by omega, by omega, fun k hk => ?_, h3⟩
          unfold el
          rw [List.getElem?_eq_getElem hk, Option.getD_some]
          exact List.all_eq_true.1 h4 _ (List.getElem_mem hk)
        · exact absurd h (by decide)
      · exact absurd h (by decide)
theorem curE_ok {d : Int} {zs : List El} {an fr : Int} {cs : List Pr} (h : curE d zs an fr cs = 0) : Rig zs cs ∧ mooE d zs an fr = 0 := by
  unfold curE at h
  split at h
  · rename_i h0
    split at h
    · rename_i h1
      split at h
      · rename_i h2
        obtain ⟨a, b, c, _⟩ := mooE_ok h0
        refine ⟨⟨a, b, h1, c, fun k hk => ?_⟩, h0⟩
        unfold pr
        rw [List.getElem?_eq_getElem (by omega), Option.getD_some]
        exact List.all_eq_true.1 h2 _ (List.getElem_mem _)
      · exact absurd h (by decide)
    · exact absurd h (by decide)
  · rename_i h0; exact absurd h h0
theorem staE_ok {d : Int} {zs : List El} {an fr : Int} {cs : List Pr} (h : staE d zs an fr cs = 0) : Rig zs cs ∧ standB zs = true ∧ mooE d zs an fr = 0 ∧ curE d zs an fr cs = 0 := by
  unfold staE at h
  split at h
  · rename_i h0
    split at h
    · rename_i h1
      exact ⟨(curE_ok h0).1, h1, (curE_ok h0).2, h0⟩
    · exact absurd h (by decide)
  · rename_i h0; exact absurd h h0
/-- the force on an element: its ends -/
def fLo (x : El) (a : Pr) : Int := x.drag * a.lo * a.lo / 1000000
def fHi (x : El) (a : Pr) : Int := (x.drag * a.hi * a.hi + 1000000 - 1) / 1000000
theorem drag_bd {g s : Int} (h0 : 0 ≤ g) (h1 : g ≤ 65536) (s0 : 0 ≤ s) (s1 : s ≤ 3000) : 0 ≤ g * s ∧ g * s ≤ 196608000 ∧ 0 ≤ g * s * s ∧ g * s * s ≤ 589824000000 := by
  have e1 : 0 ≤ g * s := Int.mul_nonneg h0 s0
  have e2 : g * s ≤ 65536 * 3000 := Int.mul_le_mul h1 s1 s0 (by decide)
  have e3 : 0 ≤ g * s * s := Int.mul_nonneg e1 s0
  have e4 : g * s * s ≤ 65536 * 3000 * 3000 := Int.mul_le_mul e2 s1 s0 (by decide)
  omega
theorem drag_mono {g s t : Int} (h0 : 0 ≤ g) (s0 : 0 ≤ s) (h : s ≤ t) : g * s * s ≤ g * t * t :=
  Int.mul_le_mul (Int.mul_le_mul_of_nonneg_left h h0) h s0 (Int.mul_nonneg h0 (by omega))
theorem force_bd {x : El} {a : Pr} (hx : vE x = true) (ha : okC a = true) : 0 ≤ fLo x a ∧ fLo x a ≤ fHi x a ∧ fHi x a ≤ 589824 := by
  obtain ⟨-, -, ⟨g0, g1⟩, -⟩ := (vE_iff x).1 hx
  obtain ⟨a0, a1, a2⟩ := (okC_iff a).1 ha
  have b1 := drag_bd g0 g1 a0 (by omega)
  have b2 := drag_bd g0 g1 (s := a.hi) (by omega) a2
  have b3 := drag_mono g0 a0 a1
  unfold fLo fHi
  omega
/-- the sums of the forces on the first k elements; the greatest sum of both ends of one force -/
def sLo (zs : List El) (cs : List Pr) : Nat → Int
  | 0 => 0
  | k + 1 => sLo zs cs k + fLo (el zs k) (pr cs k)
def sHi (zs : List El) (cs : List Pr) : Nat → Int
  | 0 => 0
  | k + 1 => sHi zs cs k + fHi (el zs k) (pr cs k)
def wid (zs : List El) (cs : List Pr) : Nat → Int
  | 0 => 0
  | k + 1 => max (wid zs cs k) (fLo (el zs k) (pr cs k) + fHi (el zs k) (pr cs k))
theorem sums_bd {zs : List El} {cs : List Pr} (h : Rig zs cs) : ∀ k, k ≤ zs.length → 0 ≤ sLo zs cs k ∧ sLo zs cs k ≤ sHi zs cs k ∧ sHi zs cs k ≤ 589824 * (k : Int) ∧ 0 ≤ wid zs cs k ∧ wid zs cs k ≤ sLo zs cs k + sHi zs cs k
  | 0, _ => by simp [sLo, sHi, wid]
  | k + 1, hk => by
    have ih := sums_bd h k (by omega)
    have f := force_bd (h.els k (by omega)) (h.cur k (by omega))
    simp only [sLo, sHi, wid]
    omega
/-- the lower end of the pull below the first k elements (the upper one is sHi) -/
def hLo (free : Bool) (zs : List El) (cs : List Pr) (k : Nat) : Int := if free = true then max 0 (wid zs cs k - sHi zs cs k) else sLo zs cs k
theorem pull_bd {zs : List El} {cs : List Pr} (h : Rig zs cs) (free : Bool) {k : Nat} (hk : k ≤ zs.length) : 0 ≤ hLo free zs cs k ∧ hLo free zs cs k ≤ sLo zs cs k ∧ hLo free zs cs k ≤ sHi zs cs k ∧ sHi zs cs k ≤ 23592960 := by
  have b := sums_bd h k hk
  have m := h.most
  unfold hLo
  split <;> omega
theorem lif_bd {zs : List El} {cs : List Pr} (h : Rig zs cs) {k : Nat} (hk : k ≤ zs.length) : -41943040 ≤ lifTo zs k ∧ lifTo zs k ≤ 41943040 := by
  have := lifTo_bd zs (fun k hk => ((vE_iff _).1 (h.els k hk)).2.1) k hk
  have := h.most
  omega
theorem leastTo_le (l : List Int) : ∀ k j, j ≤ k → leastTo l k ≤ nth l j
  | 0, j, h => by obtain rfl : j = 0 := by omega
                  exact Int.le_refl _
  | k + 1, j, h => by
    simp only [leastTo]
    rcases Nat.lt_or_ge j (k + 1) with g | g
    · have := leastTo_le l k j (by omega); omega
    · obtain rfl : j = k + 1 := by omega
      omega
theorem leastTo_ge (l : List Int) (m : Int) : ∀ k, (∀ j, j ≤ k → m ≤ nth l j) → m ≤ leastTo l k
  | 0, h => h 0 (Nat.le_refl _)
  | k + 1, h => by
    simp only [leastTo]
    have := leastTo_ge l m k (fun j hj => h j (by omega))
    have := h (k + 1) (Nat.le_refl _)
    omega
theorem lifL_nth (zs : List El) : ∀ n k, k < n → nth (lifL zs n) k = lifTo zs (k + 1)
  | 0, k, h => by omega
  | n + 1, k, h => by
    unfold nth
    simp only [lifL]
    rcases Nat.lt_or_ge k n with g | g
    · rw [List.getElem?_append_left (by rw [lifL_len]; exact g)]
      exact lifL_nth zs n k g
    · obtain rfl : k = n := by omega
      rw [List.getElem?_append_right (by rw [lifL_len]; exact Nat.le_refl _), lifL_len]
      simp
/-- it stands just if each lift is at least 1 -/
theorem standB_iff {zs : List El} (h0 : 0 < zs.length) : standB zs = true ↔ ∀ k, k < zs.length → 1 ≤ lifTo zs (k + 1) := by
  unfold standB
  rw [decide_eq_true_eq, lifL_len]
  constructor
  · intro h k hk
    have := leastTo_le (lifL zs zs.length) (zs.length - 1) k (by omega)
    rw [lifL_nth _ _ _ hk] at this
    omega
  · intro h
    refine leastTo_ge _ _ _ fun j hj => ?_
    rw [lifL_nth _ _ _ (by omega)]
    exact h j (by omega)
end Go.Proofs.Ytdohfpnnmppdkaa.Moo

/-
  MooringFound: the mathematics: one more cell in a list of cells, two ascending lists side by side, the search hour by hour.
-/
import Derived.Test.YthogahdnidjelaaSeaTwo
namespace Go.Proofs.Ythogahdnidjelaa
open Go.RowKit Go.Shelf
set_option linter.unusedSimpArgs false
/-- a list of cells is ascending and within its bounds -/
theorem areB_iff {lim : Int} {l : List Int} : areB lim l = true ↔ l.Pairwise (· < ·) ∧ ∀ x ∈ l, 0 ≤ x ∧ x < lim := by
  constructor
  · intro h
    have hn := areB_nn h
    constructor
    · have key : ∀ (i j : Nat), i < j → j < l.length → vAt l i < vAt l j := by
        intro i j hij
        induction j with
        | zero => omega
        | succ j ih =>
          intro hj
          have q := (areB_get h hj).1
          simp only [lastTo] at q
          rcases Nat.lt_or_ge i j with g | g
          · have := ih g (by omega); omega
          · obtain rfl : i = j := by omega
            exact q
      refine List.pairwise_iff_getElem.2 fun i j hi hj hij => ?_
      have := key i j hij hj
      unfold vAt at this
      rwa [List.getElem?_eq_getElem hi, List.getElem?_eq_getElem hj, Option.getD_some, Option.getD_some] at this
    · intro x hx
      obtain ⟨i, hi, rfl⟩ := List.getElem_of_mem hx
      have := hn i hi
      unfold vAt at this
      rwa [List.getElem?_eq_getElem hi, Option.getD_some] at this
  · rintro ⟨hp, hb⟩
    refine areB_ok fun k hk => ?_
    have e : vAt l k = l[k] := by unfold vAt; rw [List.getElem?_eq_getElem hk, Option.getD_some]
    have b := hb l[k] (List.getElem_mem hk)
    have q : lastTo l k < vAt l k := by
      cases k with
      | zero => show -1 < _; rw [e]; omega
      | succ k =>
        show vAt l k < _
        have e2 : vAt l k = l[k] := by unfold vAt; rw [List.getElem?_eq_getElem (by omega), Option.getD_some]
        rw [e, e2]
        exact List.pairwise_iff_getElem.1 hp k (k + 1) (by omega) hk (by omega)
    unfold okAt
    rw [decide_eq_true q, decide_eq_true (by rw [e]; exact b.2)]
    rfl
/-- one more cell in a list of cells -/
def insC (c : Int) (l : List Int) : List Int := (l.filter fun x => decide (x < c)) ++ c :: (l.filter fun x => decide (c < x))
theorem mem_insC {c x : Int} {l : List Int} (h : x ∈ l) : x ∈ insC c l := by
  unfold insC
  simp only [List.mem_append, List.mem_filter, List.mem_cons, decide_eq_true_eq]
  rcases Int.lt_trichotomy x c with q | q | q
  · exact .inl ⟨h, q⟩
  · exact .inr (.inl q)
  · exact .inr (.inr ⟨h, q⟩)
theorem insC_ok {lim c : Int} {l : List Int} (h : areB lim l = true) (hc : 0 ≤ c ∧ c < lim) : areB lim (insC c l) = true := by
  obtain ⟨hp, hb⟩ := areB_iff.1 h
  refine areB_iff.2 ⟨?_, fun x hx => ?_⟩
  · unfold insC
    rw [List.pairwise_append, List.pairwise_cons]
    refine ⟨hp.filter _, ⟨fun x hx => ?_, hp.filter _⟩, fun x hx y hy => ?_⟩
    · simpa using (List.mem_filter.1 hx).2
    · have q1 : x < c := by simpa using (List.mem_filter.1 hx).2
      rcases List.mem_cons.1 hy with rfl | hy
      · exact q1
      · have q2 : c < y := by simpa using (List.mem_filter.1 hy).2
        omega
  · unfold insC at hx
    rcases List.mem_append.1 hx with g | g
    · exact hb x (List.mem_filter.1 g).1
    · rcases List.mem_cons.1 g with rfl | g
      · exact hc
      · exact hb x (List.mem_filter.1 g).1
theorem insC_len (c : Int) (l : List Int) : (insC c l).length ≤ 2 * l.length + 1 := by
  unfold insC
  have h1 := List.length_filter_le (fun x => decide (x < c)) l
  have h2 := List.length_filter_le (fun x => decide (c < x)) l
  simp only [List.length_append, List.length_cons]
  omega
/-- the first k numbers of which something holds -/
def filT (p : Int → Bool) (l : List Int) (k : Nat) : List Int := (l.take k).filter p
theorem filT_zero (p : Int → Bool) (l : List Int) : filT p l 0 = [] := by simp [filT]
theorem filT_succ {p : Int → Bool} {l : List Int} {k : Nat} (hk : k < l.length) : filT p l (k + 1) = if p (l[k]?.getD 0) = true then filT p l k ++ [l[k]?.getD 0] else filT p l k := by
  unfold filT
  rw [List.take_add_one, List.getElem?_eq_getElem hk, List.filter_append]
  simp only [Option.toList_some, Option.getD_some, List.filter_cons, List.filter_nil]
  split <;> simp
theorem filT_all (p : Int → Bool) (l : List Int) : filT p l l.length = l.filter p := by simp [filT]
theorem filT_len (p : Int → Bool) (l : List Int) (k : Nat) : (filT p l k).length ≤ l.length := by
  unfold filT
  exact Nat.le_trans (List.length_filter_le _ _) (by rw [List.length_take]; omega)
/-- two ascending lists side by side: what is passed by of the first one is less than the k-th number of the second one -/
def Mt (x y : List Int) (k m : Nat) : Prop := m ≤ x.length ∧ ∀ j, k ≤ j → j < y.length → ∀ p, p < x.length → x[p]?.getD 0 = y[j]?.getD 0 → m ≤ p
theorem Mt.start (x y : List Int) : Mt x y 0 0 := ⟨Nat.zero_le _, fun _ _ _ _ _ _ => Nat.zero_le _⟩
theorem Mt.next {x y : List Int} {k m : Nat} (h : Mt x y k m) : Mt x y (k + 1) m := ⟨h.1, fun j hj => h.2 j (by omega)⟩
theorem getD_mono {l : List Int} (h : l.Pairwise (· < ·)) {i j : Nat} (hij : i ≤ j) (hj : j < l.length) : l[i]?.getD 0 ≤ l[j]?.getD 0 := by
  rcases Nat.lt_or_ge i j with q | q
  · have := List.pairwise_iff_getElem.1 h i j (by omega) hj q
    rw [List.getElem?_eq_getElem (by omega), List.getElem?_eq_getElem hj, Option.getD_some, Option.getD_some]
    omega
  · obtain rfl : i = j := by omega
    exact Int.le_refl _
theorem Mt.step {x y : List Int} {k m : Nat} (h : Mt x y k m) (hy : y.Pairwise (· < ·)) (hm : m < x.length) (hl : x[m]?.getD 0 < y[k]?.getD 0) : Mt x y k (m + 1) := by
  refine ⟨hm, fun j hj hjl p hp e => ?_⟩
  have q := h.2 j hj hjl p hp e
  rcases Nat.lt_or_ge m p with g | g
  · exact g
  · obtain rfl : p = m := by omega
    have := getD_mono hy hj hjl
    omega
theorem Mt.found {x y : List Int} {k m : Nat} (h : Mt x y k m) (hx : x.Pairwise (· < ·)) (hk : k < y.length) (hs : ∀ z, z ∈ y → z ∈ x) : m < x.length ∧ (¬ x[m]?.getD 0 < y[k]?.getD 0 → x[m]?.getD 0 = y[k]?.getD 0) := by
  have hz : y[k]?.getD 0 ∈ y := by rw [List.getElem?_eq_getElem hk, Option.getD_some]; exact List.getElem_mem hk
  obtain ⟨p, hp, e⟩ := List.getElem_of_mem (hs _ hz)
  have e2 : x[p]?.getD 0 = y[k]?.getD 0 := by rw [List.getElem?_eq_getElem hp, Option.getD_some]; exact e
  have q := h.2 k (Nat.le_refl _) hk p hp e2
  refine ⟨by omega, fun hn => ?_⟩
  have := getD_mono hx q hp
  omega
/-- the search hour by hour: so far, after k hours -/
def FndT (any lf : Nat → Bool) (k : Nat) (is : Bool) (want : Int) : Prop :=
  (is = false ∧ ∀ j, j < k → any j = true ∧ lf j = false) ∨ (is = true ∧ ∃ m : Nat, m + 1 = k ∧ want = (m : Int) ∧ (∀ j, j < m → any j = true ∧ lf j = false) ∧ any m = false ∧ lf m = false)
theorem FndT.start (any lf : Nat → Bool) : FndT any lf 0 false 0 := .inl ⟨rfl, fun j h => by omega⟩
theorem FndT.step {any lf : Nat → Bool} {k : Nat} {want : Int} (h : FndT any lf k false want) (hl : lf k = false) (e : Bool) (he : e = !any k) : FndT any lf (k + 1) e (k : Int) := by
  rcases h with ⟨-, h⟩ | ⟨e2, -⟩
  · cases ha : any k
    · rw [ha] at he
      exact .inr ⟨he, k, rfl, rfl, h, ha, hl⟩
    · rw [ha] at he
      refine .inl ⟨he, fun j hj => ?_⟩
      by_cases q : j = k
      · subst q; exact ⟨ha, hl⟩
      · exact h j (by omega)
  · exact absurd e2 (by decide)
/-- what the search hour by hour tells in the end -/
def FndE (wd hg : Int) (b0 : List Bool) (hs : List Hr) (is : Bool) (want : Int) : Prop := (is = true ∧ FoS wd hg b0 hs want 0) ∨ (is = false ∧ FoS wd hg b0 hs 0 5)
theorem FndT.left {wd hg : Int} {b0 : List Bool} {hs : List Hr} {k : Nat} {want : Int} (h : FndT (fun j => anyB (stB wd hg b0 hs j)) (stL wd hg b0 hs) k false want) (hl : stL wd hg b0 hs k = true) : FndE wd hg b0 hs false want := by
  rcases h with ⟨-, h⟩ | ⟨e2, -⟩
  · refine .inr ⟨rfl, .inr ⟨fun m hm g => ?_, rfl, rfl⟩⟩
    rcases Nat.lt_or_ge m k with q | q
    · have := g.1
      have q2 : anyB (stB wd hg b0 hs m) = true := (h m q).1
      rw [q2] at this
      exact absurd this (by decide)
    · have := g.2
      rw [stL_mono hl q] at this
      exact absurd this (by decide)
  · exact absurd e2 (by decide)
theorem FndT.fin {wd hg : Int} {b0 : List Bool} {hs : List Hr} {k : Nat} {is : Bool} {want : Int} (h : FndT (fun j => anyB (stB wd hg b0 hs j)) (stL wd hg b0 hs) k is want) (hk : k ≤ hs.length + 1) (he : is = true ∨ hs.length < k) : FndE wd hg b0 hs is want := by
  rcases h with ⟨e, h⟩ | ⟨e, m, hm, hw, h1, h2, h3⟩
  · refine .inr ⟨e, ?_⟩
    rcases he with g | g
    · rw [e] at g; exact absurd g (by decide)
    · exact FoS.over (fun j hj => (h j hj).1) g
  · exact .inl ⟨e, by rw [hw]; exact FoS.found (by omega) (fun j hj => (h1 j hj).1) h2 h3⟩
/-- the hours with one more cell searched in one of them -/
def moreH (hs : List Hr) (i : Nat) (c : Int) : List Hr := hs.set i { hr hs i with se := insC c (hr hs i).se }
theorem moreH_len (hs : List Hr) (i : Nat) (c : Int) : (moreH hs i c).length = hs.length := by simp [moreH]
theorem moreH_at (hs : List Hr) {i : Nat} (c : Int) (hi : i < hs.length) : hr (moreH hs i c) i = { hr hs i with se := insC c (hr hs i).se } := by
  simp [moreH, hr, hi]
theorem moreH_far (hs : List Hr) {i k : Nat} (c : Int) (hk : k ≠ i) : hr (moreH hs i c) k = hr hs k := by
  unfold moreH hr
  rw [List.getElem?_set_ne (Ne.symm hk)]
theorem moreH_more (hs : List Hr) {i : Nat} (c : Int) (hi : i < hs.length) : MoreSe hs (moreH hs i c) := by
  refine ⟨moreH_len _ _ _, fun k hk => ?_⟩
  by_cases q : k = i
  · subst q
    rw [moreH_at _ _ hi]
    exact ⟨rfl, rfl, rfl, rfl, fun x hx => mem_insC hx⟩
  · rw [moreH_far _ _ q]
    exact ⟨rfl, rfl, rfl, rfl, fun x hx => hx⟩
theorem seaE_more {wd hg : Int} {st : List Int} {hs : List Hr} {i : Nat} {c : Int} (h : seaE wd hg st hs = 0) (hi : i < hs.length) (hc : 0 ≤ c ∧ c < wd * hg) : seaE wd hg st (moreH hs i c) = 0 := by
  obtain ⟨h48, hw, hh, har, hok⟩ := seaE_ok h
  refine seaE_of (by rw [moreH_len]; exact h48) hw hh har fun k hk => ?_
  rw [moreH_len] at hk
  by_cases q : k = i
  · subst q
    have g := hok k hk
    rw [moreH_at _ _ hi]
    unfold hrOk at g ⊢
    simp only [Bool.and_eq_true] at g ⊢
    exact ⟨g.1, g.2.1, insC_ok g.2.2 hc⟩
  · rw [moreH_far _ _ q]
    exact hok k hk
/-- with one more cell searched no cell is added -/
theorem whB_more {wd hg : Int} {st : List Int} {hs : List Hr} {i : Nat} {c : Int} (hi : i < hs.length) (x : Int) (h : x ∈ trL (whB wd hg st (moreH hs i c) hs.length) (whN wd hg)) : x ∈ trL (whB wd hg st hs hs.length) (whN wd hg) := by
  obtain ⟨j, h1, h2, h3⟩ := (mem_trL _ _ _).1 h
  exact (mem_trL _ _ _).2 ⟨j, h1, (more_st (wd := wd) (hg := hg) (b0 := mkL (whN wd hg) st st.length) (moreH_more hs c hi) hs.length (Nat.le_refl _)).1 j (by rw [mkL_len]; exact h1) h2, h3⟩
theorem fwhV_take {wd hg : Int} {st : List Int} {hs : List Hr} (h0 : seaE wd hg st hs = 0) {m : Nat} (hm : m ≤ hs.length) : whV wd hg st (hs.take m) = trL (whB wd hg st hs m) (whN wd hg) ∧ whX wd hg st (hs.take m) = whL wd hg st hs m := by
  have e : (hs.take m).length = m := by rw [List.length_take]; omega
  constructor
  · unfold whV whB
    rw [if_pos (seaE_take h0 m), e, stB_take (Nat.le_refl _)]
  · unfold whX whL
    rw [if_pos (seaE_take h0 m), e, stL_take (Nat.le_refl _)]
theorem fwhere_take (wd hg : Int) (sv : Value) (a : Option Addr) (cap : Nat) (st : List Int) (hs : List Hr) (hl1 : st.length ≤ 2147483649) (hl2 : ∀ k, k < hs.length → (hr hs k).se.length ≤ 2147483649) (h0 : seaE wd hg st hs = 0) (m : Nat) (hm : m ≤ hs.length) (w : World) (hI : Nums w.heap.size w sv st) (hH : Hrs w.heap.size w (.slice a hs.length cap) hs) :
    Calls Try.prog 41 #[.agg #[.int .i64 wd, .int .i64 hg], sv, .slice a m cap] w fun e w' => ∃ v, e = .returned (.tuple #[v, .bool (whL wd hg st hs m), .int .i64 0]) ∧ Nums w'.heap.size w' v (trL (whB wd hg st hs m) (whN wd hg)) ∧ Below w.heap.size w w' := by
  have q := where_any wd hg sv (.slice a m cap) st (hs.take m) hl1 (fun k hk => by rw [List.length_take] at hk; rw [hr_take (by omega)]; exact hl2 k (by omega)) w hI (hH.take hm)
  rw [(fwhV_take h0 hm).1, (fwhV_take h0 hm).2, seaE_take h0 m] at q
  exact q
theorem moreH_se {hs : List Hr} {i : Nat} {c : Int} (hi : i < hs.length) (hl : ∀ k, k < hs.length → (hr hs k).se.length ≤ 700) : ∀ k, k < (moreH hs i c).length → (hr (moreH hs i c) k).se.length ≤ 2147483649 := fun k hk => by
  rw [moreH_len] at hk
  have h := hl k hk
  by_cases q : k = i
  · subst q
    rw [moreH_at _ _ hi]
    have := insC_len c (hr hs k).se
    show (insC c (hr hs k).se).length ≤ _
    omega
  · rw [moreH_far _ _ q]
    omega
theorem where_more (wd hg : Int) (sv mv : Value) (st : List Int) (hs : List Hr) (i : Nat) (c : Int) (hl1 : st.length ≤ 2147483649) (hl2 : ∀ k, k < hs.length → (hr hs k).se.length ≤ 700) (h0 : seaE wd hg st hs = 0) (hi : i < hs.length) (hc : 0 ≤ c ∧ c < wd * hg) (w : World) (hI : Nums w.heap.size w sv st) (hM : Hrs w.heap.size w mv (moreH hs i c)) :
    Calls Try.prog 41 #[.agg #[.int .i64 wd, .int .i64 hg], sv, mv] w fun e w' => ∃ v b, e = .returned (.tuple #[v, .bool b, .int .i64 0]) ∧ Nums w'.heap.size w' v (trL (whB wd hg st (moreH hs i c) hs.length) (whN wd hg)) ∧ Below w.heap.size w w' := by
  have q := where_any wd hg sv mv st (moreH hs i c) hl1 (moreH_se hi hl2) w hI hM
  have e0 := seaE_more (wd := wd) (hg := hg) (st := st) h0 hi hc
  have eV : whV wd hg st (moreH hs i c) = trL (whB wd hg st (moreH hs i c) hs.length) (whN wd hg) := by
    unfold whV
    rw [if_pos e0, moreH_len]
  rw [eV, e0] at q
  exact q.mono fun e w' ⟨v, h1, h2, h3⟩ => ⟨v, _, h1, h2, h3⟩
theorem found_more (wd hg : Int) (sv mv : Value) (st : List Int) (hs : List Hr) (i : Nat) (c : Int) (hl1 : st.length ≤ 2147483649) (hl2 : ∀ k, k < hs.length → (hr hs k).se.length ≤ 700) (h0 : seaE wd hg st hs = 0) (hi : i < hs.length) (hc : 0 ≤ c ∧ c < wd * hg) (w : World) (hI : Nums w.heap.size w sv st) (hM : Hrs w.heap.size w mv (moreH hs i c)) :
    Calls Try.prog 43 #[.agg #[.int .i64 wd, .int .i64 hg], sv, mv] w fun e w' => ∃ n f, e = .returned (.tuple #[.int .i64 n, .int .i64 f]) ∧ (∀ n0, FoS wd hg (mkL (whN wd hg) st st.length) hs n0 0 → f = 0 ∧ n ≤ n0) ∧ Below w.heap.size w w' := by
  have q := found_any wd hg sv mv st (moreH hs i c) hl1 (moreH_se hi hl2) w hI hM
  have e0 := seaE_more (wd := wd) (hg := hg) (st := st) h0 hi hc
  exact q.mono fun e w' ⟨n, f, h1, h2, h3⟩ => ⟨n, f, h1, fun n0 h => FoS.more (moreH_more hs c hi) h (h2.at0 e0), h3⟩
end Go.Proofs.Ythogahdnidjelaa

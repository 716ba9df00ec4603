/-
  Clock: the lists of ClockOrder; Part.
-/
import Derived.Test.YtcchmjbedppfnaaOrdMath
namespace Go.Proofs.Ytcchmjbedppfnaa
open Go.RowKit Go.Shelf
set_option linter.unusedSimpArgs false
/-- pairs of 16-bit numbers in memory -/
def T16 (n₀ : Nat) (W : World) (sv : Value) (us : List (Int × Int)) : Prop :=
  ∃ a cap, sv = .slice a us.length cap ∧ ∀ k, k < us.length → ((0 ≤ (sp us k).1 ∧ (sp us k).1 ≤ 65535) ∧ (0 ≤ (sp us k).2 ∧ (sp us k).2 ≤ 65535)) ∧ ∃ b off, a = some ⟨b, off, none⟩ ∧ b < n₀ ∧
    W.cell? ⟨b, off + k * 2, none⟩ = some (.int .u16 (sp us k).1) ∧ W.cell? ⟨b, off + k * 2 + 1, none⟩ = some (.int .u16 (sp us k).2)
/-- 16-bit numbers in memory -/
def U16 (n₀ : Nat) (W : World) (sv : Value) (ps : List Int) : Prop :=
  ∃ a cap, sv = .slice a ps.length cap ∧ ∀ k, k < ps.length → (0 ≤ tt ps k ∧ tt ps k ≤ 65535) ∧ ∃ b off, a = some ⟨b, off, none⟩ ∧ b < n₀ ∧ W.cell? ⟨b, off + k, none⟩ = some (.int .u16 (tt ps k))
theorem T16.form {n₀ : Nat} {W : World} {sv : Value} {us : List (Int × Int)} (h : T16 n₀ W sv us) : ∃ a c, sv = .slice a us.length c := by
  obtain ⟨a, c, rfl, -⟩ := h
  exact ⟨a, c, rfl⟩
theorem U16.form {n₀ : Nat} {W : World} {sv : Value} {ps : List Int} (h : U16 n₀ W sv ps) : ∃ a c, sv = .slice a ps.length c := by
  obtain ⟨a, c, rfl, -⟩ := h
  exact ⟨a, c, rfl⟩
theorem tt_out {ps : List Int} {k : Nat} (h : ¬ k < ps.length) : tt ps k = 0 := by
  unfold tt
  rw [List.getElem?_eq_none (by omega)]
  rfl
def prS (a b p : Int) : Int := a + (b - a) * p / 65535
theorem prS_in {a b p : Int} (h : a ≤ b) (hp : 0 ≤ p ∧ p ≤ 65535) : a ≤ prS a b p ∧ prS a b p ≤ b := by
  have h1 : 0 ≤ (b - a) * p := Int.mul_nonneg (by omega) hp.1
  have h2 : (b - a) * p ≤ (b - a) * 65535 := Int.mul_le_mul_of_nonneg_left hp.2 (by omega)
  unfold prS
  generalize (b - a) * p = q at *
  omega
/-- the first k spans, and the times in them -/
def zsT (us : List (Int × Int)) : Nat → List (Int × Int)
  | 0 => []
  | k + 1 => zsT us k ++ [((sp us k).1, (sp us k).1 + (sp us k).2)]
def tsT (us : List (Int × Int)) (ps : List Int) : Nat → List Int
  | 0 => []
  | k + 1 => tsT us ps k ++ [prS (sp us k).1 ((sp us k).1 + (sp us k).2) (tt ps k)]
theorem zsT_len (us : List (Int × Int)) : ∀ k, (zsT us k).length = k
  | 0 => rfl
  | k + 1 => by simp [zsT, zsT_len us k]
theorem tsT_len (us : List (Int × Int)) (ps : List Int) : ∀ k, (tsT us ps k).length = k
  | 0 => rfl
  | k + 1 => by simp [tsT, tsT_len us ps k]
theorem zsT_get (us : List (Int × Int)) : ∀ k j, j < k → sp (zsT us k) j = ((sp us j).1, (sp us j).1 + (sp us j).2)
  | k + 1, j, hj => by
    show sp (zsT us k ++ [((sp us k).1, (sp us k).1 + (sp us k).2)]) j = _
    unfold sp
    rcases (show j < k ∨ j = k by omega) with h | rfl
    · rw [List.getElem?_append_left (by rw [zsT_len]; exact h)]
      exact zsT_get us k j h
    · have e : (zsT us j ++ [((us[j]?.getD (0, 0)).1, (us[j]?.getD (0, 0)).1 + (us[j]?.getD (0, 0)).2)])[j]? = some ((us[j]?.getD (0, 0)).1, (us[j]?.getD (0, 0)).1 + (us[j]?.getD (0, 0)).2) := by
        rw [List.getElem?_append_right (by rw [zsT_len]; exact Nat.le_refl _), zsT_len]; simp
      rw [e]; rfl
theorem tsT_get (us : List (Int × Int)) (ps : List Int) : ∀ k j, j < k → tt (tsT us ps k) j = prS (sp us j).1 ((sp us j).1 + (sp us j).2) (tt ps j)
  | k + 1, j, hj => by
    show tt (tsT us ps k ++ [prS (sp us k).1 ((sp us k).1 + (sp us k).2) (tt ps k)]) j = _
    rcases (show j < k ∨ j = k by omega) with h | rfl
    · have ih := tsT_get us ps k j h
      unfold tt at *
      rw [List.getElem?_append_left (by rw [tsT_len]; exact h)]
      exact ih
    · unfold tt
      have e : (tsT us ps j ++ [prS (sp us j).1 ((sp us j).1 + (sp us j).2) (ps[j]?.getD 0)])[j]? = some (prS (sp us j).1 ((sp us j).1 + (sp us j).2) (ps[j]?.getD 0)) := by
        rw [List.getElem?_append_right (by rw [tsT_len]; exact Nat.le_refl _), tsT_len]; simp
      rw [e]; rfl
theorem in_all {us : List (Int × Int)} {ps : List Int} (hu : ∀ k, k < us.length → (0 ≤ (sp us k).1 ∧ (sp us k).1 ≤ 65535) ∧ (0 ≤ (sp us k).2 ∧ (sp us k).2 ≤ 65535)) (hp : ∀ k, 0 ≤ tt ps k ∧ tt ps k ≤ 65535) : InS (zsT us us.length) (tsT us ps us.length) := by
  refine ⟨by rw [zsT_len, tsT_len], fun k hk => ?_⟩
  rw [zsT_len] at hk
  rw [zsT_get us _ k hk, tsT_get us ps _ k hk]
  exact prS_in (by have := hu k hk; omega) (hp k)
theorem ev_all {us : List (Int × Int)} (hn : us.length ≤ 128) (hu : ∀ k, k < us.length → (0 ≤ (sp us k).1 ∧ (sp us k).1 ≤ 65535) ∧ (0 ≤ (sp us k).2 ∧ (sp us k).2 ≤ 65535)) : evE (zsT us us.length) = 0 := by
  refine evE_ok (by rw [zsT_len]; omega) fun k hk => ?_
  rw [zsT_len] at hk
  rw [zsT_get us _ k hk]
  have := hu k hk
  dsimp only
  omega
theorem meets_sub : ∀ (ys : List (Int × Int)) (f y : Int × Int), (y ∈ ys ∨ (y.1 ≤ f.1 ∧ f.2 ≤ y.2)) → y.1 ≤ (meets f ys).1 ∧ (meets f ys).2 ≤ y.2
  | [], f, y, h => by rcases h with h | h; cases h; exact h
  | z :: ys, f, y, h => by
    refine meets_sub ys (meetS f z) y ?_
    rcases h with h | h
    · rcases List.mem_cons.1 h with rfl | h
      · right; unfold meetS; dsimp only; omega
      · exact .inl h
    · right; unfold meetS; dsimp only; omega
/-- what Common says -/
theorem com_in {zs : List (Int × Int)} (he : evE zs = 0) : (comR zs = ⟨0, 0, 5⟩) ∨ (∃ a b, comR zs = ⟨a, b, 0⟩ ∧ a ≤ b ∧ ∀ k, k < zs.length → (sp zs k).1 ≤ a ∧ b ≤ (sp zs k).2) := by
  unfold comR
  rw [if_pos he]
  by_cases h0 : zs.length = 0
  · rw [if_pos h0]; exact .inl rfl
  rw [if_neg h0]
  by_cases h1 : (meets (sp zs 0) zs).1 ≤ (meets (sp zs 0) zs).2
  · rw [if_pos h1]
    refine .inr ⟨_, _, rfl, h1, fun k hk => meets_sub zs _ _ (.inl ?_)⟩
    unfold sp
    rw [List.getElem?_eq_getElem hk, Option.getD_some]
    exact List.getElem_mem hk
  · rw [if_neg h1]; exact .inl rfl
/-- numbers in cells -/
def flat1 (ts : List Int) : List Value := ts.map (.int .i64)
theorem flat1_len (ts : List Int) : (flat1 ts).length = ts.length := by simp [flat1]
theorem flat1_snoc (ts : List Int) (t : Int) : flat1 (ts ++ [t]) = flat1 ts ++ [.int .i64 t] := by simp [flat1]
/-- numbers of 64 bits in memory -/
def I64s (n₀ : Nat) (W : World) (sv : Value) (ts : List Int) : Prop :=
  ∃ a cap, sv = .slice a ts.length cap ∧ ∀ k, k < ts.length → ∃ b off, a = some ⟨b, off, none⟩ ∧ b < n₀ ∧ W.cell? ⟨b, off + k, none⟩ = some (.int .i64 (tt ts k))
theorem I64s.mono {n₀ m : Nat} {W W' : World} {sv : Value} {ts : List Int} (h : I64s n₀ W sv ts) (hb : Below n₀ W W') (hm : n₀ ≤ m) : I64s m W' sv ts := by
  obtain ⟨a, cap, e, hc⟩ := h
  refine ⟨a, cap, e, fun k hk => ?_⟩
  obtain ⟨b, off, h1, h2, c0⟩ := hc k hk
  exact ⟨b, off, h1, Nat.lt_of_lt_of_le h2 hm, (hb.cell (p := ⟨b, _, none⟩) h2).trans c0⟩
theorem I64s.at {W W' : World} {sv : Value} {ts : List Int} (h : I64s W.heap.size W sv ts) (hb : Below W.heap.size W W') : I64s W'.heap.size W' sv ts := h.mono hb hb.size
theorem i64s_of_owns {W : World} {base : Nat} {t : TypeId} {v : Value} {ts : List Int} (h : W.ownsRow base t 1 v ts.length (flat1 ts)) : I64s W.heap.size W v ts := by
  rcases h.2 with ⟨rfl, h0⟩ | ⟨g, cap, cur, rfl, hb, hg, r1, r2, r3, r4⟩
  · exact ⟨none, 0, by rw [h0], fun j hj => by omega⟩
  · refine ⟨_, cap, rfl, fun j hj => ⟨g, 0, rfl, (Array.getElem?_eq_some_iff.1 hg).1, ?_⟩⟩
    have h4 : cur.toList[j]? = (flat1 ts)[j]? := by
      rw [← r4, List.getElem?_take_of_lt (by omega)]
    have e : (flat1 ts)[j]? = some (.int .i64 (tt ts j)) := by
      unfold flat1 tt
      rw [List.getElem?_map, List.getElem?_eq_getElem hj]; rfl
    rw [Nat.zero_add]
    simp only [World.cell?, hg]
    have := h4.trans e
    simpa using this
set_option maxHeartbeats 1000000 in
theorem part_any (lo hi p : Int) (h : 0 ≤ lo ∧ lo ≤ hi ∧ hi ≤ 131070) (hp : 0 ≤ p ∧ p ≤ 65535) (w : World) :
    Calls Try.prog 56 #[.agg #[.int .i64 lo, .int .i64 hi], .int .u16 p] w fun e w' => e = .returned (.int .i64 (prS lo hi p)) ∧ Below w.heap.size w w' := by
  have h1 : 0 ≤ (hi - lo) * p := Int.mul_nonneg (by omega) hp.1
  have h2 : (hi - lo) * p ≤ (hi - lo) * 65535 := Int.mul_le_mul_of_nonneg_left hp.2 (by omega)
  obtain ⟨q1, q2⟩ := prS_in h.2.1 hp
  have HG := Lib.hid (show prS lo hi p = lo + (hi - lo) * p / 65535 from rfl)
  have v0 : wrap64 (hi - lo) = hi - lo := by unfold wrap64; omega
  generalize hd : hi - lo = d at *
  generalize hQ : d * p = Q at *
  have v1 : wrap64 Q = Q := by unfold wrap64; omega
  have v2 : Q.tdiv 65535 = Q / 65535 := Int.tdiv_eq_ediv_of_nonneg h1
  have hg := HG.out
  have v3 : wrap64 (Q / 65535) = Q / 65535 := by unfold wrap64; omega
  have v4 : wrap64 (lo + Q / 65535) = lo + Q / 65535 := by unfold wrap64; omega
  have v5 : wrap64 p = p := by unfold wrap64; omega
  generalize prS lo hi p = R at *
  have HA := Lib.hid (show Below w.heap.size w (w.alloc (.cells #[.int .i64 lo, .int .i64 hi] 23)) from (Below.refl _ _).alloc (Nat.le_refl _) _)
  go_enter Try.func56, Try.ntmps56
  go_wp2_with fail
  go_ret
  exact ⟨ret_int (by rw [hg]), HA.out⟩
end Go.Proofs.Ytcchmjbedppfnaa

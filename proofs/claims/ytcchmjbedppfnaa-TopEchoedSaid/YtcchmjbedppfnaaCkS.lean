/-
  Clock: what the parent shows; houses in memory; joined and sound houses.
-/
import Derived.Test.YtcchmjbedppfnaaCkR
namespace Go.Proofs.Ytcchmjbedppfnaa
open Go.RowKit Go.Shelf
set_option linter.unusedSimpArgs false
/-- a clock that is known -/
structure Kc where
  p : Int
  r : Int
  os : List Of
  deriving Inhabited
def kc (ks : List Kc) (k : Nat) : Kc := ks[k]?.getD default
def Kcs (n₀ : Nat) (W : World) (sv : Value) (ks : List Kc) : Prop :=
  ∃ a cap, sv = .slice a ks.length cap ∧ ks.length ≤ cap ∧ ∀ k, k < ks.length → ∃ b off s, a = some ⟨b, off, none⟩ ∧ b < n₀ ∧
    W.cell? ⟨b, off + k * 3, none⟩ = some (.int .i64 (kc ks k).p) ∧ W.cell? ⟨b, off + k * 3 + 1, none⟩ = some (.int .i64 (kc ks k).r) ∧ W.cell? ⟨b, off + k * 3 + 2, none⟩ = some s ∧ Ofs n₀ W s (kc ks k).os
theorem Kcs.mono {n₀ m : Nat} {W W' : World} {sv : Value} {ks : List Kc} (h : Kcs n₀ W sv ks) (hb : Below n₀ W W') (hm : n₀ ≤ m) : Kcs m W' sv ks := by
  obtain ⟨a, cap, e, hl, hc⟩ := h
  refine ⟨a, cap, e, hl, fun k hk => ?_⟩
  obtain ⟨b, off, s, h1, h2, c0, c1, c2, ho⟩ := hc k hk
  exact ⟨b, off, s, h1, Nat.lt_of_lt_of_le h2 hm, (hb.cell (p := ⟨b, _, none⟩) h2).trans c0, (hb.cell (p := ⟨b, _, none⟩) h2).trans c1, (hb.cell (p := ⟨b, _, none⟩) h2).trans c2, ho.mono hb hm⟩
theorem Kcs.at {W W' : World} {sv : Value} {ks : List Kc} (h : Kcs W.heap.size W sv ks) (hb : Below W.heap.size W W') : Kcs W'.heap.size W' sv ks := h.mono hb hb.size
theorem Kcs.form {n₀ : Nat} {W : World} {sv : Value} {ks : List Kc} (h : Kcs n₀ W sv ks) : ∃ a c, sv = .slice a ks.length c := by
  obtain ⟨a, c, rfl, -, -⟩ := h
  exact ⟨a, c, rfl⟩
/-- each clock has Root or a clock before it as its parent -/
def jnB (ks : List Kc) : Bool := (List.range ks.length).all fun k => decide ((kc ks k).p < (k : Int))
theorem jnB_ok {ks : List Kc} (h : ∀ k, k < ks.length → (kc ks k).p < (k : Int)) : jnB ks = true := by
  unfold jnB
  rw [List.all_eq_true]
  exact fun k hk => decide_eq_true (h k (List.mem_range.1 hk))
theorem jnB_bad {ks : List Kc} {k : Nat} (hk : k < ks.length) (h : ¬ (kc ks k).p < (k : Int)) : jnB ks = false := by
  unfold jnB
  rw [List.all_eq_false]
  exact ⟨k, List.mem_range.2 hk, by simpa using h⟩
set_option maxRecDepth 100000 in
set_option maxHeartbeats 4000000 in
theorem joined_any (sv : Value) (ks : List Kc) (hl : ks.length ≤ 64) (w : World) (hK : Kcs w.heap.size w sv ks) :
    Calls Try.prog 138 #[sv] w fun e w' => e = .returned (.bool (jnB ks)) ∧ Below w.heap.size w w' := by
  have HOK := Lib.hid (fun h => jnB_ok (ks := ks) h)
  have HBAD := Lib.hid (fun k hk h => jnB_bad (ks := ks) (k := k) hk h)
  obtain ⟨a, cap, hsv, -, hcc⟩ := hK
  subst hsv
  have HC := Lib.hid hcc
  clear hcc
  generalize jnB ks = J at *
  generalize ks.length = len at *
  go_enter Try.func138, Try.ntmps138
  go_wp2_with fail
  go_loopw [7] (fun i wr => ∃ k : Nat, k ≤ len ∧ i = .int .i64 k ∧ (∀ j, j < k → (kc ks j).p < (j : Int)) ∧ Below w.heap.size w wr) (fun i _ => len - (intOf i).toNat)
  case atStart => exact ⟨0, Nat.zero_le _, rfl, fun j hj => absurd hj (Nat.not_lt_zero _), Below.refl _ _⟩
  case round =>
    obtain ⟨k, hk, rfl, hin, hB⟩ := hrel
    have HIN := Lib.hid hin
    have HB := Lib.hid hB
    clear hin
    by_cases hlt : k < len
    · have hki : (k : Int) < (len : Int) := by omega
      obtain ⟨b, off, s, hab, hb, e0, e1, e2, ho⟩ := HC.out k hlt
      subst hab
      have m0 := (hB.cell (p := ⟨b, off + k * 3, none⟩) hb).trans e0
      have m1 := (hB.cell (p := ⟨b, off + k * 3 + 1, none⟩) hb).trans e1
      have m2 := (hB.cell (p := ⟨b, off + k * 3 + 2, none⟩) hb).trans e2
      obtain ⟨a5, c5, hs⟩ := ho.form
      subst hs
      have HBk := Lib.hid (HBAD.out k hlt)
      have HBw := Lib.hid (show ∀ o, Below w.heap.size w (wr.alloc o) from fun o => HB.out.alloc HB.out.size o)
      clear e0 e1 e2 ho hB
      generalize hp : (kc ks k).p = p at *
      have HP := Lib.hid hp
      clear hp
      generalize (kc ks k).r = r at *
      generalize (kc ks k).os.length = n5 at *
      by_cases hpk : p < (k : Int)
      · have hge : ¬ (k : Int) ≤ p := by omega
        go_wp2_with fail
        go_roundw
        case rel => exact ⟨k + 1, by omega, by go_num, fun j hj => (by by_cases e : j = k; (subst e; rw [HP.out]; exact hpk); exact HIN.out j (by omega)), HBw.out _⟩
        case measure => simp [intOf]; omega
      · have hge : (k : Int) ≤ p := by omega
        have hj := HBk.out hge
        go_wp2_with fail
        go_ret
        exact ⟨by first | rfl | exact ret_bool hj.symm, HBw.out _⟩
    · obtain rfl : k = len := by omega
      clear hB
      go_wp2_with fail
      go_ret
      exact ⟨ret_bool (HOK.out HIN.out).symm, HB.out⟩
/-- all clocks are sound -/
noncomputable def shB (ks : List Kc) : Bool := (List.range ks.length).all fun k => sdB (kc ks k).r (kc ks k).os
theorem shB_ok {ks : List Kc} (h : ∀ k, k < ks.length → sdB (kc ks k).r (kc ks k).os = true) : shB ks = true := by
  unfold shB
  rw [List.all_eq_true]
  exact fun k hk => h k (List.mem_range.1 hk)
theorem shB_bad {ks : List Kc} {k : Nat} (hk : k < ks.length) (h : sdB (kc ks k).r (kc ks k).os = false) : shB ks = false := by
  unfold shB
  rw [List.all_eq_false]
  exact ⟨k, List.mem_range.2 hk, by rw [h]; decide⟩
set_option maxRecDepth 100000 in
set_option maxHeartbeats 4000000 in
theorem hsound_any (sv : Value) (ks : List Kc) (hl : ks.length ≤ 64) (hv : ∀ k, k < ks.length → Valid (kc ks k).r (kc ks k).os) (w : World) (hK : Kcs w.heap.size w sv ks) :
    Calls Try.prog 139 #[sv] w fun e w' => e = .returned (.bool (shB ks)) ∧ Below w.heap.size w w' := by
  have HOK := Lib.hid (fun h => shB_ok (ks := ks) h)
  have HBAD := Lib.hid (fun k hk h => shB_bad (ks := ks) (k := k) hk h)
  have HV := Lib.hid hv
  obtain ⟨a, cap, hsv, -, hcc⟩ := hK
  subst hsv
  have HC := Lib.hid hcc
  clear hcc hv
  generalize shB ks = J at *
  generalize ks.length = len at *
  go_enter Try.func139, Try.ntmps139
  go_wp2_with fail
  go_loopw [7] (fun i wr => ∃ k : Nat, k ≤ len ∧ i = .int .i64 k ∧ (∀ j, j < k → sdB (kc ks j).r (kc ks j).os = true) ∧ Below w.heap.size w wr) (fun i _ => len - (intOf i).toNat)
  case atStart => exact ⟨0, Nat.zero_le _, rfl, fun j hj => absurd hj (Nat.not_lt_zero _), Below.refl _ _⟩
  case round =>
    obtain ⟨k, hk, rfl, hin, hB⟩ := hrel
    have HIN := Lib.hid hin
    have HB := Lib.hid hB
    clear hin
    by_cases hlt : k < len
    · have hki : (k : Int) < (len : Int) := by omega
      obtain ⟨b, off, s, hab, hb, e0, e1, e2, ho⟩ := HC.out k hlt
      subst hab
      have m0 := (hB.cell (p := ⟨b, off + k * 3, none⟩) hb).trans e0
      have m1 := (hB.cell (p := ⟨b, off + k * 3 + 1, none⟩) hb).trans e1
      have m2 := (hB.cell (p := ⟨b, off + k * 3 + 2, none⟩) hb).trans e2
      have ho2 := ho.mono hB hB.size
      have c81 := Lib.hid (fun W (hbw : Below wr.heap.size wr W) => sound_any (kc ks k).p (kc ks k).r s (kc ks k).os (HV.out k hlt) W (ho2.at hbw))
      obtain ⟨a5, c5, hs⟩ := ho.form
      subst hs
      have HBk := Lib.hid (HBAD.out k hlt)
      have HBw := Lib.hid (show ∀ o, Below w.heap.size w (wr.alloc o) from fun o => HB.out.alloc HB.out.size o)
      clear e0 e1 e2 ho hB ho2
      generalize hsd : sdB (kc ks k).r (kc ks k).os = sd at *
      have HSD := Lib.hid hsd
      clear hsd
      generalize (kc ks k).p = p at *
      generalize (kc ks k).os.length = n5 at *
      have hA1 : Below wr.heap.size wr (wr.alloc (.cells #[.int .i64 p, .int .i64 (kc ks k).r, .slice a5 n5 c5] 129)) := (Below.refl _ _).alloc (Nat.le_refl _) _
      have HC1 := Lib.hid (c81.out _ hA1)
      have hz := HB.out.size
      clear hA1
      go_wp2_with fail
      refine HC1.out.mono ?_
      rintro e w3 ⟨rfl, hb3⟩
      have HB3 := Lib.hid ((HBw.out (.cells #[.int .i64 p, .int .i64 (kc ks k).r, .slice a5 n5 c5] 129)).trans (hb3.mono (by simp; omega)))
      clear hb3
      cases sd
      · have hj := HBk.out (by trivial)
        go_wp2_with fail
        go_ret
        exact ⟨by first | rfl | exact ret_bool hj.symm, HB3.out⟩
      · go_wp2_with fail
        go_roundw
        case rel => exact ⟨k + 1, by omega, by go_num, fun j hj => (by by_cases e : j = k; (subst e; exact HSD.out); exact HIN.out j (by omega)), HB3.out⟩
        case measure => simp [intOf]; omega
    · obtain rfl : k = len := by omega
      clear hB
      go_wp2_with fail
      go_ret
      exact ⟨ret_bool (HOK.out HIN.out).symm, HB.out⟩
end Go.Proofs.Ytcchmjbedppfnaa

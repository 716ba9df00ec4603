/-
  Clock: the true times of stamps, on both sides.
-/
import Derived.Test.YtcchmjbedppfnaaEvB
import Derived.Test.YtcchmjbedppfnaaLawCtr
import Derived.Test.YtcchmjbedppfnaaCkZ
import Derived.Deep.Cut
namespace Go.Proofs.Ytcchmjbedppfnaa
open Go.RowKit Go.Shelf
set_option linter.unusedSimpArgs false
theorem infoS : (Try.prog.info? 23).map (fun i => (i.zero, i.size, i.bytes)) = some (some (.agg #[.int .i64 0, .int .i64 0]), 2, 16) := by kernel_rfl
theorem two_newS (W : World) (x y : Value) : ∀ (j : Nat) (u : Value), [x, y][j]? = some u → (W.alloc (.cells #[x, y] 23)).cell? ((⟨W.heap.size, 0, none⟩ : Addr).add j) = some u := by
  intro j u hj
  match j, hj with
  | 0, hj => simp at hj; subst hj; simp [Addr.add]
  | 1, hj => simp at hj; subst hj; simp [Addr.add]
theorem sps_none (n : Nat) (W : World) : Sps n W (.slice none 0 0) [] := ⟨none, 0, rfl, Nat.le_refl _, fun k hk => by simp at hk⟩
/-- the error of the first k stamps -/
noncomputable def tmE (cs : List Cl) (ss : List (Int × Int)) : Nat → Int
  | 0 => 0
  | k + 1 => if tmE cs ss k = 0 then (timeR cs (sp ss k).1 (sp ss k).2).e else tmE cs ss k
/-- the times of the first k stamps -/
noncomputable def tmTo (cs : List Cl) (ss : List (Int × Int)) : Nat → List (Int × Int)
  | 0 => []
  | k + 1 => tmTo cs ss k ++ [((timeR cs (sp ss k).1 (sp ss k).2).lo, (timeR cs (sp ss k).1 (sp ss k).2).hi)]
theorem tmTo_len (cs : List Cl) (ss : List (Int × Int)) : ∀ k, (tmTo cs ss k).length = k
  | 0 => rfl
  | k + 1 => by simp [tmTo, tmTo_len cs ss k]
theorem tmE_stays {cs : List Cl} {ss : List (Int × Int)} {E : Int} {k : Nat} (hE : tmE cs ss k = E) (h0 : E ≠ 0) : ∀ m, k ≤ m → tmE cs ss m = E
  | 0, h => by obtain rfl : k = 0 := by omega
               exact hE
  | m + 1, h => by
    by_cases e : k = m + 1
    · subst e; exact hE
    · have ih := tmE_stays hE h0 m (by omega)
      show (if tmE cs ss m = 0 then _ else tmE cs ss m) = E
      rw [ih, if_neg h0]
noncomputable def tmsE (cs : List Cl) (ss : List (Int × Int)) : Int := if entE cs = 0 then (if 128 < ss.length then 6 else tmE cs ss ss.length) else entE cs
/-- what Times gives -/
def TmsR (cs : List Cl) (ss : List (Int × Int)) (w : World) (e : Ending) (w' : World) : Prop :=
  ∃ v E, e = .returned (.tuple #[v, .int .i64 E]) ∧ E = tmsE cs ss ∧ Sps w'.heap.size w' v (if E = 0 then tmTo cs ss ss.length else []) ∧ Below w.heap.size w w'
section
set_option maxRecDepth 100000
set_option maxHeartbeats 8000000
theorem times_any (lv sv : Value) (cs : List Cl) (ss : List (Int × Int)) (w : World) (hC : Cls w.heap.size w lv cs) (hS : Sps w.heap.size w sv ss) :
    Calls Try.prog 39 #[lv, sv] w (TmsR cs ss w) := by
  have c98 := enter_any lv cs w hC
  have c99 := Lib.hid (fun (h0 : entE cs = 0) v c t W (hK : Kcs W.heap.size W v (cs.map knC)) => show Calls Try.prog 99 #[v, .agg #[.int .i64 c, .int .i64 t]] W fun e w' => e = .returned (timeR cs c t).out ∧ Below W.heap.size W w' from by
    have q := time_any v (cs.map knC) c t (hs_of h0) W hK
    rwa [show timeR cs c t = timR (cs.map knC) c t from by unfold timeR; rw [if_pos h0]])
  obtain ⟨i0, hi0, hz0, hz1, hz2⟩ := info_parts infoS
  have HR := Lib.hid (show ∀ E w', E = tmsE cs ss → E ≠ 0 → Below w.heap.size w w' → TmsR cs ss w (.returned (.tuple #[.slice none 0 0, .int .i64 E])) w' from fun E w' h1 h2 h3 => ⟨_, E, rfl, h1, by rw [if_neg h2]; exact sps_none _ _, h3⟩)
  have HR0 := Lib.hid (show ∀ v w', 0 = tmsE cs ss → Sps w'.heap.size w' v (tmTo cs ss ss.length) → Below w.heap.size w w' → TmsR cs ss w (.returned (.tuple #[v, .int .i64 0])) w' from fun v w' h1 h2 h3 => ⟨v, 0, rfl, h1, by rw [if_pos rfl]; exact h2, h3⟩)
  generalize TmsR cs ss w = POST at *
  have H1 := Lib.hid (show entE cs ≠ 0 → entE cs = tmsE cs ss from fun h => by unfold tmsE; rw [if_neg h])
  have H2 := Lib.hid (show entE cs = 0 → 128 < ss.length → 6 = tmsE cs ss from fun h h2 => by unfold tmsE; rw [if_pos h, if_pos h2])
  have H3 := Lib.hid (show entE cs = 0 → ¬ 128 < ss.length → ∀ k, k < ss.length → tmE cs ss k = 0 → (timeR cs (sp ss k).1 (sp ss k).2).e ≠ 0 → (timeR cs (sp ss k).1 (sp ss k).2).e = tmsE cs ss from fun h h2 k hk h4 h5 => by
    have q : tmE cs ss (k + 1) = (timeR cs (sp ss k).1 (sp ss k).2).e := by show (if tmE cs ss k = 0 then _ else _) = _; rw [if_pos h4]
    unfold tmsE
    rw [if_pos h, if_neg h2, tmE_stays q h5 ss.length (by omega)])
  have H4 := Lib.hid (show entE cs = 0 → ¬ 128 < ss.length → tmE cs ss ss.length = 0 → 0 = tmsE cs ss from fun h h2 h3 => by unfold tmsE; rw [if_pos h, if_neg h2, h3])
  have HE0 := Lib.hid (show tmE cs ss 0 = 0 from rfl)
  have HES := Lib.hid (show ∀ k, tmE cs ss k = 0 → (timeR cs (sp ss k).1 (sp ss k).2).e = 0 → tmE cs ss (k + 1) = 0 from fun k h h2 => by show (if tmE cs ss k = 0 then _ else _) = _; rw [if_pos h]; exact h2)
  have HT := Lib.hid (fun k => show tmTo cs ss (k + 1) = tmTo cs ss k ++ [((timeR cs (sp ss k).1 (sp ss k).2).lo, (timeR cs (sp ss k).1 (sp ss k).2).hi)] from rfl)
  have HT0 := Lib.hid (show tmTo cs ss 0 = [] from rfl)
  have HTL := Lib.hid (fun k => tmTo_len cs ss k)
  obtain ⟨a, cap, hlv⟩ := hC.form
  subst hlv
  obtain ⟨a2, cap2, rfl, -, hcc⟩ := hS
  have HS := Lib.hid hcc
  clear hcc
  clear hC
  unfold EntR at c98
  unfold R3.out at c99
  generalize tmsE cs ss = T at *
  generalize cs.map knC = ks at *
  generalize cs.length = len at *
  generalize ss.length = n at *
  generalize entE cs = E0 at *
  by_cases h0 : E0 = 0
  rotate_left
  · have hb0 : (E0 != 0) = true := by simpa using h0
    have h1 := H1.out h0
    go_enter Try.func39, Try.ntmps39
    go_wp2_with fail
    refine c98.mono ?_
    rintro e w1 ⟨v, E, rfl, hE, -, ⟨a1, n1, c1, rfl⟩, hb⟩
    subst hE
    have HB := Lib.hid hb
    have H1h := Lib.hid h1
    clear hb h1
    go_wp2_with fail
    exact HR.out _ _ H1h.out h0 HB.out
  have c99b := Lib.hid (c99.out h0)
  have H2b := Lib.hid (H2.out h0)
  have H3b := Lib.hid (H3.out h0)
  have H4b := Lib.hid (H4.out h0)
  clear H1 H2 H3 H4 c99
  subst h0
  by_cases hbig : (128 : Int) < (n : Int)
  · have h6 := Lib.hid (H2b.out (by omega))
    go_enter Try.func39, Try.ntmps39
    go_wp2_with fail
    refine c98.mono ?_
    rintro e w1 ⟨v, E, rfl, hE, -, ⟨a1, n1, c1, rfl⟩, hb⟩
    subst hE
    have HB := Lib.hid hb
    clear hb
    go_wp2_with fail
    exact HR.out 6 _ h6.out (by decide) HB.out
  have H3c := Lib.hid (H3b.out (by omega))
  have H4c := Lib.hid (H4b.out (by omega))
  clear H2b H3b H4b
  go_enter Try.func39, Try.ntmps39
  go_wp2_with fail
  refine c98.mono ?_
  rintro e w1 ⟨v, E, rfl, hE, hK, ⟨a1, n1, c1, rfl⟩, hb⟩
  subst hE
  have HK := Lib.hid (hK rfl)
  have HB1 := Lib.hid hb
  clear hb hK
  go_wp2_with fail
  go_loopw [8, 26] (fun v iv wr => ∃ k : Nat, k ≤ n ∧ iv = .int .i64 k ∧ wr.ownsRow w1.heap.size 23 2 v k (flat2 (tmTo cs ss k)) ∧ tmE cs ss k = 0 ∧ Below w.heap.size w wr ∧ Below w1.heap.size w1 wr) (fun _ iv _ => n - (intOf iv).toNat)
  case atStart => exact ⟨0, Nat.zero_le _, rfl, by rw [HT0.out]; exact World.ownsRow_nil _ _ _ _, HE0.out, HB1.out, Below.refl _ _⟩
  case round =>
    obtain ⟨k, hk, rfl, hrow, hte, hB, hB1⟩ := hrel
    obtain ⟨a0, c0, hv0⟩ := own_form hrow
    subst hv0
    have HROW := Lib.hid hrow
    have HB := Lib.hid hB
    have HBv := Lib.hid hB1
    have HTE := Lib.hid hte
    have hzr := hB.size
    clear hrow hte
    by_cases hlt : k < n
    · have hki : (k : Int) < (n : Int) := by omega
      obtain ⟨b, off, hab, hbl, e0, e1⟩ := HS.out k hlt
      subst hab
      have m0 := (hB.cell (p := ⟨b, off + k * 2, none⟩) hbl).trans e0
      have m1 := (hB.cell (p := ⟨b, off + k * 2 + 1, none⟩) hbl).trans e1
      have HTk := Lib.hid (HT.out k)
      have H3k := Lib.hid (H3c.out k hlt HTE.out)
      have HESk := Lib.hid (HES.out k HTE.out)
      have hA1 : Below wr.heap.size wr (wr.alloc (.cells #[.int .i64 (sp ss k).1, .int .i64 (sp ss k).2] 49)) := (Below.refl _ _).alloc (Nat.le_refl _) _
      have HROW1 := Lib.hid (own_below HROW.out hA1)
      have HB1a := Lib.hid (HB.out.trans (hA1.mono hzr))
      have HBva := Lib.hid (HBv.out.trans (hA1.mono HBv.out.size))
      have HC9 := Lib.hid (c99b.out (.slice a1 n1 c1) (sp ss k).1 (sp ss k).2 _ ((HK.out.at HBv.out).at hA1))
      clear e0 e1 hB hB1 hA1
      generalize timeR cs (sp ss k).1 (sp ss k).2 = q at *
      generalize (sp ss k).1 = s0 at *
      generalize (sp ss k).2 = s1 at *
      obtain ⟨q0, q1, qe⟩ := q
      dsimp only at *
      go_wp2_with fail
      refine HC9.out.mono ?_
      rintro e w2 ⟨rfl, hb2⟩
      have HROW2 := Lib.hid (own_below HROW1.out hb2)
      have HB2 := Lib.hid (HB1a.out.trans (hb2.mono HB1a.out.size))
      have HBv2 := Lib.hid (HBva.out.trans (hb2.mono HBva.out.size))
      clear hb2 m0 m1
      have hA2 : Below w2.heap.size w2 (w2.alloc (.cells #[.int .i64 q0, .int .i64 q1] 23)) := (Below.refl _ _).alloc (Nat.le_refl _) _
      have hz2w := HB2.out.size
      by_cases hq : qe = 0
      rotate_left
      · have hb0 : (qe != 0) = true := by simpa using hq
        have HB3 := Lib.hid (HB2.out.trans (hA2.mono hz2w))
        have H3q := Lib.hid (H3k.out hq)
        clear hA2
        go_wp2_with fail
        exact HR.out qe _ H3q.out hq HB3.out
      subst hq
      obtain ⟨V2, hV2⟩ : ∃ V2, V2 = w2.alloc (.cells #[.int .i64 q0, .int .i64 q1] 23) := ⟨_, rfl⟩
      rw [← hV2] at hA2
      have kx : Bx2 V2 w2.heap.size (.int .i64 q0) (.int .i64 q1) := by rw [hV2]; exact Bx2.new _ _ _
      have hzV2 : w2.heap.size < V2.heap.size := by rw [hV2]; simp
      have HROW3 := Lib.hid ((own_below HROW2.out hA2).alloc (.cells #[.int .i64 q0, .int .i64 q1] 23))
      have HB3 := Lib.hid ((HB2.out.trans (hA2.mono hz2w)).alloc (by omega) (.cells #[.int .i64 q0, .int .i64 q1] 23))
      have HBv3 := Lib.hid ((HBv2.out.trans (hA2.mono HBv2.out.size)).alloc (by have := HBv2.out.size; omega) (.cells #[.int .i64 q0, .int .i64 q1] 23))
      have hzr1 := HBv.out.size
      have hzr2 := HBv2.out.size
      have hz10 := HB1.out.size
      go_upto_region 13 with fail
      try rw [← hV2]
      have d0 := kx.c0
      have d1 := kx.c1
      clear hV2 hA2 kx
      iterate 10 go_step
      refine wpList_append_own _ rfl _ _ 50 rfl w1.heap.size 23 i0 (.agg #[.int .i64 0, .int .i64 0]) 2 16 Try.underlying50 hi0 hz0 hz1 hz2 rfl (by decide) _ _ _ rfl HROW3.out ⟨V2.heap.size, 0, none⟩ 1 1 [.int .i64 q0, .int .i64 q1] rfl rfl (two_newS _ _ _) (by simp [Value.oneCell']) (by unfold maxLen; omega) (by omega) (by simp; omega) ?_
      intro v' w5 hrow' hgrow _
      have HG := Lib.hid hgrow
      have HROW5 := Lib.hid hrow'
      obtain ⟨a6, c6, rfl⟩ := own_form hrow'
      clear hrow' hgrow
      have HB5 := Lib.hid (HB3.out.grown HG.out (by simp; omega) (fun j hj => Nat.le_trans hz10 (HROW3.out.lt j hj).1))
      have HBv5 := Lib.hid (HBv3.out.grown HG.out (by simp; omega) (fun j hj => (HROW3.out.lt j hj).1))
      go_wp2_with fail
      go_roundw
      case rel => exact ⟨k + 1, by omega, by go_num, by rw [HTk.out, flat2_snoc]; exact HROW5.out, HESk.out (by first | rfl | trivial), HB5.out, HBv5.out⟩
      case measure => simp [intOf]; omega
    · obtain rfl : k = n := by omega
      have hsp : Sps wr.heap.size wr (.slice a0 k c0) (tmTo cs ss k) := sps_of_owns (t := 23) (base := w1.heap.size) (by rw [HTL.out]; exact HROW.out)
      have HSP := Lib.hid hsp
      have H4d := Lib.hid (H4c.out HTE.out)
      clear hB hB1 hsp
      go_wp2_with fail
      exact HR0.out (.slice a0 k c0) _ H4d.out HSP.out HB.out
end
end Go.Proofs.Ytcchmjbedppfnaa

/-
  Clock: Ranks.
-/
import Derived.Test.YtcchmjbedppfnaaEvB
import Derived.Deep.Cut
namespace Go.Proofs.Ytcchmjbedppfnaa
open Go.RowKit Go.Shelf
set_option linter.unusedSimpArgs false
theorem infoR : (Try.prog.info? 63).map (fun i => (i.zero, i.size, i.bytes)) = some (some (.agg #[.int .i64 0, .int .i64 0]), 2, 16) := by kernel_rfl
theorem two_newR (W : World) (x y : Value) : ∀ (j : Nat) (u : Value), [x, y][j]? = some u → (W.alloc (.cells #[x, y] 63)).cell? ((⟨W.heap.size, 0, none⟩ : Addr).add j) = some u := by
  intro j u hj
  match j, hj with
  | 0, hj => simp at hj; subst hj; simp [Addr.add]
  | 1, hj => simp at hj; subst hj; simp [Addr.add]
/-- what Ranks gives -/
def RnkR (zs : List (Int × Int)) (w : World) (e : Ending) (w' : World) : Prop :=
  ∃ v E, e = .returned (.tuple #[v, .int .i64 E]) ∧ E = evE zs ∧ Sps w'.heap.size w' v (if E = 0 then rkTo zs zs.length else []) ∧ Below w.heap.size w w'
theorem sps_nil (n : Nat) (W : World) : Sps n W (.slice none 0 0) [] := ⟨none, 0, rfl, Nat.le_refl _, fun k hk => by simp at hk⟩
section
set_option maxRecDepth 100000
set_option maxHeartbeats 4000000
theorem ranks46_any (sv : Value) (zs : List (Int × Int)) (w : World) (hZ : Sps w.heap.size w sv zs) :
    Calls Try.prog 46 #[sv] w (RnkR zs w) := by
  obtain ⟨i0, hi0, hz0, hz1, hz2⟩ := info_parts infoR
  have c103 := checkEvents_any sv zs w hZ
  have HR := Lib.hid (show ∀ E w', E = evE zs → E ≠ 0 → Below w.heap.size w w' → RnkR zs w (.returned (.tuple #[.slice none 0 0, .int .i64 E])) w' from fun E w' h1 h2 h3 => ⟨_, E, rfl, h1, by rw [if_neg h2]; exact sps_nil _ _, h3⟩)
  have HR0 := Lib.hid (show ∀ v w', 0 = evE zs → Sps w'.heap.size w' v (rkTo zs zs.length) → Below w.heap.size w w' → RnkR zs w (.returned (.tuple #[v, .int .i64 0])) w' from fun v w' h1 h2 h3 => ⟨v, 0, rfl, h1, by rw [if_pos rfl]; exact h2, h3⟩)
  generalize RnkR zs w = POST at *
  have HLE := Lib.hid (show evE zs = 0 → zs.length ≤ 128 from fun h => (evE_get h).1)
  have c104 := Lib.hid (fun (h : zs.length ≤ 128) a W (hb : Below w.heap.size w W) => ranks_any sv zs a h W (hZ.at hb))
  have HT := Lib.hid (fun k => show rkTo zs (k + 1) = rkTo zs k ++ [rkS zs (sp zs k)] from rfl)
  have HT0 := Lib.hid (show rkTo zs 0 = [] from rfl)
  have HTL := Lib.hid (fun k => rkTo_len zs k)
  obtain ⟨a, cap, rfl, -, hcc⟩ := hZ
  have HC := Lib.hid hcc
  clear hcc
  generalize hE : evE zs = E at *
  generalize zs.length = len at *
  by_cases h0 : E = 0
  rotate_left
  · have hb0 : (E != 0) = true := by simpa using h0
    clear HC c104 HR0 HLE
    go_enter Try.func46, Try.ntmps46
    go_wp2_with fail
    refine c103.mono ?_
    rintro e w1 ⟨rfl, hb⟩
    have HB := Lib.hid hb
    clear hb
    go_wp2_with fail
    exact HR.out E _ rfl h0 HB.out
  subst h0
  have hl := HLE.out (by first | rfl | trivial)
  have c104b := Lib.hid (c104.out hl)
  clear c104 HR hE
  go_enter Try.func46, Try.ntmps46
  go_wp2_with fail
  refine c103.mono ?_
  rintro e w1 ⟨rfl, hb⟩
  have HB1 := Lib.hid hb
  clear hb c103
  go_wp2_with fail
  go_loopw [5, 15] (fun v iv wr => ∃ k : Nat, k ≤ len ∧ iv = .int .i64 k ∧ wr.ownsRow w.heap.size 63 2 v k (flat2 (rkTo zs k)) ∧ Below w.heap.size w wr) (fun _ iv _ => len - (intOf iv).toNat)
  case atStart => exact ⟨0, Nat.zero_le _, rfl, by rw [HT0.out]; exact World.ownsRow_nil _ _ _ _, HB1.out⟩
  case round =>
    obtain ⟨k, hk, rfl, hrow, hB⟩ := hrel
    obtain ⟨a0, c0, hv0⟩ := own_form hrow
    subst hv0
    have HROW := Lib.hid hrow
    have HB := Lib.hid hB
    have hzr := hB.size
    clear hrow
    by_cases hlt : k < len
    · have hki : (k : Int) < (len : Int) := by omega
      obtain ⟨b, off, hab, hb, e0, e1⟩ := HC.out k hlt
      subst hab
      have m0 := (hB.cell (p := ⟨b, off + k * 2, none⟩) hb).trans e0
      have m1 := (hB.cell (p := ⟨b, off + k * 2 + 1, none⟩) hb).trans e1
      have HTk := Lib.hid (HT.out k)
      have hA1 : Below wr.heap.size wr (wr.alloc (.cells #[.int .i64 (sp zs k).1, .int .i64 (sp zs k).2] 23)) := (Below.refl _ _).alloc (Nat.le_refl _) _
      have HROW1 := Lib.hid (own_below HROW.out hA1)
      have HB1a := Lib.hid (HB.out.trans (hA1.mono hzr))
      have HC4 := Lib.hid (c104b.out (sp zs k) _ HB1a.out)
      unfold spv at HC4
      clear e0 e1 hB hA1
      generalize rkS zs (sp zs k) = rs at *
      generalize (sp zs k).1 = s0 at *
      generalize (sp zs k).2 = s1 at *
      obtain ⟨r0, r1⟩ := rs
      dsimp only at *
      go_wp2_with fail
      refine HC4.out.mono ?_
      rintro e w2 ⟨rfl, hb2⟩
      have HROW2 := Lib.hid (own_below HROW1.out hb2)
      have HB2 := Lib.hid (HB1a.out.trans (hb2.mono HB1a.out.size))
      have hz2w := HB2.out.size
      clear hb2
      have HROW3 := Lib.hid (HROW2.out.alloc (.cells #[.int .i64 r0, .int .i64 r1] 63))
      have HB3 := Lib.hid (HB2.out.alloc hz2w (.cells #[.int .i64 r0, .int .i64 r1] 63))
      go_wp2_with (at_builtin; refine wpList_append_own _ rfl _ _ 59 rfl w.heap.size 63 i0 (.agg #[.int .i64 0, .int .i64 0]) 2 16 Try.underlying59 hi0 hz0 hz1 hz2 rfl (by decide) _ _ _ rfl HROW3.out ⟨w2.heap.size, 0, none⟩ 1 1 [.int .i64 r0, .int .i64 r1] rfl rfl (two_newR _ _ _) (by simp [Value.oneCell']) (by unfold maxLen; omega) (by omega) (by simp; omega) ?_; intro v' w5 hrow' hgrow _; have HG := Lib.hid hgrow; have HROW5 := Lib.hid hrow'; obtain ⟨a6, c6, rfl⟩ := own_form hrow'; clear hrow' hgrow)
      have HB5 := Lib.hid (HB3.out.grown HG.out (by simp; omega) (fun j hj => (HROW3.out.lt j hj).1))
      go_roundw
      case rel => exact ⟨k + 1, by omega, by go_num, by rw [HTk.out, flat2_snoc]; exact HROW5.out, HB5.out⟩
      case measure => simp [intOf]; omega
    · obtain rfl : k = len := by omega
      have hsp : Sps wr.heap.size wr (.slice a0 k c0) (rkTo zs k) := sps_of_owns (t := 63) (base := w.heap.size) (by rw [HTL.out]; exact HROW.out)
      have HSP := Lib.hid hsp
      clear hB hsp
      go_wp2_with fail
      exact HR0.out (.slice a0 k c0) _ (by first | rfl | trivial) HSP.out HB.out
end
end Go.Proofs.Ytcchmjbedppfnaa

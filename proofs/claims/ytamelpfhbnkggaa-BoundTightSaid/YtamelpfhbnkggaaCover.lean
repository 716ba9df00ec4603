/-
  The contract of Cover where it accepts.
-/
import Derived.Test.YtamelpfhbnkggaaBase
import Derived.Test.YtamelpfhbnkggaaSort
import Derived.Test.YtamelpfhbnkggaaMerged
namespace Go.Proofs.Ytamelpfhbnkggaa
open Go.RowKit Go.Shelf

theorem Spans.slice {n₀ : Nat} {W : World} {sv : Value} {zs : List (Int × Int)} (h : Spans n₀ W sv zs) :
    ∃ a cap, sv = .slice a zs.length cap ∧ ∀ k, k < zs.length → ∃ b off, a = some ⟨b, off, none⟩ ∧ b < n₀ ∧
      W.cell? ⟨b, off + k * 2, none⟩ = some (.int .i64 (zs[k]?.getD (0, 0)).1) ∧ W.cell? ⟨b, off + k * 2 + 1, none⟩ = some (.int .i64 (zs[k]?.getD (0, 0)).2) := by
  rcases h with ⟨rfl, rfl⟩ | ⟨b, off, cap, rfl, hb, hr⟩
  · exact ⟨none, 0, rfl, fun k hk => by simp at hk⟩
  · exact ⟨_, cap, rfl, fun k hk => ⟨b, off, rfl, hb, hr k hk⟩⟩
theorem getD_mem {zs : List (Int × Int)} {k : Nat} (hk : k < zs.length) : zs[k]?.getD (0, 0) ∈ zs := by
  simp [hk]
/-- valid spans, as such -/
theorem lift_sp : ∀ zs : List (Int × Int), (∀ z ∈ zs, vB z.1 z.2 = true) → ∃ ss : List Sp, zs = vals ss
  | [], _ => ⟨[], rfl⟩
  | z :: zs, h => by
    obtain ⟨ss, hs⟩ := lift_sp zs (fun y hy => h y (by simp [hy]))
    exact ⟨⟨z, (vB_iff _ _).1 (h z (by simp))⟩ :: ss, by simp [vals] at *; exact hs⟩
theorem Spans.mono {n₀ n₁ : Nat} {W : World} {sv : Value} {zs : List (Int × Int)} (h : Spans n₀ W sv zs) (hn : n₀ ≤ n₁) : Spans n₁ W sv zs := by
  rcases h with h | ⟨b, off, cap, e, hb, hr⟩
  · exact .inl h
  · exact .inr ⟨b, off, cap, e, by omega, hr⟩
/-- what a slice of the call's own holds lies below the heap's end -/
theorem Spans.at {W W' : World} {sv : Value} {zs : List (Int × Int)} (h : Spans W.heap.size W sv zs) (hb : Below W.heap.size W W') : Spans W'.heap.size W' sv zs := (h.below hb).mono hb.size

set_option maxHeartbeats 2000000 in
theorem cover_ok (sv : Value) (zs : List (Int × Int)) (hlen : zs.length ≤ 256) (hv : ∀ z ∈ zs, vB z.1 z.2 = true) (n₀ : Nat) (w : World) (hn₀ : n₀ ≤ w.heap.size) (hI : Spans n₀ w sv zs) :
    Calls Try.prog 41 #[sv] w fun e w' => ∃ v cs, e = .returned (.tuple #[v, .int .i64 0]) ∧ (∃ ss, ss.Perm zs ∧ Asc ss ∧ cs = mrg ss) ∧ Spans w'.heap.size w' v cs ∧ Below w.heap.size w w' := by
  obtain ⟨a, cap, rfl, hcell⟩ := hI.slice
  obtain ⟨ss, hss⟩ := lift_sp zs hv
  have Hss := Lib.hid hss
  have HI := Lib.hid hI
  clear hss hI
  have HV := Lib.hid hv
  have HC := Lib.hid hcell
  clear hv hcell
  generalize hL : zs.length = len at HC hlen ⊢
  have HL := Lib.hid hL
  clear hL
  go_enter Try.func41, Try.ntmps41
  go_wp2_with fail
  go_loopw [13] (fun i wr => ∃ k : Nat, k ≤ len ∧ i = .int .i64 k ∧ Below w.heap.size w wr) (fun i _ => len - (intOf i).toNat)
  case atStart => exact ⟨0, Nat.zero_le _, rfl, Below.refl _ _⟩
  case round =>
    obtain ⟨k, hk, rfl, hB⟩ := hrel
    by_cases hlt : k < len
    · obtain ⟨b, off, rfl, hb, c0, c1⟩ := HC.out k hlt
      have c0' := (hB.cell (p := ⟨b, off + k * 2, none⟩) (Nat.lt_of_lt_of_le hb hn₀)).trans c0
      have c1' := (hB.cell (p := ⟨b, off + k * 2 + 1, none⟩) (Nat.lt_of_lt_of_le hb hn₀)).trans c1
      have hck := HV.out _ (getD_mem (zs := zs) (k := k) (by rw [HL.out]; exact hlt))
      clear c0 c1
      generalize zs[k]?.getD (0, 0) = z at c0' c1' hck
      have cc := fun w => check_ok z.1 z.2 hck w
      clear hck
      go_wp2_with fail
      refine (cc _).mono ?_
      rintro e w1 ⟨rfl, hb1⟩
      go_wp2_with fail
      go_roundw
      case rel => exact ⟨k + 1, by omega, by go_num, (hB.alloc hB.size _).trans (hb1.mono (by have := hB.size; simp; omega))⟩
      case measure => simp [intOf]; omega
    · have hk' : len ≤ k := by omega
      clear hlt
      have hIr := (HI.out.below (hB.mono hn₀)).mono (Nat.le_trans hn₀ hB.size)
      have hsl : ss.length ≤ 256 := by have h1 := HL.out; have h2 := Hss.out; rw [h2] at h1; simp [vals] at h1; omega
      go_wp2_with fail
      refine (callsIn_wide.1 (values_in Fence.wide 10 trivial rfl _ _ _ _)).mono ?_
      rintro e W1 ⟨rfl, hW1⟩
      have hb1 : Below wr.heap.size wr W1 := by rw [hW1]; exact (Below.refl _ _).alloc (Nat.le_refl _) _
      have hbox : W1.cell? ⟨wr.heap.size, 0, none⟩ = some (.slice a len cap) := by rw [hW1]; exact (Boxed.new wr 43 _).cell
      have hlt1 : wr.heap.size < W1.heap.size := by rw [hW1]; simp
      rw [Hss.out] at hIr
      have hI1 := hIr.at hb1
      have hLs : (vals ss).length = len := by rw [← Hss.out]; exact HL.out
      rw [hLs] at hI1
      have cS := sortedFunc_calls 10 (by omega) 118 #[.pointer (some ⟨wr.heap.size, 0, none⟩)] (enters_of Try.func118 (by kernel_rfl) rfl) ss (fun pre => pre <+: ss) ss.length (by omega) (Nat.le_refl _) W1
        (values_stops Fence.wide 9 trivial rfl (by omega) wr.heap.size W1.heap.size _ ss (by omega) W1 hlt1 (Nat.le_refl _) hbox hI1)
      clear hW1 hbox hlt1 hI1 hIr hLs
      go_wp2_with fail
      refine cS.mono ?_
      rintro e W2 ⟨v, st, rfl, hp, hs, hI2, hb2⟩
      clear cS
      obtain ⟨a2, cap2, rfl, -⟩ := hI2.slice
      have hstl : st.length ≤ 256 := by rw [hp.length_eq]; exact hsl
      generalize hvl2 : (vals st).length = len2 at hI2 ⊢
      have Hvl2 := Lib.hid hvl2
      clear hvl2
      go_wp2_with fail
      refine (callsIn_wide.1 (values_in Fence.wide 10 trivial rfl _ _ _ _)).mono ?_
      rintro e W3 ⟨rfl, hW3⟩
      have hb3 : Below W2.heap.size W2 W3 := by rw [hW3]; exact (Below.refl _ _).alloc (Nat.le_refl _) _
      have hbox : W3.cell? ⟨W2.heap.size, 0, none⟩ = some (.slice a2 len2 cap2) := by rw [hW3]; exact (Boxed.new W2 43 _).cell
      have hlt3 : W2.heap.size < W3.heap.size := by rw [hW3]; simp
      have hI3 := hI2.at hb3
      have cM := callsIn_wide.1 (merged_in 10 (by omega) 118 #[.pointer (some ⟨W2.heap.size, 0, none⟩)] (enters_of Try.func118 (by kernel_rfl) rfl) (fun ys => ys = st) (fun pre => pre <+: st) st.length (by omega) W3.heap.size W3 (Nat.le_refl _)
        (values_stops Fence.wide 9 trivial rfl (by omega) W2.heap.size W3.heap.size _ st (by omega) W3 hlt3 (Nat.le_refl _) hbox hI3))
      clear hW3 hbox hlt3 hI3 hI2
      go_wp2_with fail
      refine cM.mono ?_
      rintro e W4 ⟨v, sx, rfl, hsx, hrow, hb4⟩
      clear cM
      have Hsx := Lib.hid hsx
      clear hsx
      go_wp2_with fail
      go_ret2
      refine ⟨v, _, rfl, ⟨vals st, ?_, hs, by rw [Hsx.out]⟩, spans_of_owns hrow, ?_⟩
      · rw [Hss.out]; exact hp.map _
      · have h12 := hB.trans (hb1.mono hB.size)
        have h13 := h12.trans (hb2.mono h12.size)
        have h14 := h13.trans (hb3.mono h13.size)
        exact h14.trans (hb4.mono h14.size)
end Go.Proofs.Ytamelpfhbnkggaa

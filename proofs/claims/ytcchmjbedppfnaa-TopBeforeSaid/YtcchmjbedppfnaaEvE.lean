/-
  Clock: the values of a list are drawn, and joined.
-/
import Derived.Test.YtcchmjbedppfnaaEvA
import Derived.Test.YtcchmjbedppfnaaCkI
namespace Go.Proofs.Ytcchmjbedppfnaa
open Go.RowKit Go.Shelf
set_option linter.unusedSimpArgs false
theorem sp_take {zs : List (Int × Int)} {k : Nat} (hk : k < zs.length) : zs.take (k + 1) = zs.take k ++ [sp zs k] := by
  rw [List.take_add_one]
  congr 1
  unfold sp
  rw [List.getElem?_eq_getElem hk]
  rfl
set_option maxRecDepth 100000 in
set_option maxHeartbeats 4000000 in
theorem values_in (n : Nat) (hn : 1 ≤ n) (l Bs n₀ : Nat) (sv : Value) (zs : List (Int × Int)) (hlen : zs.length ≤ 128)
    (J Jx : List (Int × Int) → World → Prop) (hJ : ∀ pre W W', J pre W → Below W.heap.size W W' → J pre W')
    (hY : ∀ pre (x : Int × Int) W, J pre W → pre.length < 128 → YieldAt Fence.wide (n - 1) Try.prog l #[spv x] W fun e W' =>
      (e = .returned (.bool true) ∧ J (pre ++ [x]) W' ∧ Below n₀ W W') ∨ (e = .returned (.bool false) ∧ Jx (pre ++ [x]) W'))
    (W : World) (_hBs : Bs < n₀) (hn0 : n₀ ≤ W.heap.size) (h1 : W.cell? ⟨Bs, 0, none⟩ = some sv) (hZ : Sps n₀ W sv zs) (hJ0 : J [] W) :
    CallsIn Fence.wide n Try.prog 142 #[.func (.yield l) #[] #[], .pointer (some ⟨Bs, 0, none⟩)] W fun e W' => (∃ v, e = .returned v) ∧
      ((∃ ys, ys = zs ∧ J ys W') ∨ (∃ pre, pre <+: zs ∧ Jx pre W')) := by
  have HJ := Lib.hid hJ
  obtain ⟨a, cap, rfl, -, hcc⟩ := hZ
  have HC := Lib.hid hcc
  have HT := Lib.hid (fun k hk => sp_take (zs := zs) (k := k) hk)
  have HTK := Lib.hid (show ∀ k, k = zs.length → zs.take k = zs from fun k e => by rw [List.take_of_length_le (by rw [e]; exact Nat.le_refl _)])
  have HTL := Lib.hid (show ∀ k, k < zs.length → (zs.take k).length < 128 from fun k hk => by rw [List.length_take]; omega)
  clear hcc
  generalize hll : zs.length = len at *
  clear hll hJ
  refine callsIn_of_wp Try.func142 rfl trivial ?_ rfl
  simp only [Try.ntmps142, List.size_toArray, List.length_cons, List.length_nil, Nat.reduceAdd, Nat.reduceSub, Array.replicate_succ, Array.replicate_zero, List.push_toArray, List.append_toArray, List.nil_append, List.cons_append]
  gi_wp2
  gi_loopw [7] (fun i wr => ∃ k : Nat, k ≤ len ∧ i = .int .i64 k ∧ J (zs.take k) wr ∧ Below n₀ W wr) (fun i _ => len - (intOf i).toNat)
  case atStart => exact ⟨0, Nat.zero_le _, rfl, by simpa using hJ0, Below.refl _ _⟩
  case round =>
    obtain ⟨k, hk, rfl, hJs, hnx⟩ := hrel
    have HJs := Lib.hid hJs
    have HNX := Lib.hid hnx
    have hz := hnx.size
    have hz0 : n₀ ≤ wr.heap.size := by omega
    clear hJs hnx
    by_cases hlt : k < len
    · have hki : (k : Int) < (len : Int) := by omega
      obtain ⟨b, off, hab, hb, e0, e1⟩ := HC.out k hlt
      subst hab
      have m0 := (HNX.out.cell (p := ⟨b, off + k * 2, none⟩) hb).trans e0
      have m1 := (HNX.out.cell (p := ⟨b, off + k * 2 + 1, none⟩) hb).trans e1
      have HTk := Lib.hid (HT.out k hlt)
      have hB2 : Below wr.heap.size wr (wr.alloc (.cells #[.int .i64 (sp zs k).1, .int .i64 (sp zs k).2] 23)) := (Below.refl _ _).alloc (Nat.le_refl _) _
      have hJ2 := HJ.out _ _ _ HJs.out hB2
      obtain ⟨fn, tmps, assign, body, hy, hR⟩ := hY _ (sp zs k) _ hJ2 (HTL.out k hlt)
      unfold spv at hy
      have HB2 := Lib.hid hB2
      clear hJ2 hB2 e0 e1
      generalize sp zs k = s at *
      generalize s.1 = s0 at *
      generalize s.2 = s1 at *
      gi_wp2
      refine hR.mono ?_
      rintro e W3 (⟨rfl, hJ3, hk3⟩ | ⟨rfl, hJx3⟩)
      · have HB3 := Lib.hid (HNX.out.trans ((HB2.out.mono hz0).trans hk3))
        gi_wp2
        go_roundw
        case rel => exact ⟨k + 1, by omega, by go_num, by rw [HTk.out]; exact hJ3, HB3.out⟩
        case measure => simp [intOf]; omega
      · have HPF := Lib.hid (show zs.take k ++ [s] <+: zs by rw [← HTk.out]; exact List.take_prefix _ _)
        gi_wp2
        refine bodyPost_ret (results_none rfl _ _ _) rfl ?_
        exact ⟨⟨_, rfl⟩, .inr ⟨_, HPF.out, hJx3⟩⟩
    · obtain rfl : k = len := by omega
      gi_wp2
      go_end0
      exact ⟨⟨_, rfl⟩, .inl ⟨_, HTK.out k (by first | rfl | trivial), HJs.out⟩⟩
theorem values_stops (n : Nat) (hn : 1 ≤ n) (Bs n₀ : Nat) (sv : Value) (zs : List (Int × Int)) (hlen : zs.length ≤ 128) (w : World)
    (hBs : Bs < n₀) (hn0 : n₀ ≤ w.heap.size) (h1 : w.cell? ⟨Bs, 0, none⟩ = some sv) (hZ : Sps n₀ w sv zs) :
    SeqStopsK Fence.wide n Try.prog 142 #[.pointer (some ⟨Bs, 0, none⟩)] (fun x : Int × Int => #[spv x]) (Below n₀) (fun ys => ys = zs) (fun pre => pre <+: zs) 128 w := fun l J Jx W hW hJ _ hY h00 =>
  values_in n hn l Bs n₀ sv zs hlen J Jx (fun pre A B g hb => hJ pre A B none g ⟨hb.os, hb.tape, hb.output, hb.size, fun k hk _ => hb.block k hk⟩ (fun r e => by cases e)) hY W hBs (Nat.le_trans hn0 hW.size)
    ((hW.cell (p := ⟨Bs, 0, none⟩) (by show Bs < w.heap.size; omega)).trans h1) (hZ.mono (hW.mono hn0) (Nat.le_refl _)) h00
theorem comb_values (sv : Value) (zs : List (Int × Int)) (hlen : zs.length ≤ 128) (f : Int × Int) (W : World) (Bs : Nat) (hZ : Sps W.heap.size W sv zs) (h2 : Bs < W.heap.size) (h5 : W.cell? ⟨Bs, 0, none⟩ = some sv) :
    Calls Try.prog 106 #[.func (.func 142) #[] #[.pointer (some ⟨Bs, 0, none⟩)], spv f, .func (.func 73) #[] #[]] W fun e w' => e = .returned (spv (meets f zs)) ∧ Below W.heap.size W w' := by
  have q := callsIn_wide.1 (combined_in 10 (by omega) 142 #[.pointer (some ⟨Bs, 0, none⟩)] (enters_of Try.func142 (by kernel_rfl) rfl) (fun ys => ys = zs) (fun pre => pre <+: zs) 128 W.heap.size W f (Nat.le_refl _)
      (values_stops 9 (by omega) Bs W.heap.size sv zs hlen W h2 (Nat.le_refl _) h5 hZ))
  refine Calls.mono q ?_
  rintro e w' ⟨ys, rfl, he, hb2⟩
  exact ⟨he, hb2⟩
theorem values107_any (a : Option Addr) (n c : Nat) (w : World) : Calls Try.prog 107 #[.slice a n c] w fun e w' => e = .returned (.func (.func 142) #[] #[.pointer (some ⟨w.heap.size, 0, none⟩)]) ∧ w' = w.alloc (.cells #[.slice a n c] 50) := by
  go_enter Try.func107, Try.ntmps107
  go_wp2_with fail
  go_ret
  exact ⟨by first | rfl | trivial, by first | rfl | trivial⟩
end Go.Proofs.Ytcchmjbedppfnaa

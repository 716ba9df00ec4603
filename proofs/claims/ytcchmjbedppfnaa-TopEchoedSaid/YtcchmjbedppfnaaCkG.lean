/-
  Clock: the offset at a reading: what each exchange tells, one after another.
-/
import Derived.Test.YtcchmjbedppfnaaCkF
import Derived.RangeFuncNested
import Derived.RangeFuncBox
import Derived.RangeFuncBound
import Derived.RangeFuncLeaves
import Derived.TacticsInMore
import Derived.LoopNIn
import Derived.LoopIn
namespace Go.Proofs.Ytcchmjbedppfnaa
open Go.RowKit Go.Shelf
attribute [local go_sem] Oper.semAt_some
set_option linter.unusedSimpArgs false
/-- what an offset tells at a reading -/
def bnd (r t : Int) (o : Of) : Int × Int := (o.lo - grw r (gap t o.rd), o.hi + grw r (gap t o.rd))
def spv (x : Int × Int) : Value := .agg #[.int .i64 x.1, .int .i64 x.2]
/-- offsets whose numbers are small -/
def Small (t : Int) (os : List Of) : Prop := ∀ k, k < os.length → (-100000000000000000 ≤ (of os k).lo ∧ (of os k).lo ≤ 100000000000000000) ∧ (-100000000000000000 ≤ (of os k).hi ∧ (of os k).hi ≤ 100000000000000000) ∧ gap t (of os k).rd ≤ 9007199254740992
theorem bnds_take {r t : Int} {os : List Of} {k : Nat} (hk : k < os.length) : (os.map (bnd r t)).take (k + 1) = (os.map (bnd r t)).take k ++ [bnd r t (of os k)] := by
  rw [List.take_add_one]
  congr 1
  rw [List.getElem?_map]
  unfold of
  rw [List.getElem?_eq_getElem hk]
  rfl
set_option maxRecDepth 100000 in
set_option maxHeartbeats 4000000 in
theorem bounds_in (n : Nat) (hn : 1 ≤ n) (l Bc Bt n₀ : Nat) (r t : Int) (sv : Value) (os : List Of) (hlen : os.length ≤ 64) (hr : 0 ≤ r ∧ r ≤ 1000000) (hos : Small t os)
    (J Jx : List (Int × Int) → World → Prop) (hJ : ∀ pre W W', J pre W → Below W.heap.size W W' → J pre W')
    (hY : ∀ pre (x : Int × Int) W, J pre W → pre.length < 64 → YieldAt Fence.wide (n - 1) Try.prog l #[spv x] W fun e W' =>
      (e = .returned (.bool true) ∧ J (pre ++ [x]) W' ∧ Below n₀ W W') ∨ (e = .returned (.bool false) ∧ Jx (pre ++ [x]) W'))
    (W : World) (hBc : Bc < n₀) (hBt : Bt < n₀) (hn0 : n₀ ≤ W.heap.size) (h1 : W.cell? ⟨Bc, 1, none⟩ = some (.int .i64 r)) (h2 : W.cell? ⟨Bc, 2, none⟩ = some sv) (h3 : W.cell? ⟨Bt, 0, none⟩ = some (.int .i64 t)) (hO : Ofs n₀ W sv os) (hJ0 : J [] W) :
    CallsIn Fence.wide n Try.prog 158 #[.func (.yield l) #[] #[], .pointer (some ⟨Bc, 0, none⟩), .pointer (some ⟨Bt, 0, none⟩)] W fun e W' => (∃ v, e = .returned v) ∧
      ((∃ ys, ys = os.map (bnd r t) ∧ J ys W') ∨ (∃ pre, pre <+: os.map (bnd r t) ∧ Jx pre W')) := by
  have HJ := Lib.hid hJ
  have HO := Lib.hid hO
  have HOS := Lib.hid hos
  obtain ⟨a, cap, rfl, -, -⟩ := hO
  have HT := Lib.hid (fun k hk => bnds_take (r := r) (t := t) (os := os) (k := k) hk)
  have HLN := Lib.hid (show (os.map (bnd r t)).length = os.length from List.length_map _)
  have HB := Lib.hid (show ∀ k, bnd r t (of os k) = ((of os k).lo - grw r (gap t (of os k).rd), (of os k).hi + grw r (gap t (of os k).rd)) from fun _ => rfl)
  generalize os.map (bnd r t) = bs at *
  have HTK := Lib.hid (show ∀ k, k = os.length → bs.take k = bs from fun k e => by rw [List.take_of_length_le (by rw [HLN.out, e]; exact Nat.le_refl _)])
  have HTL := Lib.hid (show ∀ k, k < os.length → (bs.take k).length < 64 from fun k hk => by rw [List.length_take]; omega)
  generalize hll : os.length = len at *
  have HLL := Lib.hid hll
  clear hll hJ hos
  refine callsIn_of_wp Try.func158 rfl trivial ?_ rfl
  simp only [Try.ntmps158, List.size_toArray, List.length_cons, List.length_nil, Nat.reduceAdd, Nat.reduceSub, Array.replicate_succ, Array.replicate_zero, List.push_toArray, List.append_toArray, List.nil_append, List.cons_append]
  gi_wp2
  gi_loopw [9] (fun i wr => ∃ k : Nat, k ≤ len ∧ i = .int .i64 k ∧ J (bs.take k) wr ∧ Below n₀ W wr) (fun i _ => len - (intOf i).toNat)
  case atStart => exact ⟨0, Nat.zero_le _, rfl, by simpa using hJ0, Below.refl _ _⟩
  case round =>
    obtain ⟨k, hk, rfl, hJs, hnx⟩ := hrel
    have HJs := Lib.hid hJs
    have HNX := Lib.hid hnx
    have q1 := (hnx.cell (p := ⟨Bc, 1, none⟩) hBc).trans h1
    have q3 := (hnx.cell (p := ⟨Bt, 0, none⟩) hBt).trans h3
    have hz := hnx.size
    have hz0 : n₀ ≤ wr.heap.size := by omega
    have z1 : ¬ wr.heap.size = Bc := by omega
    have z2 : ¬ Bc = wr.heap.size := by omega
    have z3 : Bc < wr.heap.size := by omega
    have z4 : ¬ wr.heap.size = Bt := by omega
    have z5 : ¬ Bt = wr.heap.size := by omega
    have z6 : Bt < wr.heap.size := by omega
    clear hJs hnx
    by_cases hlt : k < len
    · have hki : (k : Int) < (len : Int) := by omega
      obtain ⟨a9, c9, e9, -, hcc⟩ := HO.out
      rw [HLL.out] at e9
      simp only [Value.slice.injEq, true_and] at e9
      obtain ⟨rfl, rfl⟩ := e9
      obtain ⟨b, off, rfl, hb, e0, e1, e2⟩ := hcc k (by rw [HLL.out]; exact hlt)
      have m0 := (HNX.out.cell (p := ⟨b, off + k * 3, none⟩) hb).trans e0
      have m1 := (HNX.out.cell (p := ⟨b, off + k * 3 + 1, none⟩) hb).trans e1
      have m2 := (HNX.out.cell (p := ⟨b, off + k * 3 + 2, none⟩) hb).trans e2
      obtain ⟨s1, s2, s3⟩ := HOS.out k (by rw [HLL.out]; exact hlt)
      have c75 := fun W => at_any (of os k).lo (of os k).hi (of os k).rd t r s1 s2 hr s3 W
      have HBk := Lib.hid (HB.out k)
      have HTk := Lib.hid (HT.out k hlt)
      clear e0 e1 e2 hcc s1 s2 s3 h1 h2 h3
      generalize hx0 : (of os k).lo - grw r (gap t (of os k).rd) = x0 at *
      generalize hx1 : (of os k).hi + grw r (gap t (of os k).rd) = x1 at *
      clear hx0 hx1
      generalize hbb : bnd r t (of os k) = bb at HBk HTk
      clear hbb
      generalize (of os k).lo = y0 at *
      generalize (of os k).hi = y1 at *
      generalize (of os k).rd = y2 at *
      gi_wp2
      refine ⟨trivial, ?_⟩
      gi_at_call 75
      refine (callsIn_wide.2 (c75 _)).mono ?_
      rintro e w2 ⟨rfl, hb2⟩
      have hB2 : Below wr.heap.size wr w2 := ((Below.refl _ _).alloc (Nat.le_refl _) _).trans (hb2.mono (by simp))
      have hJ2 := HJ.out _ _ _ HJs.out hB2
      obtain ⟨fn, tmps, assign, body, hy, hR⟩ := hY _ bb _ hJ2 (HTL.out k hlt)
      have hbb := HBk.out
      subst hbb
      unfold spv at hy
      have HB2 := Lib.hid hB2
      clear hJ2 hB2 hb2 m0 m1 m2 q1 q3
      gi_wp2
      refine hR.mono ?_
      rintro e W3 (⟨rfl, hJ3, hk3⟩ | ⟨rfl, hJx3⟩)
      · have HB3 := Lib.hid (HNX.out.trans ((HB2.out.mono hz0).trans hk3))
        gi_wp2
        go_roundw
        case rel => exact ⟨k + 1, by omega, by go_num, by rw [HTk.out]; exact hJ3, HB3.out⟩
        case measure => simp [intOf]; omega
      · have HPF := Lib.hid (show bs.take k ++ [(x0, x1)] <+: bs by rw [← HTk.out]; exact List.take_prefix _ _)
        gi_wp2
        refine bodyPost_ret (results_none rfl _ _ _) rfl ?_
        exact ⟨⟨_, rfl⟩, .inr ⟨_, HPF.out, hJx3⟩⟩
    · obtain rfl : k = len := by omega
      gi_wp2
      go_end0
      exact ⟨⟨_, rfl⟩, .inl ⟨_, HTK.out k rfl, HJs.out⟩⟩
theorem bounds_stops (n : Nat) (hn : 1 ≤ n) (Bc Bt n₀ : Nat) (r t : Int) (sv : Value) (os : List Of) (hlen : os.length ≤ 64) (hr : 0 ≤ r ∧ r ≤ 1000000) (hos : Small t os) (w : World)
    (hBc : Bc < n₀) (hBt : Bt < n₀) (hn0 : n₀ ≤ w.heap.size) (h1 : w.cell? ⟨Bc, 1, none⟩ = some (.int .i64 r)) (h2 : w.cell? ⟨Bc, 2, none⟩ = some sv) (h3 : w.cell? ⟨Bt, 0, none⟩ = some (.int .i64 t)) (hO : Ofs n₀ w sv os) :
    SeqStopsK Fence.wide n Try.prog 158 #[.pointer (some ⟨Bc, 0, none⟩), .pointer (some ⟨Bt, 0, none⟩)] (fun x : Int × Int => #[spv x]) (Below n₀) (fun ys => ys = os.map (bnd r t)) (fun pre => pre <+: os.map (bnd r t)) 64 w := fun l J Jx W hW hJ _ hY h00 =>
  bounds_in n hn l Bc Bt n₀ r t sv os hlen hr hos J Jx (fun pre A B g hb => hJ pre A B none g ⟨hb.os, hb.tape, hb.output, hb.size, fun k hk _ => hb.block k hk⟩ (fun r e => by cases e)) hY W hBc hBt (Nat.le_trans hn0 hW.size)
    ((hW.cell (p := ⟨Bc, 1, none⟩) (by show Bc < w.heap.size; omega)).trans h1) ((hW.cell (p := ⟨Bc, 2, none⟩) (by show Bc < w.heap.size; omega)).trans h2) ((hW.cell (p := ⟨Bt, 0, none⟩) (by show Bt < w.heap.size; omega)).trans h3) (hO.mono (hW.mono hn0) (Nat.le_refl _)) h00
end Go.Proofs.Ytcchmjbedppfnaa

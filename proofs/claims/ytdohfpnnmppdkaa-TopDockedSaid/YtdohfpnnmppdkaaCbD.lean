/-
  Cables: the path of a node.
-/
import Derived.Test.YtdohfpnnmppdkaaCbC
namespace Go.Proofs.Ytdohfpnnmppdkaa
open Go.RowKit Go.Shelf
set_option linter.unusedSimpArgs false
attribute [local go_sem] Oper.semAt_some
set_option linter.unusedSimpArgs false
def tn (L : List Nat) (i : Nat) : Nat := L[i]?.getD 0
/-- the node behind the one at a place, or -1 -/
def nxt (L : List Nat) (i : Nat) : Int := if i < L.length then (tn L i : Int) else -1
theorem tn_take {L : List Nat} {k : Nat} (hk : k < L.length) : L.take (k + 1) = L.take k ++ [tn L k] := by
  rw [List.take_add_one]
  congr 1
  unfold tn
  rw [List.getElem?_eq_getElem hk]
  rfl
/-- the parents of the nodes of a path lie in memory -/
def UpAt (n₀ : Nat) (W : World) (sv : Value) (L : List Nat) : Prop :=
  ∃ b off nn cap, sv = .slice (some ⟨b, off, none⟩) nn cap ∧ b < n₀ ∧ ∀ k, k < L.length → tn L k < nn ∧ W.cell? ⟨b, off + tn L k * 8, none⟩ = some (.int .i64 (nxt L (k + 1)))
/-- each node of a path is less than the one before it -/
def Dec (L : List Nat) : Prop := ∀ k, k < L.length → nxt L (k + 1) < (tn L k : Int)
theorem UpAt.mono {n₀ m : Nat} {W W' : World} {sv : Value} {L : List Nat} (h : UpAt n₀ W sv L) (hb : Below n₀ W W') (hm : n₀ ≤ m) : UpAt m W' sv L := by
  obtain ⟨b, off, nn, cap, e, hl, hc⟩ := h
  exact ⟨b, off, nn, cap, e, Nat.lt_of_lt_of_le hl hm, fun k hk => ⟨(hc k hk).1, (hb.cell (p := ⟨b, _, none⟩) hl).trans (hc k hk).2⟩⟩
set_option maxRecDepth 100000 in
set_option maxHeartbeats 4000000 in
theorem up_in (n : Nat) (hn : 1 ≤ n) (l Bk Bc n₀ : Nat) (sv : Value) (L : List Nat) (hlen : L.length ≤ 60) (hD : Dec L)
    (J Jx : List Nat → World → Prop) (_hJ : ∀ pre W W', J pre W → Below W.heap.size W W' → J pre W')
    (hY : ∀ pre (x : Nat) W, J pre W → pre.length < 60 → YieldAt Fence.wide (n - 1) Try.prog l #[.int .i64 (x : Int)] W fun e W' =>
      (e = .returned (.bool true) ∧ J (pre ++ [x]) W' ∧ Below n₀ W W') ∨ (e = .returned (.bool false) ∧ Jx (pre ++ [x]) W'))
    (W : World) (hBc : Bc < n₀) (_hn0 : n₀ ≤ W.heap.size) (h1 : W.cell? ⟨Bk, 0, none⟩ = some (.int .i64 (nxt L 0))) (h2 : W.cell? ⟨Bc, 2, none⟩ = some sv) (hU : UpAt n₀ W sv L) (hJ0 : J [] W) :
    CallsIn Fence.wide n Try.prog 147 #[.func (.yield l) #[] #[], .pointer (some ⟨Bk, 0, none⟩), .pointer (some ⟨Bc, 0, none⟩)] W fun e W' => (∃ v, e = .returned v) ∧
      ((∃ ys, ys = L ∧ J ys W') ∨ (∃ pre, pre <+: L ∧ Jx pre W')) := by
  obtain ⟨b, off, nn, cap, rfl, hb, hcc⟩ := hU
  have HC := Lib.hid hcc
  have HT := Lib.hid (fun k hk => tn_take (L := L) (k := k) hk)
  have HTK := Lib.hid (show ∀ k, k = L.length → L.take k = L from fun k e => by rw [List.take_of_length_le (by rw [e]; exact Nat.le_refl _)])
  have HTL := Lib.hid (show ∀ k, k < L.length → (L.take k).length < 60 from fun k hk => by rw [List.length_take]; omega)
  have HNX := Lib.hid (show ∀ k, k < L.length → nxt L k = (tn L k : Int) from fun k hk => if_pos hk)
  have HNE := Lib.hid (show ∀ k, k = L.length → nxt L k = -1 from fun k hk => if_neg (by omega))
  have HD := Lib.hid (show ∀ k, k < L.length → nxt L (k + 1) < (tn L k : Int) from hD)
  clear hcc hD
  generalize hll : L.length = len at *
  clear hll
  refine callsIn_of_wp Try.func147 rfl trivial ?_ rfl
  simp only [Try.ntmps147, List.size_toArray, List.length_cons, List.length_nil, Nat.reduceAdd, Nat.reduceSub, Array.replicate_succ, Array.replicate_zero, List.push_toArray, List.append_toArray, List.nil_append, List.cons_append]
  gi_wp2
  gi_loopw [4] (fun i wr => ∃ k : Nat, k ≤ len ∧ i = .int .i64 (nxt L k) ∧ J (L.take k) wr ∧ Below n₀ W wr) (fun i _ => ((intOf i) + 1).toNat)
  case atStart => exact ⟨0, Nat.zero_le _, rfl, by simpa using hJ0, Below.refl _ _⟩
  case round =>
    obtain ⟨k, hk, rfl, hJs, hnx⟩ := hrel
    have HJs := Lib.hid hJs
    have HB := Lib.hid hnx
    clear hJs hnx
    by_cases hlt : k < len
    · obtain ⟨hxn, hcx⟩ := HC.out k hlt
      have hdx := HD.out k hlt
      have HDX := Lib.hid hdx
      have HTk := Lib.hid (HT.out k hlt)
      obtain ⟨fn, tmps, assign, body, hy, hR⟩ := hY _ (tn L k) _ HJs.out (HTL.out k hlt)
      rw [HNX.out k hlt]
      generalize hye : nxt L (k + 1) = y at *
      have HYE := Lib.hid hye
      clear hye
      generalize tn L k = x at *
      have b1 : ((x : Int) == -1) = false := by first | (simp; done) | (simp; omega)
      have b2 : ¬ (x : Int) = -1 := by omega
      have hxi : (x : Int) < (nn : Int) := by omega
      clear hdx
      gi_wp2
      refine hR.mono ?_
      rintro e W3 (⟨rfl, hJ3, hk3⟩ | ⟨rfl, hJx3⟩)
      · have HB3 := Lib.hid (HB.out.trans hk3)
        have c0 := (HB3.out.cell (p := ⟨Bc, 2, none⟩) hBc).trans h2
        have c1 := (HB3.out.cell (p := ⟨b, off + x * 8, none⟩) hb).trans hcx
        gi_wp2
        go_roundw
        case rel => exact ⟨k + 1, by omega, by rw [HYE.out], by rw [HTk.out]; exact hJ3, HB3.out⟩
        case measure => have := HDX.out; simp [intOf]; omega
      · have HPF := Lib.hid (show L.take k ++ [x] <+: L by rw [← HTk.out]; exact List.take_prefix _ _)
        gi_wp2
        refine bodyPost_ret (results_none rfl _ _ _) rfl ?_
        exact ⟨⟨_, rfl⟩, .inr ⟨_, HPF.out, hJx3⟩⟩
    · obtain rfl : k = len := by omega
      rw [HNE.out k (by first | rfl | trivial)]
      gi_wp2
      go_end0
      exact ⟨⟨_, rfl⟩, .inl ⟨_, HTK.out k (by first | rfl | trivial), HJs.out⟩⟩
theorem up_stops (n : Nat) (hn : 1 ≤ n) (Bk Bc n₀ : Nat) (sv : Value) (L : List Nat) (hlen : L.length ≤ 60) (hD : Dec L) (w : World)
    (hBk : Bk < n₀) (hBc : Bc < n₀) (hn0 : n₀ ≤ w.heap.size) (h1 : w.cell? ⟨Bk, 0, none⟩ = some (.int .i64 (nxt L 0))) (h2 : w.cell? ⟨Bc, 2, none⟩ = some sv) (hU : UpAt n₀ w sv L) :
    SeqStopsK Fence.wide n Try.prog 147 #[.pointer (some ⟨Bk, 0, none⟩), .pointer (some ⟨Bc, 0, none⟩)] (fun x : Nat => #[.int .i64 (x : Int)]) (Below n₀) (fun ys => ys = L) (fun pre => pre <+: L) 60 w := fun l J Jx W hW hJ _ hY h00 =>
  up_in n hn l Bk Bc n₀ sv L hlen hD J Jx (fun pre A B g hb => hJ pre A B none g ⟨hb.os, hb.tape, hb.output, hb.size, fun k hk _ => hb.block k hk⟩ (fun r e => by cases e)) hY W hBc (Nat.le_trans hn0 hW.size)
    ((hW.cell (p := ⟨Bk, 0, none⟩) (by show Bk < w.heap.size; omega)).trans h1) ((hW.cell (p := ⟨Bc, 2, none⟩) (by show Bc < w.heap.size; omega)).trans h2) (hU.mono (hW.mono hn0) (Nat.le_refl _)) h00
theorem infoI3 : (Try.prog.info? 3).map (fun i => (i.zero, i.size, i.bytes)) = some (some (.int .i64 0), 1, 8) := by kernel_rfl
theorem one_new3 (W : World) (x : Value) : ∀ (j : Nat) (u : Value), [x][j]? = some u → (W.alloc (.cells #[x] 3)).cell? ((⟨W.heap.size, 0, none⟩ : Addr).add j) = some u := by
  intro j u hj
  match j, hj with
  | 0, h => simp at h; subst h; simp [Addr.add, go_sem]
def flatN (L : List Nat) : List Value := L.map fun (x : Nat) => Value.int .i64 (x : Int)
theorem flatN_snoc (L : List Nat) (x : Nat) : flatN (L ++ [x]) = flatN L ++ [.int .i64 (x : Int)] := by simp [flatN]
set_option maxRecDepth 100000 in
set_option maxHeartbeats 4000000 in
theorem appendSeq_any (n : Nat) (hn : 3 ≤ n) (g : Nat) (lb : Array Value) (eg : ∀ args w, (callFunc g args).run Try.prog w = .ok (.enter g args) w)
    (S SpP : List Nat → Prop) (N : Nat) (hN : N ≤ 8796093022207) (n₀ : Nat) (w : World) (hn₀ : n₀ ≤ w.heap.size) (hseq : SeqStopsK Fence.wide (n - 1) Try.prog g lb (fun x : Nat => #[.int .i64 (x : Int)]) (Below n₀) S SpP N w) :
    CallsIn Fence.wide n Try.prog 146 #[.slice none 0 0, .func (.func g) #[] lb] w fun e W' => ∃ v ss, e = .returned v ∧ S ss ∧ W'.ownsRow w.heap.size 3 1 v ss.length (flatN ss) ∧ Below w.heap.size w W' := by
  obtain ⟨i0, hi, hz0, hz1, hz2⟩ := info_parts infoI3
  refine callsIn_of_wp_marks Try.func146 rfl trivial ?_ rfl
  simp only [Try.ntmps146, List.size_toArray, List.length_cons, List.length_nil, Nat.reduceAdd, Nat.reduceSub, Array.replicate_succ, Array.replicate_zero, List.push_toArray, List.append_toArray, List.nil_append, List.cons_append]
  gi_wp2
  have bO := Boxed.new w 29 (.slice none 0 0)
  have hB0 : Below w.heap.size w (w.alloc (.cells #[.slice none 0 0] 29)) := ((Below.refl _ w).alloc (Nat.le_refl _) _)
  refine wpIn_rangeFunc_ownH rfl (by omega) (gf := g) (lb := lb) rfl trivial eg hseq (belowK_t (n₀ := n₀)) (belowK_b (by simp; omega)) hB0 (fun _ => rfl)
    (fun pre W => (∃ v, Boxed W w.heap.size 29 v ∧ W.ownsRow w.heap.size 3 1 v pre.length (flatN pre) ∧ True) ∧ Below w.heap.size w W)
    (fun _ _ _ => False)
    (OwnFrom.and (Own.from (holdsRow_own w.heap.size w.heap.size 29 3 1 (fun pre : List Nat => pre.length) (fun pre => flatN pre) (fun _ _ => True)) _) (ownFrom_below (Nat.le_refl _) (by simp)))
    (fun _ _ _ _ _ hs _ _ => hs)
    ⟨⟨_, bO, World.ownsRow_nil _ _ _ _, trivial⟩, hB0⟩
    (fun x a' W => a' = { tmps := #[.slice none 0 0, .func (.func g) #[] lb, .pointer (some ⟨w.heap.size, 0, none⟩), undef, .slice none 0 0, .int .i64 (x : Int), .func (.func g) #[] lb, .int .i64 (x : Int), undef, undef, undef, undef, undef], defers := [] })
    (fun x a' _ X Y row hs hg hr => hs)
    ?assign ?body ?done ?stop
  case assign =>
    rintro l pre x W K ⟨⟨v, hv, hrow, _⟩, hB⟩ hK
    gi_wp2
    exact hK _ _ ((KeepsOthers.refl _).from _) (Below.refl _ W) ⟨⟨v, hv, hrow, trivial⟩, hB⟩ rfl
  case body =>
    rintro l pre x a' W hl ⟨r, hr⟩ ⟨⟨v, hv, hrow, _⟩, hB⟩ rfl hlt
    have hc := hv.cell
    gi_wp2_with (gi_at_builtin; refine wpListIn_append_own _ rfl _ _ 29 rfl w.heap.size 3 i0 (.int .i64 0) 1 8 Try.underlying29 hi hz0 hz1 hz2 rfl (by decide) _ _ _ rfl (hrow.alloc _) ⟨W.heap.size, 0, none⟩ 1 1 [.int .i64 (x : Int)] rfl rfl (one_new3 _ _) (by simp [Value.oneCell']) (by unfold maxLen; omega) (by omega) (by have := hB.size; simp; omega) ?_; intro v' w1 hown' hgrow _; obtain ⟨g', cap', rfl⟩ := ownsRow_succ hown'; obtain ⟨hv1, hv2, hr2, hk2, hb2⟩ := hv.appended (by decide) hrow hB.size (Nat.le_refl _) hown' hgrow; have hc1 := hv1.cell; have hf1 := hv1.frozen)
    exact ⟨hk2.from _, hb2.mono hn₀, ⟨_, hv2, by rw [flatN_snoc]; simpa using hr2, trivial⟩, hB.trans hb2⟩
  case done =>
    rintro D ys W hD hys ⟨⟨v, hv, hrow, _⟩, hB⟩ hK
    have hc := hv.cell
    gi_wp2
    refine ⟨by simp, .inl ⟨_, _, rfl, run_takeDeferred hK, ?_⟩⟩
    exact ⟨_, results_tmp rfl _ _ _, v, ys, rfl, hys, ownsRow_putObj hrow _ hK rfl, hB.trans (belowK_b (w := w) (Nat.le_refl _) W D _ _ (by simp at hD; omega) hK rfl rfl)⟩
  case stop =>
    rintro D c pre W _ _ h _
    exact h.elim
theorem own_base {W : World} {base base' : Nat} {e : TypeId} {size : Nat} {v : Value} {k : Nat} {xs : List Value} (h : W.ownsRow base e size v k xs) (hb : base' ≤ base) : W.ownsRow base' e size v k xs := by
  refine ⟨h.1, ?_⟩
  rcases h.2 with h0 | ⟨g, cap, cur, h1, h2, h3⟩
  · exact .inl h0
  · exact .inr ⟨g, cap, cur, h1, Nat.le_trans hb h2, h3⟩
theorem tn_cons (x : Nat) (L : List Nat) (i : Nat) : tn (x :: L) (i + 1) = tn L i := by simp [tn]
theorem nxt_cons (x : Nat) (L : List Nat) (i : Nat) : nxt (x :: L) (i + 1) = nxt L i := by
  unfold nxt
  rw [tn_cons]
  simp
theorem tn_zero (x : Nat) (L : List Nat) : tn (x :: L) 0 = x := rfl
theorem pth_head {P : Nat → Nat} (hP : Tree P) (k : Nat) : ∃ L, pth P k = k :: L := by
  by_cases h : k = 0
  · subst h; exact ⟨[], pth_zero P⟩
  · exact ⟨_, pth_pos hP (by omega)⟩
theorem pth_nxt {P : Nat → Nat} (hP : Tree P) : ∀ (k i : Nat), i < (pth P k).length → nxt (pth P k) (i + 1) = if tn (pth P k) i = 0 then -1 else (P (tn (pth P k) i) : Int) := by
  intro k
  induction k using Nat.strongRecOn with
  | ind k ih =>
    intro i hi
    by_cases h : k = 0
    · subst h
      rw [pth_zero] at hi ⊢
      have : i = 0 := by simp at hi; exact hi
      subst this
      rfl
    · have hp := hP k (by omega)
      have e := pth_pos hP (k := k) (by omega)
      rw [e] at hi ⊢
      cases i with
      | zero =>
        rw [tn_zero, if_neg h, nxt_cons]
        obtain ⟨L, hL⟩ := pth_head hP (P k)
        rw [hL]
        unfold nxt
        rw [if_pos (by simp), tn_zero]
      | succ i =>
        rw [nxt_cons, tn_cons]
        exact ih (P k) hp i (by simpa using hi)
theorem pth_dec {P : Nat → Nat} (hP : Tree P) (k : Nat) : Dec (pth P k) := by
  intro i hi
  rw [pth_nxt hP k i hi]
  split
  · omega
  · have := hP (tn (pth P k) i) (by omega)
    omega
theorem tn_mem {L : List Nat} {i : Nat} (hi : i < L.length) : tn L i ∈ L := by
  unfold tn
  rw [List.getElem?_eq_getElem hi]
  exact List.getElem_mem hi
theorem upAt_of {n₀ : Nat} {W : World} {sv : Value} {ns : List Nd} (h : Nds n₀ W sv ns) (hv : AllN ns) {k : Nat} (hk : k < ns.length) : UpAt n₀ W sv (pth (par ns) k) := by
  obtain ⟨a, cap, rfl, -, hc⟩ := h
  obtain ⟨b, off, rfl, hb, -⟩ := hc k hk
  refine ⟨b, off, _, cap, rfl, hb, fun i hi => ?_⟩
  have hm := hv.path_lt hk (tn_mem hi)
  refine ⟨hm, ?_⟩
  obtain ⟨b', off', e, _, c0, _⟩ := hc _ hm
  simp only [Option.some.injEq, Addr.mk.injEq] at e
  obtain ⟨rfl, rfl, _⟩ := e
  rw [c0, pth_nxt hv.tree k i hi]
  congr 2
  by_cases h0 : tn (pth (par ns) k) i = 0
  · rw [if_pos h0, h0]
    exact (hv.shore (by omega)).1
  · rw [if_neg h0]
    exact hv.par_eq hm (by omega)
theorem nxt_head {P : Nat → Nat} (hP : Tree P) (k : Nat) : nxt (pth P k) 0 = (k : Int) := by
  obtain ⟨L, hL⟩ := pth_head hP k
  rw [hL]
  rfl
/-- the path of a node is collected -/
theorem collect_up (Bk Bc : Nat) (sv : Value) (ns : List Nd) (k : Nat) (w : World) (hN : Nds w.heap.size w sv ns) (hv : AllN ns) (hl : ns.length ≤ 60) (hkn : k < ns.length) (hk : Bk < w.heap.size) (hc : Bc < w.heap.size)
    (h1 : w.cell? ⟨Bk, 0, none⟩ = some (.int .i64 (k : Int))) (h2 : w.cell? ⟨Bc, 2, none⟩ = some sv) :
    Calls Try.prog 80 #[.func (.func 147) #[] #[.pointer (some ⟨Bk, 0, none⟩), .pointer (some ⟨Bc, 0, none⟩)]] w fun e w' => ∃ v, e = .returned v ∧ w'.ownsRow w.heap.size 3 1 v (pth (par ns) k).length (flatN (pth (par ns) k)) ∧ Below w.heap.size w w' := by
  have hlen := pth_len hv.tree k
  have q := callsIn_wide.1 (appendSeq_any 10 (by omega) 147 #[.pointer (some ⟨Bk, 0, none⟩), .pointer (some ⟨Bc, 0, none⟩)] (enters_of Try.func147 (by kernel_rfl) rfl) (fun ys => ys = pth (par ns) k) (fun pre => pre <+: pth (par ns) k) 60 (by decide) w.heap.size w (Nat.le_refl _)
    (up_stops 9 (by omega) Bk Bc w.heap.size sv (pth (par ns) k) (by omega) (pth_dec hv.tree k) w hk hc (Nat.le_refl _) (by rw [nxt_head hv.tree]; exact h1) h2 (upAt_of hN hv hkn)))
  have Q := Lib.hid q
  clear q hlen
  go_enter Try.func80, Try.ntmps80
  go_wp2_with fail
  refine Q.out.mono ?_
  rintro e w1 ⟨v, ss, rfl, rfl, hr, hb⟩
  have HR := Lib.hid hr
  obtain ⟨a, c, rfl⟩ := own_form hr
  have HB := Lib.hid hb
  clear hb hr
  go_wp2_with fail
  go_ret
  exact ⟨_, rfl, HR.out, HB.out⟩
/-- the iterator over a path -/
theorem up_any (sl sh : Int) (a : Option Addr) (n cap : Nat) (k : Int) (w : World) : Calls Try.prog 81 #[.agg #[.int .i64 sl, .int .i64 sh, .slice a n cap], .int .i64 k] w fun e w' => e = .returned (.func (.func 147) #[] #[.pointer (some ⟨w.heap.size + 1, 0, none⟩), .pointer (some ⟨w.heap.size, 0, none⟩)]) ∧ w' = (w.alloc (.cells #[.int .i64 sl, .int .i64 sh, .slice a n cap] 26)).alloc (.cells #[.int .i64 k] 3) := by
  go_enter Try.func81, Try.ntmps81
  go_wp2_with fail
  go_ret
  exact ⟨by first | rfl | trivial | simp, by first | rfl | trivial⟩
set_option maxHeartbeats 2000000 in
theorem path_bad (sl sh : Int) (sv : Value) (ns : List Nd) (k : Int) (hE : nodE sl sh ns k ≠ 0) (w : World) (hN : Nds w.heap.size w sv ns) :
    Calls Try.prog 21 #[.agg #[.int .i64 sl, .int .i64 sh, sv], .int .i64 k] w fun e w' => e = .returned (.tuple #[.slice none 0 0, .int .i64 (nodE sl sh ns k)]) ∧ Below w.heap.size w w' := by
  have c1 := Lib.hid (fun W (h : Below w.heap.size w W) => checkNode_any sl sh sv ns k W (hN.at h))
  obtain ⟨a, cap, hsv⟩ := hN.form
  subst hsv
  clear hN
  generalize nodE sl sh ns k = E at *
  generalize ns.length = n at *
  have hE' : (E == 0) = false := by simpa using hE
  clear hE
  obtain ⟨A, hA⟩ : ∃ A, A = w.alloc (.cells #[.int .i64 sl, .int .i64 sh, .slice a n cap] 26) := ⟨_, rfl⟩
  have HBA := Lib.hid (show Below w.heap.size w A by rw [hA]; exact ((Below.refl _ _).alloc (Nat.le_refl _) _))
  have hltA : w.heap.size + 1 ≤ A.heap.size := by rw [hA]; simp
  have q0 : A.cell? ⟨w.heap.size, 0, none⟩ = some (.int .i64 sl) := by rw [hA]; exact (cellHB (World.alloc_heap_new w _) 0).trans (by simp)
  have q1 : A.cell? ⟨w.heap.size, 1, none⟩ = some (.int .i64 sh) := by rw [hA]; exact (cellHB (World.alloc_heap_new w _) 1).trans (by simp)
  have q2 : A.cell? ⟨w.heap.size, 2, none⟩ = some (.slice a n cap) := by rw [hA]; exact (cellHB (World.alloc_heap_new w _) 2).trans (by simp)
  have KK := Lib.hid (show ∀ W, Below A.heap.size A W → W.cell? ⟨w.heap.size, 0, none⟩ = some (.int .i64 sl) ∧ W.cell? ⟨w.heap.size, 1, none⟩ = some (.int .i64 sh) ∧ W.cell? ⟨w.heap.size, 2, none⟩ = some (.slice a n cap) from fun W h => ⟨(h.cell (p := ⟨w.heap.size, 0, none⟩) (by show w.heap.size < A.heap.size; omega)).trans q0, (h.cell (p := ⟨w.heap.size, 1, none⟩) (by show w.heap.size < A.heap.size; omega)).trans q1, (h.cell (p := ⟨w.heap.size, 2, none⟩) (by show w.heap.size < A.heap.size; omega)).trans q2⟩)
  have HLT := Lib.hid hltA
  clear hltA q0 q1 q2
  obtain ⟨k0, k1, k2⟩ := KK.out _ (Below.refl _ _)
  go_enter Try.func21, Try.ntmps21
  go_upto_region 1 with fail
  rw [← hA]
  clear hA
  go_wp2_with fail
  refine (c1.out _ HBA.out).mono ?_
  rintro e w1 ⟨rfl, hb⟩
  have HB1 := Lib.hid hb
  clear hb k0 k1 k2
  obtain ⟨k0, k1, k2⟩ := KK.out _ HB1.out
  go_wp2_with fail
  go_ret2
  exact ⟨rfl, HBA.out.trans (HB1.out.mono HBA.out.size)⟩
set_option maxHeartbeats 2000000 in
theorem path_ok (sl sh : Int) (sv : Value) (ns : List Nd) (k : Nat) (hv : ValidC sl sh ns) (hk : k < ns.length) (w : World) (hN : Nds w.heap.size w sv ns) :
    Calls Try.prog 21 #[.agg #[.int .i64 sl, .int .i64 sh, sv], .int .i64 (k : Int)] w fun e w' => ∃ v, e = .returned (.tuple #[v, .int .i64 0]) ∧ w'.ownsRow w.heap.size 3 1 v (pth (par ns) k).length (flatN (pth (par ns) k)) ∧ Below w.heap.size w w' := by
  have c1 := Lib.hid (fun W (h : Below w.heap.size w W) => checkNode_any sl sh sv ns k W (hN.at h))
  have hE : nodE sl sh ns (k : Int) = 0 := by
    unfold nodE
    rw [if_pos hv.err, if_pos ⟨by omega, by omega⟩]
  rw [hE] at c1
  have c3 := Lib.hid (fun Bk Bc W (h : Below w.heap.size w W) h1 h2 h3 h4 => collect_up Bk Bc sv ns k W (hN.at h) hv.all hv.len hk h1 h2 h3 h4)
  obtain ⟨a, cap, hsv⟩ := hN.form
  subst hsv
  clear hN hE
  generalize pth (par ns) k = L at *
  have c2 := fun W => up_any sl sh a ns.length cap (k : Int) W
  generalize ns.length = n at *
  obtain ⟨A, hA⟩ : ∃ A, A = w.alloc (.cells #[.int .i64 sl, .int .i64 sh, .slice a n cap] 26) := ⟨_, rfl⟩
  have HBA := Lib.hid (show Below w.heap.size w A by rw [hA]; exact ((Below.refl _ _).alloc (Nat.le_refl _) _))
  have hltA : w.heap.size + 1 ≤ A.heap.size := by rw [hA]; simp
  have q0 : A.cell? ⟨w.heap.size, 0, none⟩ = some (.int .i64 sl) := by rw [hA]; exact (cellHB (World.alloc_heap_new w _) 0).trans (by simp)
  have q1 : A.cell? ⟨w.heap.size, 1, none⟩ = some (.int .i64 sh) := by rw [hA]; exact (cellHB (World.alloc_heap_new w _) 1).trans (by simp)
  have q2 : A.cell? ⟨w.heap.size, 2, none⟩ = some (.slice a n cap) := by rw [hA]; exact (cellHB (World.alloc_heap_new w _) 2).trans (by simp)
  have KK := Lib.hid (show ∀ W, Below A.heap.size A W → W.cell? ⟨w.heap.size, 0, none⟩ = some (.int .i64 sl) ∧ W.cell? ⟨w.heap.size, 1, none⟩ = some (.int .i64 sh) ∧ W.cell? ⟨w.heap.size, 2, none⟩ = some (.slice a n cap) from fun W h => ⟨(h.cell (p := ⟨w.heap.size, 0, none⟩) (by show w.heap.size < A.heap.size; omega)).trans q0, (h.cell (p := ⟨w.heap.size, 1, none⟩) (by show w.heap.size < A.heap.size; omega)).trans q1, (h.cell (p := ⟨w.heap.size, 2, none⟩) (by show w.heap.size < A.heap.size; omega)).trans q2⟩)
  have HLT := Lib.hid hltA
  clear hltA q0 q1 q2
  obtain ⟨k0, k1, k2⟩ := KK.out _ (Below.refl _ _)
  go_enter Try.func21, Try.ntmps21
  go_upto_region 1 with fail
  rw [← hA]
  clear hA
  go_wp2_with fail
  refine (c1.out _ HBA.out).mono ?_
  rintro e w1 ⟨rfl, hb⟩
  have HB1 := Lib.hid hb
  clear hb k0 k1 k2
  obtain ⟨k0, k1, k2⟩ := KK.out _ HB1.out
  go_wp2_with fail
  refine (c2 _).mono ?_
  rintro e w2 ⟨rfl, hw2⟩
  have hb2 : Below w1.heap.size w1 w2 := by rw [hw2]; exact ((Below.refl _ _).alloc (Nat.le_refl _) _).alloc (by simp) _
  have hk2 : w2.cell? ⟨w1.heap.size + 1, 0, none⟩ = some (.int .i64 (k : Int)) := by rw [hw2]; simp [go_sem]
  have hc2 : w2.cell? ⟨w1.heap.size, 2, none⟩ = some (.slice a n cap) := by rw [hw2]; simp [go_sem]
  have hz2 : w2.heap.size = w1.heap.size + 2 := by rw [hw2]; simp
  have HB2 := Lib.hid (HB1.out.trans (hb2.mono HB1.out.size))
  have Q := Lib.hid (c3.out (w1.heap.size + 1) w1.heap.size w2 (HBA.out.trans (HB2.out.mono HBA.out.size)) (by omega) (by omega) hk2 hc2)
  have HS2 := Lib.hid (show w.heap.size ≤ w2.heap.size from Nat.le_trans HBA.out.size HB2.out.size)
  clear hw2 hb2 hk2 hc2 hz2 k0 k1 k2
  go_wp2_with fail
  refine Q.out.mono ?_
  rintro e w3 ⟨v, rfl, hr, hb⟩
  have HB3 := Lib.hid (HB2.out.trans (hb.mono HB2.out.size))
  have HR := Lib.hid (own_base hr HS2.out)
  obtain ⟨av, cv, rfl⟩ := own_form hr
  clear hb Q hr
  go_wp2_with fail
  go_ret2
  exact ⟨_, rfl, HR.out, HBA.out.trans (HB3.out.mono HBA.out.size)⟩
end Go.Proofs.Ytdohfpnnmppdkaa

/-
  Rows known whole; deferred marks; the path of a node over memory that is written.
-/
import Derived.Test.YtdohfpnnmppdkaaCbD
import Derived.RangeFuncWrites
import Derived.RangeFuncNested
import Derived.Laws.OwnMore
namespace Go.Proofs.Ytdohfpnnmppdkaa
open Go.RowKit Go.Shelf
set_option linter.unusedSimpArgs false
/-- the marks ds are open in W, each in a block of its own from base on -/
def Marks (base : Nat) (W : World) : List Deferred → Prop
  | [] => True
  | d :: ds => (∃ D, base ≤ D ∧ d = { target := .collected D, args := #[] } ∧ W.heap[D]? = some (.deferred (some [])) ∧ ∀ d' ∈ ds, d' ≠ d) ∧ Marks base W ds
/-- what is a block of cells lies as it lay -/
def CellsKept (W W' : World) : Prop := ∀ (k : Nat) (o : Obj), W.heap[k]? = some o → o.isCells = true → W'.heap[k]? = some o
theorem Marks.keep {base : Nat} {W W' : World} : ∀ {ds : List Deferred}, Marks base W ds → (∀ d ∈ ds, ∀ D, d = { target := .collected D, args := #[] } → W.heap[D]? = some (.deferred (some [])) → W'.heap[D]? = some (.deferred (some []))) → Marks base W' ds
  | [], _, _ => trivial
  | _ :: _, ⟨⟨D, hb, he, hD, hn⟩, hs⟩, h => ⟨⟨D, hb, he, h _ (List.mem_cons_self ..) D he hD, hn⟩, hs.keep fun d hd => h d (List.mem_cons_of_mem _ hd)⟩
theorem Marks.from {base : Nat} {W W' : World} {B : Nat} {ds : List Deferred} (h : Marks base W ds) (hB : B ≤ base) (hk : KeepsFrom B W W') : Marks base W' ds := by
  induction ds with
  | nil => trivial
  | cons d ds ih =>
    obtain ⟨⟨D, hb, he, hD, hn⟩, hs⟩ := h
    exact ⟨⟨D, hb, he, hk.same D _ (by omega) hD rfl, hn⟩, ih hs⟩
theorem Marks.below {base n₀ : Nat} {W W' : World} {ds : List Deferred} (h : Marks base W ds) (hn : W.heap.size ≤ n₀) (hb : Below n₀ W W') : Marks base W' ds :=
  h.keep fun _ _ D _ hD => (hb.block D (by have := (Array.getElem?_eq_some_iff.1 hD).1; omega)).trans hD
/-- all marks are taken -/
theorem leaves_marks {F : Fence} {n : Nat} {P : Program} {fn : Func} {tmps : Array Value} {R : Ending → World → Prop} (base : Nat) : ∀ (ds : List Deferred) (W : World), base ≤ W.heap.size → Marks base W ds →
    (∀ W', Below base W W' → CellsKept W W' → ∃ v, (results fn tmps).run P W' = .ok v W' ∧ R (.returned v) W') → LeavesInM F n P fn tmps R ds .returning W
  | [], W, _, _, h => h W (Below.refl _ _) (fun _ _ h _ => h)
  | d :: ds, W, hz, ⟨⟨D, hb, he, hD, hn⟩, hs⟩, h => by
    subst he
    refine ⟨by simp, .inl ⟨D, _, rfl, run_takeDeferred hD, ?_⟩⟩
    have hl := (Array.getElem?_eq_some_iff.1 hD).1
    have hbb : Below base W (W.putObj D (.deferred none)) := (Below.refl base W).grown (grownBy_putObj' W D _) hz (fun k e => by cases e; omega)
    have hsame : ∀ (k : Nat) (o : Obj), W.heap[k]? = some o → k ≠ D → (W.putObj D (.deferred none)).heap[k]? = some o := fun k o hk hne => (World.putObj_heap_other hne).trans hk
    refine leaves_marks base ds _ (by simpa using hz) (hs.keep fun d hd D' he' hD' => hsame _ _ hD' (fun e => hn d hd (by rw [he', e]))) (fun W' hb' hk' => ?_)
    exact h W' (hbb.trans hb') (fun k o hk hc => hk' k o (hsame k o hk (fun e => by rw [e, hD] at hk; cases hk; cases hc)) hc)
/-- a body that ends in no panic -/
def bodyPostR (F : Fence) (n : Nat) (P : Program) (fn : Func) (R : Ending → World → Prop) : Exit → Act → World → Prop
  | .normal, a, w | .ret, a, w => LeavesInM F n P fn a.tmps R a.defers .returning w
  | _, _, _ => False
theorem calls_marks {P : Program} {f : FuncId} {fn : Func} {c : Code} {args : Array Value} {w : World} {R : Ending → World → Prop} (n : Nat)
    (hf : P.funcs[f]? = some fn) (hb : fn.body = some c)
    (h : c.wpIn Fence.wide n P (bodyPostR Fence.wide n P fn R) { tmps := args ++ Array.replicate (fn.ntmps - args.size) undef, defers := [] } w) : Calls P f args w R :=
  (callsIn_wide (n := n)).1 (callsIn_of_wp_marks hf hb trivial (Code.wpIn_mono (fun e _ _ q => by cases e <;> first | exact q | exact q.elim) h) rfl)
theorem wpOpIn_of_wpOp {l n : Nat} {P : Program} {ops : Array Oper} {Q : Exit → Act → World → Prop} {i : Nat} {K K' : Act → World → Prop} {a : Act} {w : World}
    (hnd : ∀ (j : Nat) (o : Oper), ops[j]? = some o → ∀ c, o.op ≠ .defer c) (hQ : ¬ LetsOut Q) (hK : ∀ a w, K a w → K' a w) (h : wpOp P ops Q i K a w) : wpOpIn (Fence.wide.inRound l) n P ops Q i K' a w := by
  unfold wpOp at h
  unfold wpOpIn
  cases ho : ops[i]? with
  | none => simp only [ho] at h ⊢; exact hK _ _ h
  | some o =>
    simp only [ho] at h ⊢
    by_cases hw : Region.wanted o (yielded ops a.tmps) = true
    · rw [if_pos hw] at h ⊢
      rcases h with h | ⟨_, h⟩
      · unfold Oper.wp at h
        refine ⟨fun _ _ => trivial, ?_⟩
        rw [Oper.semAt_eq _ _ _ (hnd i o ho)]
        generalize (execOp a.eval o).run P w = r at h ⊢
        cases r with
        | ok x w' =>
          cases x with
          | value v => exact hK _ _ h
          | skip => exact hK _ _ h
          | defer d => exact hK _ _ h
          | enter f args =>
            refine ⟨fun h0 => by simp [Fence.wide] at h0, CallsIn.inRound l (callsIn_wide.2 (Calls.mono h fun e w'' he => ?_))⟩
            cases e with
            | returned v => exact hK _ _ he
            | panicked c => exact he
            | outgrown => exact he
          | row row args =>
            refine ⟨fun h0 => by simp [Fence.wide] at h0, ?_⟩
            intro c cs _
            obtain ⟨v, w1, hv, hs⟩ := h c cs
            exact ⟨v, w1, hK _ _ hv, stepsIn_wide.2 hs⟩
          | _ => exact h.elim
        | halt x w' =>
          cases x <;> first | exact h | exact h.elim
      · exact absurd h hQ
    · rw [if_neg hw] at h ⊢
      exact ⟨fun _ _ => trivial, hK _ _ h⟩
theorem wpAnyIn_of_wpAny {l n : Nat} {P : Program} {md : Region.Mode} {ops : Array Oper} {Q : Exit → Act → World → Prop}
    (hnd : ∀ (j : Nat) (o : Oper), ops[j]? = some o → ∀ c, o.op ≠ .defer c) (hQ : ¬ LetsOut Q) :
    ∀ (fuel : Nat) (listed : Array Bool) (a : Act) (w : World), wpAny P md ops Q fuel listed a w → wpAnyIn (Fence.wide.inRound l) n P md ops Q fuel listed a w
  | 0, _, _, _, h => h
  | fuel + 1, _, _, _, h => ⟨h.1, fun i hi => wpOpIn_of_wpOp hnd hQ (fun a' w' h' => wpAnyIn_of_wpAny hnd hQ fuel _ a' w' h') (h.2 i hi)⟩
/-- which operations defer -/
def noDefer (ops : Array Oper) : Bool := ops.all fun o => match o.op with | .defer _ => false | _ => true
theorem noDefer_spec {ops : Array Oper} (h : noDefer ops = true) : ∀ (j : Nat) (o : Oper), ops[j]? = some o → ∀ c, o.op ≠ .defer c := by
  intro j o ho c hc
  have h1 := (Array.all_eq_true.1 h) j (Array.getElem?_eq_some_iff.1 ho).1
  rw [(Array.getElem?_eq_some_iff.1 ho).2, hc] at h1
  cases h1
theorem wpIn_round_held {l n : Nat} {P : Program} {id : Nat} {ops : Array Oper} {Q : Exit → Act → World → Prop} {a : Act} {w : World} (S : World → Prop)
    (hm : P.follows .mixedOrders = true) (hnd : noDefer ops = true) (hQ : ¬ LetsOut Q) (hS : S w.drew)
    (h : S w.drew → wpAnyH P .any ops Q S ops.size (Array.replicate ops.size false) a w.drew) : (Code.region id ops true).wpIn (Fence.wide.inRound l) n P Q a w :=
  wpIn_region_any hm (wpAnyIn_of_wpAny (noDefer_spec hnd) hQ _ _ _ _ (wpAny_of_held _ _ _ _ (h hS)))
theorem CellsKept.refl (W : World) : CellsKept W W := fun _ _ h _ => h
theorem CellsKept.trans {A B C : World} (h : CellsKept A B) (k : CellsKept B C) : CellsKept A C := fun i o h1 h2 => k i o (h i o h1 h2) h2
theorem Marks.fresh {base : Nat} {W : World} {D : Nat} (hD : W.heap.size ≤ D) : ∀ {ds : List Deferred}, Marks base W ds → ∀ d' ∈ ds, d' ≠ { target := .collected D, args := #[] }
  | [], _, _, h => by cases h
  | d :: ds, ⟨⟨E, _, he, hE, _⟩, hs⟩, d', h => by
    rcases List.mem_cons.1 h with rfl | h
    · intro e
      rw [he] at e
      have e2 : E = D := by injection e with e3; injection e3
      have := (Array.getElem?_eq_some_iff.1 hE).1
      omega
    · exact hs.fresh hD d' h
theorem att_take {L : List Nat} {k : Nat} (hk : k < L.length) : L.attach.take (k + 1) = L.attach.take k ++ [⟨tn L k, tn_mem hk⟩] := by
  rw [List.take_add_one, List.getElem?_eq_getElem (by simpa using hk)]
  simp [tn, hk]
def KeepQ (Q : Nat → Prop) (W W' : World) : Prop := ∀ b, Q b → W'.heap[b]? = W.heap[b]?
theorem cell_of_heap {W W' : World} {b : Nat} (h : W'.heap[b]? = W.heap[b]?) (o : Nat) : W'.cell? ⟨b, o, none⟩ = W.cell? ⟨b, o, none⟩ := by simp [World.cell?, h]
theorem KeepQ.cell {Q : Nat → Prop} {W W' : World} (h : KeepQ Q W W') {b : Nat} (hb : Q b) (o : Nat) : W'.cell? ⟨b, o, none⟩ = W.cell? ⟨b, o, none⟩ := cell_of_heap (h b hb) o
theorem KeepQ.trans {Q : Nat → Prop} {A B C : World} (h : KeepQ Q A B) (k : KeepQ Q B C) : KeepQ Q A C := fun b hb => (k b hb).trans (h b hb)
/-- the parents of the nodes of a path lie in memory, in blocks that stay -/
def UpQ (Q : Nat → Prop) (W : World) (sv : Value) (L : List Nat) : Prop :=
  ∃ b off nn cap, sv = .slice (some ⟨b, off, none⟩) nn cap ∧ Q b ∧ ∀ k, k < L.length → tn L k < nn ∧ W.cell? ⟨b, off + tn L k * 8, none⟩ = some (.int .i64 (nxt L (k + 1)))
theorem UpQ.keep {Q : Nat → Prop} {W W' : World} {sv : Value} {L : List Nat} (h : UpQ Q W sv L) (hk : KeepQ Q W W') : UpQ Q W' sv L := by
  obtain ⟨b, off, nn, cap, e, hq, hc⟩ := h
  exact ⟨b, off, nn, cap, e, hq, fun k hkk => ⟨(hc k hkk).1, (hk.cell hq _).trans (hc k hkk).2⟩⟩
theorem UpAt.toQ {Q : Nat → Prop} {n₀ : Nat} {W : World} {a : Nat} {off nn cap : Nat} {L : List Nat} (h : UpAt n₀ W (.slice (some ⟨a, off, none⟩) nn cap) L) (hq : Q a) : UpQ Q W (.slice (some ⟨a, off, none⟩) nn cap) L := by
  obtain ⟨b, off', nn', cap', e, _, hc⟩ := h
  simp only [Value.slice.injEq, Option.some.injEq, Addr.mk.injEq] at e
  obtain ⟨⟨rfl, rfl, -⟩, rfl, rfl⟩ := e
  exact ⟨_, _, _, _, rfl, hq, hc⟩
set_option maxRecDepth 100000 in
set_option maxHeartbeats 4000000 in
theorem up_inQ (Q : Nat → Prop) (n : Nat) (hn : 1 ≤ n) (l Bk Bc : Nat) (sv : Value) (L : List Nat) (hlen : L.length ≤ 60) (hD : Dec L)
    (J Jx : List {x // x ∈ L} → World → Prop) (_hJ : ∀ pre W W', J pre W → Below W.heap.size W W' → J pre W')
    (hY : ∀ pre (x : {x // x ∈ L}) W, J pre W → pre.length < 60 → YieldAt Fence.wide (n - 1) Try.prog l #[.int .i64 (x.1 : Int)] W fun e W' =>
      (e = .returned (.bool true) ∧ J (pre ++ [x]) W' ∧ KeepQ Q W W') ∨ (e = .returned (.bool false) ∧ Jx (pre ++ [x]) W'))
    (W : World) (hQc : Q Bc) (h1 : W.cell? ⟨Bk, 0, none⟩ = some (.int .i64 (nxt L 0))) (h2 : W.cell? ⟨Bc, 2, none⟩ = some sv) (hU : UpQ Q W sv L) (hJ0 : J [] W) :
    CallsIn Fence.wide n Try.prog 147 #[.func (.yield l) #[] #[], .pointer (some ⟨Bk, 0, none⟩), .pointer (some ⟨Bc, 0, none⟩)] W fun e W' => (∃ v, e = .returned v) ∧
      ((∃ ys, ys = L.attach ∧ J ys W') ∨ (∃ pre, pre <+: L.attach ∧ Jx pre W')) := by
  obtain ⟨b, off, nn, cap, rfl, hb, hcc⟩ := hU
  have HC := Lib.hid hcc
  have HT := Lib.hid (show ∀ k, k < L.length → ∃ x : {x // x ∈ L}, x.1 = tn L k ∧ L.attach.take (k + 1) = L.attach.take k ++ [x] from fun k hk => ⟨_, rfl, att_take (L := L) (k := k) hk⟩)
  have HMM := Lib.hid (show ∀ k, k < L.length → tn L k ∈ L from fun k hk => tn_mem hk)
  have HTK := Lib.hid (show ∀ k, k = L.length → L.attach.take k = L.attach from fun k e => by rw [List.take_of_length_le (by rw [e, List.length_attach]; exact Nat.le_refl _)])
  have HTL := Lib.hid (show ∀ k, k < L.length → (L.attach.take k).length < 60 from fun k hk => by rw [List.length_take]; omega)
  have HNX := Lib.hid (show ∀ k, k < L.length → nxt L k = (tn L k : Int) from fun k hk => if_pos hk)
  have HNE := Lib.hid (show ∀ k, k = L.length → nxt L k = -1 from fun k hk => if_neg (by omega))
  have HD := Lib.hid (show ∀ k, k < L.length → nxt L (k + 1) < (tn L k : Int) from hD)
  clear hcc hD
  generalize hll : L.length = len at *
  clear hll
  refine callsIn_of_wp Try.func147 rfl trivial ?_ rfl
  simp only [Try.ntmps147, List.size_toArray, List.length_cons, List.length_nil, Nat.reduceAdd, Nat.reduceSub, Array.replicate_succ, Array.replicate_zero, List.push_toArray, List.append_toArray, List.nil_append, List.cons_append]
  gi_wp2
  gi_loopw [4] (fun i wr => ∃ k : Nat, k ≤ len ∧ i = .int .i64 (nxt L k) ∧ J (L.attach.take k) wr ∧ KeepQ Q W wr) (fun i _ => ((intOf i) + 1).toNat)
  case atStart => exact ⟨0, Nat.zero_le _, rfl, by simpa using hJ0, fun _ _ => rfl⟩
  case round =>
    obtain ⟨k, hk, rfl, hJs, hnx⟩ := hrel
    have HJs := Lib.hid hJs
    have HB := Lib.hid hnx
    clear hJs hnx
    by_cases hlt : k < len
    · obtain ⟨hxn, hcx⟩ := HC.out k hlt
      have hdx := HD.out k hlt
      obtain ⟨xm, hxm, hTk⟩ := HT.out k hlt
      have HTk := Lib.hid hTk
      clear hTk
      obtain ⟨fn, tmps, assign, body, hy, hR⟩ := hY _ xm _ HJs.out (HTL.out k hlt)
      rw [HNX.out k hlt]
      rw [← hxm] at hxn hcx hdx ⊢
      clear hxm
      have HDX := Lib.hid hdx
      generalize hye : nxt L (k + 1) = y at *
      have HYE := Lib.hid hye
      clear hye
      generalize xm.1 = x at *
      have b1 : ((x : Int) == -1) = false := by first | (simp; done) | (simp; omega)
      have b2 : ¬ (x : Int) = -1 := by omega
      have hxi : (x : Int) < (nn : Int) := by omega
      clear hdx
      gi_wp2
      refine hR.mono ?_
      rintro e W3 (⟨rfl, hJ3, hk3⟩ | ⟨rfl, hJx3⟩)
      · have HB3 := Lib.hid (show KeepQ Q W W3 from fun b hb => (hk3 b hb).trans (HB.out b hb))
        have c0 := (HB3.out.cell hQc 2).trans h2
        have c1 := (HB3.out.cell hb _).trans hcx
        gi_wp2
        go_roundw
        case rel => exact ⟨k + 1, by omega, by rw [HYE.out], by rw [HTk.out]; exact hJ3, HB3.out⟩
        case measure => have := HDX.out; simp [intOf]; omega
      · have HPF := Lib.hid (show L.attach.take k ++ [xm] <+: L.attach by rw [← HTk.out]; exact List.take_prefix _ _)
        gi_wp2
        refine bodyPost_ret (results_none rfl _ _ _) rfl ?_
        exact ⟨⟨_, rfl⟩, .inr ⟨_, HPF.out, hJx3⟩⟩
    · obtain rfl : k = len := by omega
      rw [HNE.out k (by first | rfl | trivial)]
      gi_wp2
      go_end0
      exact ⟨⟨_, rfl⟩, .inl ⟨_, HTK.out k (by first | rfl | trivial), HJs.out⟩⟩
theorem up_stopsQ (Q : Nat → Prop) (n : Nat) (hn : 1 ≤ n) (Bk Bc : Nat) (sv : Value) (L : List Nat) (hlen : L.length ≤ 60) (hD : Dec L) (w : World)
    (hQ : ∀ b, Q b → b < w.heap.size) (hQk : Q Bk) (hQc : Q Bc) (h1 : w.cell? ⟨Bk, 0, none⟩ = some (.int .i64 (nxt L 0))) (h2 : w.cell? ⟨Bc, 2, none⟩ = some sv) (hU : UpQ Q w sv L) :
    SeqStopsK Fence.wide n Try.prog 147 #[.pointer (some ⟨Bk, 0, none⟩), .pointer (some ⟨Bc, 0, none⟩)] (fun x : {x // x ∈ L} => #[.int .i64 (x.1 : Int)]) (KeepQ Q) (fun ys => ys = L.attach) (fun pre => pre <+: L.attach) 60 w := fun l J Jx W hW hJ _ hY h00 =>
  up_inQ Q n hn l Bk Bc sv L hlen hD J Jx (fun pre A B g hb => hJ pre A B none g ⟨hb.os, hb.tape, hb.output, hb.size, fun k hk _ => hb.block k hk⟩ (fun r e => by cases e)) hY W hQc
    ((hW.cell (p := ⟨Bk, 0, none⟩) (by show Bk < w.heap.size; exact hQ _ hQk)).trans h1) ((hW.cell (p := ⟨Bc, 2, none⟩) (by show Bc < w.heap.size; exact hQ _ hQc)).trans h2) (hU.keep fun b hb => hW.block b (hQ b hb)) h00
/-- a block of N cells, known whole -/
def RowC (W : World) (g : Nat) (t : TypeId) (N : Nat) (c : Nat → Value) : Prop :=
  ∃ cur, W.heap[g]? = some (.cells cur t (0, 0)) ∧ cur.size = N ∧ ∀ j, j < N → cur[j]? = some (c j)
theorem RowC.lt {W : World} {g : Nat} {t : TypeId} {N : Nat} {c : Nat → Value} (h : RowC W g t N c) : g < W.heap.size := by
  obtain ⟨cur, h1, _⟩ := h
  exact (Array.getElem?_eq_some_iff.1 h1).1
theorem RowC.cell {W : World} {g : Nat} {t : TypeId} {N : Nat} {c : Nat → Value} (h : RowC W g t N c) {j : Nat} (hj : j < N) : W.cell? ⟨g, j, none⟩ = some (c j) := by
  obtain ⟨cur, h1, h2, h3⟩ := h
  rw [cellHB h1, h3 j hj]
theorem RowC.froz {W : World} {g : Nat} {t : TypeId} {N : Nat} {c : Nat → Value} (h : RowC W g t N c) (j : Nat) : W.frozen? ⟨g, j, none⟩ = false := by
  obtain ⟨cur, h1, h2, h3⟩ := h
  exact frozH h1 j
theorem RowC.same {W W' : World} {g : Nat} {t : TypeId} {N : Nat} {c : Nat → Value} (h : RowC W g t N c) (e : W'.heap[g]? = W.heap[g]?) : RowC W' g t N c := by
  obtain ⟨cur, h1, h2⟩ := h
  exact ⟨cur, e.trans h1, h2⟩
theorem RowC.keep {W W' : World} {g : Nat} {t : TypeId} {N : Nat} {c : Nat → Value} (h : RowC W g t N c) (hb : Below W.heap.size W W') : RowC W' g t N c := h.same (hb.block g h.lt)
theorem RowC.ext {W : World} {g : Nat} {t : TypeId} {N : Nat} {c c' : Nat → Value} (h : RowC W g t N c) (e : ∀ j, j < N → c j = c' j) : RowC W g t N c' := by
  obtain ⟨cur, h1, h2, h3⟩ := h
  exact ⟨cur, h1, h2, fun j hj => (h3 j hj).trans (by rw [e j hj])⟩
theorem RowC.set {W : World} {g : Nat} {t : TypeId} {N : Nat} {c : Nat → Value} (h : RowC W g t N c) (k : Nat) (v : Value) : RowC (W.setCell ⟨g, k, none⟩ v) g t N (fun j => if j = k then v else c j) := by
  obtain ⟨cur, h1, h2, h3⟩ := h
  refine ⟨cur.setIfInBounds k v, ?_, by simpa using h2, fun j hj => ?_⟩
  · simp only [World.setCell, Array.getElem?_modify, h1]
    simp
  · rw [Array.getElem?_setIfInBounds]
    by_cases e : j = k
    · subst e
      simp
      omega
    · rw [if_neg (fun q => e q.symm)]
      simp [e, h3 j hj]
theorem RowC.far {W : World} {g b o : Nat} {t : TypeId} {N : Nat} {c : Nat → Value} {v : Value} (h : RowC W g t N c) (hne : g ≠ b) : RowC (W.setCell ⟨b, o, none⟩ v) g t N c := h.same (Below.heap_setCell _ _ _ _ hne)
theorem RowC.drew {W : World} {g : Nat} {t : TypeId} {N : Nat} {c : Nat → Value} (h : RowC W g t N c) : RowC W.drew g t N c := h
theorem RowC.kept {W W' : World} {row : Option Nat} {g : Nat} {t : TypeId} {N : Nat} {c : Nat → Value} (h : RowC W g t N c) (hg : W.grownBy W' row) (hr : ∀ r, row = some r → ∃ o : Obj, W.heap[r]? = some o ∧ o.isCells = false) : RowC W' g t N c := by
  obtain ⟨cur, h1, h2⟩ := h
  exact ⟨cur, (hg.block g (Array.getElem?_eq_some_iff.1 h1).1 (fun e => by obtain ⟨o, ho, hc⟩ := hr g e.symm; rw [h1] at ho; cases ho; cases hc)).trans h1, h2⟩
/-- a row of the call's own, as a block known whole -/
theorem rowC_of_own {W : World} {base : Nat} {e : TypeId} {size n g cap : Nat} {xs : List Value} (h : W.ownsRow base e size (.slice (some ⟨g, 0, none⟩) n cap) n xs) (hc : cap = n) : base ≤ g ∧ RowC W g e (n * size) (fun j => xs[j]?.getD undef) := by
  subst hc
  obtain ⟨hl, h⟩ := h
  rcases h with ⟨h0, _⟩ | ⟨g', cap', cur, e1, hb, hg, r1, r2, r3, r4⟩
  · cases h0
  · simp only [Value.slice.injEq, Option.some.injEq, Addr.mk.injEq] at e1
    obtain ⟨⟨rfl, -, -⟩, -, rfl⟩ := e1
    refine ⟨hb, cur, hg, r3, fun j hj => ?_⟩
    have e2 : cur.toList = xs := by rw [← r4, List.take_of_length_le (by simp [r3])]
    rw [← e2]
    have hj' : j < cur.size := by omega
    simp [hj']
/-- a row that is not the nil slice -/
theorem RowC.own {W : World} {g : Nat} {t : TypeId} {n size base : Nat} {c : Nat → Value} (h : RowC W g t (n * size) c) (hb : base ≤ g) (hn : n ≤ maxLen) : W.ownsRow base t size (.slice (some ⟨g, 0, none⟩) n n) n ((List.range (n * size)).map c) := by
  obtain ⟨cur, h1, h2, h3⟩ := h
  refine ⟨by simp, .inr ⟨g, n, cur, rfl, hb, h1, Nat.le_refl _, hn, h2, ?_⟩⟩
  refine List.ext_getElem? fun j => ?_
  by_cases hj : j < n * size
  · rw [List.getElem?_take_of_lt hj]
    have q := h3 j hj
    simp only [Array.getElem?_toList] at *
    rw [q]
    simp [hj]
  · rw [List.getElem?_eq_none (by simp; omega), List.getElem?_eq_none (by simp; omega)]
end Go.Proofs.Ytdohfpnnmppdkaa

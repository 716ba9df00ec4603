import Derived.Test.YtamelpfhbnkggaaIter
import Derived.Test.YtamelpfhbnkggaaShelf
import Derived.Shelf.SlSortCmp.WholeK
import Derived.Shelf.SlSortCmp.NoneTotal
namespace Go.Proofs.Ytamelpfhbnkggaa
open Go.RowKit Go.Shelf Go.Lib Go.Sort
attribute [local go_sem] Oper.semAt_some

def encSp (x : Sp) : List Value := [.int .i64 x.1.1, .int .i64 x.1.2]
def cmpLo (x y : Sp) : Int := Lib.compareInt x.1.1 y.1.1

set_option maxHeartbeats 1000000 in
theorem byLo_grow (x y : Int × Int) (W : World) : Calls Try.prog 99 #[.agg #[.int .i64 x.1, .int .i64 x.2], .agg #[.int .i64 y.1, .int .i64 y.2]] W fun e w' => e = .returned (.int .i64 (Lib.compareInt x.1 y.1)) ∧ ∃ q os', w' = grow (W.drewN q) os' := by
  have hcon := fun W' => AnyG.cmp_Compare_int Try.cmpInt x.1 y.1 W'
  change ∀ W', Calls Try.prog 119 _ _ _ at hcon
  generalize Lib.compareInt x.1 y.1 = r at hcon ⊢
  go_enter Try.func99, Try.ntmps99
  go_wp2_with (go_at_call 119; refine (hcon _).mono ?_; rintro e w' ⟨rfl, rfl⟩)
  go_ret
  exact ⟨rfl, 0, _, by rw [alloc_eq_grow, alloc_eq_grow, grow_grow]; rfl⟩

theorem cmpLays (blk off size : Nat) (w : World) : CmpLays Try.prog 99 #[] encSp 2 cmpLo blk off size w :=
  fun _ _ _ _ x y => byLo_grow x.1 y.1 _

theorem ltLo (x y : Sp) : ltOf cmpLo x y = decide (x.1.1 < y.1.1) := by
  unfold ltOf cmpLo Lib.compareInt
  by_cases h1 : x.1.1 < y.1.1
  · simp [h1]
  · by_cases h2 : y.1.1 < x.1.1 <;> simp [h1, h2]
theorem swoLo : SWO (ltOf cmpLo) where
  irrefl x := by rw [ltLo]; simp
  trans x y z h1 h2 := by rw [ltLo] at *; simp at *; omega
  ntrans x y z h1 h2 := by rw [ltLo] at *; simp at *; omega

theorem sort_calls (blk off cap : Nat) (d : Array Sp) (w : World) (hH : HoldsK encSp 2 w blk off d) (hblk : blk < w.heap.size) (hsz : d.size < 4611686018427387904) :
    Calls Try.prog 117 #[.slice (some ⟨blk, off, none⟩) d.size cap, .func (.func 99) #[] #[]] w fun e w' => e = .returned (.tuple #[]) ∧ ∃ d' n os, PermIn 0 d.size d d' ∧ SortedIn (ltOf cmpLo) 0 d.size d' ∧ w' = sortWorldK encSp 2 w blk off n d' os := by
  have eg : ∀ args w, (callFunc 99 args).run Try.prog w = .ok (.enter 99 args) w := enters_of Try.func99 (by kernel_rfl) rfl
  have hcon := AnyQ.slices_SortFunc Try.sortSp 2 Try.isAgg23 Try.sizeOf23 encSp (fun _ => rfl) (fun x v hv => by simp [encSp] at hv; rcases hv with rfl | rfl <;> rfl) cmpLo swoLo 99 #[] blk off cap d w eg (cmpLays blk off d.size w) hH hblk hsz
  change Calls Try.prog 117 _ _ _ at hcon
  exact hcon

theorem sort_none (p : Option Addr) (cap : Nat) (fv : Value) (w : World) :
    Calls Try.prog 117 #[.slice p 0 cap, fv] w fun e w' => e = .returned (.tuple #[]) ∧ w' = w := by
  have hcon := AnyF.slices_SortFunc_none Try.sortSp p cap fv w
  change Calls Try.prog 117 _ _ _ at hcon
  exact hcon

theorem flat_length (zs : List (Int × Int)) : (flat zs).length = zs.length * 2 := by
  induction zs with
  | nil => rfl
  | cons z zs ih => simp [flat] at *; omega
theorem flat_get (zs : List (Int × Int)) (j : Nat) (hj : j < zs.length) : (flat zs)[j * 2]? = some (.int .i64 (zs[j]?.getD (0, 0)).1) ∧ (flat zs)[j * 2 + 1]? = some (.int .i64 (zs[j]?.getD (0, 0)).2) := by
  induction zs generalizing j with
  | nil => simp at hj
  | cons z zs ih =>
    cases j with
    | zero => simp [flat]
    | succ j =>
      have h := ih j (by simpa using hj)
      have e1 : (j + 1) * 2 = j * 2 + 2 := by omega
      rw [e1]
      simpa [flat] using h

/-- what a block of the call's own holds, as spans -/
theorem rowAt_of_block {W : World} {g : Nat} {cur : Array Value} {e : TypeId} {zs : List (Int × Int)} (hb : W.heap[g]? = some (.cells cur e (0, 0))) (ht : cur.toList.take (zs.length * 2) = flat zs) :
    ∀ t, t < zs.length * 2 → W.cell? ⟨g, t, none⟩ = (flat zs)[t]? ∧ W.frozen? ⟨g, t, none⟩ = false := by
  intro t hlt
  refine ⟨?_, by simp [World.frozen?, hb]⟩
  rw [← ht, List.getElem?_take_of_lt hlt]
  simp only [World.cell?, hb]
  simp
theorem spans_of_owns {W : World} {base : Nat} {v : Value} {zs : List (Int × Int)} (h : W.ownsRow base 23 2 v zs.length (flat zs)) : Spans W.heap.size W v zs := by
  rcases h.2 with ⟨rfl, hz⟩ | ⟨g, cap, cur, rfl, hbase, hgb, r1, r2, r3, r4⟩
  · exact .inl ⟨rfl, List.eq_nil_of_length_eq_zero hz⟩
  · refine .inr ⟨g, 0, cap, rfl, (Array.getElem?_eq_some_iff.1 hgb).1, fun j hj => ?_⟩
    have hr := rowAt_of_block hgb r4
    obtain ⟨h1, h2⟩ := flat_get zs j hj
    rw [Nat.zero_add]
    exact ⟨(hr (j * 2) (by omega)).1.trans h1, (hr (j * 2 + 1) (by omega)).1.trans h2⟩

theorem flatK_get (ss : List Sp) (t : Nat) (h : t < ss.length * 2) : some ((flatK encSp 2 ss.toArray)[t]!) = (flat (vals ss))[t]? := by
  rw [get_flatK _ _ _ _ (by simpa using h)]
  have hj : t / 2 < (vals ss).length := by simp [vals]; omega
  obtain ⟨h1, h2⟩ := flat_get (vals ss) (t / 2) hj
  have hj' : t / 2 < ss.length := by omega
  have e1 : ((vals ss)[t / 2]?.getD (0, 0)) = (ss.toArray[t / 2]!).1 := by simp [vals, hj']
  rw [e1] at h1 h2
  rcases Nat.mod_two_eq_zero_or_one t with h0 | h0
  · rw [show t / 2 * 2 = t by omega] at h1
    rw [h1, h0]; rfl
  · rw [show t / 2 * 2 + 1 = t by omega] at h2
    rw [h2, h0]; rfl

theorem grownBy_sortedK {w : World} {g n : Nat} {os : Array Obj} (d : Array Sp) : w.grownBy (sortWorldK encSp 2 w g 0 n d os) (some g) := by
  unfold sortWorldK putRowK
  refine ⟨rfl, rfl, rfl, by simp, fun k hk hne => ?_⟩
  rw [heap_grow_old _ _ (by simpa using hk)]
  have : g ≠ k := fun e => hne (by rw [e])
  simp [putRow, mapBlock, Sort.ahead, Array.getElem?_modify, this]

/-- sorted by the lower ends -/
def Asc (zs : List (Int × Int)) : Prop := zs.Pairwise fun x y => x.1 ≤ y.1

set_option maxHeartbeats 1000000 in
theorem collect_calls (n : Nat) (hn : 3 ≤ n) (g : Nat) (lb : Array Value) (eg : ∀ args w, (callFunc g args).run Try.prog w = .ok (.enter g args) w)
    (S SpP : List Sp → Prop) (N : Nat) (hN : N ≤ 8796093022207) (w : World) (hseq : SeqStopsK Fence.wide (n - 1) Try.prog g lb (fun x : Sp => #[spv x.1]) (Below w.heap.size) S SpP N w) :
    Calls Try.prog 116 #[.func (.func g) #[] lb] w fun e W' => ∃ v ss, e = .returned v ∧ S ss ∧ W'.ownsRow w.heap.size 23 2 v ss.length (flat (vals ss)) ∧ Below w.heap.size w W' := by
  have hc := callsIn_wide.1 (appendSeq_in n hn g lb eg S SpP N hN w.heap.size w (Nat.le_refl _) hseq)
  clear hseq
  go_enter Try.func116, Try.ntmps116
  go_wp2_with fail
  refine hc.mono ?_
  rintro e W' ⟨v, ss, rfl, h1, h2, h3⟩
  go_wp2_with fail
  go_ret
  exact ⟨v, ss, rfl, h1, h2, h3⟩

set_option maxHeartbeats 1000000 in
theorem sortedFunc_calls (n : Nat) (hn : 3 ≤ n) (g : Nat) (lb : Array Value) (eg : ∀ args w, (callFunc g args).run Try.prog w = .ok (.enter g args) w)
    (zs : List Sp) (SpP : List Sp → Prop) (N : Nat) (hN : N ≤ 8796093022207) (hz : zs.length ≤ N) (w : World) (hseq : SeqStopsK Fence.wide (n - 1) Try.prog g lb (fun x : Sp => #[spv x.1]) (Below w.heap.size) (fun ys => ys = zs) SpP N w) :
    Calls Try.prog 97 #[.func (.func g) #[] lb, .func (.func 99) #[] #[]] w fun e W' => ∃ (v : Value) (ss : List Sp), e = .returned v ∧ ss.Perm zs ∧ Asc (vals ss) ∧ Spans W'.heap.size W' v (vals ss) ∧ Below w.heap.size w W' := by
  have hc := collect_calls n hn g lb eg (fun ys => ys = zs) SpP N hN w hseq
  clear hseq
  go_enter Try.func97, Try.ntmps97
  go_wp2_with fail
  refine hc.mono ?_
  rintro e W ⟨v, ss, rfl, rfl, hrow, hb⟩
  clear hc
  rcases hrow.2 with ⟨rfl, hz0⟩ | ⟨gb, cap, cur, rfl, hbase, hgb, r1, r2, r3, r4⟩
  · have hss : ss = [] := List.eq_nil_of_length_eq_zero hz0
    subst hss
    have cS := sort_none none 0 (.func (.func 99) #[] #[]) W
    go_wp2_with fail
    refine cS.mono ?_
    rintro e w1 ⟨rfl, rfl⟩
    go_wp2_with fail
    go_ret
    exact ⟨.slice none 0 0, [], rfl, .refl _, by simp [vals, Asc], .inl ⟨rfl, rfl⟩, hb⟩
  · have hgl : gb < W.heap.size := (Array.getElem?_eq_some_iff.1 hgb).1
    have hrA := rowAt_of_block hgb (zs := vals ss) (by simpa [vals] using r4)
    have hH : HoldsK encSp 2 W gb 0 ss.toArray := fun t ht => by
      have ht' : t < ss.length * 2 := by simpa using ht
      have h := hrA t (by simpa [vals] using ht')
      rw [Nat.zero_add]
      exact ⟨h.1.trans (flatK_get ss t ht').symm, h.2⟩
    have cS := sort_calls gb 0 cap ss.toArray W hH hgl (by simp; omega)
    simp only [List.size_toArray] at cS
    clear hrA r4 hrow r3
    have HH := Lib.hid hH
    have Hgb := Lib.hid hgb
    clear hH hgb
    go_wp2_with fail
    refine cS.mono ?_
    rintro e w1 ⟨rfl, d', nn, os, hp, hs, hw1⟩
    have Hw := Lib.hid hw1
    clear hw1
    go_wp2_with fail
    go_ret
    have hw1 := Hw.out
    have hsz : d'.size = ss.length := by simpa using hp.1
    have hHd : HoldsK encSp 2 w1 gb 0 d' := by rw [hw1]; exact holdsK_sortWorldK_c encSp 2 W gb 0 ss.toArray d' nn os HH.out hgl (by simpa using hsz)
    have hg := grownBy_sortedK (w := W) (g := gb) (n := nn) (os := os) d'
    rw [← hw1] at hg
    refine ⟨_, d'.toList, rfl, ?_, ?_, .inr ⟨gb, 0, cap, by simp [vals, hsz], Nat.lt_of_lt_of_le hgl hg.size, fun j hj => ?_⟩, hb.grown hg hb.size (fun k e => by cases e; exact hbase)⟩
    · have h := hp.2.2
      rw [show d'.extract 0 ss.length = d' by rw [← hsz]; simp, show ss.toArray.extract 0 ss.length = ss.toArray by simp] at h
      simpa using h
    · refine List.pairwise_iff_getElem.2 fun i j hi hj hij => ?_
      have hj' : j < d'.size := by simpa [vals] using hj
      have h := hs i j (Nat.zero_le _) hij (by omega)
      rw [ltLo] at h
      simp only [vals, List.getElem_map, Array.getElem_toList]
      rw [getElem!_pos d' i (by omega), getElem!_pos d' j hj'] at h
      simpa using h
    · have hj' : j < d'.size := by simpa [vals] using hj
      have h0 := (hHd.cell hj' (c := 0) (by decide)).1
      have h1 := (hHd.cell hj' (c := 1) (by decide)).1
      have e1 : ((vals d'.toList)[j]?.getD (0, 0)) = (d'[j]!).1 := by simp [vals, hj']
      rw [e1]
      exact ⟨h0, h1⟩
end Go.Proofs.Ytamelpfhbnkggaa

/-
  Cables: the currents.
-/
import Derived.Test.YtdohfpnnmppdkaaCbF
namespace Go.Proofs.Ytdohfpnnmppdkaa
open Go.RowKit Go.Shelf
set_option linter.unusedSimpArgs false
attribute [local go_sem] Oper.semAt_some
/-- the cells of a row of spans -/
def spc (f : Nat → Int × Int) (j : Nat) : Value := if j % 2 = 0 then .int .i64 (f (j / 2)).1 else .int .i64 (f (j / 2)).2
theorem spc_even (f : Nat → Int × Int) (j : Nat) : spc f (j * 2) = .int .i64 (f j).1 := by
  unfold spc
  rw [if_pos (by omega), show j * 2 / 2 = j by omega]
theorem spc_odd (f : Nat → Int × Int) (j : Nat) : spc f (j * 2 + 1) = .int .i64 (f j).2 := by
  unfold spc
  rw [if_neg (by omega), show (j * 2 + 1) / 2 = j by omega]
theorem spc_set {W : World} {g n : Nat} {f : Nat → Int × Int} (h : RowC W g 23 (n * 2) (spc f)) (k : Nat) (a b : Int) :
    RowC ((W.setCell ⟨g, k * 2, none⟩ (.int .i64 a)).setCell ⟨g, k * 2 + 1, none⟩ (.int .i64 b)) g 23 (n * 2) (spc (fun j => if j = k then (a, b) else f j)) := by
  refine ((h.set (k * 2) (.int .i64 a)).set (k * 2 + 1) (.int .i64 b)).ext fun j hj => ?_
  unfold spc
  by_cases h1 : j = k * 2 + 1
  · subst h1
    simp [show (k * 2 + 1) / 2 = k by omega]
  · by_cases h2 : j = k * 2
    · subst h2
      simp
    · have h3 : ¬ j / 2 = k := by omega
      simp [h1, h2, h3]
theorem add_fit {a b c d : Int} (h1 : 0 ≤ a ∧ a ≤ b ∧ b ≤ 500000000) (h2 : 0 ≤ c ∧ c ≤ d ∧ d ≤ 500000000) : addS a b c d = ⟨a + c, b + d, 0⟩ := by
  unfold addS fit
  rw [if_pos ⟨(vB_iff _ _).2 (by omega), (vB_iff _ _).2 (by omega)⟩, if_pos ((vB_iff _ _).2 (by omega))]
/-- the currents by the nodes before k -/
def cuF (ns : List Nd) (k j : Nat) : Int × Int := (sm (fun i => (nd ns i).ll) (fun i => decide (j ∈ pth (par ns) i)) k, sm (fun i => (nd ns i).lh) (fun i => decide (j ∈ pth (par ns) i)) k)
/-- and those that the node k adds, at the nodes that were yielded -/
def cuT (ns : List Nd) (k : Nat) (pre : List Nat) (j : Nat) : Int × Int := ((cuF ns k j).1 + (pre.count j : Int) * (nd ns k).ll, (cuF ns k j).2 + (pre.count j : Int) * (nd ns k).lh)
theorem cuT_nil (ns : List Nd) (k : Nat) : cuT ns k [] = cuF ns k := by
  funext j
  simp [cuT]
theorem cuT_snoc (ns : List Nd) (k : Nat) (pre : List Nat) (x : Nat) : (fun j => if j = x then ((cuT ns k pre x).1 + (nd ns k).ll, (cuT ns k pre x).2 + (nd ns k).lh) else cuT ns k pre j) = cuT ns k (pre ++ [x]) := by
  funext j
  by_cases h : j = x
  · subst h
    simp only [if_true, cuT, List.count_append, List.count_singleton_self]
    rw [Int.natCast_add, Int.add_mul, Int.add_mul]
    simp only [Int.natCast_one, Int.one_mul, Int.add_assoc]
  · rw [if_neg h]
    have h' : ([x] : List Nat).count j = 0 := by
      rw [List.count_eq_zero]; simp [h]
    simp [cuT, List.count_append, h']
theorem count_pth {P : Nat → Nat} (hP : Tree P) (k j : Nat) : (pth P k).count j = if j ∈ pth P k then 1 else 0 := by
  have hnd : (pth P k).Nodup := (pth_desc hP k).imp (by intro a b h; omega)
  by_cases h : j ∈ pth P k
  · rw [if_pos h]
    have h1 := List.nodup_iff_count.1 hnd j
    have h2 := List.count_pos_iff.2 h
    omega
  · rw [if_neg h]
    exact List.count_eq_zero.2 h
theorem cuT_all {ns : List Nd} (hP : Tree (par ns)) (k : Nat) : cuT ns k (pth (par ns) k) = cuF ns (k + 1) := by
  funext j
  unfold cuT cuF
  rw [count_pth hP]
  simp only [sm, decide_eq_true_iff]
  split <;> simp
theorem cuT_bd {ns : List Nd} (hv : AllN ns) (hl : ns.length ≤ 60) {k : Nat} (hk : k < ns.length) (pre : List Nat) (hp : pre.length < 60) (x : Nat) :
    0 ≤ (cuT ns k pre x).1 ∧ (cuT ns k pre x).1 ≤ (cuT ns k pre x).2 ∧ (cuT ns k pre x).2 ≤ 500000000 := by
  obtain ⟨a1, a2, a3⟩ := cur_part hv hl (fun i => decide (x ∈ pth (par ns) i)) k (by omega)
  have b := (hv.node hk).2.2.1
  have c : pre.count x ≤ pre.length := List.count_le_length
  have m1 := Int.mul_nonneg (show (0 : Int) ≤ (pre.count x : Int) by omega) b.2.1
  have m2 := Int.mul_le_mul_of_nonneg_left b.1 (show (0 : Int) ≤ (pre.count x : Int) by omega)
  have m3 := Int.mul_le_mul (show (pre.count x : Int) ≤ 60 by omega) b.2.2 (by omega) (by decide)
  unfold cuT cuF
  simp only
  omega
/-- between two rounds: the cable's box, the slice's box, the row -/
def CuI (W : World) (C G X : Nat) (sl sh : Int) (a : Option Addr) (n cap : Nat) (f : Nat → Int × Int) : Prop :=
  W.heap[C]? = some (.cells #[.int .i64 sl, .int .i64 sh, .slice a n cap] 26 (0, 0)) ∧ W.heap[X]? = some (.cells #[.slice (some ⟨G, 0, none⟩) n n] 36 (0, 0)) ∧ RowC W G 23 (n * 2) (spc f)
theorem CuI.same {W W' : World} {C G X : Nat} {sl sh : Int} {a : Option Addr} {n cap : Nat} {f : Nat → Int × Int} (h : CuI W C G X sl sh a n cap f) (e : ∀ b, b < W.heap.size → W'.heap[b]? = W.heap[b]?) : CuI W' C G X sl sh a n cap f :=
  ⟨(e C (Array.getElem?_eq_some_iff.1 h.1).1).trans h.1, (e X (Array.getElem?_eq_some_iff.1 h.2.1).1).trans h.2.1, h.2.2.same (e G h.2.2.lt)⟩
theorem heap_kept {W W' : World} {row : Option Nat} {base b : Nat} (hg : W.grownBy W' row) (hr : ∀ r, row = some r → base ≤ r ∧ ∃ o : Obj, W.heap[r]? = some o ∧ o.isCells = false) (hb : b < base) (hbw : b < W.heap.size) : W'.heap[b]? = W.heap[b]? :=
  hg.block b hbw (fun e => by have := (hr b e.symm).1; omega)
theorem cell_kept {W W' : World} {row : Option Nat} {base b : Nat} {cs : Array Value} {t : TypeId} {q : Nat × Nat} (hg : W.grownBy W' row) (hr : ∀ r, row = some r → base ≤ r ∧ ∃ o : Obj, W.heap[r]? = some o ∧ o.isCells = false) (h : W.heap[b]? = some (.cells cs t q)) : W'.heap[b]? = some (.cells cs t q) :=
  (hg.block b (Array.getElem?_eq_some_iff.1 h).1 (fun e => by obtain ⟨_, o, ho, hc⟩ := hr b e.symm; rw [h] at ho; cases ho; cases hc)).trans h
theorem CuI.kept {W W' : World} {row : Option Nat} {base C G X : Nat} {sl sh : Int} {a : Option Addr} {n cap : Nat} {f : Nat → Int × Int} (h : CuI W C G X sl sh a n cap f) (hg : W.grownBy W' row) (hr : ∀ r, row = some r → base ≤ r ∧ ∃ o : Obj, W.heap[r]? = some o ∧ o.isCells = false) : CuI W' C G X sl sh a n cap f :=
  ⟨cell_kept hg hr h.1, cell_kept hg hr h.2.1, h.2.2.kept hg (fun r e => (hr r e).2)⟩
/-- in the rounds of the path of a node -/
def CuJ (ns : List Nd) (k C G X V n₀ : Nat) (sl sh : Int) (a : Option Addr) (n cap : Nat) (w W5 : World) (L : List Nat) (pre : List {x // x ∈ L}) (W : World) : Prop :=
  CuI W C G X sl sh a n cap (cuT ns k (pre.map (·.1))) ∧ W.heap[V]? = some (.cells #[.int .i64 (nd ns k).par, .int .i64 (nd ns k).ol, .int .i64 (nd ns k).oh, .int .i64 (nd ns k).lim, .int .i64 (nd ns k).ll, .int .i64 (nd ns k).lh, .int .i64 (nd ns k).lea, .int .i64 (nd ns k).del] 62 (0, 0)) ∧
  (∀ D : Nat, W5.heap[D]? = some (Obj.deferred (some [])) → W.heap[D]? = some (Obj.deferred (some []))) ∧ Below n₀ w W ∧ W5.heap.size ≤ W.heap.size
theorem CuJ.own (ns : List Nd) (k C G X V n₀ : Nat) (sl sh : Int) (a : Option Addr) (n cap : Nat) (w W5 : World) (L : List Nat) (hn₀ : n₀ ≤ W5.heap.size) : OwnFrom W5.heap.size (CuJ ns k C G X V n₀ sl sh a n cap w W5 L) := by
  intro pre A B row hs hg hr
  obtain ⟨h1, h2, h3, h4, h5⟩ := hs
  refine ⟨h1.kept hg hr, cell_kept hg hr h2, fun D hD => ?_, h4.grown hg (by omega) (fun r e => by have := (hr r e).1; omega), Nat.le_trans h5 hg.size⟩
  have q := h3 D hD
  exact (heap_kept hg hr (Array.getElem?_eq_some_iff.1 hD).1 (Array.getElem?_eq_some_iff.1 q).1).trans q
set_option maxRecDepth 100000 in
set_option maxHeartbeats 8000000 in
theorem currents_any (sl sh : Int) (sv : Value) (ns : List Nd) (hv : ValidC sl sh ns) (w : World) (hN : Nds w.heap.size w sv ns) :
    Calls Try.prog 92 #[.agg #[.int .i64 sl, .int .i64 sh, sv]] w fun e w' => ∃ g, e = .returned (.slice (some ⟨g, 0, none⟩) ns.length ns.length) ∧ RowC w' g 23 (ns.length * 2) (spc (fun j => (curL ns j, curH ns j))) ∧ w.heap.size ≤ g ∧ Below w.heap.size w w' := by
  have HUA := Lib.hid (fun k (hk : k < ns.length) => upAt_of hN hv.all hk)
  have hNN := hN
  obtain ⟨a, cap, rfl, -, hcc⟩ := hN
  have hn : ns.length ≤ 60 := hv.len
  have HC := Lib.hid (show ∀ W k, Below w.heap.size w W → k < ns.length → ∃ b off, a = some ⟨b, off, none⟩ ∧ b < w.heap.size ∧ W.cell? ⟨b, off + k * 8, none⟩ = some (.int .i64 (nd ns k).par) ∧ W.cell? ⟨b, off + k * 8 + 1, none⟩ = some (.int .i64 (nd ns k).ol) ∧ W.cell? ⟨b, off + k * 8 + 2, none⟩ = some (.int .i64 (nd ns k).oh) ∧ W.cell? ⟨b, off + k * 8 + 3, none⟩ = some (.int .i64 (nd ns k).lim) ∧ W.cell? ⟨b, off + k * 8 + 4, none⟩ = some (.int .i64 (nd ns k).ll) ∧ W.cell? ⟨b, off + k * 8 + 5, none⟩ = some (.int .i64 (nd ns k).lh) ∧ W.cell? ⟨b, off + k * 8 + 6, none⟩ = some (.int .i64 (nd ns k).lea) ∧ W.cell? ⟨b, off + k * 8 + 7, none⟩ = some (.int .i64 (nd ns k).del) from fun W k hb hk => by
    obtain ⟨b, off, h1, h2, e0, e1, e2, e3, e4, e5, e6, e7⟩ := hcc k hk
    exact ⟨b, off, h1, h2, (hb.cell (p := ⟨b, _, none⟩) h2).trans e0, (hb.cell (p := ⟨b, _, none⟩) h2).trans e1, (hb.cell (p := ⟨b, _, none⟩) h2).trans e2, (hb.cell (p := ⟨b, _, none⟩) h2).trans e3, (hb.cell (p := ⟨b, _, none⟩) h2).trans e4, (hb.cell (p := ⟨b, _, none⟩) h2).trans e5, (hb.cell (p := ⟨b, _, none⟩) h2).trans e6, (hb.cell (p := ⟨b, _, none⟩) h2).trans e7⟩)
  have HBD := Lib.hid (fun k (hk : k < ns.length) (pre : List Nat) (hp : pre.length < 60) (x : Nat) => cuT_bd hv.all hv.len hk pre hp x)
  have HLD := Lib.hid (fun k (hk : k < ns.length) => (hv.all.node hk).2.2.1)
  have HXN := Lib.hid (fun k (hk : k < ns.length) (x : Nat) (hx : x ∈ pth (par ns) k) => hv.all.path_lt hk hx)
  have HALL := Lib.hid (fun k => cuT_all hv.all.tree k)
  have HLEN := Lib.hid (fun k => pth_len hv.all.tree k)
  have HDEC := Lib.hid (fun k => pth_dec hv.all.tree k)
  have HHD := Lib.hid (fun k => nxt_head hv.all.tree k)
  have HRES := Lib.hid (show cuF ns ns.length = (fun j => (curL ns j, curH ns j)) from rfl)
  clear hcc hNN hv
  have HNL := Lib.hid (show ∀ k, k < ns.length → k < 60 from fun k h => by omega)
  generalize ns.length = n at *
  generalize (fun j => (curL ns j, curH ns j)) = RES at *
  obtain ⟨i0, hi0, hz0, hz1, hz2⟩ := info_parts (t := 23) (z := .agg #[.int .i64 0, .int .i64 0]) (size := 2) (bytes := 16) (by kernel_rfl)
  obtain ⟨w2, hM, hS, hg⟩ := run_make_full (P := Try.prog) (w.alloc (.cells #[.int .i64 sl, .int .i64 sh, .slice a n cap] 26)) (w.heap.size + 1) 36 23 i0 _ 2 Try.underlying36 hi0 hz0 hz1 .i64 .i64 n (by rw [hz2]; omega) (by unfold maxLen; omega) (by simp)
  rw [World.size_alloc] at hM hS
  obtain ⟨-, hR⟩ := rowC_of_own hS rfl
  have hR0 : RowC w2 (w.heap.size + 1) 23 (n * 2) (spc (cuF ns 0)) := hR.ext fun j hj => by
    unfold spc cuF
    simp only [sm]
    rcases Nat.mod_two_eq_zero_or_one j with m | m <;> simp [madeCells, Value.cells, hj, m]
  have hB2 : Below w.heap.size w w2 := ((Below.refl _ w).alloc (Nat.le_refl _) _).grown hg (by simp) (fun r e => by cases e)
  have hC2 : w2.heap[w.heap.size]? = some (.cells #[.int .i64 sl, .int .i64 sh, .slice a n cap] 26 (0, 0)) := (hg.block _ (by simp) (fun e => by cases e)).trans (World.alloc_heap_new w _)
  have c2 : w2.cell? ⟨w.heap.size, 2, none⟩ = some (.slice a n cap) := cellHB hC2 2
  have hz2' : w.heap.size + 1 < w2.heap.size := hR0.lt
  clear hS hg hR
  obtain ⟨W3, hW3⟩ : ∃ W3, W3 = w2.alloc (.cells #[.slice (some ⟨w.heap.size + 1, 0, none⟩) n n] 36) := ⟨_, rfl⟩
  have hI3 : CuI W3 w.heap.size (w.heap.size + 1) w2.heap.size sl sh a n cap (cuF ns 0) := by
    rw [hW3]
    exact ⟨(Below.heap_alloc _ _ _ (by omega)).trans hC2, World.alloc_heap_new _ _, hR0.same (Below.heap_alloc _ _ _ hz2')⟩
  have hB3 : Below w.heap.size w W3 := by rw [hW3]; exact hB2.alloc (by omega) _
  have c3 : W3.cell? ⟨w.heap.size, 1 + 1, none⟩ = some (.slice a n cap) := cellHB hI3.1 2
  rw [hW3] at c3
  have HB3 := Lib.hid hB3
  have HI3 := Lib.hid hI3
  have hord : w.heap.size < w.heap.size + 1 ∧ w.heap.size + 1 < w2.heap.size ∧ w2.heap.size < W3.heap.size := ⟨by omega, hz2', by rw [hW3]; simp⟩
  clear hB2 hC2 hR0 hI3 hB3 hi0 hz0 hz1 hz2 hz2' c2
  refine calls_marks 9 Try.func92 rfl ?_
  simp only [Try.ntmps92, List.size_toArray, List.length_cons, List.length_nil, Nat.reduceAdd, Nat.reduceSub, Array.replicate_succ, Array.replicate_zero, List.push_toArray, List.append_toArray, List.nil_append, List.cons_append]
  gi_wp2
  rw [← hW3]
  clear hM hW3 c3
  generalize hX : w2.heap.size = X at *
  generalize hG : w.heap.size + 1 = G at *
  generalize hC : w.heap.size = C at *
  have HWC := Lib.hid hC
  clear hX hG hC
  obtain ⟨INV, hINV⟩ : ∃ INV : Act → World → Prop, INV = fun a' wr => ∃ (k : Nat) (ds : List Deferred) (u4 u5 u15 u16 u17 u18 u19 u20 u21 u36 : Value), k ≤ n ∧ a' = { tmps := #[.agg #[.int .i64 sl, .int .i64 sh, .slice a n cap], .pointer (some ⟨C, 0, none⟩), .slice none 0 0, .pointer (some ⟨X, 0, none⟩), u4, u5, undef, .pointer (some ⟨C, 2, none⟩), .slice a n cap, .int .i64 (n : Int), .slice (some ⟨G, 0, none⟩) n n, .pointer (some ⟨C, 2, none⟩), .slice a n cap, .int .i64 (n : Int), .int .i64 (k : Int), u15, u16, u17, u18, u19, u20, u21, undef, undef, undef, undef, undef, undef, undef, undef, undef, undef, undef, undef, undef, undef, u36, undef], defers := ds } ∧ CuI wr C G X sl sh a n cap (cuF ns k) ∧ Marks W3.heap.size wr ds ∧ Below C w wr ∧ W3.heap.size ≤ wr.heap.size := ⟨_, rfl⟩
  obtain ⟨MU, hMU⟩ : ∃ MU : Act → World → Nat, MU = fun a' _ => n - (intOf (a'.tmps.getD 14 undef)).toNat := ⟨_, rfl⟩
  have HINV := Lib.hid hINV
  have HMU := Lib.hid hMU
  clear hINV hMU
  refine wpIn_loop INV MU ?_ ?_
  · rw [HINV.out]; exact ⟨0, [], undef, undef, undef, undef, undef, undef, undef, undef, undef, undef, Nat.zero_le _, by rfl, HI3.out, trivial, HB3.out, Nat.le_refl _⟩
  · intro a0 wr hinv
    rw [HINV.out] at hinv
    obtain ⟨k, ds, u4, u5, u15, u16, u17, u18, u19, u20, u21, u36, hk, rfl, hI, hMk, hB, hsz⟩ := hinv
    have HI := Lib.hid hI
    have HMk := Lib.hid hMk
    have HB := Lib.hid hB
    clear hMk
    by_cases hlt : k < n
    · have hki : (k : Int) < (n : Int) := by omega
      obtain ⟨b, off, hab, hb, n0, n1, n2, n3, n4, n5, n6, n7⟩ := HC.out _ k hB hlt
      subst hab
      have m0 := cellHB hI.1 0
      have m1 := cellHB hI.1 1
      have m2 := cellHB hI.1 2
      have hXb := HI.out.2.1
      have hCw : C < wr.heap.size := by omega
      have hXw : X < wr.heap.size := by omega
      have hGw : G < wr.heap.size := by omega
      clear hI
      gi_wp2
      refine ⟨trivial, ?_⟩
      refine (callsIn_wide.2 (up_any sl sh (some ⟨b, off, none⟩) n cap (k : Int) _)).mono ?_
      rintro e w1 ⟨rfl, rfl⟩
      gi_wp2
      obtain ⟨W5, hW5⟩ : ∃ W5, W5 = ((wr.alloc (.cells #[.int .i64 (nd ns k).par, .int .i64 (nd ns k).ol, .int .i64 (nd ns k).oh, .int .i64 (nd ns k).lim, .int .i64 (nd ns k).ll, .int .i64 (nd ns k).lh, .int .i64 (nd ns k).lea, .int .i64 (nd ns k).del] 62)).alloc (.cells #[.int .i64 sl, .int .i64 sh, .slice (some ⟨b, off, none⟩) n cap] 26)).alloc (.cells #[.int .i64 (k : Int)] 3) := ⟨_, rfl⟩
      rw [← hW5]
      have hb5 : Below wr.heap.size wr W5 := by rw [hW5]; exact (((Below.refl _ _).alloc (Nat.le_refl _) _).alloc (by simp) _).alloc (by simp; omega) _
      have hz5 : W5.heap.size = wr.heap.size + 3 := by rw [hW5]; simp
      have hV5 : W5.heap[wr.heap.size]? = some (.cells #[.int .i64 (nd ns k).par, .int .i64 (nd ns k).ol, .int .i64 (nd ns k).oh, .int .i64 (nd ns k).lim, .int .i64 (nd ns k).ll, .int .i64 (nd ns k).lh, .int .i64 (nd ns k).lea, .int .i64 (nd ns k).del] 62 (0, 0)) := by rw [hW5]; exact (Below.heap_alloc _ _ _ (by simp; omega)).trans ((Below.heap_alloc _ _ _ (by simp)).trans (World.alloc_heap_new wr _))
      have k5 : W5.cell? ⟨wr.heap.size + 1 + 1, 0, none⟩ = some (.int .i64 (k : Int)) := by rw [hW5]; simp [go_sem]
      have s5 : W5.cell? ⟨wr.heap.size + 1, 2, none⟩ = some (.slice (some ⟨b, off, none⟩) n cap) := by rw [hW5]; simp [go_sem]
      clear hW5 m0 m1 m2
      have hJ0 : CuJ ns k C G X wr.heap.size C sl sh (some ⟨b, off, none⟩) n cap w W5 (pth (par ns) k) [] W5 := ⟨by rw [List.map_nil, cuT_nil]; exact HI.out.same (fun b hb => hb5.block b hb), hV5, fun D hD => hD, HB.out.trans (hb5.mono (by omega)), Nat.le_refl _⟩
      have hU := (HUA.out k hlt).mono (HB.out.trans (hb5.mono (by omega))) (Nat.le_refl _)
      have hseq := up_stopsQ (fun q => q = wr.heap.size + 1 + 1 ∨ q = wr.heap.size + 1 ∨ q = b) (9 - 1) (by omega) (wr.heap.size + 1 + 1) (wr.heap.size + 1) (.slice (some ⟨b, off, none⟩) n cap) (pth (par ns) k) (by have := HLEN.out k; have := HNL.out k hlt; omega) (HDEC.out k) W5 (by rintro q (rfl | rfl | rfl) <;> omega) (.inl rfl) (.inr (.inl rfl)) (by rw [HHD.out]; exact k5) s5 (hU.toQ (.inr (.inr rfl)))
      have HB5W := Lib.hid hb5
      clear hU k5 s5 hV5
      refine wpIn_rangeFunc_ownG rfl (by omega) (gf := 147) (lb := #[.pointer (some ⟨wr.heap.size + 1 + 1, 0, none⟩), .pointer (some ⟨wr.heap.size + 1, 0, none⟩)]) rfl trivial (enters_of Try.func147 (by kernel_rfl) rfl) hseq (fun h1 h2 => h1.trans h2) (fun W l o o' hl _ _ _ q hq => World.putObj_heap_other (by rcases hq with rfl | rfl | rfl <;> omega)) (Below.refl _ _) (fun _ => rfl)
        (CuJ ns k C G X wr.heap.size C sl sh (some ⟨b, off, none⟩) n cap w W5 (pth (par ns) k)) (fun _ _ _ => False) (CuJ.own _ _ _ _ _ _ _ _ _ _ _ _ _ _ _ (by omega)) (fun _ _ _ _ _ hs _ _ => hs) hJ0 (fun x => { tmps := #[.agg #[.int .i64 sl, .int .i64 sh, .slice (some ⟨b, off, none⟩) n cap], .pointer (some ⟨C, 0, none⟩), .slice none 0 0, .pointer (some ⟨X, 0, none⟩), .int .i64 (k : Int), .pointer (some ⟨wr.heap.size, 0, none⟩), .int .i64 (x.1 : Int), .pointer (some ⟨C, 2, none⟩), .slice (some ⟨b, off, none⟩) n cap, .int .i64 (n : Int), .slice (some ⟨G, 0, none⟩) n n, .pointer (some ⟨C, 2, none⟩), .slice (some ⟨b, off, none⟩) n cap, .int .i64 (n : Int), .int .i64 (k : Int), .bool true, .int .i64 (k : Int), .pointer (some ⟨b, off + k * 8, none⟩), .agg #[.int .i64 (nd ns k).par, .int .i64 (nd ns k).ol, .int .i64 (nd ns k).oh, .int .i64 (nd ns k).lim, .int .i64 (nd ns k).ll, .int .i64 (nd ns k).lh, .int .i64 (nd ns k).lea, .int .i64 (nd ns k).del], .agg #[.int .i64 sl, .int .i64 sh, .slice (some ⟨b, off, none⟩) n cap], .int .i64 (k : Int), .func (.func 147) #[] #[.pointer (some ⟨wr.heap.size + 1 + 1, 0, none⟩), .pointer (some ⟨wr.heap.size + 1, 0, none⟩)], .int .i64 (x.1 : Int), undef, undef, undef, undef, undef, undef, undef, undef, undef, undef, undef, undef, undef, u36, undef], defers := [] }) ?assign ?body ?done ?stop
      case assign =>
        intro l x W K hK
        gi_wp2
        exact hK
      case body =>
        rintro l pre ⟨x, hx⟩ W ⟨hcu, hV, hm, hB5, hzW⟩ hpl
        have hxn := HXN.out k hlt x hx
        have hbd := HBD.out k hlt (pre.map (·.1)) (by simpa using hpl) x
        have hld := HLD.out k hlt
        have c55 := fun W => badd_any (cuT ns k (pre.map (·.1)) x).1 (cuT ns k (pre.map (·.1)) x).2 (nd ns k).ll (nd ns k).lh W
        rw [add_fit hbd (by omega)] at c55
        have HSN := Lib.hid (show (fun j => if j = x then ((cuT ns k (pre.map (·.1)) x).1 + (nd ns k).ll, (cuT ns k (pre.map (·.1)) x).2 + (nd ns k).lh) else cuT ns k (pre.map (·.1)) j) = cuT ns k ((pre ++ [(⟨x, hx⟩ : {x // x ∈ pth (par ns) k})]).map (·.1)) from by rw [cuT_snoc]; simp)
        have u0 := hcu.2.2.cell (j := x * 2) (by omega)
        have u1 := hcu.2.2.cell (j := x * 2 + 1) (by omega)
        rw [spc_even] at u0
        rw [spc_odd] at u1
        have uf0 := hcu.2.2.froz (x * 2)
        have uf1 := hcu.2.2.froz (x * 2 + 1)
        have x0 := cellHB hcu.2.1 0
        have v4 := cellHB hV 4
        have v5 := cellHB hV 5
        have hxi : (x : Int) < (n : Int) := by omega
        have HCU := Lib.hid hcu
        have HV := Lib.hid hV
        have HM := Lib.hid hm
        have HB5 := Lib.hid hB5
        have KS := Lib.hid (show ∀ W1, Below W.heap.size W W1 → W1.cell? ⟨X, 0, none⟩ = some (Value.slice (some ⟨G, 0, none⟩) n n) ∧ W1.cell? ⟨wr.heap.size, 4, none⟩ = some (Value.int .i64 (nd ns k).ll) ∧ W1.cell? ⟨wr.heap.size, 5, none⟩ = some (Value.int .i64 (nd ns k).lh) from fun W1 h => ⟨(h.cell (p := ⟨X, 0, none⟩) (by show X < W.heap.size; omega)).trans x0, (h.cell (p := ⟨wr.heap.size, 4, none⟩) (by show wr.heap.size < W.heap.size; omega)).trans v4, (h.cell (p := ⟨wr.heap.size, 5, none⟩) (by show wr.heap.size < W.heap.size; omega)).trans v5⟩)
        clear hcu hV hm hB5 hbd hld hseq hJ0
        generalize (cuT ns k (pre.map (·.1)) x).1 = p0 at *
        generalize (cuT ns k (pre.map (·.1)) x).2 = p1 at *
        gi_wp2
        refine wpIn_round_held (S := fun w' => w'.cell? ⟨X, 0, none⟩ = some (Value.slice (some ⟨G, 0, none⟩) n n) ∧ w'.cell? ⟨wr.heap.size, 4, none⟩ = some (Value.int .i64 (nd ns k).ll) ∧ w'.cell? ⟨wr.heap.size, 5, none⟩ = some (Value.int .i64 (nd ns k).lh)) (by kernel_rfl) (by kernel_rfl) (by rintro ⟨_, _, q⟩; exact q) ⟨by simpa [go_sem] using x0, by simpa [go_sem] using v4, by simpa [go_sem] using v5⟩ (fun hHeld => ?_)
        refine wpAnyH_take (i := 0) (oi := _) (v := Value.slice (some ⟨G, 0, none⟩) n n) rfl (by kernel_rfl) (by kernel_rfl) (by kernel_rfl) (fun _ _ _ h => h) (Or.inl ⟨by rfl, fun w' hSw => ?_⟩) hHeld ?_
        · obtain ⟨t0, t1, t2⟩ := hSw
          go_simp
          try simp [*]
          try (intro hh; exfalso; omega)
          try omega
        try simp only [Act.put, List.setIfInBounds_toArray, List.set_cons_zero, List.set_cons_succ, List.getElem_toArray, List.getElem_cons_succ, List.getElem_cons_zero]
        refine wpAnyH_take (i := 1) (oi := _) (v := Value.int .i64 (x : Int)) rfl (by kernel_rfl) (by kernel_rfl) (by kernel_rfl) (fun _ _ _ h => h) (Or.inl ⟨by rfl, fun w' hSw => ?_⟩) hHeld ?_
        · obtain ⟨t0, t1, t2⟩ := hSw
          go_simp
          try simp [*]
          try (intro hh; exfalso; omega)
          try omega
        try simp only [Act.put, List.setIfInBounds_toArray, List.set_cons_zero, List.set_cons_succ, List.getElem_toArray, List.getElem_cons_succ, List.getElem_cons_zero]
        refine wpAnyH_take (i := 2) (oi := _) (v := Value.slice (some ⟨G, 0, none⟩) n n) rfl (by kernel_rfl) (by kernel_rfl) (by kernel_rfl) (fun _ _ _ h => h) (Or.inl ⟨by rfl, fun w' hSw => ?_⟩) hHeld ?_
        · obtain ⟨t0, t1, t2⟩ := hSw
          go_simp
          try simp [*]
          try (intro hh; exfalso; omega)
          try omega
        try simp only [Act.put, List.setIfInBounds_toArray, List.set_cons_zero, List.set_cons_succ, List.getElem_toArray, List.getElem_cons_succ, List.getElem_cons_zero]
        refine wpAnyH_take (i := 3) (oi := _) (v := Value.int .i64 (x : Int)) rfl (by kernel_rfl) (by kernel_rfl) (by kernel_rfl) (fun _ _ _ h => h) (Or.inl ⟨by rfl, fun w' hSw => ?_⟩) hHeld ?_
        · obtain ⟨t0, t1, t2⟩ := hSw
          go_simp
          try simp [*]
          try (intro hh; exfalso; omega)
          try omega
        try simp only [Act.put, List.setIfInBounds_toArray, List.set_cons_zero, List.set_cons_succ, List.getElem_toArray, List.getElem_cons_succ, List.getElem_cons_zero]
        refine wpAnyH_take (i := 4) (oi := _) (v := Value.pointer (some ⟨G, x * 2, none⟩)) rfl (by kernel_rfl) (by kernel_rfl) (by kernel_rfl) (fun _ _ _ h => h) (Or.inl ⟨by rfl, fun w' hSw => ?_⟩) hHeld ?_
        · obtain ⟨t0, t1, t2⟩ := hSw
          go_simp
          try simp [*]
          try (intro hh; exfalso; omega)
          try omega
        try simp only [Act.put, List.setIfInBounds_toArray, List.set_cons_zero, List.set_cons_succ, List.getElem_toArray, List.getElem_cons_succ, List.getElem_cons_zero]
        refine wpAnyH_take (i := 6) (oi := _) (v := Value.pointer (some ⟨wr.heap.size, 4, none⟩)) rfl (by kernel_rfl) (by kernel_rfl) (by kernel_rfl) (fun _ _ _ h => h) (Or.inl ⟨by rfl, fun w' hSw => ?_⟩) hHeld ?_
        · obtain ⟨t0, t1, t2⟩ := hSw
          go_simp
          try simp [*]
          try (intro hh; exfalso; omega)
          try omega
        try simp only [Act.put, List.setIfInBounds_toArray, List.set_cons_zero, List.set_cons_succ, List.getElem_toArray, List.getElem_cons_succ, List.getElem_cons_zero]
        refine wpAnyH_take (i := 7) (oi := _) (v := Value.agg #[Value.int .i64 (nd ns k).ll, Value.int .i64 (nd ns k).lh]) rfl (by kernel_rfl) (by kernel_rfl) (by kernel_rfl) (fun _ _ _ h => h) (Or.inl ⟨by rfl, fun w' hSw => ?_⟩) hHeld ?_
        · obtain ⟨t0, t1, t2⟩ := hSw
          go_simp
          try simp [*]
          try (intro hh; exfalso; omega)
          try omega
        try simp only [Act.put, List.setIfInBounds_toArray, List.set_cons_zero, List.set_cons_succ, List.getElem_toArray, List.getElem_cons_succ, List.getElem_cons_zero]
        refine wpAnyH_ready (rs := [5]) (by kernel_rfl) (by simp) ?_
        refine AllReadyH.cons (o := _) rfl (fun K hK => ?_) AllReadyH.nil
        go_simp
        clear hHeld
        refine hK.out _ _ (KS.out _ (Below.refl _ _).drew) (fun hHeld => ?_)
        clear hK K
        try simp only [Act.put, List.setIfInBounds_toArray, List.set_cons_zero, List.set_cons_succ, List.getElem_toArray, List.getElem_cons_succ, List.getElem_cons_zero]
        refine wpAnyH_ready (rs := [8]) (by kernel_rfl) (by simp) ?_
        refine AllReadyH.cons (o := _) rfl (fun K hK => ?_) AllReadyH.nil
        go_simp
        go_at_call 55
        refine Calls.mono (c55 _) ?_
        rintro e v1 ⟨rfl, hb⟩
        have HV1 := Lib.hid (show Below W.heap.size W v1 from Below.trans ((Below.refl W.heap.size W).drew) hb)
        have y0 := (HV1.out.cell (p := ⟨G, x * 2, none⟩) HCU.out.2.2.lt).trans u0
        have y1 := (HV1.out.cell (p := ⟨G, x * 2 + 1, none⟩) HCU.out.2.2.lt).trans u1
        have yf0 := (HV1.out.frozen (p := ⟨G, x * 2, none⟩) HCU.out.2.2.lt).trans uf0
        have yf1 := (HV1.out.frozen (p := ⟨G, x * 2 + 1, none⟩) HCU.out.2.2.lt).trans uf1
        clear hb
        clear hHeld
        refine hK.out _ _ (KS.out _ HV1.out) (fun hHeld => ?_)
        clear hK K
        try simp only [Act.put, List.setIfInBounds_toArray, List.set_cons_zero, List.set_cons_succ, List.getElem_toArray, List.getElem_cons_succ, List.getElem_cons_zero]
        refine wpAnyH_take (i := 9) (oi := _) (v := Value.tuple #[.agg #[.int .i64 (p0 + (nd ns k).ll), .int .i64 (p1 + (nd ns k).lh)], .int .i64 0]) rfl (by kernel_rfl) (by kernel_rfl) (by kernel_rfl) (fun _ _ _ h => h) (Or.inl ⟨by rfl, fun w' hSw => ?_⟩) hHeld ?_
        · obtain ⟨t0, t1, t2⟩ := hSw
          go_simp
          try simp [*]
          try (intro hh; exfalso; omega)
          try omega
        try simp only [Act.put, List.setIfInBounds_toArray, List.set_cons_zero, List.set_cons_succ, List.getElem_toArray, List.getElem_cons_succ, List.getElem_cons_zero]
        refine wpAnyH_take (i := 10) (oi := _) (v := .agg #[.int .i64 (p0 + (nd ns k).ll), .int .i64 (p1 + (nd ns k).lh)]) rfl (by kernel_rfl) (by kernel_rfl) (by kernel_rfl) (fun _ _ _ h => h) (Or.inl ⟨by rfl, fun w' hSw => ?_⟩) hHeld ?_
        · obtain ⟨t0, t1, t2⟩ := hSw
          go_simp
          try simp [*]
          try (intro hh; exfalso; omega)
          try omega
        try simp only [Act.put, List.setIfInBounds_toArray, List.set_cons_zero, List.set_cons_succ, List.getElem_toArray, List.getElem_cons_succ, List.getElem_cons_zero]
        refine wpAnyH_take (i := 11) (oi := _) (v := .int .i64 0) rfl (by kernel_rfl) (by kernel_rfl) (by kernel_rfl) (fun _ _ _ h => h) (Or.inl ⟨by rfl, fun w' hSw => ?_⟩) hHeld ?_
        · obtain ⟨t0, t1, t2⟩ := hSw
          go_simp
          try simp [*]
          try (intro hh; exfalso; omega)
          try omega
        try simp only [Act.put, List.setIfInBounds_toArray, List.set_cons_zero, List.set_cons_succ, List.getElem_toArray, List.getElem_cons_succ, List.getElem_cons_zero]
        refine wpAnyH_take (i := 12) (oi := _) (v := Value.pointer (some ⟨G, x * 2, none⟩)) rfl (by kernel_rfl) (by kernel_rfl) (by kernel_rfl) (fun _ _ _ h => h) (Or.inl ⟨by rfl, fun w' hSw => ?_⟩) hHeld ?_
        · obtain ⟨t0, t1, t2⟩ := hSw
          go_simp
          try simp [*]
          try (intro hh; exfalso; omega)
          try omega
        try simp only [Act.put, List.setIfInBounds_toArray, List.set_cons_zero, List.set_cons_succ, List.getElem_toArray, List.getElem_cons_succ, List.getElem_cons_zero]
        obtain ⟨r0, r1, r2⟩ := KS.out _ HV1.out
        have hGX : G ≠ X := by omega
        have hGV : G ≠ wr.heap.size := by omega
        refine wpAnyH_ready (rs := [13]) (by kernel_rfl) (by simp) ?_
        refine AllReadyH.cons (o := _) rfl (fun K hK => ?_) AllReadyH.nil
        go_simp
        clear hHeld
        refine hK.out _ _ ⟨by simp [go_sem, *], by simp [go_sem, *], by simp [go_sem, *]⟩ (fun hHeld => ?_)
        clear hK K
        try simp only [Act.put, List.setIfInBounds_toArray, List.set_cons_zero, List.set_cons_succ, List.getElem_toArray, List.getElem_cons_succ, List.getElem_cons_zero]
        refine wpAnyH_done (by kernel_rfl) ?_ _
        clear hHeld
        gi_wp2
        have hko : KeepsOthers W v1 := ⟨HV1.out.size, fun k o hk ho => (HV1.out.block k (Array.getElem?_eq_some_iff.1 hk).1).trans hk⟩
        have hfar : ∀ q, q < W.heap.size → q ≠ G → ((v1.setCell ⟨G, x * 2, none⟩ (.int .i64 (p0 + (nd ns k).ll))).setCell ⟨G, x * 2 + 1, none⟩ (.int .i64 (p1 + (nd ns k).lh))).heap[q]? = W.heap[q]? := fun q hq hne => (Below.heap_setCell _ _ _ _ hne).trans ((Below.heap_setCell _ _ _ _ hne).trans (HV1.out.block q hq))
        refine ⟨((hko.trans (KeepsOthers.setCell _ _ _)).trans (KeepsOthers.setCell _ _ _)).from _, fun q hq => hfar q (by rcases hq with rfl | rfl | rfl <;> omega) (by rcases hq with rfl | rfl | rfl <;> omega), ⟨?_, ?_, ?_⟩, (hfar _ (by omega) (by omega)).trans HV.out, fun D hD => ?_, ?_, ?_⟩
        · exact (hfar C (by omega) (by omega)).trans HCU.out.1
        · exact (hfar X (by omega) (by omega)).trans HCU.out.2.1
        · rw [← HSN.out]
          exact spc_set (HCU.out.2.2.keep HV1.out) x _ _
        · have q := HM.out D hD
          have hD2 := (Array.getElem?_eq_some_iff.1 q).1
          refine (hfar D hD2 ?_).trans q
          rintro rfl
          obtain ⟨cur, hg, _⟩ := HCU.out.2.2
          rw [hg] at q
          cases q
        · exact ((HB5.out.trans (HV1.out.mono (by omega))).setCell (p := ⟨G, x * 2, none⟩) (by show C ≤ G; omega) _).setCell (p := ⟨G, x * 2 + 1, none⟩) (by show C ≤ G; omega) _
        · have := HV1.out.size; simp; omega
      case done =>
        rintro D ys W hD hys ⟨hcu, hV, hm, hB5, hzW⟩ hK
        subst hys
        rw [List.attach_map_subtype_val, HALL.out] at hcu
        have HCU := Lib.hid hcu
        have HMM : Hid (Marks W3.heap.size W ({ target := .collected D, args := #[] } :: ds)) := Lib.hid ⟨⟨D, by omega, rfl, hK, HMk.out.fresh (by omega)⟩, HMk.out.keep (fun d _ D' _ hD' => hm D' ((HB5W.out.block D' (Array.getElem?_eq_some_iff.1 hD').1).trans hD'))⟩
        have HB5 := Lib.hid hB5
        clear hcu hV hm hB5 hK hseq hJ0 n0 n1 n2 n3 n4 n5 n6 n7
        gi_wp2
        refine ⟨?_, ?_⟩
        · rw [HINV.out]
          exact ⟨k + 1, _, _, _, _, _, _, _, _, _, _, _, by omega, rfl, HCU.out, HMM.out, HB5.out, by omega⟩
        · rw [HMU.out]
          simp [intOf]; omega
      case stop =>
        rintro D c pre W _ _ hf
        exact hf.elim
    · obtain rfl : k = n := by omega
      have x0 := cellHB hI.2.1 0
      clear hI
      gi_wp2
      refine leaves_marks W3.heap.size ds _ (by simpa using hsz) HMk.out (fun W' hb hk => ⟨_, results_tmp rfl _ _ _, G, rfl, ?_, ?_, ?_⟩)
      · obtain ⟨cur, hg, hr⟩ := HI.out.2.2
        rw [← HRES.out]
        exact ⟨cur, hk G _ hg rfl, hr⟩
      · rw [HWC.out]; omega
      · rw [HWC.out]
        exact HB.out.trans (hb.mono (by omega))
end Go.Proofs.Ytdohfpnnmppdkaa

/-
  moored (70): the mooring of links, and its currents.
-/
import Derived.Test.YtdohfpnnmppdkaaCiMath
import Derived.Maps.AppendAt
import Derived.Laws.AppendOwnNone
namespace Go.Proofs.Ytdohfpnnmppdkaa.Moo
open Go.RowKit Go.Shelf
set_option linter.unusedSimpArgs false
attribute [local go_sem] Oper.semAt_some
def LnkC (W : World) (y : Lk) (b off : Nat) : Prop :=
  OkL y ∧ W.cell? ⟨b, off, none⟩ = some (.int .u16 y.len) ∧ W.cell? ⟨b, off + 1, none⟩ = some (.int .i16 y.lift) ∧ W.cell? ⟨b, off + 2, none⟩ = some (.int .u8 y.drag) ∧ W.cell? ⟨b, off + 3, none⟩ = some (.int .u16 y.str) ∧ W.cell? ⟨b, off + 4, none⟩ = some (.int .u8 y.slow) ∧ W.cell? ⟨b, off + 5, none⟩ = some (.int .u8 y.more)
/-- links in memory -/
def LnkA (n₀ : Nat) (W : World) (v : Value) (l : List Lk) : Prop :=
  ∃ a cap, v = .slice a l.length cap ∧ l.length ≤ cap ∧ ∀ k, k < l.length → ∃ b off, a = some ⟨b, off, none⟩ ∧ b < n₀ ∧ LnkC W (lk l k) b (off + k * 6)
theorem infoM170 : (Try.prog.info? 170).map (fun i => (i.zero, i.size, i.bytes)) = some (some (.agg #[.int .i64 0, .int .i64 0, .int .i64 0, .int .i64 0]), 4, 32) := by kernel_rfl
theorem infoM23 : (Try.prog.info? 23).map (fun i => (i.zero, i.size, i.bytes)) = some (some (.agg #[.int .i64 0, .int .i64 0]), 2, 16) := by kernel_rfl
def elV (m : El) : List Value := [.int .i64 m.len, .int .i64 m.lift, .int .i64 m.drag, .int .i64 m.str]
def flatE (l : List El) : List Value := l.flatMap elV
theorem flatE_snoc (l : List El) (m : El) : flatE (l ++ [m]) = flatE l ++ elV m := by simp [flatE, List.flatMap_append]
theorem flatE_get (l : List El) : ∀ k, k < l.length → (flatE l)[k * 4]? = some (.int .i64 (el l k).len) ∧ (flatE l)[k * 4 + 1]? = some (.int .i64 (el l k).lift) ∧ (flatE l)[k * 4 + 2]? = some (.int .i64 (el l k).drag) ∧ (flatE l)[k * 4 + 3]? = some (.int .i64 (el l k).str) := by
  induction l with
  | nil => intro k h; simp at h
  | cons m l ih =>
    intro k h
    have hc : flatE (m :: l) = elV m ++ flatE l := rfl
    rw [hc]
    cases k with
    | zero => exact ⟨rfl, rfl, rfl, rfl⟩
    | succ k =>
      obtain ⟨h0, h1, h2, h3⟩ := ih k (by simpa using h)
      have e : el (m :: l) (k + 1) = el l k := by simp [el]
      have hl : (elV m).length = 4 := rfl
      rw [e]
      refine ⟨?_, ?_, ?_, ?_⟩
      · rw [List.getElem?_append_right (by rw [hl]; omega), hl, show (k + 1) * 4 - 4 = k * 4 by omega]; exact h0
      · rw [List.getElem?_append_right (by rw [hl]; omega), hl, show (k + 1) * 4 + 1 - 4 = k * 4 + 1 by omega]; exact h1
      · rw [List.getElem?_append_right (by rw [hl]; omega), hl, show (k + 1) * 4 + 2 - 4 = k * 4 + 2 by omega]; exact h2
      · rw [List.getElem?_append_right (by rw [hl]; omega), hl, show (k + 1) * 4 + 3 - 4 = k * 4 + 3 by omega]; exact h3
theorem keepBM {W : World} {b : Nat} {x : Obj} (h : W.heap[b]? = some x) (o : Obj) : (W.alloc o).heap[b]? = some x := by
  have hb := (Array.getElem?_eq_some_iff.1 h).1
  exact (Below.heap_alloc W o b hb).trans h
theorem keepGM {W W' : World} {row : Option Nat} {b : Nat} {x : Obj} (h : W.heap[b]? = some x) (hg : W.grownBy W' row) (hn : row ≠ some b) : W'.heap[b]? = some x :=
  (hg.block b (Array.getElem?_eq_some_iff.1 h).1 (fun e => hn e.symm)).trans h
theorem keepSM {W : World} {b c o : Nat} {x : Obj} (h : W.heap[b]? = some x) (hn : b ≠ c) (u : Value) : (W.setCell ⟨c, o, none⟩ u).heap[b]? = some x :=
  (Below.heap_setCell W ⟨c, o, none⟩ u b hn).trans h
theorem grown_setM (W : World) (b o : Nat) (v : Value) : W.grownBy (W.setCell ⟨b, o, none⟩ v) (some b) :=
  ⟨rfl, rfl, rfl, (KeepsWalks.setCell W _ v).size, fun k _ hk => Below.heap_setCell _ _ _ k (fun e => hk (by rw [e]))⟩
/-- a row's block is none whose type is another one -/
theorem own_neB {W : World} {base n size B : Nat} {t t' : TypeId} {v : Value} {xs : List Value} {c : Array Value} {q : Nat × Nat} (h : W.ownsRow base t size v n xs) (hB : W.heap[B]? = some (.cells c t' q)) (ht : t ≠ t') : v.ownBlock ≠ some B := by
  intro e
  rcases h.2 with ⟨hv, h0⟩ | ⟨g, cap, cur, hv, _, hg, _⟩
  · rw [hv] at e; cases e
  · rw [hv] at e
    have e' : g = B := by simpa [Value.ownBlock] using e
    rw [e', hB] at hg
    simp only [Option.some.injEq, Obj.cells.injEq] at hg
    exact ht hg.2.1.symm
theorem own_neT {W : World} {base base' n n' size size' : Nat} {t t' : TypeId} {v v' : Value} {xs xs' : List Value} (h : W.ownsRow base t size v n xs) (h' : W.ownsRow base' t' size' v' n' xs') (ht : t ≠ t') : v.ownBlock = none ∨ v.ownBlock ≠ v'.ownBlock := by
  rcases h'.2 with ⟨hv, h0⟩ | ⟨g, cap, cur, hv, _, hg, _⟩
  · rcases e : v.ownBlock with _ | k
    · exact .inl rfl
    · refine .inr fun e2 => ?_
      rw [hv] at e2; cases e2
  · refine .inr fun e2 => own_neB h hg ht ?_
    rw [e2, hv]; rfl
theorem four_newM (W : World) (y0 y1 y2 y3 : Value) (t : TypeId) : ∀ (j : Nat) (u : Value), [y0, y1, y2, y3][j]? = some u → (W.alloc (.cells #[y0, y1, y2, y3] t)).cell? ((⟨W.heap.size, 0, none⟩ : Addr).add j) = some u := by
  intro j u hj
  match j, hj with
  | 0, h => simp at h; subst h; simp [Addr.add, go_sem]
  | 1, h => simp at h; subst h; simp [Addr.add, go_sem]
  | 2, h => simp at h; subst h; simp [Addr.add, go_sem]
  | 3, h => simp at h; subst h; simp [Addr.add, go_sem]
theorem two_newM (W : World) (y0 y1 : Value) (t : TypeId) : ∀ (j : Nat) (u : Value), [y0, y1][j]? = some u → (W.alloc (.cells #[y0, y1] t)).cell? ((⟨W.heap.size, 0, none⟩ : Addr).add j) = some u := by
  intro j u hj
  match j, hj with
  | 0, h => simp at h; subst h; simp [Addr.add, go_sem]
  | 1, h => simp at h; subst h; simp [Addr.add, go_sem]
theorem own_formM {W : World} {base n size : Nat} {t : TypeId} {v : Value} {xs : List Value} (h : W.ownsRow base t size v n xs) : ∃ a c, v = .slice a n c := by
  rcases h.2 with ⟨hv, h0⟩ | ⟨g, cap, cur, hv, _⟩
  · exact ⟨none, 0, by rw [h0]; exact hv⟩
  · exact ⟨_, cap, hv⟩
theorem cellM {W : World} {B : Nat} {cs : Array Value} {t : TypeId} {q : Nat × Nat} (h : W.heap[B]? = some (.cells cs t q)) (j : Nat) : W.cell? ⟨B, j, none⟩ = cs[j]? := by simp [World.cell?, h]
theorem frozM {W : World} {B : Nat} {cs : Array Value} {t : TypeId} (h : W.heap[B]? = some (.cells cs t (0, 0))) (j : Nat) : W.frozen? ⟨B, j, none⟩ = false := by simp [World.frozen?, h]
theorem set4b {W : World} {b : Nat} {x0 x1 x2 x3 : Value} {t : TypeId} (h : W.heap[b]? = some (.cells #[x0, x1, x2, x3] t (0, 0))) (u : Value) : (W.setCell ⟨b, 1, none⟩ u).heap[b]? = some (.cells #[x0, u, x2, x3] t (0, 0)) := by
  simp [World.setCell, Array.getElem?_modify, h]
theorem set4all {W : World} {b : Nat} {x0 x1 x2 x3 : Value} {t : TypeId} (h : W.heap[b]? = some (.cells #[x0, x1, x2, x3] t (0, 0))) (u0 u1 u2 u3 : Value) : ((((W.setCell ⟨b, 0, none⟩ u0).setCell ⟨b, 1, none⟩ u1).setCell ⟨b, 2, none⟩ u2).setCell ⟨b, 3, none⟩ u3).heap[b]? = some (.cells #[u0, u1, u2, u3] t (0, 0)) := by
  simp [World.setCell, Array.getElem?_modify, h]
/-- a row of elements, read -/
theorem own_els {W : World} {base g n cap : Nat} {l : List El} (hl : l.length = n) (h : W.ownsRow base 170 4 (.slice (some ⟨g, 0, none⟩) n cap) n (flatE l)) : g < W.heap.size ∧ n ≤ cap ∧ W.frozen? ⟨g, 1, none⟩ = false ∧ ∀ k, k < n → W.cell? ⟨g, k * 4, none⟩ = some (.int .i64 (el l k).len) ∧ W.cell? ⟨g, k * 4 + 1, none⟩ = some (.int .i64 (el l k).lift) ∧ W.cell? ⟨g, k * 4 + 2, none⟩ = some (.int .i64 (el l k).drag) ∧ W.cell? ⟨g, k * 4 + 3, none⟩ = some (.int .i64 (el l k).str) := by
  have hg := (h.lt g rfl).2
  have hcap : n ≤ cap ∧ W.frozen? ⟨g, 1, none⟩ = false := by
    rcases h.2 with ⟨hv, h0⟩ | ⟨g', cap', cur, hv, _, hgg, hc, _⟩
    · cases hv
    · simp only [Value.slice.injEq, Option.some.injEq, Addr.mk.injEq] at hv
      obtain ⟨⟨rfl, -, -⟩, -, rfl⟩ := hv
      exact ⟨hc, frozM hgg 1⟩
  refine ⟨hg, hcap.1, hcap.2, fun k hk => ?_⟩
  obtain ⟨e0, e1, e2, e3⟩ := flatE_get l k (by omega)
  exact ⟨(h.cellAt _ (by omega)).trans e0, (h.cellAt _ (by omega)).trans e1, (h.cellAt _ (by omega)).trans e2, (h.cellAt _ (by omega)).trans e3⟩
theorem wrap64_idM {x : Int} (h : -9223372036854775808 ≤ x ∧ x ≤ 9223372036854775807) : IntKind.i64.wrap x = x := by
  simp [IntKind.wrap, IntKind.bits, IntKind.signed]; omega
theorem own_drew {W : World} {base n size : Nat} {t : TypeId} {v : Value} {xs : List Value} (h : W.ownsRow base t size v n xs) : W.drew.ownsRow base t size v n xs := h
theorem els_far {W : World} {g n c B : Nat} {zs : List El} (h : Els W.heap.size W (.slice (some ⟨g, 0, none⟩) n c) zs) (hn : g ≠ B) (o : Nat) (u : Value) : Els (W.setCell ⟨B, o, none⟩ u).heap.size (W.setCell ⟨B, o, none⟩ u) (.slice (some ⟨g, 0, none⟩) n c) zs := by
  have hsz : (W.setCell ⟨B, o, none⟩ u).heap.size = W.heap.size := by simp [World.setCell]
  obtain ⟨a, cap, e, hc, hk⟩ := h
  simp only [Value.slice.injEq] at e
  obtain ⟨rfl, e2, rfl⟩ := e
  subst e2
  refine ⟨_, _, rfl, hc, fun k hk2 => ?_⟩
  obtain ⟨b, off, e, hb, c0, c1, c2, c3⟩ := hk k hk2
  have e' : g = b := by simpa using congrArg (fun x : Option Addr => x.map Addr.block) e
  have hf : ∀ j, (W.setCell ⟨B, o, none⟩ u).cell? ⟨b, j, none⟩ = W.cell? ⟨b, j, none⟩ := fun j => by
    have q := Below.heap_setCell W ⟨B, o, none⟩ u b (by rw [← e']; exact hn)
    simp only [World.cell?, q]
  exact ⟨b, off, e, by rw [hsz]; exact hb, (hf _).trans c0, (hf _).trans c1, (hf _).trans c2, (hf _).trans c3⟩
theorem cell_set {W : World} {g j k : Nat} (u : Value) (h : j ≠ k) : (W.setCell ⟨g, k, none⟩ u).cell? ⟨g, j, none⟩ = W.cell? ⟨g, j, none⟩ := by
  rw [World.cell?_setCell_other]
  first | (simp; done) | (simp; omega)
/-- what the round of link i makes -/
theorem lnk_round {W : World} {ls : List Lk} {i b off : Nat} (h : LnkC W (lk ls i) b off) :
    ∃ (x0 x1 x2 x3 x4 x5 q lr : Int), (W.cell? ⟨b, off, none⟩ = some (.int .u16 x0) ∧ W.cell? ⟨b, off + 1, none⟩ = some (.int .i16 x1) ∧ W.cell? ⟨b, off + 2, none⟩ = some (.int .u8 x2) ∧ W.cell? ⟨b, off + 3, none⟩ = some (.int .u16 x3) ∧ W.cell? ⟨b, off + 4, none⟩ = some (.int .u8 x4) ∧ W.cell? ⟨b, off + 5, none⟩ = some (.int .u8 x5)) ∧
      ((0 ≤ x0 ∧ x0 ≤ 65535) ∧ (-32768 ≤ x1 ∧ x1 ≤ 32767) ∧ (0 ≤ x2 ∧ x2 ≤ 255) ∧ (0 ≤ x3 ∧ x3 ≤ 65535) ∧ (0 ≤ x4 ∧ x4 ≤ 255) ∧ (0 ≤ x5 ∧ x5 ≤ 255)) ∧
      x1.tdiv 64 = q ∧ (-512 ≤ q ∧ q ≤ 512) ∧ x0.tmod 2000 = lr ∧ (0 ≤ lr ∧ lr ≤ 1999) ∧ needF ls (i + 1) = needF ls i + max 0 (-q) ∧
      flatE (rawE ls (i + 1)) = flatE (rawE ls i) ++ [.int .i64 lr, .int .i64 q, .int .i64 x2, .int .i64 (1 + x3)] ∧
      flatP (rawC ls (i + 1)) = flatP (rawC ls i) ++ [.int .i64 (2 * x4), .int .i64 (2 * x4 + 2 * x5)] := by
  obtain ⟨hok, c0, c1, c2, c3, c4, c5⟩ := h
  refine ⟨_, _, _, _, _, _, liR (lk ls i), (lk ls i).len % 2000, ⟨c0, c1, c2, c3, c4, c5⟩, ⟨hok.len, hok.lift, hok.drag, hok.str, hok.slow, hok.more⟩, rfl, liR_bd hok, Int.tmod_eq_emod_of_nonneg hok.len.1, by omega, rfl, flatE_snoc _ _, flatP_snoc _ _⟩
/-- the elements in memory, behind the store into the first one -/
theorem els_fin {W : World} {base g n cap : Nat} {ls : List Lk} (h0 : 0 < n) (h : W.ownsRow base 170 4 (.slice (some ⟨g, 0, none⟩) n cap) n (flatE (rawE ls n))) :
    Els (W.setCell ⟨g, 1, none⟩ (.int .i64 ((elmR (lk ls 0)).lift + needF ls n))).heap.size (W.setCell ⟨g, 1, none⟩ (.int .i64 ((elmR (lk ls 0)).lift + needF ls n))) (.slice (some ⟨g, 0, none⟩) n cap) (finE ls n) := by
  obtain ⟨hg, hcap, -, hc⟩ := own_els (rawE_len ls n) h
  have hsz : (W.setCell ⟨g, 1, none⟩ (.int .i64 ((elmR (lk ls 0)).lift + needF ls n))).heap.size = W.heap.size := by simp [World.setCell]
  refine ⟨some ⟨g, 0, none⟩, cap, by rw [finE_len], by rw [finE_len]; exact hcap, fun k hk => ⟨g, 0, rfl, by rw [hsz]; exact hg, ?_⟩⟩
  rw [finE_len] at hk
  simp only [Nat.zero_add]
  obtain ⟨e0, e1, e2, e3⟩ := hc k hk
  rw [rawE_el ls hk] at e0 e1 e2 e3
  cases k with
  | zero =>
    rw [finE_zero ls h0]
    simp only [Nat.zero_mul, Nat.zero_add] at e0 e1 e2 e3 ⊢
    refine ⟨(cell_set _ (by omega)).trans e0, ?_, (cell_set _ (by omega)).trans e2, (cell_set _ (by omega)).trans e3⟩
    have hx : W.cell? ⟨g, 1, none⟩ = some (.int .i64 (elmR (lk ls 0)).lift) := e1
    simp [go_sem, hx]
  | succ k =>
    rw [finE_succ ls hk]
    exact ⟨(cell_set _ (by omega)).trans e0, (cell_set _ (by omega)).trans e1, (cell_set _ (by omega)).trans e2, (cell_set _ (by omega)).trans e3⟩
set_option maxRecDepth 100000 in
set_option maxHeartbeats 16000000 in
theorem moored_any (lv : Value) (ls : List Lk) (d : Int) (hd : 0 ≤ d ∧ d ≤ 65535) (w : World) (hI : LnkA w.heap.size w lv ls) :
    Calls Try.prog 70 #[lv, .int .u16 d] w fun e w' => ∃ v1 v2, e = .returned (.tuple #[.agg #[.int .i64 (1 + d), v1, .int .i64 20000, .int .i64 500], v2]) ∧ Els w'.heap.size w' v1 (finE ls (min ls.length 8)) ∧ Prs w'.heap.size w' v2 (rawC ls (min ls.length 8)) ∧ Below w.heap.size w w' := by
  obtain ⟨i5, hi5, hz50, hz51, hz52⟩ := info_parts infoM170
  obtain ⟨i2, hi2, hz20, hz21, hz22⟩ := info_parts infoM23
  obtain ⟨a, cap, rfl, -, hcc⟩ := hI
  have HC := Lib.hid hcc
  have HOKL := Lib.hid (show ∀ k, k < ls.length → OkL (lk ls k) from fun k hk => by obtain ⟨b, off, -, -, h⟩ := hcc k hk; exact h.1)
  clear hcc
  generalize hen : ls.length = en at *
  clear hen
  obtain ⟨n, hn⟩ : ∃ n, n = min en 8 := ⟨_, rfl⟩
  rw [← hn]
  have HND := Lib.hid (show ∀ i, i ≤ n → 1 ≤ needF ls i ∧ needF ls i ≤ 5000 from fun i hi => by
    have q := needF_bd (l := ls) (i := i) (fun k hk => HOKL.out k (by omega))
    omega)
  obtain ⟨A, hA⟩ : ∃ A, A = (w.alloc (.cells #[.int .i64 0, .slice none 0 0, .int .i64 0, .int .i64 0] 97)).alloc (.cells #[.int .i64 (1 + d), .slice none 0 0, .int .i64 20000, .int .i64 500] 97) := ⟨_, rfl⟩
  have HBA := Lib.hid (show Below w.heap.size w A by rw [hA]; exact ((Below.refl _ _).alloc (Nat.le_refl _) _).alloc (by simp) _)
  have HXA := Lib.hid (show A.heap[w.heap.size + 1]? = some (.cells #[.int .i64 (1 + d), .slice none 0 0, .int .i64 20000, .int .i64 500] 97 (0, 0)) by
    have h := World.alloc_heap_new (w.alloc (.cells #[.int .i64 0, .slice none 0 0, .int .i64 0, .int .i64 0] 97)) (.cells #[.int .i64 (1 + d), .slice none 0 0, .int .i64 20000, .int .i64 500] 97)
    rw [show (w.alloc (.cells #[.int .i64 0, .slice none 0 0, .int .i64 0, .int .i64 0] 97)).heap.size = w.heap.size + 1 by simp] at h
    rw [hA]; exact h)
  have HRA := Lib.hid (show A.heap[w.heap.size]? = some (.cells #[.int .i64 0, .slice none 0 0, .int .i64 0, .int .i64 0] 97 (0, 0)) by rw [hA]; exact keepBM (World.alloc_heap_new w _) _)
  go_enter Try.func70, Try.ntmps70
  go_upto_region 2 with fail
  rw [← hA]
  clear hA
  go_wp2_with fail
  go_loopw [7, 8, 9] (fun cv nv iv wr => ∃ i : Nat, i ≤ n ∧ iv = .int .i64 i ∧ nv = .int .i64 (needF ls i) ∧ wr.ownsRow w.heap.size 23 2 cv i (flatP (rawC ls i)) ∧ (∃ ev, wr.ownsRow w.heap.size 170 4 ev i (flatE (rawE ls i)) ∧ wr.heap[w.heap.size + 1]? = some (.cells #[.int .i64 (1 + d), ev, .int .i64 20000, .int .i64 500] 97 (0, 0))) ∧ wr.heap[w.heap.size]? = some (.cells #[.int .i64 0, .slice none 0 0, .int .i64 0, .int .i64 0] 97 (0, 0)) ∧ Below w.heap.size w wr) (fun _ _ iv _ => n - (intOf iv).toNat)
  case atStart => exact ⟨0, Nat.zero_le _, rfl, rfl, World.ownsRow_nil _ _ _ _, ⟨_, World.ownsRow_nil _ _ _ _, HXA.out⟩, HRA.out, HBA.out⟩
  case round =>
    obtain ⟨i, hi, rfl, rfl, hrc, ⟨ev, hre, hbx⟩, hrs, hB⟩ := hrel
    have HRC := Lib.hid hrc
    have HRE := Lib.hid hre
    have HBX := Lib.hid hbx
    have HRS := Lib.hid hrs
    have HB := Lib.hid hB
    obtain ⟨ca, cc, rfl⟩ := own_formM hrc
    obtain ⟨ea, ec, rfl⟩ := own_formM hre
    clear hrc hre hbx hrs hB HXA HRA HBA
    have hnb := HND.out i hi
    by_cases hlt : i < n
    · have h1 : (i : Int) < (en : Int) := by omega
      have h2 : (i : Int) < 8 := by omega
      obtain ⟨wb, wo, rfl, hwb, hE⟩ := HC.out i (by omega)
      obtain ⟨x0, x1, x2, x3, x4, x5, q, lr, ⟨c0, c1, c2, c3, c4, c5⟩, ⟨hx0, hx1, hx2, hx3, hx4, hx5⟩, hq, hqb, hlr, hlb, hN, hRE, hRC⟩ := lnk_round hE
      have HN := Lib.hid hN
      have HSE := Lib.hid hRE
      have HSC := Lib.hid hRC
      have hnb2 := HND.out (i + 1) (by omega)
      rw [hN] at hnb2
      have z0 := (HB.out.cell (p := ⟨wb, _, none⟩) hwb).trans c0
      have z1 := (HB.out.cell (p := ⟨wb, _, none⟩) hwb).trans c1
      have z2 := (HB.out.cell (p := ⟨wb, _, none⟩) hwb).trans c2
      have z3 := (HB.out.cell (p := ⟨wb, _, none⟩) hwb).trans c3
      have z4 := (HB.out.cell (p := ⟨wb, _, none⟩) hwb).trans c4
      have z5 := (HB.out.cell (p := ⟨wb, _, none⟩) hwb).trans c5
      clear hE hN hRE hRC c0 c1 c2 c3 c4 c5 HC HND
      generalize needF ls i = nd at *
      obtain ⟨V1, hV1⟩ : ∃ V1, V1 = wr.alloc (.cells #[.int .u16 x0, .int .i16 x1, .int .u8 x2, .int .u16 x3, .int .u8 x4, .int .u8 x5] 174) := ⟨_, rfl⟩
      have HRC1 := Lib.hid (show V1.ownsRow w.heap.size 23 2 (.slice ca i cc) i (flatP (rawC ls i)) by rw [hV1]; exact HRC.out.alloc _)
      have HRE1 := Lib.hid (show V1.ownsRow w.heap.size 170 4 (.slice ea i ec) i (flatE (rawE ls i)) by rw [hV1]; exact HRE.out.alloc _)
      have HBX1 := Lib.hid (show V1.heap[w.heap.size + 1]? = some (.cells #[.int .i64 (1 + d), .slice ea i ec, .int .i64 20000, .int .i64 500] 97 (0, 0)) by rw [hV1]; exact keepBM HBX.out _)
      have HRS1 := Lib.hid (show V1.heap[w.heap.size]? = some (.cells #[.int .i64 0, .slice none 0 0, .int .i64 0, .int .i64 0] 97 (0, 0)) by rw [hV1]; exact keepBM HRS.out _)
      have HL1 := Lib.hid (show V1.heap[wr.heap.size]? = some (.cells #[.int .u16 x0, .int .i16 x1, .int .u8 x2, .int .u16 x3, .int .u8 x4, .int .u8 x5] 174 (0, 0)) by rw [hV1]; exact World.alloc_heap_new _ _)
      have HB1 := Lib.hid (show Below w.heap.size w V1 by rw [hV1]; exact HB.out.alloc HB.out.size _)
      have HQ := Lib.hid (show wr.heap.size ≠ w.heap.size + 1 by have := (Array.getElem?_eq_some_iff.1 HBX.out).1; omega)
      go_upto_region 8 with fail
      rw [← hV1]
      clear hV1 HRC HRE HBX HRS HB z0 z1 z2 z3 z4 z5
      generalize wr.heap.size = Q1 at *
      have y0 := cellM HL1.out 0
      have y1 := cellM HL1.out 1
      have y2 := cellM HL1.out 2
      have y3 := cellM HL1.out 3
      have b1 := cellM HBX1.out 1
      go_upto_region 10 with fail
      go_upto_region 11 with (at_builtin; refine wpList_append_own_at _ rfl _ _ 95 rfl w.heap.size 170 i5 (.agg #[.int .i64 0, .int .i64 0, .int .i64 0, .int .i64 0]) 4 32 Try.underlying95 hi5 hz50 hz51 hz52 rfl (by decide) _ _ _ rfl (HRE1.out.alloc _) ⟨V1.heap.size, 0, none⟩ 1 1 [.int .i64 lr, .int .i64 q, .int .i64 x2, .int .i64 (1 + x3)] rfl rfl (four_newM _ _ _ _ _ _) (by simp [Value.oneCell']) (by unfold maxLen; omega) (by omega) (by have := HB1.out.size; simp; omega) ?_; intro v2 w5 hown' hgrow _ hob; obtain ⟨ga, gc, rfl⟩ := own_formM hown'; have HG := Lib.hid (show World.grownBy _ w5 (Value.slice ea i ec).ownBlock from hgrow); have HO := Lib.hid hown'; clear hown' hgrow hob; have HBX5 := Lib.hid (keepGM (keepBM HBX1.out _) HG.out (own_neB HRE1.out HBX1.out (by decide))); have b5 := cellM HBX5.out 1; have f5 := frozM HBX5.out 1)
      have HRS5 := Lib.hid (keepGM (keepBM HRS1.out _) HG.out (own_neB HRE1.out HRS1.out (by decide)))
      have HL5 := Lib.hid (keepGM (keepBM HL1.out _) HG.out (own_neB HRE1.out HL1.out (by decide)))
      have HRC5 := Lib.hid (show w5.ownsRow w.heap.size 23 2 (.slice ca i cc) i (flatP (rawC ls i)) from (HRC1.out.alloc _).kept HG.out (own_neT HRC1.out HRE1.out (by decide)))
      have HRE5 := Lib.hid (show w5.ownsRow w.heap.size 170 4 (.slice ga (i + 1) gc) (i + 1) (flatE (rawE ls (i + 1))) by rw [HSE.out]; exact HO.out)
      have HB5 := Lib.hid (show Below w.heap.size w w5 from (HB1.out.alloc HB1.out.size _).grown HG.out (by have := HB1.out.size; simp; omega) (fun r e => (HRE1.out.lt r e).1))
      obtain ⟨V6, hV6⟩ : ∃ V6, V6 = w5.setCell ⟨w.heap.size + 1, 1, none⟩ (.slice ga (i + 1) gc) := ⟨_, rfl⟩
      have HBX6 := Lib.hid (show V6.heap[w.heap.size + 1]? = some (.cells #[.int .i64 (1 + d), .slice ga (i + 1) gc, .int .i64 20000, .int .i64 500] 97 (0, 0)) by rw [hV6]; exact set4b HBX5.out _)
      have HRS6 := Lib.hid (show V6.heap[w.heap.size]? = some (.cells #[.int .i64 0, .slice none 0 0, .int .i64 0, .int .i64 0] 97 (0, 0)) by rw [hV6]; exact keepSM HRS5.out (Nat.ne_of_lt (Nat.lt_succ_self _)) _)
      have HL6 := Lib.hid (show V6.heap[Q1]? = some (.cells #[.int .u16 x0, .int .i16 x1, .int .u8 x2, .int .u16 x3, .int .u8 x4, .int .u8 x5] 174 (0, 0)) by rw [hV6]; exact keepSM HL5.out HQ.out _)
      have HRC6 := Lib.hid (show V6.ownsRow w.heap.size 23 2 (.slice ca i cc) i (flatP (rawC ls i)) by rw [hV6]; exact HRC5.out.kept (grown_setM _ _ _ _) (.inr (own_neB HRC5.out HBX5.out (by decide))))
      have HRE6 := Lib.hid (show V6.ownsRow w.heap.size 170 4 (.slice ga (i + 1) gc) (i + 1) (flatE (rawE ls (i + 1))) by rw [hV6]; exact HRE5.out.kept (grown_setM _ _ _ _) (.inr (own_neB HRE5.out HBX5.out (by decide))))
      have HB6 := Lib.hid (show Below w.heap.size w V6 by rw [hV6]; exact HB5.out.setCell (p := ⟨w.heap.size + 1, 1, none⟩) (Nat.le_succ _) _)
      rw [← hV6]
      clear hV6 HG HO HBX5 b5 f5 HRS5 HL5 HRC5 HRE5 HB5 HRC1 HRE1 HBX1 HRS1 HL1 HB1 y0 y1 y2 y3 b1
      have y4 := cellM HL6.out 4
      have y5 := cellM HL6.out 5
      go_wp2_with (at_builtin; refine wpList_append_own_at _ rfl _ _ 36 rfl w.heap.size 23 i2 (.agg #[.int .i64 0, .int .i64 0]) 2 16 Try.underlying36 hi2 hz20 hz21 hz22 rfl (by decide) _ _ _ rfl (HRC6.out.alloc _) ⟨V6.heap.size, 0, none⟩ 1 1 [.int .i64 (2 * x4), .int .i64 (2 * x4 + 2 * x5)] rfl rfl (two_newM _ _ _ _) (by simp [Value.oneCell']) (by unfold maxLen; omega) (by omega) (by have := HB6.out.size; simp; omega) ?_; intro v3 w7 hown' hgrow _ hob; have HG := Lib.hid (show World.grownBy _ w7 (Value.slice ca i cc).ownBlock from hgrow); have HO := Lib.hid hown'; clear hown' hgrow hob)
      go_roundw
      case rel =>
        refine ⟨i + 1, by omega, by go_num, by rw [HN.out], by rw [HSC.out]; exact HO.out, ⟨.slice ga (i + 1) gc, (HRE6.out.alloc _).kept HG.out (own_neT HRE6.out HRC6.out (by decide)), keepGM (keepBM HBX6.out _) HG.out (own_neB HRC6.out HBX6.out (by decide))⟩, keepGM (keepBM HRS6.out _) HG.out (own_neB HRC6.out HRS6.out (by decide)), (HB6.out.alloc HB6.out.size _).grown HG.out (by have := HB6.out.size; simp; omega) (fun r e => (HRC6.out.lt r e).1)⟩
      case measure => simp [intOf]; omega
    · have hin : n = i := by omega
      subst hin
      clear hlt
      obtain ⟨W0, hW0⟩ : ∃ W0, W0 = wr := ⟨_, rfl⟩
      go_upto_region 5 with fail
      go_cut [23] from 12 to 23 (fun sc wc => sc = Value.bool false ∧ wc = W0)
      case first =>
        subst hW0
        clear HRC HRE HBX HRS HB HC HND hnb
        by_cases h8 : n < en
        · have a1 : (n : Int) < (en : Int) := by omega
          have a2 : ¬ (n : Int) < 8 := by omega
          clear hn
          go_wp2_with fail
          go_meet
          case rel => exact ⟨rfl, rfl⟩
        · have a1 : ¬ (n : Int) < (en : Int) := by omega
          clear hn
          go_wp2_with fail
          go_meet
          case rel => exact ⟨rfl, rfl⟩
      case rest =>
        obtain ⟨rfl, rfl⟩ := hcut
        subst hW0
        obtain ⟨W0, rfl⟩ : ∃ W0, W0 = wc := ⟨_, rfl⟩
        clear hi HC HND
        have hn8 : n ≤ 8 := by omega
        have hen : n ≤ en := by omega
        clear hn
        have b0 := cellM HBX.out 0
        have b1 := cellM HBX.out 1
        have b2 := cellM HBX.out 2
        have b3 := cellM HBX.out 3
        have r0 := cellM HRS.out 0
        have r1 := cellM HRS.out 1
        have r2 := cellM HRS.out 2
        have r3 := cellM HRS.out 3
        have f0 := frozM HRS.out 0
        have f1 := frozM HRS.out 1
        have f2 := frozM HRS.out 2
        have f3 := frozM HRS.out 3
        by_cases hn0 : n = 0
        · subst hn0
          have HF := Lib.hid (show ∀ W, Els W.heap.size W (.slice ea 0 ec) (finE ls 0) from fun W => ⟨ea, ec, by rw [finE_len], by rw [finE_len]; exact Nat.zero_le _, fun k hk => by rw [finE_len] at hk; omega⟩)
          have HZ := Lib.hid (show ((((W0.setCell ⟨w.heap.size, 0, none⟩ (.int .i64 (1 + d))).setCell ⟨w.heap.size, 1, none⟩ (.slice ea 0 ec)).setCell ⟨w.heap.size, 2, none⟩ (.int .i64 20000)).setCell ⟨w.heap.size, 3, none⟩ (.int .i64 500)).heap[w.heap.size]? = some (.cells #[.int .i64 (1 + d), .slice ea 0 ec, .int .i64 20000, .int .i64 500] 97 (0, 0)) from set4all HRS.out _ _ _ _)
          have hnr := own_neB HRC.out HRS.out (by decide)
          have HPZ := Lib.hid (show Prs ((((W0.setCell ⟨w.heap.size, 0, none⟩ (.int .i64 (1 + d))).setCell ⟨w.heap.size, 1, none⟩ (.slice ea 0 ec)).setCell ⟨w.heap.size, 2, none⟩ (.int .i64 20000)).setCell ⟨w.heap.size, 3, none⟩ (.int .i64 500)).heap.size ((((W0.setCell ⟨w.heap.size, 0, none⟩ (.int .i64 (1 + d))).setCell ⟨w.heap.size, 1, none⟩ (.slice ea 0 ec)).setCell ⟨w.heap.size, 2, none⟩ (.int .i64 20000)).setCell ⟨w.heap.size, 3, none⟩ (.int .i64 500)) (.slice ca 0 cc) (rawC ls 0) from prs_of_owns (base := w.heap.size) (by rw [rawC_len]; exact (((HRC.out.kept (grown_setM _ _ _ _) (.inr hnr)).kept (grown_setM _ _ _ _) (.inr hnr)).kept (grown_setM _ _ _ _) (.inr hnr)).kept (grown_setM _ _ _ _) (.inr hnr)))
          go_wp2_with fail
          refine bodyPost_ret (v := .tuple #[.agg #[.int .i64 (1 + d), .slice ea 0 ec, .int .i64 20000, .int .i64 500], .slice ca 0 cc]) (by simp [results, Try.results70, go_sem, World.cell?, World.setCell, Array.getElem?_modify, HRS.out]) rfl ⟨_, _, rfl, HF.out _, HPZ.out, (((HB.out.setCell (p := ⟨w.heap.size, 0, none⟩) (Nat.le_refl _) _).setCell (p := ⟨w.heap.size, 1, none⟩) (Nat.le_refl _) _).setCell (p := ⟨w.heap.size, 2, none⟩) (Nat.le_refl _) _).setCell (p := ⟨w.heap.size, 3, none⟩) (Nat.le_refl _) _⟩
        · obtain ⟨g, gcap, hev⟩ : ∃ g c, Value.slice ea n ec = .slice (some ⟨g, 0, none⟩) n c := by
            rcases HRE.out.2 with ⟨_, h0⟩ | ⟨g, c, _, hv, _⟩
            · exact absurd h0 hn0
            · exact ⟨g, c, hv⟩
          simp only [Value.slice.injEq] at hev
          obtain ⟨rfl, -, rfl⟩ := hev
          have hn1 : (0 : Int) < (n : Int) := by omega
          have hen0 : 0 < en := Nat.lt_of_lt_of_le (Nat.pos_of_ne_zero hn0) hen
          obtain ⟨hg, hgc, hfz, hcl⟩ := own_els (rawE_len ls n) HRE.out
          have e1 := (hcl 0 (Nat.pos_of_ne_zero hn0)).2.1
          rw [rawE_el ls (show 0 < n from Nat.pos_of_ne_zero hn0)] at e1
          have hlb := liR_bd (HOKL.out 0 hen0)
          have hne : g ≠ w.heap.size + 1 := fun e => own_neB HRE.out HBX.out (by decide) (by rw [e]; rfl)
          have hnr : g ≠ w.heap.size := fun e => own_neB HRE.out HRS.out (by decide) (by rw [e]; rfl)
          have hgb : w.heap.size ≤ g := (HRE.out.lt g rfl).1
          simp only [Nat.zero_mul, Nat.zero_add] at e1
          clear hcl
          replace e1 : W0.cell? ⟨g, 1, none⟩ = some (.int .i64 (liR (lk ls 0))) := e1
          have HF := Lib.hid (show Els (W0.setCell ⟨g, 1, none⟩ (.int .i64 (liR (lk ls 0) + needF ls n))).drew.heap.size (W0.setCell ⟨g, 1, none⟩ (.int .i64 (liR (lk ls 0) + needF ls n))).drew (.slice (some ⟨g, 0, none⟩) n ec) (finE ls n) from els_fin (Nat.pos_of_ne_zero hn0) HRE.out)
          generalize liR (lk ls 0) = l0 at *
          generalize needF ls n = nd at *
          have hwr : IntKind.i64.wrap (l0 + nd) = l0 + nd := wrap64_idM (by omega)
          obtain ⟨W1, hW1⟩ : ∃ W1, W1 = (W0.setCell ⟨g, 1, none⟩ (.int .i64 (l0 + nd))).drew := ⟨_, rfl⟩
          rw [← hW1] at HF
          have HBX1 := Lib.hid (show W1.heap[w.heap.size + 1]? = some (.cells #[.int .i64 (1 + d), .slice (some ⟨g, 0, none⟩) n ec, .int .i64 20000, .int .i64 500] 97 (0, 0)) by rw [hW1]; exact keepSM HBX.out (Ne.symm hne) _)
          have HRS1 := Lib.hid (show W1.heap[w.heap.size]? = some (.cells #[.int .i64 0, .slice none 0 0, .int .i64 0, .int .i64 0] 97 (0, 0)) by rw [hW1]; exact keepSM HRS.out (Ne.symm hnr) _)
          have HRC1 := Lib.hid (show W1.ownsRow w.heap.size 23 2 (.slice ca n cc) n (flatP (rawC ls n)) by
            rw [hW1]
            exact own_drew (HRC.out.kept (grown_setM _ _ _ _) (own_neT HRC.out HRE.out (by decide))))
          have HB1 := Lib.hid (show Below w.heap.size w W1 by rw [hW1]; exact (HB.out.setCell (p := ⟨g, 1, none⟩) hgb _).drew)
          go_upto_region 13 with fail
          refine wp_region_held_drew (S := fun w' => w'.cell? ⟨w.heap.size + 1, 1, none⟩ = some (Value.slice (some ⟨g, 0, none⟩) n ec)) (by kernel_rfl) (by simpa [go_sem] using b1) (fun hHeld => ?_)
          refine wpAnyH_take (i := 0) (oi := _) (v := Value.pointer (some ⟨w.heap.size + 1, 1, none⟩)) rfl (by kernel_rfl) (by kernel_rfl) (by kernel_rfl) (fun _ _ _ h => h) (Or.inl ⟨by rfl, fun w' hSw => ?_⟩) hHeld ?_
          · have t0 := hSw
            go_simp
            try simp [*]
            try (intro hh; exfalso; omega)
            try omega
          try simp only [Act.put, List.setIfInBounds_toArray, List.set_cons_zero, List.set_cons_succ, List.getElem_toArray, List.getElem_cons_succ, List.getElem_cons_zero]
          refine wpAnyH_take (i := 1) (oi := _) (v := Value.slice (some ⟨g, 0, none⟩) n ec) rfl (by kernel_rfl) (by kernel_rfl) (by kernel_rfl) (fun _ _ _ h => h) (Or.inl ⟨by rfl, fun w' hSw => ?_⟩) hHeld ?_
          · have t0 := hSw
            go_simp
            try simp [*]
            try (intro hh; exfalso; omega)
            try omega
          try simp only [Act.put, List.setIfInBounds_toArray, List.set_cons_zero, List.set_cons_succ, List.getElem_toArray, List.getElem_cons_succ, List.getElem_cons_zero]
          refine wpAnyH_take (i := 2) (oi := _) (v := Value.pointer (some ⟨w.heap.size + 1, 1, none⟩)) rfl (by kernel_rfl) (by kernel_rfl) (by kernel_rfl) (fun _ _ _ h => h) (Or.inl ⟨by rfl, fun w' hSw => ?_⟩) hHeld ?_
          · have t0 := hSw
            go_simp
            try simp [*]
            try (intro hh; exfalso; omega)
            try omega
          try simp only [Act.put, List.setIfInBounds_toArray, List.set_cons_zero, List.set_cons_succ, List.getElem_toArray, List.getElem_cons_succ, List.getElem_cons_zero]
          refine wpAnyH_take (i := 3) (oi := _) (v := Value.slice (some ⟨g, 0, none⟩) n ec) rfl (by kernel_rfl) (by kernel_rfl) (by kernel_rfl) (fun _ _ _ h => h) (Or.inl ⟨by rfl, fun w' hSw => ?_⟩) hHeld ?_
          · have t0 := hSw
            go_simp
            try simp [*]
            try (intro hh; exfalso; omega)
            try omega
          try simp only [Act.put, List.setIfInBounds_toArray, List.set_cons_zero, List.set_cons_succ, List.getElem_toArray, List.getElem_cons_succ, List.getElem_cons_zero]
          refine wpAnyH_take (i := 4) (oi := _) (v := Value.pointer (some ⟨g, 0, none⟩)) rfl (by kernel_rfl) (by kernel_rfl) (by kernel_rfl) (fun _ _ _ h => h) (Or.inl ⟨by rfl, fun w' hSw => ?_⟩) hHeld ?_
          · have t0 := hSw
            go_simp
            try simp [*]
            try (intro hh; exfalso; omega)
            try omega
          try simp only [Act.put, List.setIfInBounds_toArray, List.set_cons_zero, List.set_cons_succ, List.getElem_toArray, List.getElem_cons_succ, List.getElem_cons_zero]
          refine wpAnyH_take (i := 5) (oi := _) (v := Value.pointer (some ⟨g, 1, none⟩)) rfl (by kernel_rfl) (by kernel_rfl) (by kernel_rfl) (fun _ _ _ h => h) (Or.inl ⟨by rfl, fun w' hSw => ?_⟩) hHeld ?_
          · have t0 := hSw
            go_simp
            try simp [*]
            try (intro hh; exfalso; omega)
            try omega
          try simp only [Act.put, List.setIfInBounds_toArray, List.set_cons_zero, List.set_cons_succ, List.getElem_toArray, List.getElem_cons_succ, List.getElem_cons_zero]
          refine wpAnyH_take (i := 7) (oi := _) (v := Value.int .i64 nd) rfl (by kernel_rfl) (by kernel_rfl) (by kernel_rfl) (fun _ _ _ h => h) (Or.inl ⟨by rfl, fun w' hSw => ?_⟩) hHeld ?_
          · have t0 := hSw
            go_simp
            try simp [*]
            try (intro hh; exfalso; omega)
            try omega
          try simp only [Act.put, List.setIfInBounds_toArray, List.set_cons_zero, List.set_cons_succ, List.getElem_toArray, List.getElem_cons_succ, List.getElem_cons_zero]
          refine wpAnyH_ready (rs := [6]) (by kernel_rfl) (by simp) ?_
          refine AllReadyH.cons (o := _) rfl (fun K hK => ?_) AllReadyH.nil
          go_simp
          clear hHeld
          refine hK.out _ _ (by simpa [go_sem] using b1) (fun hHeld => ?_)
          clear hK K
          try simp only [Act.put, List.setIfInBounds_toArray, List.set_cons_zero, List.set_cons_succ, List.getElem_toArray, List.getElem_cons_succ, List.getElem_cons_zero]
          refine wpAnyH_take (i := 8) (oi := _) (v := Value.int .i64 (l0 + nd)) rfl (by kernel_rfl) (by kernel_rfl) (by kernel_rfl) (fun _ _ _ h => h) (Or.inl ⟨by rfl, fun w' hSw => ?_⟩) hHeld ?_
          · have t0 := hSw
            go_simp
            try simp [*]
            try (intro hh; exfalso; omega)
            try omega
          try simp only [Act.put, List.setIfInBounds_toArray, List.set_cons_zero, List.set_cons_succ, List.getElem_toArray, List.getElem_cons_succ, List.getElem_cons_zero]
          refine wpAnyH_take (i := 9) (oi := _) (v := Value.pointer (some ⟨g, 0, none⟩)) rfl (by kernel_rfl) (by kernel_rfl) (by kernel_rfl) (fun _ _ _ h => h) (Or.inl ⟨by rfl, fun w' hSw => ?_⟩) hHeld ?_
          · have t0 := hSw
            go_simp
            try simp [*]
            try (intro hh; exfalso; omega)
            try omega
          try simp only [Act.put, List.setIfInBounds_toArray, List.set_cons_zero, List.set_cons_succ, List.getElem_toArray, List.getElem_cons_succ, List.getElem_cons_zero]
          refine wpAnyH_take (i := 10) (oi := _) (v := Value.pointer (some ⟨g, 1, none⟩)) rfl (by kernel_rfl) (by kernel_rfl) (by kernel_rfl) (fun _ _ _ h => h) (Or.inl ⟨by rfl, fun w' hSw => ?_⟩) hHeld ?_
          · have t0 := hSw
            go_simp
            try simp [*]
            try (intro hh; exfalso; omega)
            try omega
          try simp only [Act.put, List.setIfInBounds_toArray, List.set_cons_zero, List.set_cons_succ, List.getElem_toArray, List.getElem_cons_succ, List.getElem_cons_zero]
          refine wpAnyH_ready (rs := [11]) (by kernel_rfl) (by simp) ?_
          refine AllReadyH.cons (o := _) rfl (fun K hK => ?_) AllReadyH.nil
          go_simp
          clear hHeld
          refine hK.out _ _ (by simp [go_sem, *]) (fun hHeld => ?_)
          clear hK K
          try simp only [Act.put, List.setIfInBounds_toArray, List.set_cons_zero, List.set_cons_succ, List.getElem_toArray, List.getElem_cons_succ, List.getElem_cons_zero]
          refine wpAnyH_done (by kernel_rfl) ?_ _
          clear hHeld
          try rw [← hW1]
          clear hW1 HBX HRS HRC HRE HB e1 b0 b1 b2 b3 r0 r1 r2 r3 f0 f1 f2 f3 hfz
          have b0 := cellM HBX1.out 0
          have b1 := cellM HBX1.out 1
          have b2 := cellM HBX1.out 2
          have b3 := cellM HBX1.out 3
          have f0 := frozM HRS1.out 0
          have f1 := frozM HRS1.out 1
          have f2 := frozM HRS1.out 2
          have f3 := frozM HRS1.out 3
          have r0 := cellM HRS1.out 0
          have r1 := cellM HRS1.out 1
          have r2 := cellM HRS1.out 2
          have r3 := cellM HRS1.out 3
          have hnc := own_neB HRC1.out HRS1.out (by decide)
          have HPZ := Lib.hid (show Prs ((((W1.setCell ⟨w.heap.size, 0, none⟩ (.int .i64 (1 + d))).setCell ⟨w.heap.size, 1, none⟩ (.slice (some ⟨g, 0, none⟩) n ec)).setCell ⟨w.heap.size, 2, none⟩ (.int .i64 20000)).setCell ⟨w.heap.size, 3, none⟩ (.int .i64 500)).heap.size ((((W1.setCell ⟨w.heap.size, 0, none⟩ (.int .i64 (1 + d))).setCell ⟨w.heap.size, 1, none⟩ (.slice (some ⟨g, 0, none⟩) n ec)).setCell ⟨w.heap.size, 2, none⟩ (.int .i64 20000)).setCell ⟨w.heap.size, 3, none⟩ (.int .i64 500)) (.slice ca n cc) (rawC ls n) from prs_of_owns (base := w.heap.size) (by rw [rawC_len]; exact (((HRC1.out.kept (grown_setM _ _ _ _) (.inr hnc)).kept (grown_setM _ _ _ _) (.inr hnc)).kept (grown_setM _ _ _ _) (.inr hnc)).kept (grown_setM _ _ _ _) (.inr hnc)))
          have HFZ := Lib.hid (els_far (els_far (els_far (els_far HF.out hnr 0 (.int .i64 (1 + d))) hnr 1 (.slice (some ⟨g, 0, none⟩) n ec)) hnr 2 (.int .i64 20000)) hnr 3 (.int .i64 500))
          go_wp2_with fail
          refine bodyPost_ret (v := .tuple #[.agg #[.int .i64 (1 + d), .slice (some ⟨g, 0, none⟩) n ec, .int .i64 20000, .int .i64 500], .slice ca n cc]) (by simp [results, Try.results70, go_sem, World.cell?, World.setCell, Array.getElem?_modify, HRS1.out]) rfl ⟨_, _, rfl, HFZ.out, HPZ.out, (((HB1.out.setCell (p := ⟨w.heap.size, 0, none⟩) (Nat.le_refl _) _).setCell (p := ⟨w.heap.size, 1, none⟩) (Nat.le_refl _) _).setCell (p := ⟨w.heap.size, 2, none⟩) (Nat.le_refl _) _).setCell (p := ⟨w.heap.size, 3, none⟩) (Nat.le_refl _) _⟩
end Go.Proofs.Ytdohfpnnmppdkaa.Moo

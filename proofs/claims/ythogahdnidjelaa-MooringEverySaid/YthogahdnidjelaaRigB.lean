/-
  rig.
-/
import Derived.Test.YthogahdnidjelaaRigA
import Derived.Test.YthogahdnidjelaaForms
namespace Go.Proofs.Ythogahdnidjelaa
open Go.RowKit Go.Shelf
set_option linter.unusedSimpArgs false
theorem info71 : (Try.prog.info? 71).map (fun i => (i.zero, i.size, i.bytes)) = some (some (.agg #[.int .i64 0, .int .i64 0, .int .i64 0, .int .i64 0]), 4, 32) := infoEl
theorem els_of_owns {W : World} {base : Nat} {v : Value} {cs : List El} (h : W.ownsRow base 71 4 v cs.length (flatE cs)) : Els W.heap.size W v cs := by
  rcases h.2 with ⟨rfl, h0⟩ | ⟨g, cap, cur, rfl, hb, hg, r1, r2, r3, r4⟩
  · exact ⟨none, 0, by rw [h0], by omega, fun j hj => by omega⟩
  · refine ⟨_, cap, rfl, r1, fun j hj => ⟨g, 0, rfl, (Array.getElem?_eq_some_iff.1 hg).1, ?_⟩⟩
    obtain ⟨e1, e2, e3, e4⟩ := flatE_get cs j hj
    have h4 : ∀ i, i < cs.length * 4 → cur.toList[i]? = (flatE cs)[i]? := by
      intro i hi
      rw [← r4, List.getElem?_take_of_lt hi]
    rw [Nat.zero_add]
    simp only [World.cell?, hg]
    refine ⟨?_, ?_, ?_, ?_⟩
    · have := (h4 (j * 4) (by omega)).trans e1; simpa using this
    · have := (h4 (j * 4 + 1) (by omega)).trans e2; simpa using this
    · have := (h4 (j * 4 + 2) (by omega)).trans e3; simpa using this
    · have := (h4 (j * 4 + 3) (by omega)).trans e4; simpa using this
theorem cell_far {W : World} {B o b o' : Nat} {u : Value} (h : b ≠ B) : (W.setCell ⟨B, o, none⟩ u).cell? ⟨b, o', none⟩ = W.cell? ⟨b, o', none⟩ :=
  World.cell?_setCell_other _ _ _ _ (by intro e; exact h (Addr.mk.inj e).1.symm)
theorem els_far {W : World} {B o : Nat} {u sv : Value} {zs : List El} {n : Nat} (h : Els n W sv zs) (hne : ∀ b, sv.ownBlock = some b → b ≠ B) : Els n (W.setCell ⟨B, o, none⟩ u) sv zs := by
  obtain ⟨a, cap, rfl, hl, hc⟩ := h
  refine ⟨a, cap, rfl, hl, fun k hk => ?_⟩
  obtain ⟨b, off, rfl, hb, c0, c1, c2, c3⟩ := hc k hk
  have e := hne b rfl
  exact ⟨b, off, rfl, hb, (cell_far e).trans c0, (cell_far e).trans c1, (cell_far e).trans c2, (cell_far e).trans c3⟩
theorem prs_far {W : World} {B o : Nat} {u sv : Value} {zs : List Pr} {n : Nat} (h : Prs n W sv zs) (hne : ∀ b, sv.ownBlock = some b → b ≠ B) : Prs n (W.setCell ⟨B, o, none⟩ u) sv zs := by
  obtain ⟨a, cap, rfl, hl, hc⟩ := h
  refine ⟨a, cap, rfl, hl, fun k hk => ?_⟩
  obtain ⟨b, off, rfl, hb, c0, c1⟩ := hc k hk
  have e := hne b rfl
  exact ⟨b, off, rfl, hb, (cell_far e).trans c0, (cell_far e).trans c1⟩
theorem nums_far {W : World} {B o : Nat} {u sv : Value} {zs : List Int} {n : Nat} (h : Nums n W sv zs) (hne : ∀ b, sv.ownBlock = some b → b ≠ B) : Nums n (W.setCell ⟨B, o, none⟩ u) sv zs := by
  obtain ⟨a, cap, rfl, hl, hc⟩ := h
  refine ⟨a, cap, rfl, hl, fun k hk => ?_⟩
  obtain ⟨b, off, rfl, hb, c0⟩ := hc k hk
  exact ⟨b, off, rfl, hb, (cell_far (hne b rfl)).trans c0⟩
/-- the first element's lift, with what carries the rest -/
theorem els_fix {W : World} {g cap : Nat} {ps : List Pc} {k n : Nat} (h : Els n W (.slice (some ⟨g, 0, none⟩) k cap) (evE ps k)) (_ : 0 < k) :
    Els n (W.setCell ⟨g, 1, none⟩ (.int .i64 (pL (pc ps 0) + needTo ps k))) (.slice (some ⟨g, 0, none⟩) k cap) (evZ ps k) := by
  have lz : (evZ ps k).length = k := rowM_len _ _
  have le : (evE ps k).length = k := rowM_len _ _
  obtain ⟨a, c, e, hl, hc⟩ := h
  simp only [Value.slice.injEq] at e
  obtain ⟨rfl, -, rfl⟩ := e
  refine ⟨some ⟨g, 0, none⟩, cap, by rw [lz], by rw [lz]; omega, fun j hj => ?_⟩
  rw [lz] at hj
  obtain ⟨b, off, e, hb, c0, c1, c2, c3⟩ := hc j (by omega)
  simp only [Option.some.injEq, Addr.mk.injEq, and_true] at e
  obtain ⟨rfl, rfl⟩ := e
  have hE : el (evE ps k) j = pE (pc ps j) := rowM_get _ hj
  have hne : ∀ o, o ≠ 1 → (W.setCell ⟨g, 1, none⟩ (.int .i64 (pL (pc ps 0) + needTo ps k))).cell? ⟨g, o, none⟩ = W.cell? ⟨g, o, none⟩ := fun o ho =>
    World.cell?_setCell_other _ _ _ _ (by intro e; exact ho (Addr.mk.inj e).2.1.symm)
  rw [hE] at c0 c1 c2 c3
  refine ⟨g, 0, rfl, hb, ?_⟩
  rw [evZ_el ps hj]
  by_cases hj0 : j = 0
  · subst hj0
    rw [if_pos rfl]
    refine ⟨(hne _ (by decide)).trans c0, ?_, (hne _ (by decide)).trans c2, (hne _ (by decide)).trans c3⟩
    show (W.setCell ⟨g, 1, none⟩ _).cell? ⟨g, 1, none⟩ = _
    have : W.cell? ⟨g, 1, none⟩ = some (.int .i64 (pE (pc ps 0)).lift) := c1
    simp [go_sem, this, pE]
  · rw [if_neg hj0]
    exact ⟨(hne _ (by omega)).trans c0, (hne _ (by omega)).trans c1, (hne _ (by omega)).trans c2, (hne _ (by omega)).trans c3⟩
theorem els_drew {Y : World} {sv : Value} {zs : List El} (h : Els Y.heap.size Y sv zs) : Els Y.drew.heap.size Y.drew sv zs := h
theorem prs_drew {Y : World} {sv : Value} {zs : List Pr} (h : Prs Y.heap.size Y sv zs) : Prs Y.drew.heap.size Y.drew sv zs := h
theorem nums_drew {Y : World} {sv : Value} {zs : List Int} (h : Nums Y.heap.size Y sv zs) : Nums Y.drew.heap.size Y.drew sv zs := h
theorem four_new1 (W : World) (o : Obj) (x y z u : Value) : ∀ (j : Nat) (t : Value), [x, y, z, u][j]? = some t → ((W.alloc o).alloc (.cells #[x, y, z, u] 71)).cell? ((⟨W.heap.size + 1, 0, none⟩ : Addr).add j) = some t := by
  have h := four_new (W.alloc o) x y z u
  rw [World.size_alloc] at h
  exact h
def PB (W : World) (B : Nat) (q0 q1 q2 q3 q4 q5 q6 q7 q8 : Int) : Prop :=
  W.heap[B]? = some (.cells #[.int .u16 q0, .int .i16 q1, .int .u8 q2, .int .u16 q3, .int .u8 q4, .int .u8 q5, .int .u8 q6, .int .u8 q7, .int .u8 q8] 69 (0, 0))
theorem PB.cells {W : World} {B : Nat} {q0 q1 q2 q3 q4 q5 q6 q7 q8 : Int} (h : PB W B q0 q1 q2 q3 q4 q5 q6 q7 q8) : W.cell? ⟨B, 4, none⟩ = some (.int .u8 q4) ∧ W.cell? ⟨B, 5, none⟩ = some (.int .u8 q5) ∧ W.cell? ⟨B, 6, none⟩ = some (.int .u8 q6) ∧ W.cell? ⟨B, 8, none⟩ = some (.int .u8 q8) := by
  have e : W.heap[B]? = _ := h
  refine ⟨?_, ?_, ?_, ?_⟩ <;> simp [World.cell?, e]
set_option maxRecDepth 100000 in
set_option maxHeartbeats 20000000 in
theorem rig_any (dep anc : Int) (sv : Value) (ps : List Pc) (hd : 0 ≤ dep ∧ dep ≤ 65535) (ha : 0 ≤ anc ∧ anc ≤ 65535) (w : World) (hI : Pcs w.heap.size w sv ps) :
    Calls Try.prog 45 #[sv, .int .u16 dep, .int .u16 anc] w fun e w' => ∃ vm vc vt, e = .returned (.tuple #[.agg #[.int .i64 (1 + dep), vm, .int .i64 (anc * 4), .int .i64 600], vc, vt]) ∧
      Els w'.heap.size w' vm (evZ ps (min ps.length 8)) ∧ Prs w'.heap.size w' vc (evC ps (min ps.length 8)) ∧ Nums w'.heap.size w' vt (evT ps (min ps.length 8)) ∧ Below w.heap.size w w' := by
  obtain ⟨a, cap, rfl, -, hc⟩ := hI
  have HC := Lib.hid hc
  have HO := Lib.hid (fun k hk => (hc k hk).1)
  have HN := Lib.hid (fun k (hk : k ≤ min ps.length 8) => need_bd ps k (fun j hj => (hc j (by omega)).1))
  clear hc
  obtain ⟨i1, hi1, hz1, hy1, hx1⟩ := info_parts info71
  obtain ⟨i2, hi2, hz2, hy2, hx2⟩ := info_parts infoSp
  obtain ⟨i3, hi3, hz3, hy3, hx3⟩ := info_parts infoJ
  obtain ⟨d4, hd4⟩ : ∃ d4, d4 = 1 + dep := ⟨_, rfl⟩
  obtain ⟨an4, han4⟩ : ∃ an4, an4 = anc * 4 := ⟨_, rfl⟩
  have W1' : wrap64 (1 + dep) = d4 := by unfold wrap64; omega
  have W2' : wrap64 (anc * 4) = an4 := by unfold wrap64; omega
  have W1 : IntKind.i64.wrap (1 + dep) = d4 := by rw [IntKind.wrap_i64]; omega
  have W2 : IntKind.i64.wrap (anc * 4) = an4 := by rw [IntKind.wrap_i64]; omega
  have W3' : wrap64 dep = dep := by unfold wrap64; omega
  have W4' : wrap64 anc = anc := by unfold wrap64; omega
  have W3 : IntKind.i64.wrap dep = dep := by rw [IntKind.wrap_i64]; omega
  have W4 : IntKind.i64.wrap anc = anc := by rw [IntKind.wrap_i64]; omega
  rw [← hd4, ← han4]
  clear hd ha hd4 han4
  generalize ps.length = len at *
  obtain ⟨n8, hn8⟩ : ∃ n8, n8 = min len 8 := ⟨_, rfl⟩
  rw [← hn8]
  rw [← hn8] at HN
  go_enter Try.func45, Try.ntmps45
  go_wp2_with fail
  obtain ⟨A, hA⟩ : ∃ A, A = (w.alloc (.cells #[.int .i64 0, .slice none 0 0, .int .i64 0, .int .i64 0] 24)).alloc (.cells #[.int .i64 d4, .slice none 0 0, .int .i64 an4, .int .i64 600] 24) := ⟨_, rfl⟩
  rw [← hA]
  have hS0 : RigS A A w.heap.size d4 an4 ps 0 0 0 (.slice none 0 0) (.slice none 0 0) (.slice none 0 0) := by
    rw [hA]
    exact ⟨by simp, by simp [go_sem], by simp [go_sem], by simp [go_sem], by simp [go_sem], fun o => by simp [go_sem], World.ownsRow_nil _ _ _ _, World.ownsRow_nil _ _ _ _, World.ownsRow_nil _ _ _ _, Below.refl _ _⟩
  have hAb : Below w.heap.size w A := by rw [hA]; exact ((Below.refl _ _).alloc (Nat.le_refl _) _).alloc (by simp) _
  have HRES := Lib.hid (show ∀ W, Below (w.heap.size + 1) A W → W.cell? ⟨w.heap.size, 0, none⟩ = some (.int .i64 0) ∧ W.cell? ⟨w.heap.size, 1, none⟩ = some (.slice none 0 0) ∧ W.cell? ⟨w.heap.size, 2, none⟩ = some (.int .i64 0) ∧ W.cell? ⟨w.heap.size, 3, none⟩ = some (.int .i64 0) ∧ ∀ o, W.frozen? ⟨w.heap.size, o, none⟩ = false from fun W h => by
    refine ⟨?_, ?_, ?_, ?_, fun o => ?_⟩
    · rw [h.cell (p := ⟨w.heap.size, _, none⟩) (Nat.lt_succ_self _), hA]; simp [go_sem]
    · rw [h.cell (p := ⟨w.heap.size, _, none⟩) (Nat.lt_succ_self _), hA]; simp [go_sem]
    · rw [h.cell (p := ⟨w.heap.size, _, none⟩) (Nat.lt_succ_self _), hA]; simp [go_sem]
    · rw [h.cell (p := ⟨w.heap.size, _, none⟩) (Nat.lt_succ_self _), hA]; simp [go_sem]
    · rw [h.frozen (p := ⟨w.heap.size, o, none⟩) (Nat.lt_succ_self _), hA]; simp [go_sem])
  have HAb := Lib.hid hAb
  have HS0 := Lib.hid hS0
  clear hA hS0 hAb
  go_loopw [10, 11, 12, 13] (fun c t nd i wr => ∃ (k : Nat) (vm : Value), k ≤ len ∧ k ≤ 8 ∧ i = .int .i64 k ∧ nd = .int .i64 (needTo ps k) ∧ RigS A wr w.heap.size d4 an4 ps k k k vm c t) (fun _ _ _ i _ => len - (intOf i).toNat)
  case atStart => exact ⟨0, _, Nat.zero_le _, by omega, rfl, rfl, HS0.out⟩
  case round =>
    obtain ⟨k, vm, hk, hk8, rfl, rfl, hS⟩ := hrel
    by_cases hlt : k < len ∧ k < 8
    · obtain ⟨h1, h2⟩ := hlt
      obtain ⟨hok, b, off, rfl, hb, e0, e1, e2, e3, e4, e5, e6, e7, e8⟩ := HC.out k h1
      have HS := Lib.hid hS
      obtain ⟨zS, c0, c1, c2, c3, f0, -, -, -, bel⟩ := hS
      have hB := HAb.out.trans (bel.mono (Nat.le_succ _))
      have m0 := (hB.cell (p := ⟨b, off + k * 9, none⟩) hb).trans e0
      have m1 := (hB.cell (p := ⟨b, off + k * 9 + 1, none⟩) hb).trans e1
      have m2 := (hB.cell (p := ⟨b, off + k * 9 + 2, none⟩) hb).trans e2
      have m3 := (hB.cell (p := ⟨b, off + k * 9 + 3, none⟩) hb).trans e3
      have m4 := (hB.cell (p := ⟨b, off + k * 9 + 4, none⟩) hb).trans e4
      have m5 := (hB.cell (p := ⟨b, off + k * 9 + 5, none⟩) hb).trans e5
      have m6 := (hB.cell (p := ⟨b, off + k * 9 + 6, none⟩) hb).trans e6
      have m7 := (hB.cell (p := ⟨b, off + k * 9 + 7, none⟩) hb).trans e7
      have m8 := (hB.cell (p := ⟨b, off + k * 9 + 8, none⟩) hb).trans e8
      clear e0 e1 e2 e3 e4 e5 e6 e7 e8 hB
      have hL := pL_bd hok
      have hki : (k : Int) < (len : Int) := by omega
      have hki8 : (k : Int) < 8 := by omega
      have nb := HN.out k (by omega)
      have HNd := Lib.hid (show needTo ps (k + 1) = needTo ps k + max 0 (-(pL (pc ps k))) from rfl)
      have HEs := Lib.hid (show evE ps (k + 1) = evE ps k ++ [pE (pc ps k)] from rowM_succ _ _)
      have HCs := Lib.hid (show evC ps (k + 1) = evC ps k ++ [pC (pc ps k)] from rowM_succ _ _)
      have HTs := Lib.hid (show evT ps (k + 1) = evT ps k ++ [pT (pc ps k)] from rowM_succ _ _)
      have hAB := pAB hok
      have HpE := Lib.hid (show pE (pc ps k) = ⟨(pc ps k).len % 4096, pL (pc ps k), (pc ps k).drag, 1 + (pc ps k).str⟩ from rfl)
      have HpC := Lib.hid (show pC (pc ps k) = ⟨max 0 (1000 * pA (pc ps k) - (pc ps k).slk % 100), min 3000 (1000 * pB (pc ps k) + (pc ps k).slk % 100)⟩ from rfl)
      have eA : min ((pc ps k).a % 4) ((pc ps k).b % 4) = pA (pc ps k) := rfl
      have eB : max ((pc ps k).a % 4) ((pc ps k).b % 4) = pB (pc ps k) := rfl
      have eT : pA (pc ps k) + (pc ps k).at_ % (pB (pc ps k) - pA (pc ps k) + 1) = pT (pc ps k) := rfl
      have eL : Int.tdiv (pc ps k).lift 4 = pL (pc ps k) := rfl
      obtain ⟨⟨o0, o0'⟩, ⟨o1, o1'⟩, ⟨o2, o2'⟩, ⟨o3, o3'⟩, ⟨o4, o4'⟩, ⟨o5, o5'⟩, ⟨o6, o6'⟩, -, ⟨o8, o8'⟩⟩ := hok
      generalize pE (pc ps k) = xE at *
      generalize pC (pc ps k) = xC at *
      generalize pT (pc ps k) = T at *
      generalize pA (pc ps k) = Am at *
      generalize pB (pc ps k) = Bm at *
      generalize pL (pc ps k) = L at *
      generalize pc ps k = p at *
      obtain ⟨q0, q1, q2, q3, q4, q5, q6, q7, q8⟩ := p
      dsimp only at *
      generalize needTo ps k = nd at *
      generalize hnd' : needTo ps (k + 1) = nd' at *
      have HND := Lib.hid hnd'
      clear hnd'
      generalize hS0 : q8 % 100 = S0 at *
      generalize hT0 : q6 % (Bm - Am + 1) = T0 at *
      have hS0b : 0 ≤ S0 ∧ S0 ≤ 99 := by omega
      have v0 : wrap64 q0 = q0 := by unfold wrap64; omega
      have v1 : wrap64 q1 = q1 := by unfold wrap64; omega
      have v2 : wrap64 q2 = q2 := by unfold wrap64; omega
      have v3 : wrap64 q3 = q3 := by unfold wrap64; omega
      have v4 : wrap64 q4 = q4 := by unfold wrap64; omega
      have v5 : wrap64 q5 = q5 := by unfold wrap64; omega
      have v6 : wrap64 q6 = q6 := by unfold wrap64; omega
      have v8 : wrap64 q8 = q8 := by unfold wrap64; omega
      have x1 : wrap64 L = L := by unfold wrap64; omega
      have x2 : wrap64 (-L) = -L := by unfold wrap64; omega
      have x3 : wrap64 (nd + max 0 (-L)) = nd' := by rw [HNd.out]; unfold wrap64; omega
      have x4 : wrap64 (1 + q3) = 1 + q3 := by unfold wrap64; omega
      have x5 : wrap64 (Bm - Am) = Bm - Am := by unfold wrap64; omega
      have x6 : wrap64 (Bm - Am + 1) = Bm - Am + 1 := by unfold wrap64; omega
      have x7 : wrap64 (Am + T0) = T := by unfold wrap64; omega
      have x8 : wrap64 (1000 * Am) = 1000 * Am := by unfold wrap64; omega
      have x9 : wrap64 (1000 * Am - S0) = 1000 * Am - S0 := by unfold wrap64; omega
      have x10 : wrap64 (1000 * Bm) = 1000 * Bm := by unfold wrap64; omega
      have x11 : wrap64 (1000 * Bm + S0) = 1000 * Bm + S0 := by unfold wrap64; omega
      have y1 : 0 ≤ Bm - Am + 1 := by omega
      have y2 : ¬ Bm - Am + 1 = 0 := by omega
      have yt : q6.tmod (Bm - Am + 1) = T0 := by rw [Int.tmod_eq_emod_of_nonneg o6]; exact hT0
      have zS' : w.heap.size + 1 < wr.heap.size := by omega
      have yS : ¬ w.heap.size + 1 = wr.heap.size := by omega
      clear nb hL hAB eT o1 o1'
      obtain ⟨PO, hPO⟩ : ∃ PO, PO = Obj.cells #[Value.int .u16 q0, .int .i16 q1, .int .u8 q2, .int .u16 q3, .int .u8 q4, .int .u8 q5, .int .u8 q6, .int .u8 q7, .int .u8 q8] 69 := ⟨_, rfl⟩
      obtain ⟨QO, hQO⟩ : ∃ QO, QO = Obj.cells #[Value.int .i64 (q0 % 4096), .int .i64 L, .int .i64 q2, .int .i64 (1 + q3)] 71 := ⟨_, rfl⟩
      have hb2 : Below wr.heap.size wr ((wr.alloc PO).alloc QO) := ((Below.refl _ _).alloc (Nat.le_refl _) _).alloc (by simp) _
      have hS2 := HS.out.at hb2
      have hP2 : PB ((wr.alloc PO).alloc QO) wr.heap.size q0 q1 q2 q3 q4 q5 q6 q7 q8 := by
        unfold PB
        rw [(((Below.refl (wr.alloc PO).heap.size (wr.alloc PO)).alloc (Nat.le_refl _) QO).block wr.heap.size (by simp)), World.alloc_heap_new, hPO]
      rw [hPO, hQO] at hS2 hP2
      have HS2 := Lib.hid hS2
      have HP2 := Lib.hid hP2
      clear hPO hQO hb2 hS2 hP2
      go_wp2_with (at_builtin; refine wpList_append_own _ rfl _ _ 22 rfl (w.heap.size + 2) 71 i1 (.agg #[.int .i64 0, .int .i64 0, .int .i64 0, .int .i64 0]) 4 32 Try.underlying22 hi1 hz1 hy1 hx1 rfl (by decide) _ _ _ rfl HS2.out.rm ⟨wr.heap.size + 1, 0, none⟩ 1 1 [.int .i64 (q0 % 4096), .int .i64 L, .int .i64 q2, .int .i64 (1 + q3)] rfl rfl (four_new1 _ _ _ _ _ _) (by simp [Value.oneCell']) (by unfold maxLen; omega) (by omega) (by simp; omega) ?_; intro v1' w5 hr1 hg1 _; obtain ⟨g1, cg1, rfl⟩ := own_form hr1; replace hr1 : w5.ownsRow (w.heap.size + 2) 71 4 (.slice (some ⟨g1, 0, none⟩) (k + 1) cg1) (k + 1) (flatE (evE ps (k + 1))) := (by rw [HEs.out, flatE_snoc, HpE.out]; exact hr1); have HS5 := Lib.hid (HS2.out.elem hg1 hr1); have HP5 := Lib.hid (show PB w5 wr.heap.size q0 q1 q2 q3 q4 q5 q6 q7 q8 from block_kept hg1 HS2.out.rm HP2.out (by decide)); obtain ⟨zG, d0, d1, d2, d3, df, -⟩ := HS2.out.grown hg1 (fun j hj => (HS2.out.rm.lt j hj).1); clear hg1 hr1)
      clear m0 m1 m2 m3 m4 m5 m6 m7 m8 c0 c1 c2 c3 f0 bel d0 d1 d2 d3 HS2 HP2
      obtain ⟨w6, hw6⟩ : ∃ W, W = w5.setCell ⟨w.heap.size + 1, 1, none⟩ (.slice (some ⟨g1, 0, none⟩) (k + 1) cg1) := ⟨_, rfl⟩
      rw [← hw6]
      have HS6 := HS5
      rw [← hw6] at HS6
      have HP6 := Lib.hid (show PB w6 wr.heap.size q0 q1 q2 q3 q4 q5 q6 q7 q8 from by rw [hw6]; exact (Below.heap_setCell _ _ _ _ (by show wr.heap.size ≠ w.heap.size + 1; omega)).trans HP5.out)
      clear hw6 HS5 HP5 df
      obtain ⟨m4, m5, m6, m8⟩ := HP6.out.cells
      have z6 := HS6.out.z
      go_wp2_with fail
      go_quiet (fail)
      have hb7 : Below w6.heap.size w6 ((w6.drewN nq).alloc (.cells #[.int .i64 T] 2)) := (below_drewN (Below.refl _ _) nq).alloc (by simp) _
      have HS7 := Lib.hid (HS6.out.at hb7)
      have HP7 := Lib.hid (show PB ((w6.drewN nq).alloc (.cells #[.int .i64 T] 2)) wr.heap.size q0 q1 q2 q3 q4 q5 q6 q7 q8 from (hb7.block _ (Array.getElem?_eq_some_iff.1 HP6.out).1).trans HP6.out)
      clear hb7
      go_wp2_with (first | (at_builtin; refine wpList_append_own _ rfl _ _ 28 rfl (w.heap.size + 2) 2 i3 (.int .i64 0) 1 8 Try.underlying28 hi3 hz3 hy3 hx3 rfl (by decide) _ _ _ rfl HS7.out.rt ⟨w6.heap.size, 0, none⟩ 1 1 [.int .i64 T] rfl rfl (one_new2 (w6.drewN nq) _) (by simp [Value.oneCell']) (by unfold maxLen; omega) (by omega) (by simp; omega) ?_; intro v2' w7 hr2 hg2 _; obtain ⟨g2, cg2, rfl⟩ := own_form hr2; replace hr2 : w7.ownsRow (w.heap.size + 2) 2 1 (.slice (some ⟨g2, 0, none⟩) (k + 1) cg2) (k + 1) (numv (evT ps (k + 1))) := (by rw [HTs.out, numv_snoc]; exact hr2); have HS8 := Lib.hid (HS7.out.time hg2 hr2); have HP8 := Lib.hid (show PB w7 wr.heap.size q0 q1 q2 q3 q4 q5 q6 q7 q8 from block_kept hg2 HS7.out.rt HP7.out (by decide)); have m8' := HP8.out.cells.2.2.2; have z8 := HS8.out.z; clear hg2 hr2) | (at_builtin; have hb9 : Below w7.heap.size w7 (w7.alloc (.cells #[.int .i64 (max 0 (1000 * Am - S0)), .int .i64 (min 3000 (1000 * Bm + S0))] 41)) := (Below.refl _ _).alloc (Nat.le_refl _) _; have HS9 := Lib.hid (HS8.out.at hb9); clear hb9; refine wpList_append_own _ rfl _ _ 25 rfl (w.heap.size + 2) 41 i2 (.agg #[.int .i64 0, .int .i64 0]) 2 16 Try.underlying25 hi2 hz2 hy2 hx2 rfl (by decide) _ _ _ rfl HS9.out.rc ⟨w7.heap.size, 0, none⟩ 1 1 [.int .i64 (max 0 (1000 * Am - S0)), .int .i64 (min 3000 (1000 * Bm + S0))] rfl rfl (two_new _ _ _) (by simp [Value.oneCell']) (by unfold maxLen; omega) (by omega) (by simp; omega) ?_; intro v3' w9 hr3 hg3 _; replace hr3 : w9.ownsRow (w.heap.size + 2) 41 2 v3' (k + 1) (flatP (evC ps (k + 1))) := (by rw [HCs.out, flatP_snoc, HpC.out]; exact hr3); have HS10 := Lib.hid (HS9.out.curr hg3 hr3); clear hg3 hr3))
      go_roundw
      case rel => exact ⟨k + 1, _, by omega, by omega, by go_num, by rw [HND.out], HS10.out⟩
      case measure => simp [intOf]; omega
    · obtain rfl : k = n8 := by omega
      clear hn8
      have lE : (evE ps k).length = k := rowM_len _ _
      have lC : (evC ps k).length = k := rowM_len _ _
      have lT : (evT ps k).length = k := rowM_len _ _
      obtain ⟨r0, r1, r2, r3, rf⟩ := HRES.out _ hS.bel
      have nb := HN.out k (by omega)
      have zS := hS.z
      have HE := Lib.hid (els_of_owns (cs := evE ps k) (by rw [lE]; exact hS.rm))
      have HCc := Lib.hid (prs_of_owns (cs := evC ps k) (by rw [lC]; exact hS.rc))
      have HT := Lib.hid (nums_of_owns2 (xs := evT ps k) (by rw [lT]; exact hS.rt))
      have N1 := Lib.hid (fun b hb => (hS.rm.lt b hb).1)
      have N2 := Lib.hid (fun b hb => (hS.rc.lt b hb).1)
      have N3 := Lib.hid (fun b hb => (hS.rt.lt b hb).1)
      have HBw := Lib.hid (HAb.out.trans (hS.bel.mono (Nat.le_succ _)))
      have hcond : ¬ (k < len ∧ k < 8) := hlt
      obtain ⟨-, c0, c1, c2, c3, f0, rm, rc, rt, -⟩ := hS
      clear HRES HC HN
      have h63 : k ≤ 8 := hk8
      have kZ : ¬ w.heap.size = w.heap.size + 1 := by omega
      by_cases h0 : k = 0
      · subst h0
        have hl0 : len = 0 := by omega
        subst hl0
        obtain ⟨am, cm, hvm⟩ := HE.out.form
        rw [lE] at hvm
        subst hvm
        have hzf := HBw.out.size
        clear rm rc rt lE lC lT nb hcond hlt f0
        go_wp2_with fail
        refine bodyPost_ret (v := .tuple #[.agg #[.int .i64 d4, .slice am 0 cm, .int .i64 an4, .int .i64 600], u10, u11]) (by simp [results, Try.results45, go_sem, *]) rfl ⟨_, _, _, rfl, ?_, ?_, ?_, ?_⟩
        · rw [show evZ ps 0 = evE ps 0 from rfl]
          simp only [World.size_setCell]
          exact els_far (els_far (els_far (els_far HE.out (fun b hb => by have := N1.out b hb; omega)) (fun b hb => by have := N1.out b hb; omega)) (fun b hb => by have := N1.out b hb; omega)) (fun b hb => by have := N1.out b hb; omega)
        · simp only [World.size_setCell]
          exact prs_far (prs_far (prs_far (prs_far HCc.out (fun b hb => by have := N2.out b hb; omega)) (fun b hb => by have := N2.out b hb; omega)) (fun b hb => by have := N2.out b hb; omega)) (fun b hb => by have := N2.out b hb; omega)
        · simp only [World.size_setCell]
          exact nums_far (nums_far (nums_far (nums_far HT.out (fun b hb => by have := N3.out b hb; omega)) (fun b hb => by have := N3.out b hb; omega)) (fun b hb => by have := N3.out b hb; omega)) (fun b hb => by have := N3.out b hb; omega)
        · exact (((HBw.out.setCell (Nat.le_refl _) _).setCell (Nat.le_refl _) _).setCell (Nat.le_refl _) _).setCell (Nat.le_refl _) _
      have hform : ∃ g cg, vm = .slice (some ⟨g, 0, none⟩) k cg := by
        obtain ⟨k', rfl⟩ : ∃ k', k = k' + 1 := ⟨k - 1, by omega⟩
        exact own_form rm
      obtain ⟨g, cg, rfl⟩ := hform
      have hg : w.heap.size + 2 ≤ g := N1.out g rfl
      have hglt : g < wr.heap.size := (rm.lt g rfl).2
      have l0 : wr.cell? ⟨g, 1, none⟩ = some (.int .i64 (pL (pc ps 0))) := by
        obtain ⟨b', off', e, -, -, e1, -, -⟩ := HE.out.get 0 (by rw [lE]; omega)
        simp only [Option.some.injEq, Addr.mk.injEq, and_true] at e
        obtain ⟨rfl, rfl⟩ := e
        rw [show el (evE ps k) 0 = pE (pc ps 0) from rowM_get _ (by omega)] at e1
        exact e1
      have lf : wr.frozen? ⟨g, 1, none⟩ = false := by
        rcases rm.2 with ⟨e, -⟩ | ⟨g', cap', cur, e, -, hgg, -, -, -, -⟩
        · cases e
        · simp only [Value.slice.injEq, Option.some.injEq, Addr.mk.injEq, and_true, true_and] at e
          obtain ⟨rfl, -⟩ := e
          simp [World.frozen?, hgg]
      have hpl := pL_bd (HO.out 0 (by omega))
      have HF := Lib.hid (els_fix (W := wr) (g := g) (cap := cg) (ps := ps) (k := k) (n := wr.heap.size) (by exact HE.out) (by omega))
      have kg1 : ¬ g = w.heap.size := by omega
      have kg2 : ¬ g = w.heap.size + 1 := by omega
      have kg3 : ¬ w.heap.size = g := by omega
      have kg4 : ¬ w.heap.size + 1 = g := by omega
      have hkp : (0 : Int) < (k : Int) := by omega
      have W8 : wrap64 (pL (pc ps 0) + needTo ps k) = pL (pc ps 0) + needTo ps k := by unfold wrap64; omega
      have W8' : IntKind.i64.wrap (pL (pc ps 0) + needTo ps k) = pL (pc ps 0) + needTo ps k := by rw [IntKind.wrap_i64]; omega
      have N2G := Lib.hid (show ∀ b, u10.ownBlock = some b → b ≠ g from fun b hb e => by
        rcases own_ne rc rm (by decide) with h | h
        · rw [h] at hb; cases hb
        · subst e; exact h hb)
      have N3G := Lib.hid (show ∀ b, u11.ownBlock = some b → b ≠ g from fun b hb e => by
        rcases own_ne rt rm (by decide) with h | h
        · rw [h] at hb; cases hb
        · subst e; exact h hb)
      clear rm rc rt lE lC lT nb hlt HO hpl HE
      generalize pL (pc ps 0) = L0 at *
      generalize needTo ps k = nd at *
      have f1 := f0 1
      have n1 := c1
      have cases2 : (¬ (k : Int) < (len : Int)) ∨ ((k : Int) < (len : Int) ∧ ¬ (k : Int) < 8) := by omega
      clear hcond f0
      rcases cases2 with hki | ⟨hki, hk8i⟩
      all_goals
        go_wp2_with fail
        refine wp_region_held_drew (S := fun w' => w'.cell? ⟨w.heap.size + 1, 1, none⟩ = some (.slice (some ⟨g, 0, none⟩) k cg)) (by kernel_rfl) (by simpa [go_sem] using n1) (fun hHeld => ?_)
        refine wpAnyH_take (i := 0) (oi := _) (v := Value.pointer (some ⟨w.heap.size + 1, 1, none⟩)) rfl (by kernel_rfl) (by kernel_rfl) (by kernel_rfl) (fun _ _ _ h => h) (Or.inl ⟨by rfl, fun w' hSw => ?_⟩) hHeld ?_
        · have t0 := hSw
          go_simp
          try simp [*]
          try (intro hh; exfalso; omega)
          try omega
        try simp only [Act.put, List.setIfInBounds_toArray, List.set_cons_zero, List.set_cons_succ, List.getElem_toArray, List.getElem_cons_succ, List.getElem_cons_zero]
        refine wpAnyH_take (i := 1) (oi := _) (v := Value.slice (some ⟨g, 0, none⟩) k cg) rfl (by kernel_rfl) (by kernel_rfl) (by kernel_rfl) (fun _ _ _ h => h) (Or.inl ⟨by rfl, fun w' hSw => ?_⟩) hHeld ?_
        · have t0 := hSw
          go_simp
          try simp [*]
          try (intro hh; exfalso; omega)
          try omega
        try simp only [Act.put, List.setIfInBounds_toArray, List.set_cons_zero, List.set_cons_succ, List.getElem_toArray, List.getElem_cons_succ, List.getElem_cons_zero]
        refine wpAnyH_take (i := 2) (oi := _) (v := Value.pointer (some ⟨w.heap.size + 1, 1, none⟩)) rfl (by kernel_rfl) (by kernel_rfl) (by kernel_rfl) (fun _ _ _ h => h) (Or.inl ⟨by rfl, fun w' hSw => ?_⟩) hHeld ?_
        · have t0 := hSw
          go_simp
          try simp [*]
          try (intro hh; exfalso; omega)
          try omega
        try simp only [Act.put, List.setIfInBounds_toArray, List.set_cons_zero, List.set_cons_succ, List.getElem_toArray, List.getElem_cons_succ, List.getElem_cons_zero]
        refine wpAnyH_take (i := 3) (oi := _) (v := Value.slice (some ⟨g, 0, none⟩) k cg) rfl (by kernel_rfl) (by kernel_rfl) (by kernel_rfl) (fun _ _ _ h => h) (Or.inl ⟨by rfl, fun w' hSw => ?_⟩) hHeld ?_
        · have t0 := hSw
          go_simp
          try simp [*]
          try (intro hh; exfalso; omega)
          try omega
        try simp only [Act.put, List.setIfInBounds_toArray, List.set_cons_zero, List.set_cons_succ, List.getElem_toArray, List.getElem_cons_succ, List.getElem_cons_zero]
        refine wpAnyH_take (i := 4) (oi := _) (v := Value.pointer (some ⟨g, 0, none⟩)) rfl (by kernel_rfl) (by kernel_rfl) (by kernel_rfl) (fun _ _ _ h => h) (Or.inl ⟨by rfl, fun w' hSw => ?_⟩) hHeld ?_
        · have t0 := hSw
          go_simp
          try simp [*]
          try (intro hh; exfalso; omega)
          try omega
        try simp only [Act.put, List.setIfInBounds_toArray, List.set_cons_zero, List.set_cons_succ, List.getElem_toArray, List.getElem_cons_succ, List.getElem_cons_zero]
        refine wpAnyH_take (i := 5) (oi := _) (v := Value.pointer (some ⟨g, 1, none⟩)) rfl (by kernel_rfl) (by kernel_rfl) (by kernel_rfl) (fun _ _ _ h => h) (Or.inl ⟨by rfl, fun w' hSw => ?_⟩) hHeld ?_
        · have t0 := hSw
          go_simp
          try simp [*]
          try (intro hh; exfalso; omega)
          try omega
        try simp only [Act.put, List.setIfInBounds_toArray, List.set_cons_zero, List.set_cons_succ, List.getElem_toArray, List.getElem_cons_succ, List.getElem_cons_zero]
        refine wpAnyH_take (i := 7) (oi := _) (v := Value.int .i64 nd) rfl (by kernel_rfl) (by kernel_rfl) (by kernel_rfl) (fun _ _ _ h => h) (Or.inl ⟨by rfl, fun w' hSw => ?_⟩) hHeld ?_
        · have t0 := hSw
          go_simp
          try simp [*]
          try (intro hh; exfalso; omega)
          try omega
        try simp only [Act.put, List.setIfInBounds_toArray, List.set_cons_zero, List.set_cons_succ, List.getElem_toArray, List.getElem_cons_succ, List.getElem_cons_zero]
        refine wpAnyH_ready (rs := [6]) (by kernel_rfl) (by simp) ?_
        refine AllReadyH.cons (o := _) rfl (fun K hK => ?_) AllReadyH.nil
        go_simp
        clear hHeld
        refine hK.out _ _ (by simp [go_sem, *]) (fun hHeld => ?_)
        clear hK K
        try simp only [Act.put, List.setIfInBounds_toArray, List.set_cons_zero, List.set_cons_succ, List.getElem_toArray, List.getElem_cons_succ, List.getElem_cons_zero]
        refine wpAnyH_take (i := 8) (oi := _) (v := Value.int .i64 (L0 + nd)) rfl (by kernel_rfl) (by kernel_rfl) (by kernel_rfl) (fun _ _ _ h => h) (Or.inl ⟨by rfl, fun w' hSw => ?_⟩) hHeld ?_
        · have t0 := hSw
          go_simp
          try simp [*]
          try (intro hh; exfalso; omega)
          try omega
        try simp only [Act.put, List.setIfInBounds_toArray, List.set_cons_zero, List.set_cons_succ, List.getElem_toArray, List.getElem_cons_succ, List.getElem_cons_zero]
        refine wpAnyH_take (i := 9) (oi := _) (v := Value.pointer (some ⟨g, 0, none⟩)) rfl (by kernel_rfl) (by kernel_rfl) (by kernel_rfl) (fun _ _ _ h => h) (Or.inl ⟨by rfl, fun w' hSw => ?_⟩) hHeld ?_
        · have t0 := hSw
          go_simp
          try simp [*]
          try (intro hh; exfalso; omega)
          try omega
        try simp only [Act.put, List.setIfInBounds_toArray, List.set_cons_zero, List.set_cons_succ, List.getElem_toArray, List.getElem_cons_succ, List.getElem_cons_zero]
        refine wpAnyH_take (i := 10) (oi := _) (v := Value.pointer (some ⟨g, 1, none⟩)) rfl (by kernel_rfl) (by kernel_rfl) (by kernel_rfl) (fun _ _ _ h => h) (Or.inl ⟨by rfl, fun w' hSw => ?_⟩) hHeld ?_
        · have t0 := hSw
          go_simp
          try simp [*]
          try (intro hh; exfalso; omega)
          try omega
        try simp only [Act.put, List.setIfInBounds_toArray, List.set_cons_zero, List.set_cons_succ, List.getElem_toArray, List.getElem_cons_succ, List.getElem_cons_zero]
        refine wpAnyH_ready (rs := [11]) (by kernel_rfl) (by simp) ?_
        refine AllReadyH.cons (o := _) rfl (fun K hK => ?_) AllReadyH.nil
        go_simp
        clear hHeld
        refine hK.out _ _ (by simp [go_sem, *]) (fun hHeld => ?_)
        clear hK K
        try simp only [Act.put, List.setIfInBounds_toArray, List.set_cons_zero, List.set_cons_succ, List.getElem_toArray, List.getElem_cons_succ, List.getElem_cons_zero]
        refine wpAnyH_done (by kernel_rfl) ?_ _
        clear hHeld
        go_wp2_with fail
        refine bodyPost_ret (v := .tuple #[.agg #[.int .i64 d4, .slice (some ⟨g, 0, none⟩) k cg, .int .i64 an4, .int .i64 600], u10, u11]) (by simp [results, Try.results45, go_sem, *]) rfl ⟨_, _, _, rfl, ?_, ?_, ?_, ?_⟩
        · refine els_drew ?_
          simp only [World.size_setCell]
          exact els_far (els_far (els_far (els_far HF.out (fun b hb => by have := N1.out b hb; omega)) (fun b hb => by have := N1.out b hb; omega)) (fun b hb => by have := N1.out b hb; omega)) (fun b hb => by have := N1.out b hb; omega)
        · refine prs_drew ?_
          simp only [World.size_setCell]
          exact prs_far (prs_far (prs_far (prs_far (prs_far (W := wr) HCc.out N2G.out) (fun b hb => by have := N2.out b hb; omega)) (fun b hb => by have := N2.out b hb; omega)) (fun b hb => by have := N2.out b hb; omega)) (fun b hb => by have := N2.out b hb; omega)
        · refine nums_drew ?_
          simp only [World.size_setCell]
          exact nums_far (nums_far (nums_far (nums_far (nums_far (W := wr) HT.out N3G.out) (fun b hb => by have := N3.out b hb; omega)) (fun b hb => by have := N3.out b hb; omega)) (fun b hb => by have := N3.out b hb; omega)) (fun b hb => by have := N3.out b hb; omega)
        · exact (((((HBw.out.setCell (show w.heap.size ≤ g by omega) _).setCell (Nat.le_refl _) _).setCell (Nat.le_refl _) _).setCell (Nat.le_refl _) _).setCell (Nat.le_refl _) _).drew
end Go.Proofs.Ythogahdnidjelaa

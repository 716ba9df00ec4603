/-
  Cables: which breaker opens.
-/
import Derived.Test.YtdohfpnnmppdkaaCbM
namespace Go.Proofs.Ytdohfpnnmppdkaa
open Go.RowKit Go.Shelf
set_option linter.unusedSimpArgs false
attribute [local go_sem] Oper.semAt_some
theorem set_one {W : World} {b : Nat} {v : Value} {t : TypeId} (h : W.heap[b]? = some (.cells #[v] t (0, 0))) (u : Value) : (W.setCell ⟨b, 0, none⟩ u).heap[b]? = some (.cells #[u] t (0, 0)) := by
  simp [World.setCell, Array.getElem?_modify, h]
theorem breakers_any (sl sh : Int) (a : Option Addr) (n cap : Nat) (k : Int) (w : World) : Calls Try.prog 156 #[.agg #[.int .i64 sl, .int .i64 sh, .slice a n cap], .int .i64 k] w fun e w' => e = .returned (.func (.func 190) #[] #[.pointer (some ⟨w.heap.size, 0, none⟩), .pointer (some ⟨w.heap.size + 1, 0, none⟩)]) ∧ w' = (w.alloc (.cells #[.int .i64 sl, .int .i64 sh, .slice a n cap] 26)).alloc (.cells #[.int .i64 k] 3) := by
  go_enter Try.func156, Try.ntmps156
  go_wp2_with fail
  go_ret
  exact ⟨by first | rfl | trivial | simp, by first | rfl | trivial⟩
/-- the breaker that opens, of those so far and one more -/
def cutS (ns : List Nd) (zs : List Int) (o x : Nat) : Nat := if (x : Int) ∈ zs then o else if o = 0 ∨ (nd ns x).del < (nd ns o).del then x else o
def cutF (ns : List Nd) (zs : List Int) (l : List Nat) : Nat := l.foldl (cutS ns zs) 0
theorem cutF_snoc (ns : List Nd) (zs : List Int) (l : List Nat) (x : Nat) : cutF ns zs (l ++ [x]) = cutS ns zs (cutF ns zs l) x := by unfold cutF; rw [List.foldl_append]; rfl
theorem foldl_cut_lt (ns : List Nd) (zs : List Int) (n : Nat) : ∀ (l : List Nat) (o : Nat), o < n → (∀ x, x ∈ l → x < n) → l.foldl (cutS ns zs) o < n
  | [], o, ho, _ => ho
  | x :: l, o, ho, h => foldl_cut_lt ns zs n l _ (by unfold cutS; have := h x (by simp); split <;> (try split) <;> omega) (fun y hy => h y (by simp [hy]))
theorem cutF_lt (ns : List Nd) (zs : List Int) {n : Nat} (hn : 0 < n) {l : List Nat} (h : ∀ x, x ∈ l → x < n) : cutF ns zs l < n := foldl_cut_lt ns zs n l 0 hn h
/-- the node whose subtree is lost after a fault at k -/
def cutN (ns : List Nd) (zs : List Int) (k : Nat) : Nat := cutF ns zs ((pth (par ns) k).filter (brk ns))
def CutI (ns : List Nd) (zs : List Int) (sl sh : Int) (nb off n cap : Nat) (zv : Value) (w W5 : World) (L : List Nat) (pre : List {x // x ∈ L}) (W : World) : Prop :=
  W.heap[w.heap.size]? = some (.cells #[.int .i64 sl, .int .i64 sh, .slice (some ⟨nb, off, none⟩) n cap] 26 (0, 0)) ∧ W.heap[w.heap.size + 1]? = some (.cells #[zv] 29 (0, 0)) ∧ W.heap[w.heap.size + 1 + 1]? = some (.cells #[.int .i64 ((cutF ns zs (pre.map (·.1)) : Nat) : Int)] 3 (0, 0)) ∧ Below w.heap.size w W ∧ W5.heap.size ≤ W.heap.size
theorem CutI.own {ns : List Nd} {zs : List Int} {sl sh : Int} {nb off n cap : Nat} {zv : Value} {w W5 : World} {L : List Nat} (hz : w.heap.size ≤ W5.heap.size) : OwnFrom W5.heap.size (CutI ns zs sl sh nb off n cap zv w W5 L) := by
  intro pre A B row hs hg hr
  obtain ⟨h1, h2, h3, h4, h5⟩ := hs
  exact ⟨cell_kept hg hr h1, cell_kept hg hr h2, cell_kept hg hr h3, h4.grown hg (by omega) (fun r e => by have := (hr r e).1; omega), Nat.le_trans h5 hg.size⟩
set_option maxRecDepth 100000 in
set_option maxHeartbeats 8000000 in
theorem cut_any (sl sh : Int) (sv zv : Value) (ns : List Nd) (zs : List Int) (hv : AllN ns) (hl60 : ns.length ≤ 60) (k : Nat) (hk : k < ns.length) (hzl : zs.length ≤ 1000) (w : World) (hN : Nds w.heap.size w sv ns) (hZ : Il w.heap.size w zv zs) :
    Calls Try.prog 100 #[.agg #[.int .i64 sl, .int .i64 sh, sv], .int .i64 (k : Int), zv] w fun e w' => e = .returned (.int .i64 ((cutN ns zs k : Nat) : Int)) ∧ Below w.heap.size w w' := by
  have hNN := hN
  obtain ⟨a, cap, rfl, -, hcc⟩ := hN
  obtain ⟨nb, off, rfl, hnb, -⟩ := hcc k hk
  have HC := Lib.hid (show ∀ W k, Below w.heap.size w W → k < ns.length → W.cell? ⟨nb, off + k * 8 + 7, none⟩ = some (.int .i64 (nd ns k).del) from fun W k hb hk => by
    obtain ⟨b, o, h1, h2, e0, e1, e2, e3, e4, e5, e6, e7⟩ := hcc k hk
    simp only [Option.some.injEq, Addr.mk.injEq] at h1
    obtain ⟨rfl, rfl, -⟩ := h1
    exact (hb.cell (p := ⟨_, _, none⟩) h2).trans e7)
  have c157 := Lib.hid (fun (z : Int) W (h : Below w.heap.size w W) => contains_any zv zs z hzl W (hZ.mono h h.size))
  have HSEQ := Lib.hid (fun (C Kb : Nat) (W5 : World) (hb : Below w.heap.size w W5) h1 h2 => breakers_seq 8 (by decide) sl sh nb off cap ns hv hl60 k C Kb hk W5 h1 h2 (hNN.mono hb hb.size))
  have HXN := Lib.hid (fun (x : Nat) (hx : x ∈ pth (par ns) k) => hv.path_lt hk hx)
  have HLT := Lib.hid (fun (pre : List {x // x ∈ pth (par ns) k}) => cutF_lt ns zs (n := ns.length) (by omega) (l := pre.map (·.1)) (fun x hx => by
    obtain ⟨y, hy, rfl⟩ := List.mem_map.1 hx
    exact hv.path_lt hk y.2))
  have HRES := Lib.hid (show cutN ns zs k = cutF ns zs ((pth (par ns) k).filter (brk ns)) from rfl)
  obtain ⟨az, cz, rfl⟩ := hZ.form
  clear hcc hNN hZ hv hl60
  generalize hnn : ns.length = n at *
  generalize zs.length = m at *
  clear hnn
  obtain ⟨A, hA⟩ : ∃ A, A = ((w.alloc (.cells #[.int .i64 sl, .int .i64 sh, .slice (some ⟨nb, off, none⟩) n cap] 26)).alloc (.cells #[.slice az m cz] 29)).alloc (.cells #[.int .i64 0] 3) := ⟨_, rfl⟩
  obtain ⟨W5, hW5⟩ : ∃ W5, W5 = (A.alloc (.cells #[.int .i64 sl, .int .i64 sh, .slice (some ⟨nb, off, none⟩) n cap] 26)).alloc (.cells #[.int .i64 (k : Int)] 3) := ⟨_, rfl⟩
  have hbA : Below w.heap.size w A := by rw [hA]; exact (((Below.refl _ _).alloc (Nat.le_refl _) _).alloc (by simp) _).alloc (by simp; omega) _
  have hzA : A.heap.size = w.heap.size + 3 := by rw [hA]; simp
  have hA0 : A.heap[w.heap.size]? = some (.cells #[.int .i64 sl, .int .i64 sh, .slice (some ⟨nb, off, none⟩) n cap] 26 (0, 0)) := by rw [hA]; exact (Below.heap_alloc _ _ _ (by simp; omega)).trans ((Below.heap_alloc _ _ _ (by simp)).trans (World.alloc_heap_new w _))
  have hA1 : A.heap[w.heap.size + 1]? = some (.cells #[.slice az m cz] 29 (0, 0)) := by
    rw [hA]; refine (Below.heap_alloc _ _ _ (by simp)).trans ?_
    have q := World.alloc_heap_new (w.alloc (.cells #[.int .i64 sl, .int .i64 sh, .slice (some ⟨nb, off, none⟩) n cap] 26)) (.cells #[.slice az m cz] 29)
    simpa using q
  have hA2 : A.heap[w.heap.size + 1 + 1]? = some (.cells #[.int .i64 0] 3 (0, 0)) := by
    rw [hA]
    have q := World.alloc_heap_new ((w.alloc (.cells #[.int .i64 sl, .int .i64 sh, .slice (some ⟨nb, off, none⟩) n cap] 26)).alloc (.cells #[.slice az m cz] 29)) (.cells #[.int .i64 0] 3)
    simpa using q
  have hb5 : Below A.heap.size A W5 := by rw [hW5]; exact ((Below.refl _ _).alloc (Nat.le_refl _) _).alloc (by simp) _
  have hz5 : W5.heap.size = A.heap.size + 2 := by rw [hW5]; simp
  have hC5 : W5.heap[A.heap.size]? = some (.cells #[.int .i64 sl, .int .i64 sh, .slice (some ⟨nb, off, none⟩) n cap] 26 (0, 0)) := by rw [hW5]; exact (Below.heap_alloc _ _ _ (by simp)).trans (World.alloc_heap_new A _)
  have hK5 : W5.heap[A.heap.size + 1]? = some (.cells #[.int .i64 (k : Int)] 3 (0, 0)) := by
    rw [hW5]
    have q := World.alloc_heap_new (A.alloc (.cells #[.int .i64 sl, .int .i64 sh, .slice (some ⟨nb, off, none⟩) n cap] 26)) (.cells #[.int .i64 (k : Int)] 3)
    simpa using q
  have hseq := HSEQ.out A.heap.size (A.heap.size + 1) W5 (hbA.trans (hb5.mono (by omega))) hC5 hK5
  rw [show A.heap.size = w.heap.size + 1 + 1 + 1 by omega] at hseq
  have h0 : CutI ns zs sl sh nb off n cap (.slice az m cz) w W5 (pth (par ns) k) [] W5 := ⟨(hb5.block _ (by omega)).trans hA0, (hb5.block _ (by omega)).trans hA1, (hb5.block _ (by omega)).trans hA2, hbA.trans (hb5.mono (by omega)), Nat.le_refl _⟩
  have a0 := cellHB hA0 0
  have a1 := cellHB hA0 1
  have a2 : A.cell? ⟨w.heap.size, 1 + 1, none⟩ = some (.slice (some ⟨nb, off, none⟩) n cap) := cellHB hA0 2
  have HZ5 := Lib.hid hz5
  have HZA := Lib.hid hzA
  have HW := Lib.hid (show w.heap.size + 3 ≤ W5.heap.size by omega)
  clear hC5 hK5 hA0 hA1 hA2 hb5 hbA HSEQ
  rw [hA] at a0 a1 a2
  refine calls_marks 9 Try.func100 rfl ?_
  simp only [Try.ntmps100, List.size_toArray, List.length_cons, List.length_nil, Nat.reduceAdd, Nat.reduceSub, Array.replicate_succ, Array.replicate_zero, List.push_toArray, List.append_toArray, List.nil_append, List.cons_append]
  gi_wp2
  refine ⟨trivial, ?_⟩
  refine (callsIn_wide.2 (breakers_any sl sh (some ⟨nb, off, none⟩) n cap (k : Int) _)).mono ?_
  rintro e w1 ⟨rfl, rfl⟩
  gi_wp2
  rw [← hA, ← hW5]
  generalize hB1 : w.heap.size + 1 = B1 at *
  generalize hB2 : B1 + 1 = B2 at *
  generalize hB0 : w.heap.size = B0 at *
  have HBB := Lib.hid (show B0 < B1 ∧ B1 < B2 ∧ B2 < W5.heap.size ∧ nb < B2 by omega)
  clear hA hW5 a0 a1 a2
  refine range_own (n := 9) (by decide) (gf := 190) (lb := #[.pointer (some ⟨B2 + 1, 0, none⟩), .pointer (some ⟨B2 + 1 + 1, 0, none⟩)]) rfl (enters_of Try.func190 (by kernel_rfl) rfl) hseq (fun h1 h2 => h1.trans h2)
    (fun W o o' _ _ => ⟨by simp, fun b o hb ho => (World.putObj_heap_other (by omega)).trans ho, fun b hb => World.putObj_heap_other (by rcases hb with rfl | rfl | rfl <;> omega)⟩) (fun _ => rfl)
    (CutI ns zs sl sh nb off n cap (.slice az m cz) w W5 (pth (par ns) k)) (fun _ _ _ => False) (CutI.own (by omega)) (fun _ _ _ _ _ hs _ _ => hs) h0 (fun x => { tmps := #[.agg #[.int .i64 sl, .int .i64 sh, .slice (some ⟨nb, off, none⟩) n cap], .int .i64 (k : Int), .slice az m cz, .pointer (some ⟨B0, 0, none⟩), undef, .pointer (some ⟨B1, 0, none⟩), .int .i64 0, .pointer (some ⟨B2, 0, none⟩), .int .i64 (x.1 : Int), .agg #[.int .i64 sl, .int .i64 sh, .slice (some ⟨nb, off, none⟩) n cap], .int .i64 (k : Int), .func (.func 190) #[] #[.pointer (some ⟨B2 + 1, 0, none⟩), .pointer (some ⟨B2 + 1 + 1, 0, none⟩)], .int .i64 (x.1 : Int), undef, undef, undef, undef, undef, undef, undef, undef, undef, undef, undef, undef, undef, undef, undef, undef, undef, undef, undef, undef, undef, undef], defers := [] }) ?assign ?body ?done ?stop
  case assign =>
    intro l x W K hK
    gi_wp2
    exact hK
  case body =>
    rintro l pre ⟨x, hx⟩ W ⟨i0, i1, i2, i3, i4⟩ hpl
    have hxn := HXN.out x hx
    have hxi : (x : Int) < (n : Int) := by omega
    have c1 := fun Z h => c157.out (x : Int) Z h
    have ho := HLT.out pre
    have HSN := Lib.hid (show cutF ns zs ((pre ++ [(⟨x, hx⟩ : {x // x ∈ pth (par ns) k})]).map (·.1)) = cutS ns zs (cutF ns zs (pre.map (·.1))) x by rw [List.map_append]; exact cutF_snoc _ _ _ _)
    have HCS := Lib.hid (show ∀ o, cutS ns zs o x = (if (x : Int) ∈ zs then o else if o = 0 ∨ (nd ns x).del < (nd ns o).del then x else o) from fun _ => rfl)
    unfold CutI
    rw [hB0, hB1, hB2] at *
    generalize cutF ns zs (pre.map (·.1)) = o at *
    have HST := Lib.hid (show ∀ Z (v : Nat), Z.heap[B0]? = W.heap[B0]? → Z.heap[B1]? = W.heap[B1]? → Z.heap[B2]? = some (.cells #[.int .i64 (v : Int)] 3 (0, 0)) → Below B0 w Z → W.heap.size ≤ Z.heap.size → cutS ns zs o x = v → (Z.heap[B0]? = some (.cells #[.int .i64 sl, .int .i64 sh, .slice (some ⟨nb, off, none⟩) n cap] 26 (0, 0)) ∧ Z.heap[B1]? = some (.cells #[.slice az m cz] 29 (0, 0)) ∧ Z.heap[B2]? = some (.cells #[.int .i64 ((cutF ns zs ((pre ++ [(⟨x, hx⟩ : {x // x ∈ pth (par ns) k})]).map (·.1)) : Nat) : Int)] 3 (0, 0)) ∧ Below B0 w Z ∧ W5.heap.size ≤ Z.heap.size) from fun Z v h1 h2 h3 h4 h5 h6 => ⟨h1.trans i0, h2.trans i1, by rw [HSN.out, h6]; exact h3, h4, Nat.le_trans i4 h5⟩)
    have q2 : W.cell? ⟨B0, 1 + 1, none⟩ = some (.slice (some ⟨nb, off, none⟩) n cap) := cellHB i0 2
    have q1 := cellHB i1 0
    have q3 := cellHB i2 0
    have qf := frozH i2 0
    have d1 := HC.out W x i3 hxn
    have d2 := HC.out W o i3 ho
    have HB := Lib.hid i3
    have hoi : (o : Int) < (n : Int) := by omega
    have HI2 := Lib.hid i2
    have HKR := Lib.hid (show ∀ Z, Z = W → KeepsFrom W5.heap.size W Z ∧ KeepU (W5.heap.size + 2) (BrQ (B2 + 1) (B2 + 1 + 1) nb) W Z from fun Z e => by subst e; exact ⟨KeepsFrom.refl _ _, Nat.le_refl _, fun _ _ _ h => h, fun _ _ => rfl⟩)
    clear i0 i1 i2 i3 hseq h0
    by_cases hm : (x : Int) ∈ zs
    · have hcs := HCS.out o
      rw [if_pos hm] at hcs
      have HF := Lib.hid hcs
      clear hcs
      replace c1 := c1 W HB.out
      rw [decide_eq_true hm] at c1
      gi_wp2
      refine ⟨trivial, ?_⟩
      refine (CallsIn.inRound l (callsIn_wide.2 c1)).mono ?_
      rintro e Z ⟨rfl, rfl⟩
      clear c1
      gi_wp2
      exact ⟨(HKR.out _ rfl).1, (HKR.out _ rfl).2, HST.out _ o rfl rfl HI2.out HB.out (Nat.le_refl _) HF.out⟩
    · have hcs := HCS.out o
      rw [if_neg hm] at hcs
      replace c1 := c1 W HB.out
      rw [decide_eq_false hm] at c1
      by_cases h0 : o = 0
      · rw [if_pos (.inl h0)] at hcs
        have HF := Lib.hid hcs
        have h0i : ((o : Int) == 0) = true := by rw [h0]; rfl
        clear hcs h0
        gi_wp2
        refine ⟨trivial, ?_⟩
        refine (CallsIn.inRound l (callsIn_wide.2 c1)).mono ?_
        rintro e Z ⟨rfl, rfl⟩
        clear c1
        gi_wp2
        refine wpIn_round_held (S := fun w' => w'.cell? ⟨B2, 0, none⟩ = some (Value.int .i64 (o : Int)) ∧ w'.cell? ⟨B0, 2, none⟩ = some (Value.slice (some ⟨nb, off, none⟩) n cap) ∧ w'.cell? ⟨nb, off + x * 8 + 7, none⟩ = some (Value.int .i64 (nd ns x).del) ∧ w'.cell? ⟨nb, off + o * 8 + 7, none⟩ = some (Value.int .i64 (nd ns o).del)) (by kernel_rfl) (by kernel_rfl) (by rintro ⟨_, _, q⟩; exact q) ⟨by simpa [go_sem] using q3, by simpa [go_sem] using q2, by simpa [go_sem] using d1, by simpa [go_sem] using d2⟩ (fun hHeld => ?_)
        refine wpAnyH_take (i := 0) (oi := _) (v := Value.int .i64 (o : Int)) rfl (by kernel_rfl) (by kernel_rfl) (by kernel_rfl) (fun _ _ _ h => h) (Or.inl ⟨by rfl, fun w' hSw => ?_⟩) hHeld ?_
        · obtain ⟨t0, t1, t2, t3⟩ := hSw
          go_simp
          try simp [*]
          try (intro hh; exfalso; omega)
          try omega
        try simp only [Act.put, List.setIfInBounds_toArray, List.set_cons_zero, List.set_cons_succ, List.getElem_toArray, List.getElem_cons_succ, List.getElem_cons_zero]
        refine wpAnyH_take (i := 1) (oi := _) (v := Value.bool true) rfl (by kernel_rfl) (by kernel_rfl) (by kernel_rfl) (fun _ _ _ h => h) (Or.inl ⟨by rfl, fun w' hSw => ?_⟩) hHeld ?_
        · obtain ⟨t0, t1, t2, t3⟩ := hSw
          go_simp
          try simp [*]
          try (intro hh; exfalso; omega)
          try omega
        try simp only [Act.put, List.setIfInBounds_toArray, List.set_cons_zero, List.set_cons_succ, List.getElem_toArray, List.getElem_cons_succ, List.getElem_cons_zero]
        refine wpAnyH_take (i := 2) (oi := _) (v := Value.bool true) rfl (by kernel_rfl) (by kernel_rfl) (by kernel_rfl) (fun _ _ _ h => h) (Or.inl ⟨by rfl, fun w' hSw => ?_⟩) hHeld ?_
        · obtain ⟨t0, t1, t2, t3⟩ := hSw
          go_simp
          try simp [*]
          try (intro hh; exfalso; omega)
          try omega
        try simp only [Act.put, List.setIfInBounds_toArray, List.set_cons_zero, List.set_cons_succ, List.getElem_toArray, List.getElem_cons_succ, List.getElem_cons_zero]
        refine wpAnyH_take (i := 3) (oi := _) (v := undef) rfl (by kernel_rfl) (by kernel_rfl) (by kernel_rfl) (fun _ _ _ h => h) (Or.inr ⟨by rfl, rfl⟩) hHeld ?_
        try simp only [Act.put, List.setIfInBounds_toArray, List.set_cons_zero, List.set_cons_succ, List.getElem_toArray, List.getElem_cons_succ, List.getElem_cons_zero]
        refine wpAnyH_take (i := 4) (oi := _) (v := undef) rfl (by kernel_rfl) (by kernel_rfl) (by kernel_rfl) (fun _ _ _ h => h) (Or.inr ⟨by rfl, rfl⟩) hHeld ?_
        try simp only [Act.put, List.setIfInBounds_toArray, List.set_cons_zero, List.set_cons_succ, List.getElem_toArray, List.getElem_cons_succ, List.getElem_cons_zero]
        refine wpAnyH_take (i := 5) (oi := _) (v := undef) rfl (by kernel_rfl) (by kernel_rfl) (by kernel_rfl) (fun _ _ _ h => h) (Or.inr ⟨by rfl, rfl⟩) hHeld ?_
        try simp only [Act.put, List.setIfInBounds_toArray, List.set_cons_zero, List.set_cons_succ, List.getElem_toArray, List.getElem_cons_succ, List.getElem_cons_zero]
        refine wpAnyH_take (i := 6) (oi := _) (v := undef) rfl (by kernel_rfl) (by kernel_rfl) (by kernel_rfl) (fun _ _ _ h => h) (Or.inr ⟨by rfl, rfl⟩) hHeld ?_
        try simp only [Act.put, List.setIfInBounds_toArray, List.set_cons_zero, List.set_cons_succ, List.getElem_toArray, List.getElem_cons_succ, List.getElem_cons_zero]
        refine wpAnyH_take (i := 7) (oi := _) (v := undef) rfl (by kernel_rfl) (by kernel_rfl) (by kernel_rfl) (fun _ _ _ h => h) (Or.inr ⟨by rfl, rfl⟩) hHeld ?_
        try simp only [Act.put, List.setIfInBounds_toArray, List.set_cons_zero, List.set_cons_succ, List.getElem_toArray, List.getElem_cons_succ, List.getElem_cons_zero]
        refine wpAnyH_take (i := 8) (oi := _) (v := undef) rfl (by kernel_rfl) (by kernel_rfl) (by kernel_rfl) (fun _ _ _ h => h) (Or.inr ⟨by rfl, rfl⟩) hHeld ?_
        try simp only [Act.put, List.setIfInBounds_toArray, List.set_cons_zero, List.set_cons_succ, List.getElem_toArray, List.getElem_cons_succ, List.getElem_cons_zero]
        refine wpAnyH_take (i := 9) (oi := _) (v := undef) rfl (by kernel_rfl) (by kernel_rfl) (by kernel_rfl) (fun _ _ _ h => h) (Or.inr ⟨by rfl, rfl⟩) hHeld ?_
        try simp only [Act.put, List.setIfInBounds_toArray, List.set_cons_zero, List.set_cons_succ, List.getElem_toArray, List.getElem_cons_succ, List.getElem_cons_zero]
        refine wpAnyH_take (i := 10) (oi := _) (v := undef) rfl (by kernel_rfl) (by kernel_rfl) (by kernel_rfl) (fun _ _ _ h => h) (Or.inr ⟨by rfl, rfl⟩) hHeld ?_
        try simp only [Act.put, List.setIfInBounds_toArray, List.set_cons_zero, List.set_cons_succ, List.getElem_toArray, List.getElem_cons_succ, List.getElem_cons_zero]
        refine wpAnyH_take (i := 11) (oi := _) (v := undef) rfl (by kernel_rfl) (by kernel_rfl) (by kernel_rfl) (fun _ _ _ h => h) (Or.inr ⟨by rfl, rfl⟩) hHeld ?_
        try simp only [Act.put, List.setIfInBounds_toArray, List.set_cons_zero, List.set_cons_succ, List.getElem_toArray, List.getElem_cons_succ, List.getElem_cons_zero]
        refine wpAnyH_take (i := 12) (oi := _) (v := undef) rfl (by kernel_rfl) (by kernel_rfl) (by kernel_rfl) (fun _ _ _ h => h) (Or.inr ⟨by rfl, rfl⟩) hHeld ?_
        try simp only [Act.put, List.setIfInBounds_toArray, List.set_cons_zero, List.set_cons_succ, List.getElem_toArray, List.getElem_cons_succ, List.getElem_cons_zero]
        refine wpAnyH_take (i := 13) (oi := _) (v := undef) rfl (by kernel_rfl) (by kernel_rfl) (by kernel_rfl) (fun _ _ _ h => h) (Or.inr ⟨by rfl, rfl⟩) hHeld ?_
        try simp only [Act.put, List.setIfInBounds_toArray, List.set_cons_zero, List.set_cons_succ, List.getElem_toArray, List.getElem_cons_succ, List.getElem_cons_zero]
        refine wpAnyH_take (i := 14) (oi := _) (v := undef) rfl (by kernel_rfl) (by kernel_rfl) (by kernel_rfl) (fun _ _ _ h => h) (Or.inr ⟨by rfl, rfl⟩) hHeld ?_
        try simp only [Act.put, List.setIfInBounds_toArray, List.set_cons_zero, List.set_cons_succ, List.getElem_toArray, List.getElem_cons_succ, List.getElem_cons_zero]
        refine wpAnyH_take (i := 15) (oi := _) (v := undef) rfl (by kernel_rfl) (by kernel_rfl) (by kernel_rfl) (fun _ _ _ h => h) (Or.inr ⟨by rfl, rfl⟩) hHeld ?_
        try simp only [Act.put, List.setIfInBounds_toArray, List.set_cons_zero, List.set_cons_succ, List.getElem_toArray, List.getElem_cons_succ, List.getElem_cons_zero]
        refine wpAnyH_take (i := 16) (oi := _) (v := Value.bool true) rfl (by kernel_rfl) (by kernel_rfl) (by kernel_rfl) (fun _ _ _ h => h) (Or.inl ⟨by rfl, fun w' hSw => ?_⟩) hHeld ?_
        · obtain ⟨t0, t1, t2, t3⟩ := hSw
          go_simp
          try simp [*]
          try (intro hh; exfalso; omega)
          try omega
        try simp only [Act.put, List.setIfInBounds_toArray, List.set_cons_zero, List.set_cons_succ, List.getElem_toArray, List.getElem_cons_succ, List.getElem_cons_zero]
        refine wpAnyH_done (by kernel_rfl) ?_ _
        clear hHeld
        gi_wp2
        obtain ⟨hb1, hb2, hb3, hb4⟩ := HBB.out
        refine ⟨((KeepsOthers.drew _).trans (KeepsOthers.setCell _ _ _)).from _, ⟨by simp, fun b o hb ho => (Below.heap_setCell _ _ _ _ (by show b ≠ B2; omega)).trans ho, fun b hb => Below.heap_setCell _ _ _ _ (by show b ≠ B2; rcases hb with rfl | rfl | rfl <;> omega)⟩, HST.out _ x (Below.heap_setCell _ _ _ _ (by show B0 ≠ B2; omega)) (Below.heap_setCell _ _ _ _ (by show B1 ≠ B2; omega)) ?_ ((HB.out.drew).setCell (p := ⟨B2, 0, none⟩) (by show B0 ≤ B2; omega) _) (by simp) HF.out⟩
        exact set_one (W := World.drew _) HI2.out _
      · have h0i : ((o : Int) == 0) = false := by simp; omega
        have h0n : ¬ (o : Int) = 0 := by omega
        by_cases hd : (nd ns x).del < (nd ns o).del
        · rw [if_pos (.inr hd)] at hcs
          have HF := Lib.hid hcs
          have hdd : decide ((nd ns x).del < (nd ns o).del) = true := decide_eq_true hd
          clear hcs
          gi_wp2
          refine ⟨trivial, ?_⟩
          refine (CallsIn.inRound l (callsIn_wide.2 c1)).mono ?_
          rintro e Z ⟨rfl, rfl⟩
          clear c1
          gi_wp2
          refine wpIn_round_held (S := fun w' => w'.cell? ⟨B2, 0, none⟩ = some (Value.int .i64 (o : Int)) ∧ w'.cell? ⟨B0, 2, none⟩ = some (Value.slice (some ⟨nb, off, none⟩) n cap) ∧ w'.cell? ⟨nb, off + x * 8 + 7, none⟩ = some (Value.int .i64 (nd ns x).del) ∧ w'.cell? ⟨nb, off + o * 8 + 7, none⟩ = some (Value.int .i64 (nd ns o).del)) (by kernel_rfl) (by kernel_rfl) (by rintro ⟨_, _, q⟩; exact q) ⟨by simpa [go_sem] using q3, by simpa [go_sem] using q2, by simpa [go_sem] using d1, by simpa [go_sem] using d2⟩ (fun hHeld => ?_)
          refine wpAnyH_take (i := 0) (oi := _) (v := Value.int .i64 (o : Int)) rfl (by kernel_rfl) (by kernel_rfl) (by kernel_rfl) (fun _ _ _ h => h) (Or.inl ⟨by rfl, fun w' hSw => ?_⟩) hHeld ?_
          · obtain ⟨t0, t1, t2, t3⟩ := hSw
            go_simp
            try simp [*]
            try (intro hh; exfalso; omega)
            try omega
          try simp only [Act.put, List.setIfInBounds_toArray, List.set_cons_zero, List.set_cons_succ, List.getElem_toArray, List.getElem_cons_succ, List.getElem_cons_zero]
          refine wpAnyH_take (i := 1) (oi := _) (v := Value.bool false) rfl (by kernel_rfl) (by kernel_rfl) (by kernel_rfl) (fun _ _ _ h => h) (Or.inl ⟨by rfl, fun w' hSw => ?_⟩) hHeld ?_
          · obtain ⟨t0, t1, t2, t3⟩ := hSw
            go_simp
            try simp [*]
            try (intro hh; exfalso; omega)
            try omega
          try simp only [Act.put, List.setIfInBounds_toArray, List.set_cons_zero, List.set_cons_succ, List.getElem_toArray, List.getElem_cons_succ, List.getElem_cons_zero]
          refine wpAnyH_take (i := 2) (oi := _) (v := Value.bool false) rfl (by kernel_rfl) (by kernel_rfl) (by kernel_rfl) (fun _ _ _ h => h) (Or.inl ⟨by rfl, fun w' hSw => ?_⟩) hHeld ?_
          · obtain ⟨t0, t1, t2, t3⟩ := hSw
            go_simp
            try simp [*]
            try (intro hh; exfalso; omega)
            try omega
          try simp only [Act.put, List.setIfInBounds_toArray, List.set_cons_zero, List.set_cons_succ, List.getElem_toArray, List.getElem_cons_succ, List.getElem_cons_zero]
          refine wpAnyH_take (i := 3) (oi := _) (v := Value.pointer (some ⟨B0, 2, none⟩)) rfl (by kernel_rfl) (by kernel_rfl) (by kernel_rfl) (fun _ _ _ h => h) (Or.inl ⟨by rfl, fun w' hSw => ?_⟩) hHeld ?_
          · obtain ⟨t0, t1, t2, t3⟩ := hSw
            go_simp
            try simp [*]
            try (intro hh; exfalso; omega)
            try omega
          try simp only [Act.put, List.setIfInBounds_toArray, List.set_cons_zero, List.set_cons_succ, List.getElem_toArray, List.getElem_cons_succ, List.getElem_cons_zero]
          refine wpAnyH_take (i := 4) (oi := _) (v := Value.slice (some ⟨nb, off, none⟩) n cap) rfl (by kernel_rfl) (by kernel_rfl) (by kernel_rfl) (fun _ _ _ h => h) (Or.inl ⟨by rfl, fun w' hSw => ?_⟩) hHeld ?_
          · obtain ⟨t0, t1, t2, t3⟩ := hSw
            go_simp
            try simp [*]
            try (intro hh; exfalso; omega)
            try omega
          try simp only [Act.put, List.setIfInBounds_toArray, List.set_cons_zero, List.set_cons_succ, List.getElem_toArray, List.getElem_cons_succ, List.getElem_cons_zero]
          refine wpAnyH_take (i := 5) (oi := _) (v := Value.int .i64 (x : Int)) rfl (by kernel_rfl) (by kernel_rfl) (by kernel_rfl) (fun _ _ _ h => h) (Or.inl ⟨by rfl, fun w' hSw => ?_⟩) hHeld ?_
          · obtain ⟨t0, t1, t2, t3⟩ := hSw
            go_simp
            try simp [*]
            try (intro hh; exfalso; omega)
            try omega
          try simp only [Act.put, List.setIfInBounds_toArray, List.set_cons_zero, List.set_cons_succ, List.getElem_toArray, List.getElem_cons_succ, List.getElem_cons_zero]
          refine wpAnyH_take (i := 6) (oi := _) (v := Value.pointer (some ⟨nb, off + x * 8, none⟩)) rfl (by kernel_rfl) (by kernel_rfl) (by kernel_rfl) (fun _ _ _ h => h) (Or.inl ⟨by rfl, fun w' hSw => ?_⟩) hHeld ?_
          · obtain ⟨t0, t1, t2, t3⟩ := hSw
            go_simp
            try simp [*]
            try (intro hh; exfalso; omega)
            try omega
          try simp only [Act.put, List.setIfInBounds_toArray, List.set_cons_zero, List.set_cons_succ, List.getElem_toArray, List.getElem_cons_succ, List.getElem_cons_zero]
          refine wpAnyH_take (i := 7) (oi := _) (v := Value.pointer (some ⟨nb, off + x * 8 + 7, none⟩)) rfl (by kernel_rfl) (by kernel_rfl) (by kernel_rfl) (fun _ _ _ h => h) (Or.inl ⟨by rfl, fun w' hSw => ?_⟩) hHeld ?_
          · obtain ⟨t0, t1, t2, t3⟩ := hSw
            go_simp
            try simp [*]
            try (intro hh; exfalso; omega)
            try omega
          try simp only [Act.put, List.setIfInBounds_toArray, List.set_cons_zero, List.set_cons_succ, List.getElem_toArray, List.getElem_cons_succ, List.getElem_cons_zero]
          refine wpAnyH_take (i := 8) (oi := _) (v := Value.int .i64 (nd ns x).del) rfl (by kernel_rfl) (by kernel_rfl) (by kernel_rfl) (fun _ _ _ h => h) (Or.inl ⟨by rfl, fun w' hSw => ?_⟩) hHeld ?_
          · obtain ⟨t0, t1, t2, t3⟩ := hSw
            go_simp
            try simp [*]
            try (intro hh; exfalso; omega)
            try omega
          try simp only [Act.put, List.setIfInBounds_toArray, List.set_cons_zero, List.set_cons_succ, List.getElem_toArray, List.getElem_cons_succ, List.getElem_cons_zero]
          refine wpAnyH_take (i := 9) (oi := _) (v := Value.pointer (some ⟨B0, 2, none⟩)) rfl (by kernel_rfl) (by kernel_rfl) (by kernel_rfl) (fun _ _ _ h => h) (Or.inl ⟨by rfl, fun w' hSw => ?_⟩) hHeld ?_
          · obtain ⟨t0, t1, t2, t3⟩ := hSw
            go_simp
            try simp [*]
            try (intro hh; exfalso; omega)
            try omega
          try simp only [Act.put, List.setIfInBounds_toArray, List.set_cons_zero, List.set_cons_succ, List.getElem_toArray, List.getElem_cons_succ, List.getElem_cons_zero]
          refine wpAnyH_take (i := 10) (oi := _) (v := Value.slice (some ⟨nb, off, none⟩) n cap) rfl (by kernel_rfl) (by kernel_rfl) (by kernel_rfl) (fun _ _ _ h => h) (Or.inl ⟨by rfl, fun w' hSw => ?_⟩) hHeld ?_
          · obtain ⟨t0, t1, t2, t3⟩ := hSw
            go_simp
            try simp [*]
            try (intro hh; exfalso; omega)
            try omega
          try simp only [Act.put, List.setIfInBounds_toArray, List.set_cons_zero, List.set_cons_succ, List.getElem_toArray, List.getElem_cons_succ, List.getElem_cons_zero]
          refine wpAnyH_take (i := 11) (oi := _) (v := Value.int .i64 (o : Int)) rfl (by kernel_rfl) (by kernel_rfl) (by kernel_rfl) (fun _ _ _ h => h) (Or.inl ⟨by rfl, fun w' hSw => ?_⟩) hHeld ?_
          · obtain ⟨t0, t1, t2, t3⟩ := hSw
            go_simp
            try simp [*]
            try (intro hh; exfalso; omega)
            try omega
          try simp only [Act.put, List.setIfInBounds_toArray, List.set_cons_zero, List.set_cons_succ, List.getElem_toArray, List.getElem_cons_succ, List.getElem_cons_zero]
          refine wpAnyH_take (i := 12) (oi := _) (v := Value.pointer (some ⟨nb, off + o * 8, none⟩)) rfl (by kernel_rfl) (by kernel_rfl) (by kernel_rfl) (fun _ _ _ h => h) (Or.inl ⟨by rfl, fun w' hSw => ?_⟩) hHeld ?_
          · obtain ⟨t0, t1, t2, t3⟩ := hSw
            go_simp
            try simp [*]
            try (intro hh; exfalso; omega)
            try omega
          try simp only [Act.put, List.setIfInBounds_toArray, List.set_cons_zero, List.set_cons_succ, List.getElem_toArray, List.getElem_cons_succ, List.getElem_cons_zero]
          refine wpAnyH_take (i := 13) (oi := _) (v := Value.pointer (some ⟨nb, off + o * 8 + 7, none⟩)) rfl (by kernel_rfl) (by kernel_rfl) (by kernel_rfl) (fun _ _ _ h => h) (Or.inl ⟨by rfl, fun w' hSw => ?_⟩) hHeld ?_
          · obtain ⟨t0, t1, t2, t3⟩ := hSw
            go_simp
            try simp [*]
            try (intro hh; exfalso; omega)
            try omega
          try simp only [Act.put, List.setIfInBounds_toArray, List.set_cons_zero, List.set_cons_succ, List.getElem_toArray, List.getElem_cons_succ, List.getElem_cons_zero]
          refine wpAnyH_take (i := 14) (oi := _) (v := Value.int .i64 (nd ns o).del) rfl (by kernel_rfl) (by kernel_rfl) (by kernel_rfl) (fun _ _ _ h => h) (Or.inl ⟨by rfl, fun w' hSw => ?_⟩) hHeld ?_
          · obtain ⟨t0, t1, t2, t3⟩ := hSw
            go_simp
            try simp [*]
            try (intro hh; exfalso; omega)
            try omega
          try simp only [Act.put, List.setIfInBounds_toArray, List.set_cons_zero, List.set_cons_succ, List.getElem_toArray, List.getElem_cons_succ, List.getElem_cons_zero]
          refine wpAnyH_take (i := 15) (oi := _) (v := Value.bool true) rfl (by kernel_rfl) (by kernel_rfl) (by kernel_rfl) (fun _ _ _ h => h) (Or.inl ⟨by rfl, fun w' hSw => ?_⟩) hHeld ?_
          · obtain ⟨t0, t1, t2, t3⟩ := hSw
            go_simp
            try simp [*]
            try (intro hh; exfalso; omega)
            try omega
          try simp only [Act.put, List.setIfInBounds_toArray, List.set_cons_zero, List.set_cons_succ, List.getElem_toArray, List.getElem_cons_succ, List.getElem_cons_zero]
          refine wpAnyH_take (i := 16) (oi := _) (v := Value.bool true) rfl (by kernel_rfl) (by kernel_rfl) (by kernel_rfl) (fun _ _ _ h => h) (Or.inl ⟨by rfl, fun w' hSw => ?_⟩) hHeld ?_
          · obtain ⟨t0, t1, t2, t3⟩ := hSw
            go_simp
            try simp [*]
            try (intro hh; exfalso; omega)
            try omega
          try simp only [Act.put, List.setIfInBounds_toArray, List.set_cons_zero, List.set_cons_succ, List.getElem_toArray, List.getElem_cons_succ, List.getElem_cons_zero]
          refine wpAnyH_done (by kernel_rfl) ?_ _
          clear hHeld
          gi_wp2
          obtain ⟨hb1, hb2, hb3, hb4⟩ := HBB.out
          refine ⟨((KeepsOthers.drew _).trans (KeepsOthers.setCell _ _ _)).from _, ⟨by simp, fun b o hb ho => (Below.heap_setCell _ _ _ _ (by show b ≠ B2; omega)).trans ho, fun b hb => Below.heap_setCell _ _ _ _ (by show b ≠ B2; rcases hb with rfl | rfl | rfl <;> omega)⟩, HST.out _ x (Below.heap_setCell _ _ _ _ (by show B0 ≠ B2; omega)) (Below.heap_setCell _ _ _ _ (by show B1 ≠ B2; omega)) ?_ ((HB.out.drew).setCell (p := ⟨B2, 0, none⟩) (by show B0 ≤ B2; omega) _) (by simp) HF.out⟩
          exact set_one (W := World.drew _) HI2.out _
        · rw [if_neg (show ¬ (o = 0 ∨ (nd ns x).del < (nd ns o).del) by omega)] at hcs
          have HF := Lib.hid hcs
          have hdd : decide ((nd ns x).del < (nd ns o).del) = false := decide_eq_false hd
          clear hcs
          gi_wp2
          refine ⟨trivial, ?_⟩
          refine (CallsIn.inRound l (callsIn_wide.2 c1)).mono ?_
          rintro e Z ⟨rfl, rfl⟩
          clear c1
          gi_wp2
          refine wpIn_round_held (S := fun w' => w'.cell? ⟨B2, 0, none⟩ = some (Value.int .i64 (o : Int)) ∧ w'.cell? ⟨B0, 2, none⟩ = some (Value.slice (some ⟨nb, off, none⟩) n cap) ∧ w'.cell? ⟨nb, off + x * 8 + 7, none⟩ = some (Value.int .i64 (nd ns x).del) ∧ w'.cell? ⟨nb, off + o * 8 + 7, none⟩ = some (Value.int .i64 (nd ns o).del)) (by kernel_rfl) (by kernel_rfl) (by rintro ⟨_, _, q⟩; exact q) ⟨by simpa [go_sem] using q3, by simpa [go_sem] using q2, by simpa [go_sem] using d1, by simpa [go_sem] using d2⟩ (fun hHeld => ?_)
          refine wpAnyH_take (i := 0) (oi := _) (v := Value.int .i64 (o : Int)) rfl (by kernel_rfl) (by kernel_rfl) (by kernel_rfl) (fun _ _ _ h => h) (Or.inl ⟨by rfl, fun w' hSw => ?_⟩) hHeld ?_
          · obtain ⟨t0, t1, t2, t3⟩ := hSw
            go_simp
            try simp [*]
            try (intro hh; exfalso; omega)
            try omega
          try simp only [Act.put, List.setIfInBounds_toArray, List.set_cons_zero, List.set_cons_succ, List.getElem_toArray, List.getElem_cons_succ, List.getElem_cons_zero]
          refine wpAnyH_take (i := 1) (oi := _) (v := Value.bool false) rfl (by kernel_rfl) (by kernel_rfl) (by kernel_rfl) (fun _ _ _ h => h) (Or.inl ⟨by rfl, fun w' hSw => ?_⟩) hHeld ?_
          · obtain ⟨t0, t1, t2, t3⟩ := hSw
            go_simp
            try simp [*]
            try (intro hh; exfalso; omega)
            try omega
          try simp only [Act.put, List.setIfInBounds_toArray, List.set_cons_zero, List.set_cons_succ, List.getElem_toArray, List.getElem_cons_succ, List.getElem_cons_zero]
          refine wpAnyH_take (i := 2) (oi := _) (v := Value.bool false) rfl (by kernel_rfl) (by kernel_rfl) (by kernel_rfl) (fun _ _ _ h => h) (Or.inl ⟨by rfl, fun w' hSw => ?_⟩) hHeld ?_
          · obtain ⟨t0, t1, t2, t3⟩ := hSw
            go_simp
            try simp [*]
            try (intro hh; exfalso; omega)
            try omega
          try simp only [Act.put, List.setIfInBounds_toArray, List.set_cons_zero, List.set_cons_succ, List.getElem_toArray, List.getElem_cons_succ, List.getElem_cons_zero]
          refine wpAnyH_take (i := 3) (oi := _) (v := Value.pointer (some ⟨B0, 2, none⟩)) rfl (by kernel_rfl) (by kernel_rfl) (by kernel_rfl) (fun _ _ _ h => h) (Or.inl ⟨by rfl, fun w' hSw => ?_⟩) hHeld ?_
          · obtain ⟨t0, t1, t2, t3⟩ := hSw
            go_simp
            try simp [*]
            try (intro hh; exfalso; omega)
            try omega
          try simp only [Act.put, List.setIfInBounds_toArray, List.set_cons_zero, List.set_cons_succ, List.getElem_toArray, List.getElem_cons_succ, List.getElem_cons_zero]
          refine wpAnyH_take (i := 4) (oi := _) (v := Value.slice (some ⟨nb, off, none⟩) n cap) rfl (by kernel_rfl) (by kernel_rfl) (by kernel_rfl) (fun _ _ _ h => h) (Or.inl ⟨by rfl, fun w' hSw => ?_⟩) hHeld ?_
          · obtain ⟨t0, t1, t2, t3⟩ := hSw
            go_simp
            try simp [*]
            try (intro hh; exfalso; omega)
            try omega
          try simp only [Act.put, List.setIfInBounds_toArray, List.set_cons_zero, List.set_cons_succ, List.getElem_toArray, List.getElem_cons_succ, List.getElem_cons_zero]
          refine wpAnyH_take (i := 5) (oi := _) (v := Value.int .i64 (x : Int)) rfl (by kernel_rfl) (by kernel_rfl) (by kernel_rfl) (fun _ _ _ h => h) (Or.inl ⟨by rfl, fun w' hSw => ?_⟩) hHeld ?_
          · obtain ⟨t0, t1, t2, t3⟩ := hSw
            go_simp
            try simp [*]
            try (intro hh; exfalso; omega)
            try omega
          try simp only [Act.put, List.setIfInBounds_toArray, List.set_cons_zero, List.set_cons_succ, List.getElem_toArray, List.getElem_cons_succ, List.getElem_cons_zero]
          refine wpAnyH_take (i := 6) (oi := _) (v := Value.pointer (some ⟨nb, off + x * 8, none⟩)) rfl (by kernel_rfl) (by kernel_rfl) (by kernel_rfl) (fun _ _ _ h => h) (Or.inl ⟨by rfl, fun w' hSw => ?_⟩) hHeld ?_
          · obtain ⟨t0, t1, t2, t3⟩ := hSw
            go_simp
            try simp [*]
            try (intro hh; exfalso; omega)
            try omega
          try simp only [Act.put, List.setIfInBounds_toArray, List.set_cons_zero, List.set_cons_succ, List.getElem_toArray, List.getElem_cons_succ, List.getElem_cons_zero]
          refine wpAnyH_take (i := 7) (oi := _) (v := Value.pointer (some ⟨nb, off + x * 8 + 7, none⟩)) rfl (by kernel_rfl) (by kernel_rfl) (by kernel_rfl) (fun _ _ _ h => h) (Or.inl ⟨by rfl, fun w' hSw => ?_⟩) hHeld ?_
          · obtain ⟨t0, t1, t2, t3⟩ := hSw
            go_simp
            try simp [*]
            try (intro hh; exfalso; omega)
            try omega
          try simp only [Act.put, List.setIfInBounds_toArray, List.set_cons_zero, List.set_cons_succ, List.getElem_toArray, List.getElem_cons_succ, List.getElem_cons_zero]
          refine wpAnyH_take (i := 8) (oi := _) (v := Value.int .i64 (nd ns x).del) rfl (by kernel_rfl) (by kernel_rfl) (by kernel_rfl) (fun _ _ _ h => h) (Or.inl ⟨by rfl, fun w' hSw => ?_⟩) hHeld ?_
          · obtain ⟨t0, t1, t2, t3⟩ := hSw
            go_simp
            try simp [*]
            try (intro hh; exfalso; omega)
            try omega
          try simp only [Act.put, List.setIfInBounds_toArray, List.set_cons_zero, List.set_cons_succ, List.getElem_toArray, List.getElem_cons_succ, List.getElem_cons_zero]
          refine wpAnyH_take (i := 9) (oi := _) (v := Value.pointer (some ⟨B0, 2, none⟩)) rfl (by kernel_rfl) (by kernel_rfl) (by kernel_rfl) (fun _ _ _ h => h) (Or.inl ⟨by rfl, fun w' hSw => ?_⟩) hHeld ?_
          · obtain ⟨t0, t1, t2, t3⟩ := hSw
            go_simp
            try simp [*]
            try (intro hh; exfalso; omega)
            try omega
          try simp only [Act.put, List.setIfInBounds_toArray, List.set_cons_zero, List.set_cons_succ, List.getElem_toArray, List.getElem_cons_succ, List.getElem_cons_zero]
          refine wpAnyH_take (i := 10) (oi := _) (v := Value.slice (some ⟨nb, off, none⟩) n cap) rfl (by kernel_rfl) (by kernel_rfl) (by kernel_rfl) (fun _ _ _ h => h) (Or.inl ⟨by rfl, fun w' hSw => ?_⟩) hHeld ?_
          · obtain ⟨t0, t1, t2, t3⟩ := hSw
            go_simp
            try simp [*]
            try (intro hh; exfalso; omega)
            try omega
          try simp only [Act.put, List.setIfInBounds_toArray, List.set_cons_zero, List.set_cons_succ, List.getElem_toArray, List.getElem_cons_succ, List.getElem_cons_zero]
          refine wpAnyH_take (i := 11) (oi := _) (v := Value.int .i64 (o : Int)) rfl (by kernel_rfl) (by kernel_rfl) (by kernel_rfl) (fun _ _ _ h => h) (Or.inl ⟨by rfl, fun w' hSw => ?_⟩) hHeld ?_
          · obtain ⟨t0, t1, t2, t3⟩ := hSw
            go_simp
            try simp [*]
            try (intro hh; exfalso; omega)
            try omega
          try simp only [Act.put, List.setIfInBounds_toArray, List.set_cons_zero, List.set_cons_succ, List.getElem_toArray, List.getElem_cons_succ, List.getElem_cons_zero]
          refine wpAnyH_take (i := 12) (oi := _) (v := Value.pointer (some ⟨nb, off + o * 8, none⟩)) rfl (by kernel_rfl) (by kernel_rfl) (by kernel_rfl) (fun _ _ _ h => h) (Or.inl ⟨by rfl, fun w' hSw => ?_⟩) hHeld ?_
          · obtain ⟨t0, t1, t2, t3⟩ := hSw
            go_simp
            try simp [*]
            try (intro hh; exfalso; omega)
            try omega
          try simp only [Act.put, List.setIfInBounds_toArray, List.set_cons_zero, List.set_cons_succ, List.getElem_toArray, List.getElem_cons_succ, List.getElem_cons_zero]
          refine wpAnyH_take (i := 13) (oi := _) (v := Value.pointer (some ⟨nb, off + o * 8 + 7, none⟩)) rfl (by kernel_rfl) (by kernel_rfl) (by kernel_rfl) (fun _ _ _ h => h) (Or.inl ⟨by rfl, fun w' hSw => ?_⟩) hHeld ?_
          · obtain ⟨t0, t1, t2, t3⟩ := hSw
            go_simp
            try simp [*]
            try (intro hh; exfalso; omega)
            try omega
          try simp only [Act.put, List.setIfInBounds_toArray, List.set_cons_zero, List.set_cons_succ, List.getElem_toArray, List.getElem_cons_succ, List.getElem_cons_zero]
          refine wpAnyH_take (i := 14) (oi := _) (v := Value.int .i64 (nd ns o).del) rfl (by kernel_rfl) (by kernel_rfl) (by kernel_rfl) (fun _ _ _ h => h) (Or.inl ⟨by rfl, fun w' hSw => ?_⟩) hHeld ?_
          · obtain ⟨t0, t1, t2, t3⟩ := hSw
            go_simp
            try simp [*]
            try (intro hh; exfalso; omega)
            try omega
          try simp only [Act.put, List.setIfInBounds_toArray, List.set_cons_zero, List.set_cons_succ, List.getElem_toArray, List.getElem_cons_succ, List.getElem_cons_zero]
          refine wpAnyH_take (i := 15) (oi := _) (v := Value.bool false) rfl (by kernel_rfl) (by kernel_rfl) (by kernel_rfl) (fun _ _ _ h => h) (Or.inl ⟨by rfl, fun w' hSw => ?_⟩) hHeld ?_
          · obtain ⟨t0, t1, t2, t3⟩ := hSw
            go_simp
            try simp [*]
            try (intro hh; exfalso; omega)
            try omega
          try simp only [Act.put, List.setIfInBounds_toArray, List.set_cons_zero, List.set_cons_succ, List.getElem_toArray, List.getElem_cons_succ, List.getElem_cons_zero]
          refine wpAnyH_take (i := 16) (oi := _) (v := Value.bool false) rfl (by kernel_rfl) (by kernel_rfl) (by kernel_rfl) (fun _ _ _ h => h) (Or.inl ⟨by rfl, fun w' hSw => ?_⟩) hHeld ?_
          · obtain ⟨t0, t1, t2, t3⟩ := hSw
            go_simp
            try simp [*]
            try (intro hh; exfalso; omega)
            try omega
          try simp only [Act.put, List.setIfInBounds_toArray, List.set_cons_zero, List.set_cons_succ, List.getElem_toArray, List.getElem_cons_succ, List.getElem_cons_zero]
          refine wpAnyH_done (by kernel_rfl) ?_ _
          clear hHeld
          gi_wp2
          exact ⟨(KeepsOthers.drew _).from _, ⟨Nat.le_refl _, fun _ _ _ h => h, fun _ _ => rfl⟩, HST.out _ o rfl rfl HI2.out HB.out.drew (Nat.le_refl _) HF.out⟩
  case done =>
    rintro D ys W hD hys ⟨i0, i1, i2, i3, i4⟩ hK
    rw [hys, ← HRES.out] at i2
    rw [hB0, hB1, hB2] at i2
    have q3 := cellHB i2 0
    have HB := Lib.hid i3
    have HK := Lib.hid hK
    clear i0 i1 i2 i3 hK hseq h0
    gi_wp2
    refine leaves_marks W5.heap.size _ _ i4 ⟨⟨D, hD, rfl, HK.out, by simp⟩, trivial⟩ (fun W2 hb hk => ⟨_, results_tmp rfl _ _ _, rfl, HB.out.trans (hb.mono (by omega))⟩)
  case stop =>
    rintro D c pre W _ _ hf
    exact hf.elim
end Go.Proofs.Ytdohfpnnmppdkaa

/-
  Cables: the voltages.
-/
import Derived.Test.YtdohfpnnmppdkaaCbH
namespace Go.Proofs.Ytdohfpnnmppdkaa
open Go.RowKit Go.Shelf
set_option linter.unusedSimpArgs false
/-- between two visits: the cable, the row of voltages and its box, that of currents -/
def VoJ (ns : List Nd) (sl sh : Int) (a : Option Addr) (cap C Lb Cb G gc n₀ : Nat) (w : World) (pre : List Nat) (W : World) : Prop :=
  W.heap[C]? = some (.cells #[.int .i64 sl, .int .i64 sh, .slice a ns.length cap] 26 (0, 0)) ∧ W.heap[Lb]? = some (.cells #[.slice (some ⟨G, 0, none⟩) ns.length ns.length] 36 (0, 0)) ∧ W.heap[Cb]? = some (.cells #[.slice (some ⟨gc, 0, none⟩) ns.length ns.length] 36 (0, 0)) ∧
  RowC W gc 23 (ns.length * 2) (spc (fun j => (curL ns j, curH ns j))) ∧ RowC W G 23 (ns.length * 2) (spc (fun j => if j ∈ pre then vol sl sh ns j else (0, 0))) ∧ Below n₀ w W ∧ n₀ ≤ W.heap.size
theorem VoJ.keep {ns : List Nd} {sl sh : Int} {a : Option Addr} {cap C Lb Cb G gc n₀ : Nat} {w : World} {pre : List Nat} {W W' : World} (h : VoJ ns sl sh a cap C Lb Cb G gc n₀ w pre W) (hb : Below W.heap.size W W') : VoJ ns sl sh a cap C Lb Cb G gc n₀ w pre W' := by
  obtain ⟨h1, h2, h3, h4, h5, h6, h7⟩ := h
  exact ⟨(hb.block _ (Array.getElem?_eq_some_iff.1 h1).1).trans h1, (hb.block _ (Array.getElem?_eq_some_iff.1 h2).1).trans h2, (hb.block _ (Array.getElem?_eq_some_iff.1 h3).1).trans h3, h4.keep hb, h5.keep hb, h6.trans (hb.mono h7), Nat.le_trans h7 hb.size⟩
/-- one more voltage is stored -/
theorem VoJ.step {ns : List Nd} {sl sh : Int} {a : Option Addr} {cap C Lb Cb G gc n₀ : Nat} {w : World} {pre : List Nat} {W W' : World} (h : VoJ ns sl sh a cap C Lb Cb G gc n₀ w pre W) (hb : Below W.heap.size W W') (k : Nat) (hne : C ≠ G ∧ Lb ≠ G ∧ Cb ≠ G ∧ gc ≠ G) (hG : n₀ ≤ G) :
    VoJ ns sl sh a cap C Lb Cb G gc n₀ w (pre ++ [k]) ((W'.setCell ⟨G, k * 2, none⟩ (.int .i64 (vol sl sh ns k).1)).setCell ⟨G, k * 2 + 1, none⟩ (.int .i64 (vol sl sh ns k).2)) := by
  obtain ⟨h1, h2, h3, h4, h5, h6, h7⟩ := h.keep hb
  have hfar : ∀ q, q ≠ G → ((W'.setCell ⟨G, k * 2, none⟩ (.int .i64 (vol sl sh ns k).1)).setCell ⟨G, k * 2 + 1, none⟩ (.int .i64 (vol sl sh ns k).2)).heap[q]? = W'.heap[q]? := fun q hq => (Below.heap_setCell _ _ _ _ hq).trans (Below.heap_setCell _ _ _ _ hq)
  refine ⟨(hfar _ hne.1).trans h1, (hfar _ hne.2.1).trans h2, (hfar _ hne.2.2.1).trans h3, h4.same (hfar _ hne.2.2.2), ?_, (h6.setCell (p := ⟨G, k * 2, none⟩) hG _).setCell (p := ⟨G, k * 2 + 1, none⟩) hG _, by simpa using h7⟩
  refine (spc_set h5 k (vol sl sh ns k).1 (vol sl sh ns k).2).ext fun j hj => ?_
  congr 1
  funext i
  by_cases e : i = k
  · subst e; simp
  · simp [e]
set_option maxRecDepth 100000 in
set_option maxHeartbeats 8000000 in
theorem volts_visit (ns : List Nd) (sl sh : Int) (hv : ValidC sl sh ns) (a : Option Addr) (cap C Lb Cb G gc n₀ n₁ : Nat) (w : World) (hN : Nds n₀ w (.slice a ns.length cap) ns) (hne : C ≠ G ∧ Lb ≠ G ∧ Cb ≠ G ∧ gc ≠ G) (hG : n₀ ≤ G) (hG1 : G < n₁)
    (pre : List Nat) (k : Nat) (W : World) (hk : k < ns.length) (hc : k = 0 ∨ par ns k ∈ pre) (hn1 : n₁ + 3 ≤ W.heap.size) (hJ : VoJ ns sl sh a cap C Lb Cb G gc n₀ w pre W) :
    Calls Try.prog 153 #[.int .i64 (k : Int), .pointer (some ⟨C, 0, none⟩), .pointer (some ⟨Lb, 0, none⟩), .pointer (some ⟨Cb, 0, none⟩)] W (VisP n₁ W (VoJ ns sl sh a cap C Lb Cb G gc n₀ w) (pre ++ [k])) := by
  have HSTEP := Lib.hid (fun W' hb => hJ.step (W' := W') hb k hne hG)
  have HK3 := Lib.hid (show ∀ W', Below W.heap.size W W' → ∀ u v, Kept3 n₁ W ((W'.setCell ⟨G, k * 2, none⟩ u).setCell ⟨G, k * 2 + 1, none⟩ v) from fun W' hb u v b h1 h2 => (Below.heap_setCell _ _ _ _ (by show b ≠ G; omega)).trans ((Below.heap_setCell _ _ _ _ (by show b ≠ G; omega)).trans (hb.block b (by omega))))
  obtain ⟨j1, j2, j3, j4, j5, j6, j7⟩ := hJ
  have a1 := cellHB j1 0
  have a2 := cellHB j1 1
  have a3 : W.cell? ⟨C, 1 + 1, none⟩ = some (.slice a ns.length cap) := cellHB j1 2
  have b1 := cellHB j2 0
  have g1 := j5.cell (j := k * 2) (by omega)
  have g2 := j5.cell (j := k * 2 + 1) (by omega)
  have gf1 := j5.froz (k * 2)
  have gf2 := j5.froz (k * 2 + 1)
  rw [spc_even] at g1
  rw [spc_odd] at g2
  have hkl : (k : Int) < (ns.length : Int) := by omega
  unfold VisP
  by_cases h0 : k = 0
  · subst h0
    rw [vol_zero] at HSTEP
    have HS1 := Lib.hid (HSTEP.out W (Below.refl _ _))
    have HK1 := Lib.hid (HK3.out W (Below.refl _ _) (.int .i64 sl) (.int .i64 sh))
    clear HSTEP HK3 hc j1 j2 j3 j4 j5 j6 j7 hN hne
    generalize (if 0 ∈ pre then vol sl sh ns 0 else (0, 0)) = ov at *
    generalize ns.length = n at *
    go_enter Try.func153, Try.ntmps153
    go_wp2_with fail
    refine bodyPost_ret (results_none rfl _ _ _) rfl ?_
    exact ⟨rfl, HS1.out, HK1.out⟩
  · have hp : par ns k ∈ pre := hc.resolve_left h0
    have hpk := hv.all.tree k (by omega)
    have hpl := hv.all.par_lt hk (by omega)
    have hpe := hv.all.par_eq hk (by omega)
    have g3 := j5.cell (j := par ns k * 2) (by omega)
    have g4 := j5.cell (j := par ns k * 2 + 1) (by omega)
    rw [spc_even, if_pos hp] at g3
    rw [spc_odd, if_pos hp] at g4
    have cb := cellHB j3 0
    have q1 := j4.cell (j := k * 2) (by omega)
    have q2 := j4.cell (j := k * 2 + 1) (by omega)
    rw [spc_even] at q1
    rw [spc_odd] at q2
    dsimp only at q1 q2
    obtain ⟨b, off, hab, hb, n0, n1, n2, n3, n4, n5, n6, n7⟩ := (by
      obtain ⟨a', cap', e, _, hcc⟩ := hN
      obtain ⟨b, off, e1, h2, e0, e1', e2, e3, e4, e5, e6, e7⟩ := hcc k hk
      simp only [Value.slice.injEq] at e
      exact ⟨b, off, e.1.trans e1, h2, (j6.cell (p := ⟨b, _, none⟩) h2).trans e0, (j6.cell (p := ⟨b, _, none⟩) h2).trans e1', (j6.cell (p := ⟨b, _, none⟩) h2).trans e2, (j6.cell (p := ⟨b, _, none⟩) h2).trans e3, (j6.cell (p := ⟨b, _, none⟩) h2).trans e4, (j6.cell (p := ⟨b, _, none⟩) h2).trans e5, (j6.cell (p := ⟨b, _, none⟩) h2).trans e6, (j6.cell (p := ⟨b, _, none⟩) h2).trans e7⟩ : ∃ b off, a = some ⟨b, off, none⟩ ∧ b < n₀ ∧ W.cell? ⟨b, off + k * 8, none⟩ = some (.int .i64 (nd ns k).par) ∧ W.cell? ⟨b, off + k * 8 + 1, none⟩ = some (.int .i64 (nd ns k).ol) ∧ W.cell? ⟨b, off + k * 8 + 2, none⟩ = some (.int .i64 (nd ns k).oh) ∧ W.cell? ⟨b, off + k * 8 + 3, none⟩ = some (.int .i64 (nd ns k).lim) ∧ W.cell? ⟨b, off + k * 8 + 4, none⟩ = some (.int .i64 (nd ns k).ll) ∧ W.cell? ⟨b, off + k * 8 + 5, none⟩ = some (.int .i64 (nd ns k).lh) ∧ W.cell? ⟨b, off + k * 8 + 6, none⟩ = some (.int .i64 (nd ns k).lea) ∧ W.cell? ⟨b, off + k * 8 + 7, none⟩ = some (.int .i64 (nd ns k).del))
    subst hab
    obtain ⟨-, -, -, -, d1, d2, -, d3, d4, -⟩ := drop_bd hv hk
    have hvi := vol_in hv (k := par ns k) (by omega)
    have cd := fun W => drop_any (curL ns k) (curH ns k) (nd ns k).ol (nd ns k).oh ⟨d1.1, by omega⟩ ⟨d2.1, by omega⟩ W
    have ca := fun W => after_any (vol sl sh ns (par ns k)).1 (vol sl sh ns (par ns k)).2 (dropL ns k) (dropH ns k) (by omega) (by omega) (by omega) (by omega) W
    rw [show curL ns k * (nd ns k).ol / 1000 = dropL ns k from rfl, show (curH ns k * (nd ns k).oh + 999) / 1000 = dropH ns k from rfl] at cd
    rw [vol_pos hv.all.tree (k := k) (by omega)] at HSTEP
    rw [hpe] at n0
    have h0' : ((k : Int) == 0) = false := by simp; omega
    have hpi : ((par ns k : Nat) : Int) < (ns.length : Int) := by omega
    have hbW : b < W.heap.size := by omega
    have hCW := (Array.getElem?_eq_some_iff.1 j1).1
    have hLW := (Array.getElem?_eq_some_iff.1 j2).1
    have hBW := (Array.getElem?_eq_some_iff.1 j3).1
    have hgW := j4.lt
    have hGW := j5.lt
    clear hc j1 j2 j3 j4 j5 j6 j7 hN hp hpe d1 d2 d3 d4 hvi
    generalize (if k ∈ pre then vol sl sh ns k else (0, 0)) = ov at *
    generalize (vol sl sh ns (par ns k)).1 = v0 at *
    generalize (vol sl sh ns (par ns k)).2 = v1 at *
    generalize dropL ns k = dl at *
    generalize dropH ns k = dh at *
    generalize curL ns k = cl at *
    generalize curH ns k = ch at *
    generalize par ns k = p at *
    generalize (nd ns k).ol = xol at *
    generalize (nd ns k).oh = xoh at *
    generalize (nd ns k).lim = xlim at *
    generalize (nd ns k).ll = xll at *
    generalize (nd ns k).lh = xlh at *
    generalize (nd ns k).lea = xlea at *
    generalize (nd ns k).del = xdel at *
    generalize ns.length = n at *
    go_enter Try.func153, Try.ntmps153
    go_upto_region 3 with fail
    obtain ⟨V, hV⟩ : ∃ V, V = W.alloc (.cells #[.int .i64 (p : Int), .int .i64 xol, .int .i64 xoh, .int .i64 xlim, .int .i64 xll, .int .i64 xlh, .int .i64 xlea, .int .i64 xdel] 62) := ⟨_, rfl⟩
    try rw [← hV]
    have hbV : Below W.heap.size W V := by rw [hV]; exact (Below.refl _ _).alloc (Nat.le_refl _) _
    have hX := show V.heap[W.heap.size]? = some (.cells #[.int .i64 (p : Int), .int .i64 xol, .int .i64 xoh, .int .i64 xlim, .int .i64 xll, .int .i64 xlh, .int .i64 xlea, .int .i64 xdel] 62 (0, 0)) by rw [hV]; exact World.alloc_heap_new _ _
    have hz : V.heap.size = W.heap.size + 1 := by rw [hV]; simp
    have KK := Lib.hid (show ∀ Z, Below V.heap.size V Z → Z.cell? ⟨Lb, 0, none⟩ = some (Value.slice (some ⟨G, 0, none⟩) n n) ∧ Z.cell? ⟨W.heap.size, 0, none⟩ = some (Value.int .i64 (p : Int)) ∧ Z.cell? ⟨Cb, 0, none⟩ = some (Value.slice (some ⟨gc, 0, none⟩) n n) ∧ Z.cell? ⟨gc, k * 2, none⟩ = some (Value.int .i64 cl) ∧ Z.cell? ⟨gc, k * 2 + 1, none⟩ = some (Value.int .i64 ch) ∧ Z.cell? ⟨W.heap.size, 1, none⟩ = some (Value.int .i64 xol) ∧ Z.cell? ⟨W.heap.size, 2, none⟩ = some (Value.int .i64 xoh) ∧ Z.cell? ⟨G, p * 2, none⟩ = some (Value.int .i64 v0) ∧ Z.cell? ⟨G, p * 2 + 1, none⟩ = some (Value.int .i64 v1) ∧ W.heap.size ≤ Z.heap.size from fun Z h => ⟨((hbV.trans (h.mono hbV.size)).cell (p := ⟨Lb, 0, none⟩) hLW).trans b1, (h.cell (p := ⟨W.heap.size, 0, none⟩) (by show W.heap.size < V.heap.size; omega)).trans (cellHB hX 0), ((hbV.trans (h.mono hbV.size)).cell (p := ⟨Cb, 0, none⟩) hBW).trans cb, ((hbV.trans (h.mono hbV.size)).cell (p := ⟨gc, k * 2, none⟩) hgW).trans q1, ((hbV.trans (h.mono hbV.size)).cell (p := ⟨gc, k * 2 + 1, none⟩) hgW).trans q2, (h.cell (p := ⟨W.heap.size, 1, none⟩) (by show W.heap.size < V.heap.size; omega)).trans (cellHB hX 1), (h.cell (p := ⟨W.heap.size, 2, none⟩) (by show W.heap.size < V.heap.size; omega)).trans (cellHB hX 2), ((hbV.trans (h.mono hbV.size)).cell (p := ⟨G, p * 2, none⟩) hGW).trans g3, ((hbV.trans (h.mono hbV.size)).cell (p := ⟨G, p * 2 + 1, none⟩) hGW).trans g4, Nat.le_trans hbV.size h.size⟩)
    have HBV := Lib.hid hbV
    have HGF := Lib.hid (show ∀ Z, Below V.heap.size V Z → Z.cell? ⟨G, k * 2, none⟩ = some (.int .i64 ov.1) ∧ Z.cell? ⟨G, k * 2 + 1, none⟩ = some (.int .i64 ov.2) ∧ Z.frozen? ⟨G, k * 2, none⟩ = false ∧ Z.frozen? ⟨G, k * 2 + 1, none⟩ = false from fun Z h => by
      have hb := hbV.trans (h.mono hbV.size)
      exact ⟨(hb.cell (p := ⟨G, _, none⟩) hGW).trans g1, (hb.cell (p := ⟨G, _, none⟩) hGW).trans g2, (hb.frozen (p := ⟨G, _, none⟩) hGW).trans gf1, (hb.frozen (p := ⟨G, _, none⟩) hGW).trans gf2⟩)
    clear hV hX hbV n0 n1 n2 n3 n4 n5 n6 n7 a1 a2 a3 b1 cb g1 g2 g3 g4 gf1 gf2 q1 q2
    obtain ⟨s0, s1, s2, s3, s4, s5, s6, s7, s8, s9⟩ := KK.out _ (Below.refl _ _)
    refine wp_region_held_drew (S := fun w' => w'.cell? ⟨Lb, 0, none⟩ = some (Value.slice (some ⟨G, 0, none⟩) n n) ∧ w'.cell? ⟨W.heap.size, 0, none⟩ = some (Value.int .i64 (p : Int)) ∧ w'.cell? ⟨Cb, 0, none⟩ = some (Value.slice (some ⟨gc, 0, none⟩) n n) ∧ w'.cell? ⟨gc, k * 2, none⟩ = some (Value.int .i64 cl) ∧ w'.cell? ⟨gc, k * 2 + 1, none⟩ = some (Value.int .i64 ch) ∧ w'.cell? ⟨W.heap.size, 1, none⟩ = some (Value.int .i64 xol) ∧ w'.cell? ⟨W.heap.size, 2, none⟩ = some (Value.int .i64 xoh) ∧ w'.cell? ⟨G, p * 2, none⟩ = some (Value.int .i64 v0) ∧ w'.cell? ⟨G, p * 2 + 1, none⟩ = some (Value.int .i64 v1)) (by kernel_rfl) ⟨by simpa [go_sem] using s0, by simpa [go_sem] using s1, by simpa [go_sem] using s2, by simpa [go_sem] using s3, by simpa [go_sem] using s4, by simpa [go_sem] using s5, by simpa [go_sem] using s6, by simpa [go_sem] using s7, by simpa [go_sem] using s8⟩ (fun hHeld => ?_)
    have HD := Lib.hid (show Below V.heap.size V _ from (Below.refl V.heap.size V).drew)
    refine wpAnyH_take (i := 0) (oi := _) (v := Value.slice (some ⟨G, 0, none⟩) n n) rfl (by kernel_rfl) (by kernel_rfl) (by kernel_rfl) (fun _ _ _ h => h) (Or.inl ⟨by rfl, fun w' hSw => ?_⟩) hHeld ?_
    · obtain ⟨t0, t1, t2, t3, t4, t5, t6, t7, t8⟩ := hSw
      go_simp
      try simp [*]
      try (intro hh; exfalso; omega)
      try omega
    try simp only [Act.put, List.setIfInBounds_toArray, List.set_cons_zero, List.set_cons_succ, List.getElem_toArray, List.getElem_cons_succ, List.getElem_cons_zero]
    refine wpAnyH_take (i := 1) (oi := _) (v := Value.int .i64 (k : Int)) rfl (by kernel_rfl) (by kernel_rfl) (by kernel_rfl) (fun _ _ _ h => h) (Or.inl ⟨by rfl, fun w' hSw => ?_⟩) hHeld ?_
    · obtain ⟨t0, t1, t2, t3, t4, t5, t6, t7, t8⟩ := hSw
      go_simp
      try simp [*]
      try (intro hh; exfalso; omega)
      try omega
    try simp only [Act.put, List.setIfInBounds_toArray, List.set_cons_zero, List.set_cons_succ, List.getElem_toArray, List.getElem_cons_succ, List.getElem_cons_zero]
    refine wpAnyH_take (i := 2) (oi := _) (v := Value.slice (some ⟨G, 0, none⟩) n n) rfl (by kernel_rfl) (by kernel_rfl) (by kernel_rfl) (fun _ _ _ h => h) (Or.inl ⟨by rfl, fun w' hSw => ?_⟩) hHeld ?_
    · obtain ⟨t0, t1, t2, t3, t4, t5, t6, t7, t8⟩ := hSw
      go_simp
      try simp [*]
      try (intro hh; exfalso; omega)
      try omega
    try simp only [Act.put, List.setIfInBounds_toArray, List.set_cons_zero, List.set_cons_succ, List.getElem_toArray, List.getElem_cons_succ, List.getElem_cons_zero]
    refine wpAnyH_take (i := 3) (oi := _) (v := Value.pointer (some ⟨W.heap.size, 0, none⟩)) rfl (by kernel_rfl) (by kernel_rfl) (by kernel_rfl) (fun _ _ _ h => h) (Or.inl ⟨by rfl, fun w' hSw => ?_⟩) hHeld ?_
    · obtain ⟨t0, t1, t2, t3, t4, t5, t6, t7, t8⟩ := hSw
      go_simp
      try simp [*]
      try (intro hh; exfalso; omega)
      try omega
    try simp only [Act.put, List.setIfInBounds_toArray, List.set_cons_zero, List.set_cons_succ, List.getElem_toArray, List.getElem_cons_succ, List.getElem_cons_zero]
    refine wpAnyH_take (i := 4) (oi := _) (v := Value.int .i64 (p : Int)) rfl (by kernel_rfl) (by kernel_rfl) (by kernel_rfl) (fun _ _ _ h => h) (Or.inl ⟨by rfl, fun w' hSw => ?_⟩) hHeld ?_
    · obtain ⟨t0, t1, t2, t3, t4, t5, t6, t7, t8⟩ := hSw
      go_simp
      try simp [*]
      try (intro hh; exfalso; omega)
      try omega
    try simp only [Act.put, List.setIfInBounds_toArray, List.set_cons_zero, List.set_cons_succ, List.getElem_toArray, List.getElem_cons_succ, List.getElem_cons_zero]
    refine wpAnyH_take (i := 5) (oi := _) (v := Value.pointer (some ⟨G, p * 2, none⟩)) rfl (by kernel_rfl) (by kernel_rfl) (by kernel_rfl) (fun _ _ _ h => h) (Or.inl ⟨by rfl, fun w' hSw => ?_⟩) hHeld ?_
    · obtain ⟨t0, t1, t2, t3, t4, t5, t6, t7, t8⟩ := hSw
      go_simp
      try simp [*]
      try (intro hh; exfalso; omega)
      try omega
    try simp only [Act.put, List.setIfInBounds_toArray, List.set_cons_zero, List.set_cons_succ, List.getElem_toArray, List.getElem_cons_succ, List.getElem_cons_zero]
    refine wpAnyH_take (i := 6) (oi := _) (v := Value.agg #[Value.int .i64 v0, Value.int .i64 v1]) rfl (by kernel_rfl) (by kernel_rfl) (by kernel_rfl) (fun _ _ _ h => h) (Or.inl ⟨by rfl, fun w' hSw => ?_⟩) hHeld ?_
    · obtain ⟨t0, t1, t2, t3, t4, t5, t6, t7, t8⟩ := hSw
      go_simp
      try simp [*]
      try (intro hh; exfalso; omega)
      try omega
    try simp only [Act.put, List.setIfInBounds_toArray, List.set_cons_zero, List.set_cons_succ, List.getElem_toArray, List.getElem_cons_succ, List.getElem_cons_zero]
    refine wpAnyH_take (i := 7) (oi := _) (v := Value.slice (some ⟨gc, 0, none⟩) n n) rfl (by kernel_rfl) (by kernel_rfl) (by kernel_rfl) (fun _ _ _ h => h) (Or.inl ⟨by rfl, fun w' hSw => ?_⟩) hHeld ?_
    · obtain ⟨t0, t1, t2, t3, t4, t5, t6, t7, t8⟩ := hSw
      go_simp
      try simp [*]
      try (intro hh; exfalso; omega)
      try omega
    try simp only [Act.put, List.setIfInBounds_toArray, List.set_cons_zero, List.set_cons_succ, List.getElem_toArray, List.getElem_cons_succ, List.getElem_cons_zero]
    refine wpAnyH_take (i := 8) (oi := _) (v := Value.int .i64 (k : Int)) rfl (by kernel_rfl) (by kernel_rfl) (by kernel_rfl) (fun _ _ _ h => h) (Or.inl ⟨by rfl, fun w' hSw => ?_⟩) hHeld ?_
    · obtain ⟨t0, t1, t2, t3, t4, t5, t6, t7, t8⟩ := hSw
      go_simp
      try simp [*]
      try (intro hh; exfalso; omega)
      try omega
    try simp only [Act.put, List.setIfInBounds_toArray, List.set_cons_zero, List.set_cons_succ, List.getElem_toArray, List.getElem_cons_succ, List.getElem_cons_zero]
    refine wpAnyH_take (i := 9) (oi := _) (v := Value.pointer (some ⟨gc, k * 2, none⟩)) rfl (by kernel_rfl) (by kernel_rfl) (by kernel_rfl) (fun _ _ _ h => h) (Or.inl ⟨by rfl, fun w' hSw => ?_⟩) hHeld ?_
    · obtain ⟨t0, t1, t2, t3, t4, t5, t6, t7, t8⟩ := hSw
      go_simp
      try simp [*]
      try (intro hh; exfalso; omega)
      try omega
    try simp only [Act.put, List.setIfInBounds_toArray, List.set_cons_zero, List.set_cons_succ, List.getElem_toArray, List.getElem_cons_succ, List.getElem_cons_zero]
    refine wpAnyH_take (i := 10) (oi := _) (v := Value.agg #[Value.int .i64 cl, Value.int .i64 ch]) rfl (by kernel_rfl) (by kernel_rfl) (by kernel_rfl) (fun _ _ _ h => h) (Or.inl ⟨by rfl, fun w' hSw => ?_⟩) hHeld ?_
    · obtain ⟨t0, t1, t2, t3, t4, t5, t6, t7, t8⟩ := hSw
      go_simp
      try simp [*]
      try (intro hh; exfalso; omega)
      try omega
    try simp only [Act.put, List.setIfInBounds_toArray, List.set_cons_zero, List.set_cons_succ, List.getElem_toArray, List.getElem_cons_succ, List.getElem_cons_zero]
    refine wpAnyH_take (i := 11) (oi := _) (v := Value.pointer (some ⟨W.heap.size, 1, none⟩)) rfl (by kernel_rfl) (by kernel_rfl) (by kernel_rfl) (fun _ _ _ h => h) (Or.inl ⟨by rfl, fun w' hSw => ?_⟩) hHeld ?_
    · obtain ⟨t0, t1, t2, t3, t4, t5, t6, t7, t8⟩ := hSw
      go_simp
      try simp [*]
      try (intro hh; exfalso; omega)
      try omega
    try simp only [Act.put, List.setIfInBounds_toArray, List.set_cons_zero, List.set_cons_succ, List.getElem_toArray, List.getElem_cons_succ, List.getElem_cons_zero]
    refine wpAnyH_take (i := 12) (oi := _) (v := Value.agg #[Value.int .i64 xol, Value.int .i64 xoh]) rfl (by kernel_rfl) (by kernel_rfl) (by kernel_rfl) (fun _ _ _ h => h) (Or.inl ⟨by rfl, fun w' hSw => ?_⟩) hHeld ?_
    · obtain ⟨t0, t1, t2, t3, t4, t5, t6, t7, t8⟩ := hSw
      go_simp
      try simp [*]
      try (intro hh; exfalso; omega)
      try omega
    try simp only [Act.put, List.setIfInBounds_toArray, List.set_cons_zero, List.set_cons_succ, List.getElem_toArray, List.getElem_cons_succ, List.getElem_cons_zero]
    refine wpAnyH_ready (rs := [13]) (by kernel_rfl) (by simp) ?_
    refine AllReadyH.cons (o := _) rfl (fun K hK => ?_) AllReadyH.nil
    go_simp
    go_at_call 155
    refine Calls.mono (cd _) ?_
    rintro e v1w ⟨rfl, hb⟩
    have HD1 := Lib.hid (HD.out.trans (hb.mono HD.out.size))
    clear hb
    clear hHeld
    refine hK.out _ _ (by obtain ⟨z0, z1, z2, z3, z4, z5, z6, z7, z8, -⟩ := KK.out _ HD1.out; exact ⟨z0, z1, z2, z3, z4, z5, z6, z7, z8⟩) (fun hHeld => ?_)
    clear hK K
    try simp only [Act.put, List.setIfInBounds_toArray, List.set_cons_zero, List.set_cons_succ, List.getElem_toArray, List.getElem_cons_succ, List.getElem_cons_zero]
    refine wpAnyH_ready (rs := [14]) (by kernel_rfl) (by simp) ?_
    refine AllReadyH.cons (o := _) rfl (fun K hK => ?_) AllReadyH.nil
    go_simp
    go_at_call 154
    refine Calls.mono (ca _) ?_
    rintro e v2w ⟨rfl, hb⟩
    have HD2 := Lib.hid (HD1.out.trans (hb.mono HD1.out.size))
    clear hb
    clear hHeld
    refine hK.out _ _ (by obtain ⟨z0, z1, z2, z3, z4, z5, z6, z7, z8, -⟩ := KK.out _ HD2.out; exact ⟨z0, z1, z2, z3, z4, z5, z6, z7, z8⟩) (fun hHeld => ?_)
    clear hK K
    try simp only [Act.put, List.setIfInBounds_toArray, List.set_cons_zero, List.set_cons_succ, List.getElem_toArray, List.getElem_cons_succ, List.getElem_cons_zero]
    refine wpAnyH_take (i := 15) (oi := _) (v := Value.pointer (some ⟨G, k * 2, none⟩)) rfl (by kernel_rfl) (by kernel_rfl) (by kernel_rfl) (fun _ _ _ h => h) (Or.inl ⟨by rfl, fun w' hSw => ?_⟩) hHeld ?_
    · obtain ⟨t0, t1, t2, t3, t4, t5, t6, t7, t8⟩ := hSw
      go_simp
      try simp [*]
      try (intro hh; exfalso; omega)
      try omega
    try simp only [Act.put, List.setIfInBounds_toArray, List.set_cons_zero, List.set_cons_succ, List.getElem_toArray, List.getElem_cons_succ, List.getElem_cons_zero]
    obtain ⟨y0, y1, y2, y3⟩ := HGF.out _ HD2.out
    obtain ⟨z0, z1, z2, z3, z4, z5, z6, z7, z8, -⟩ := KK.out _ HD2.out
    have p1 : ¬ G = Lb := fun e => hne.2.1 e.symm
    have p2 : ¬ G = Cb := fun e => hne.2.2.1 e.symm
    have p3 : ¬ G = gc := fun e => hne.2.2.2 e.symm
    have p4 : ¬ G = W.heap.size := by omega
    have p5 : ¬ k * 2 = p * 2 := by omega
    have p6 : ¬ k * 2 + 1 = p * 2 := by omega
    have p7 : ¬ k * 2 = p * 2 + 1 := by omega
    have p8 : ¬ k = p := by omega
    refine wpAnyH_ready (rs := [16]) (by kernel_rfl) (by simp) ?_
    refine AllReadyH.cons (o := _) rfl (fun K hK => ?_) AllReadyH.nil
    go_simp
    clear hHeld
    refine hK.out _ _ ⟨by simp [go_sem, *], by simp [go_sem, *], by simp [go_sem, *], by simp [go_sem, *], by simp [go_sem, *], by simp [go_sem, *], by simp [go_sem, *], by simp [go_sem, *], by simp [go_sem, *]⟩ (fun hHeld => ?_)
    clear hK K
    try simp only [Act.put, List.setIfInBounds_toArray, List.set_cons_zero, List.set_cons_succ, List.getElem_toArray, List.getElem_cons_succ, List.getElem_cons_zero]
    refine wpAnyH_done (by kernel_rfl) ?_ _
    clear hHeld
    go_wp2_with fail
    go_end0
    have hbb := HBV.out.trans (HD2.out.mono HBV.out.size)
    exact ⟨rfl, HSTEP.out _ hbb, HK3.out _ hbb _ _⟩
end Go.Proofs.Ytdohfpnnmppdkaa

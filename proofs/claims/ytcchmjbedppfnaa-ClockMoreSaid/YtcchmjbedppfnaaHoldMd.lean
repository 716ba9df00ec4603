/-
  Clock: the clock of a truth with some talks.
-/
import Derived.Test.YtcchmjbedppfnaaHoldEx
import Derived.Test.YtcchmjbedppfnaaRkE
import Derived.Deep.CutRange
namespace Go.Proofs.Ytcchmjbedppfnaa
open Go.RowKit Go.Shelf
set_option linter.unusedSimpArgs false
def tk (ks : List Tk) (k : Nat) : Tk := ks[k]?.getD default
/-- talks in memory -/
def Tks (n₀ : Nat) (W : World) (sv : Value) (ks : List Tk) : Prop :=
  ∃ a cap, sv = .slice a ks.length cap ∧ ∀ k, k < ks.length → (tk ks k).Ok ∧ ∃ b off, a = some ⟨b, off, none⟩ ∧ b < n₀ ∧
    W.cell? ⟨b, off + k * 8, none⟩ = some (.int .u32 (tk ks k).se) ∧
    W.cell? ⟨b, off + k * 8 + 1, none⟩ = some (.int .u16 (tk ks k).go) ∧
    W.cell? ⟨b, off + k * 8 + 2, none⟩ = some (.int .u16 (tk ks k).fo) ∧
    W.cell? ⟨b, off + k * 8 + 3, none⟩ = some (.int .u16 (tk ks k).ho) ∧
    W.cell? ⟨b, off + k * 8 + 4, none⟩ = some (.int .u16 (tk ks k).w0) ∧
    W.cell? ⟨b, off + k * 8 + 5, none⟩ = some (.int .u16 (tk ks k).w1) ∧
    W.cell? ⟨b, off + k * 8 + 6, none⟩ = some (.int .u16 (tk ks k).w2) ∧
    W.cell? ⟨b, off + k * 8 + 7, none⟩ = some (.int .u16 (tk ks k).w3)
theorem Tks.mono {n₀ m : Nat} {W W' : World} {sv : Value} {ks : List Tk} (h : Tks n₀ W sv ks) (hb : Below n₀ W W') (hm : n₀ ≤ m) : Tks m W' sv ks := by
  obtain ⟨a, cap, e, hc⟩ := h
  refine ⟨a, cap, e, fun k hk => ?_⟩
  obtain ⟨hx, b, off, h1, h2, c0, c1, c2, c3, c4, c5, c6, c7⟩ := hc k hk
  have ce : ∀ o, W'.cell? ⟨b, o, none⟩ = W.cell? ⟨b, o, none⟩ := fun o => hb.cell (p := ⟨b, o, none⟩) h2
  exact ⟨hx, b, off, h1, Nat.lt_of_lt_of_le h2 hm, (ce _).trans c0, (ce _).trans c1, (ce _).trans c2, (ce _).trans c3, (ce _).trans c4, (ce _).trans c5, (ce _).trans c6, (ce _).trans c7⟩
theorem Tks.at {W W' : World} {sv : Value} {ks : List Tk} (h : Tks W.heap.size W sv ks) (hb : Below W.heap.size W W') : Tks W'.heap.size W' sv ks := h.mono hb hb.size
theorem Tks.form {n₀ : Nat} {W : World} {sv : Value} {ks : List Tk} (h : Tks n₀ W sv ks) : ∃ a c, sv = .slice a ks.length c := by
  obtain ⟨a, c, rfl, -⟩ := h
  exact ⟨a, c, rfl⟩
/-- the exchanges by the first k talks -/
def xsT (O : Int → Int) (ks : List Tk) : Nat → List Xc
  | 0 => []
  | k + 1 => if xcB (exS O (tk ks k)) = true then xsT O ks k ++ [exS O (tk ks k)] else xsT O ks k
theorem xsT_len (O : Int → Int) (ks : List Tk) : ∀ k, (xsT O ks k).length ≤ k
  | 0 => Nat.le_refl _
  | k + 1 => by have := xsT_len O ks k; unfold xsT; split <;> simp <;> omega
theorem xsT_in {r : Int} {O : Int → Int} {ks : List Tk} (hL : Lip r O) (hk : ∀ k, k < ks.length → (tk ks k).Ok) : ∀ n, n ≤ ks.length → ∀ x ∈ xsT O ks n, InX r O x ∧ (0 ≤ x.ba ∧ x.ba ≤ 20000000)
  | 0, _, x, hx => by cases hx
  | n + 1, hn, x, hx => by
    have ih := xsT_in hL hk n (by omega)
    unfold xsT at hx
    split at hx
    · rcases List.mem_append.1 hx with h | h
      · exact ih x h
      · simp only [List.mem_singleton] at h
        subst h
        have ok := hk n (by omega)
        refine ⟨ex_in hL ok, ?_⟩
        have h1 := ok.se
        have h2 := ok.go
        show 0 ≤ sentS (tk ks n) + (tk ks n).go ∧ sentS (tk ks n) + (tk ks n).go ≤ 20000000
        unfold sentS
        omega
    · exact ih x hx
theorem flatX_snoc (xs : List Xc) (x : Xc) : flatX (xs ++ [x]) = flatX xs ++ [.int .i64 x.se, .int .i64 x.he, .int .i64 x.an, .int .i64 x.ba, .int .i64 x.fLo, .int .i64 x.fHi, .int .i64 x.hLo, .int .i64 x.hHi] := by rw [flatX_append]; rfl
theorem infoX : (Try.prog.info? 25).map (fun i => (i.zero, i.size, i.bytes)) = some (some (.agg #[.int .i64 0, .int .i64 0, .int .i64 0, .int .i64 0, .int .i64 0, .int .i64 0, .int .i64 0, .int .i64 0]), 8, 64) := by kernel_rfl
theorem eight_new (W : World) (x0 x1 x2 x3 x4 x5 x6 x7 : Value) : ∀ (j : Nat) (u : Value), [x0, x1, x2, x3, x4, x5, x6, x7][j]? = some u → (W.alloc (.cells #[x0, x1, x2, x3, x4, x5, x6, x7] 25)).cell? ((⟨W.heap.size, 0, none⟩ : Addr).add j) = some u := by
  intro j u hj
  match j, hj with
  | 0, h => simp at h; subst h; simp [Addr.add, go_sem]
  | 1, h => simp at h; subst h; simp [Addr.add]
  | 2, h => simp at h; subst h; simp [Addr.add]
  | 3, h => simp at h; subst h; simp [Addr.add]
  | 4, h => simp at h; subst h; simp [Addr.add]
  | 5, h => simp at h; subst h; simp [Addr.add]
  | 6, h => simp at h; subst h; simp [Addr.add]
  | 7, h => simp at h; subst h; simp [Addr.add]
/-- a block with an exchange -/
def X8 (W : World) (B : Nat) (x : Xc) : Prop := W.heap[B]? = some (.cells #[.int .i64 x.se, .int .i64 x.he, .int .i64 x.an, .int .i64 x.ba, .int .i64 x.fLo, .int .i64 x.fHi, .int .i64 x.hLo, .int .i64 x.hHi] 25 (0, 0))
theorem X8.keep {W W' : World} {B : Nat} {x : Xc} (h : X8 W B x) (hb : Below W.heap.size W W') : X8 W' B x := (hb.block B (Array.getElem?_eq_some_iff.1 h).1).trans h
/-- what made returns -/
def MadR (p r : Int) (O : Int → Int) (w : World) (e : Ending) (w' : World) : Prop :=
  ∃ (sv : Value) (xs : List Xc), e = .returned (.tuple #[.agg #[.int .i64 p, .int .i64 r, sv], .bool (decide (lrnE p r xs = 0))]) ∧ Xcs w'.heap.size w' sv xs ∧ (∀ x ∈ xs, InX r O x ∧ (0 ≤ x.ba ∧ x.ba ≤ 20000000)) ∧ xs.length ≤ 8 ∧ Below w.heap.size w w'
set_option maxRecDepth 100000 in
set_option maxHeartbeats 8000000 in
theorem made_any (st p r : Int) (sv lv : Value) (sl : List Int) (ks : List Tk) (hst : -2147483648 ≤ st ∧ st ≤ 2147483647) (hr : 0 ≤ r ∧ r ≤ 1000000) (w : World) (hS : I8s w.heap.size w sv sl) (hK : Tks w.heap.size w lv ks) :
    Calls Try.prog 50 #[.agg #[.int .i32 st, sv], .int .i64 p, .int .i64 r, lv] w (MadR p r (truO st r sl) w) := by
  obtain ⟨i0, hi0, hz0, hz1, hz2'⟩ := info_parts infoX
  have c109 := Lib.hid (fun k (hk : k < ks.length) W (hb : Below w.heap.size w W) => exchange_any st r sv sl (tk ks k) (by obtain ⟨_, _, _, hc⟩ := hK; exact (hc k hk).1) hst hr W (hS.at hb))
  have c29 := Lib.hid (fun v xs W (hX : Xcs W.heap.size W v xs) => rcheckClock_any p r v xs W hX)
  have c27 := fun x W => rcheckX_any x W
  have HIN := Lib.hid (fun n (hn : n ≤ ks.length) => xsT_in (r := r) (O := truO st r sl) (truO_lip hr.1 hS.slow) (by obtain ⟨_, _, _, hc⟩ := hK; exact fun k hk => (hc k hk).1) n hn)
  have HXL := Lib.hid (fun n => xsT_len (truO st r sl) ks n)
  have HXS := Lib.hid (fun k => show xsT (truO st r sl) ks (k + 1) = if xcB (exS (truO st r sl) (tk ks k)) = true then xsT (truO st r sl) ks k ++ [exS (truO st r sl) (tk ks k)] else xsT (truO st r sl) ks k from rfl)
  have HX0 := Lib.hid (show xsT (truO st r sl) ks 0 = [] from rfl)
  have HR := Lib.hid (show ∀ v n c w', n ≤ 8 → n ≤ ks.length → (∃ base, w'.ownsRow base 25 8 v (xsT (truO st r sl) ks n).length (flatX (xsT (truO st r sl) ks n))) → c = decide (lrnE p r (xsT (truO st r sl) ks n) = 0) → Below w.heap.size w w' → MadR p r (truO st r sl) w (.returned (.tuple #[.agg #[.int .i64 p, .int .i64 r, v], .bool c])) w' from fun v n c w' h1 h2 h3 h4 h5 =>
    ⟨v, _, by rw [h4], by obtain ⟨base, h3⟩ := h3; exact xcs_of_owns h3, HIN.out n h2, Nat.le_trans (HXL.out n) h1, h5⟩)
  generalize MadR p r (truO st r sl) w = POST at *
  obtain ⟨al, cl, hlv, hcc⟩ := hK
  subst hlv
  have HCC := Lib.hid hcc
  clear hcc
  obtain ⟨aq, cs, hsv⟩ := hS.form
  subst hsv
  clear hS
  generalize xsT (truO st r sl) ks = xsF at *
  generalize hOO : truO st r sl = O at *
  clear hOO HIN
  generalize sl.length = ns at *
  generalize ks.length = n at *
  obtain ⟨A, hA⟩ : ∃ A, A = (w.alloc (.cells #[.int .i32 st, .slice aq ns cs] 67)).alloc (.cells #[.int .i64 0, .int .i64 0, .slice none 0 0] 28) := ⟨_, rfl⟩
  have hzA : A.heap.size = w.heap.size + 2 := by rw [hA]; simp
  have HBA := Lib.hid (show Below w.heap.size w A by rw [hA]; exact ((Below.refl _ _).alloc (Nat.le_refl _) _).alloc (by simp) _)
  have HBW := Lib.hid (show ∀ W, Below (w.heap.size + 2) A W → Below w.heap.size w W from fun W h => HBA.out.trans (h.mono (by omega)))
  have KK := Lib.hid (show ∀ W, Below (w.heap.size + 2) A W → W.cell? ⟨w.heap.size, 0, none⟩ = some (.int .i32 st) ∧ W.cell? ⟨w.heap.size, 1, none⟩ = some (.slice aq ns cs) from fun W h => by
    have e : ∀ o, W.cell? ⟨w.heap.size, o, none⟩ = A.cell? ⟨w.heap.size, o, none⟩ := fun o => h.cell (p := ⟨w.heap.size, o, none⟩) (by show w.heap.size < w.heap.size + 2; omega)
    refine ⟨?_, ?_⟩ <;> (rw [e, hA]; simp [go_sem]))
  have KR := Lib.hid (show ∀ W, Below (w.heap.size + 2) A W → (W.cell? ⟨w.heap.size + 1, 0, none⟩ = some (.int .i64 0) ∧ W.cell? ⟨w.heap.size + 1, 1, none⟩ = some (.int .i64 0) ∧ W.cell? ⟨w.heap.size + 1, 2, none⟩ = some (.slice none 0 0)) ∧ W.frozen? ⟨w.heap.size + 1, 0, none⟩ = false ∧ W.frozen? ⟨w.heap.size + 1, 1, none⟩ = false ∧ W.frozen? ⟨w.heap.size + 1, 2, none⟩ = false from fun W h => by
    have e : ∀ o, W.cell? ⟨w.heap.size + 1, o, none⟩ = A.cell? ⟨w.heap.size + 1, o, none⟩ := fun o => h.cell (p := ⟨w.heap.size + 1, o, none⟩) (by show w.heap.size + 1 < w.heap.size + 2; omega)
    have f : ∀ o, W.frozen? ⟨w.heap.size + 1, o, none⟩ = A.frozen? ⟨w.heap.size + 1, o, none⟩ := fun o => h.frozen (p := ⟨w.heap.size + 1, o, none⟩) (by show w.heap.size + 1 < w.heap.size + 2; omega)
    refine ⟨⟨?_, ?_, ?_⟩, ?_, ?_, ?_⟩ <;> first | (rw [e, hA]; simp [go_sem]; done) | (rw [f, hA]; simp [go_sem]))
  have HEND := Lib.hid (show ∀ W v0 v1 v2, Below (w.heap.size + 2) A W → Below w.heap.size w (((W.setCell ⟨w.heap.size + 1, 0, none⟩ v0).setCell ⟨w.heap.size + 1, 1, none⟩ v1).setCell ⟨w.heap.size + 1, 2, none⟩ v2) from fun W v0 v1 v2 h =>
    (((HBW.out W h).setCell (p := ⟨w.heap.size + 1, 0, none⟩) (by show w.heap.size ≤ w.heap.size + 1; omega) _).setCell (p := ⟨w.heap.size + 1, 1, none⟩) (by show w.heap.size ≤ w.heap.size + 1; omega) _).setCell (p := ⟨w.heap.size + 1, 2, none⟩) (by show w.heap.size ≤ w.heap.size + 1; omega) _)
  have HA0 := Lib.hid (show Below (w.heap.size + 2) A A from Below.refl _ _)
  have HK0 := Lib.hid (show KnAt (A.alloc (.cells #[.int .i64 p, .int .i64 r, .slice none 0 0] 28)) (w.heap.size + 2) p r (.slice none 0 0) from by refine ⟨by simp; omega, ?_, ?_, ?_, ?_⟩ <;> (rw [← hzA]; simp [go_sem]))
  have HB0 := Lib.hid (show Below (w.heap.size + 2) A (A.alloc (.cells #[.int .i64 p, .int .i64 r, .slice none 0 0] 28)) from HA0.out.alloc (by omega) _)
  go_enter Try.func50, Try.ntmps50
  go_upto_region 2 with fail
  rw [← hA]
  clear hA
  obtain ⟨V, hV⟩ : ∃ V, V = A.alloc (.cells #[.int .i64 p, .int .i64 r, .slice none 0 0] 28) := ⟨_, rfl⟩
  try rw [← hV]
  rw [← hV] at HK0 HB0
  clear hV
  go_wp2_with fail
  go_loopw [11] (fun i wr => ∃ (k : Nat) (sv : Value), k ≤ n ∧ k ≤ 8 ∧ i = .int .i64 k ∧ KnAt wr (w.heap.size + 2) p r sv ∧ wr.ownsRow (w.heap.size + 3) 25 8 sv (xsF k).length (flatX (xsF k)) ∧ Below (w.heap.size + 2) A wr) (fun i _ => 8 - (intOf i).toNat)
  case atStart => exact ⟨0, _, Nat.zero_le _, Nat.zero_le _, rfl, HK0.out, by rw [HX0.out]; exact World.ownsRow_nil _ _ _ _, HB0.out⟩
  case round =>
    obtain ⟨k, sv, hk, hk8, rfl, hkn, hrow, hB⟩ := hrel
    obtain ⟨a0, c0, hsv⟩ := own_form hrow
    have hrl := hkn.1
    have HKN := Lib.hid hkn
    have HROW := Lib.hid hrow
    have HB := Lib.hid hB
    obtain ⟨g0, g1⟩ := KK.out _ hB
    clear hkn hrow hB
    by_cases hlt : k < n
    rotate_left
    · obtain rfl : k = n := by omega
      have d1 : decide ((k : Int) < (k : Int)) = false := decide_eq_false (by omega)
      have d2 : ¬ (k : Int) < (k : Int) := by omega
      have hbz2 : w.heap.size + 2 ≤ wr.heap.size := by omega
      have hk2 := HKN.out
      obtain ⟨hk2l, kk0, kk1, kk2, -⟩ := hk2
      subst hsv
      have HXD := Lib.hid (show Xcs wr.drew.heap.size wr.drew (.slice a0 (xsF k).length c0) (xsF k) from xcs_of_owns (own_below HROW.out ((Below.refl _ _).drew)))
      have HC29 := Lib.hid (c29.out _ _ _ HXD.out)
      have KW := Lib.hid (show ∀ W, Below wr.heap.size wr W → W.cell? ⟨w.heap.size + 2, 0, none⟩ = some (.int .i64 p) ∧ W.cell? ⟨w.heap.size + 2, 1, none⟩ = some (.int .i64 r) ∧ W.cell? ⟨w.heap.size + 2, 2, none⟩ = some (.slice a0 (xsF k).length c0) from fun W h => ⟨(h.cell (p := ⟨w.heap.size + 2, 0, none⟩) hk2l).trans kk0, (h.cell (p := ⟨w.heap.size + 2, 1, none⟩) hk2l).trans kk1, (h.cell (p := ⟨w.heap.size + 2, 2, none⟩) hk2l).trans kk2⟩)
      have HE := Lib.hid (show ∀ E, E = lrnE p r (xsF k) → (E == 0) = decide (lrnE p r (xsF k) = 0) from fun E h => by rw [h]; rfl)
      have HEE := Lib.hid (HE.out _ rfl)
      generalize hGE : lrnE p r (xsF k) = E at *
      have hHG := Lib.hid hGE
      clear hGE HE
      have hbz := HB.out.size
      go_wp2_with fail
      refine wp_region_held_drew (S := fun w' => w'.cell? ⟨w.heap.size + 2, 0, none⟩ = some (.int .i64 p) ∧ w'.cell? ⟨w.heap.size + 2, 1, none⟩ = some (.int .i64 r) ∧ w'.cell? ⟨w.heap.size + 2, 2, none⟩ = some (.slice a0 (xsF k).length c0)) (by kernel_rfl) ⟨by simpa [go_sem] using kk0, by simpa [go_sem] using kk1, by simpa [go_sem] using kk2⟩ (fun hHeld => ?_)
      refine wpAnyH_take (i := 0) (oi := _) (v := Value.agg #[Value.int .i64 p, Value.int .i64 r, Value.slice a0 (xsF k).length c0]) rfl (by kernel_rfl) (by kernel_rfl) (by kernel_rfl) (fun _ _ _ h => h) (Or.inl ⟨by rfl, fun w' hSw => ?_⟩) hHeld ?_
      · obtain ⟨t0, t1, t2⟩ := hSw
        go_simp
        try simp [*]
        try (intro hh; exfalso; omega)
        try omega
      try simp only [Act.put, List.setIfInBounds_toArray, List.set_cons_zero, List.set_cons_succ, List.getElem_toArray, List.getElem_cons_succ, List.getElem_cons_zero]
      refine wpAnyH_take (i := 1) (oi := _) (v := Value.agg #[Value.int .i64 p, Value.int .i64 r, Value.slice a0 (xsF k).length c0]) rfl (by kernel_rfl) (by kernel_rfl) (by kernel_rfl) (fun _ _ _ h => h) (Or.inl ⟨by rfl, fun w' hSw => ?_⟩) hHeld ?_
      · obtain ⟨t0, t1, t2⟩ := hSw
        go_simp
        try simp [*]
        try (intro hh; exfalso; omega)
        try omega
      try simp only [Act.put, List.setIfInBounds_toArray, List.set_cons_zero, List.set_cons_succ, List.getElem_toArray, List.getElem_cons_succ, List.getElem_cons_zero]
      refine wpAnyH_ready (rs := [2]) (by kernel_rfl) (by simp) ?_
      refine AllReadyH.cons (o := _) rfl (fun K hK => ?_) AllReadyH.nil
      go_simp
      go_at_call 29
      refine Calls.mono HC29.out ?_
      rintro e v1 ⟨rfl, hb9⟩
      have HV1 := Lib.hid (show Below wr.heap.size wr v1 from Below.trans ((Below.refl _ _).drew) (hb9.mono (Below.size ((Below.refl wr.heap.size wr).drew))))
      clear hb9
      clear hHeld
      refine hK.out _ _ (KW.out _ HV1.out) (fun hHeld => ?_)
      clear hK K
      try simp only [Act.put, List.setIfInBounds_toArray, List.set_cons_zero, List.set_cons_succ, List.getElem_toArray, List.getElem_cons_succ, List.getElem_cons_zero]
      refine wpAnyH_take (i := 3) (oi := _) (v := Value.bool (E == 0)) rfl (by kernel_rfl) (by kernel_rfl) (by kernel_rfl) (fun _ _ _ h => h) (Or.inl ⟨by rfl, fun w' hSw => ?_⟩) hHeld ?_
      · obtain ⟨t0, t1, t2⟩ := hSw
        go_simp
        try simp [*]
        try (intro hh; exfalso; omega)
        try omega
      try simp only [Act.put, List.setIfInBounds_toArray, List.set_cons_zero, List.set_cons_succ, List.getElem_toArray, List.getElem_cons_succ, List.getElem_cons_zero]
      have HA1 := Lib.hid (show Below (w.heap.size + 2) A v1 from HB.out.trans (HV1.out.mono hbz2))
      obtain ⟨⟨q0, q1, q2⟩, q3, q4, q5⟩ := KR.out _ HA1.out
      obtain ⟨Z, hZe⟩ : ∃ Z, Z = ((v1.setCell ⟨w.heap.size + 1, 0, none⟩ (.int .i64 p)).setCell ⟨w.heap.size + 1, 1, none⟩ (.int .i64 r)).setCell ⟨w.heap.size + 1, 2, none⟩ (.slice a0 (xsF k).length c0) := ⟨_, rfl⟩
      have hZB : Below w.heap.size w Z := by rw [hZe]; exact HEND.out _ _ _ _ HA1.out
      have l0 : Z.cell? ⟨w.heap.size + 2, 0, none⟩ = some (.int .i64 p) ∧ Z.cell? ⟨w.heap.size + 2, 1, none⟩ = some (.int .i64 r) ∧ Z.cell? ⟨w.heap.size + 2, 2, none⟩ = some (.slice a0 (xsF k).length c0) := by
        obtain ⟨p0, p1, p2⟩ := KW.out _ HV1.out
        rw [hZe]
        refine ⟨?_, ?_, ?_⟩ <;> simp [go_sem, p0, p1, p2]
      have l1 : Z.cell? ⟨w.heap.size + 1, 0, none⟩ = some (.int .i64 p) ∧ Z.cell? ⟨w.heap.size + 1, 1, none⟩ = some (.int .i64 r) ∧ Z.cell? ⟨w.heap.size + 1, 2, none⟩ = some (.slice a0 (xsF k).length c0) := by
        rw [hZe]
        refine ⟨?_, ?_, ?_⟩ <;> simp [go_sem, q0, q1, q2]
      have hZR : Z.ownsRow (w.heap.size + 3) 25 8 (.slice a0 (xsF k).length c0) (xsF k).length (flatX (xsF k)) := by rw [hZe]; exact own_set (own_set (own_set (own_below HROW.out HV1.out) (w.heap.size + 1) 0 _ (by omega)) (w.heap.size + 1) 1 _ (by omega)) (w.heap.size + 1) 2 _ (by omega)
      have HZB := Lib.hid hZB
      have HZR := Lib.hid hZR
      clear hZB hZR
      refine wpAnyH_ready (rs := [4]) (by kernel_rfl) (by simp) ?_
      refine AllReadyH.cons (o := _) rfl (fun K hK => ?_) AllReadyH.nil
      go_simp
      try rw [← hZe]
      clear hHeld
      refine hK.out _ _ l0 (fun hHeld => ?_)
      clear hK K
      try simp only [Act.put, List.setIfInBounds_toArray, List.set_cons_zero, List.set_cons_succ, List.getElem_toArray, List.getElem_cons_succ, List.getElem_cons_zero]
      refine wpAnyH_take (i := 5) (oi := _) (v := Value.bool (E == 0)) rfl (by kernel_rfl) (by kernel_rfl) (by kernel_rfl) (fun _ _ _ h => h) (Or.inl ⟨by rfl, fun w' hSw => ?_⟩) hHeld ?_
      · obtain ⟨t0, t1, t2⟩ := hSw
        go_simp
        try simp [*]
        try (intro hh; exfalso; omega)
        try omega
      try simp only [Act.put, List.setIfInBounds_toArray, List.set_cons_zero, List.set_cons_succ, List.getElem_toArray, List.getElem_cons_succ, List.getElem_cons_zero]
      refine wpAnyH_done (by kernel_rfl) ?_ _
      clear hHeld
      clear hZe q0 q1 q2 q3 q4 q5 l0 kk0 kk1 kk2 g0 g1
      obtain ⟨s0, s1, s2⟩ := l1
      go_wp2_with fail
      refine bodyPost_ret (v := .tuple #[.agg #[.int .i64 p, .int .i64 r, .slice a0 (xsF k).length c0], .bool (E == 0)]) (by simp [results, Try.results50, go_sem, s0, s1, s2]) rfl (HR.out _ k _ _ hk8 hk ⟨_, HZR.out⟩ (by rw [hHG.out]; exact HEE.out) HZB.out)
    by_cases h8 : k < 8
    rotate_left
    · obtain rfl : k = 8 := by omega
      have d1 : decide (((8 : Nat) : Int) < (n : Int)) = true := decide_eq_true (by omega)
      have hki : ((8 : Nat) : Int) < (n : Int) := by omega
      have hbz2 : w.heap.size + 2 ≤ wr.heap.size := by omega
      have hk2 := HKN.out
      obtain ⟨hk2l, kk0, kk1, kk2, -⟩ := hk2
      subst hsv
      have HXD := Lib.hid (show Xcs wr.drew.heap.size wr.drew (.slice a0 (xsF 8).length c0) (xsF 8) from xcs_of_owns (own_below HROW.out ((Below.refl _ _).drew)))
      have HC29 := Lib.hid (c29.out _ _ _ HXD.out)
      have KW := Lib.hid (show ∀ W, Below wr.heap.size wr W → W.cell? ⟨w.heap.size + 2, 0, none⟩ = some (.int .i64 p) ∧ W.cell? ⟨w.heap.size + 2, 1, none⟩ = some (.int .i64 r) ∧ W.cell? ⟨w.heap.size + 2, 2, none⟩ = some (.slice a0 (xsF 8).length c0) from fun W h => ⟨(h.cell (p := ⟨w.heap.size + 2, 0, none⟩) hk2l).trans kk0, (h.cell (p := ⟨w.heap.size + 2, 1, none⟩) hk2l).trans kk1, (h.cell (p := ⟨w.heap.size + 2, 2, none⟩) hk2l).trans kk2⟩)
      have HE := Lib.hid (show ∀ E, E = lrnE p r (xsF 8) → (E == 0) = decide (lrnE p r (xsF 8) = 0) from fun E h => by rw [h]; rfl)
      have HEE := Lib.hid (HE.out _ rfl)
      generalize hGE : lrnE p r (xsF 8) = E at *
      have hHG := Lib.hid hGE
      clear hGE HE
      have hbz := HB.out.size
      go_wp2_with fail
      refine wp_region_held_drew (S := fun w' => w'.cell? ⟨w.heap.size + 2, 0, none⟩ = some (.int .i64 p) ∧ w'.cell? ⟨w.heap.size + 2, 1, none⟩ = some (.int .i64 r) ∧ w'.cell? ⟨w.heap.size + 2, 2, none⟩ = some (.slice a0 (xsF 8).length c0)) (by kernel_rfl) ⟨by simpa [go_sem] using kk0, by simpa [go_sem] using kk1, by simpa [go_sem] using kk2⟩ (fun hHeld => ?_)
      refine wpAnyH_take (i := 0) (oi := _) (v := Value.agg #[Value.int .i64 p, Value.int .i64 r, Value.slice a0 (xsF 8).length c0]) rfl (by kernel_rfl) (by kernel_rfl) (by kernel_rfl) (fun _ _ _ h => h) (Or.inl ⟨by rfl, fun w' hSw => ?_⟩) hHeld ?_
      · obtain ⟨t0, t1, t2⟩ := hSw
        go_simp
        try simp [*]
        try (intro hh; exfalso; omega)
        try omega
      try simp only [Act.put, List.setIfInBounds_toArray, List.set_cons_zero, List.set_cons_succ, List.getElem_toArray, List.getElem_cons_succ, List.getElem_cons_zero]
      refine wpAnyH_take (i := 1) (oi := _) (v := Value.agg #[Value.int .i64 p, Value.int .i64 r, Value.slice a0 (xsF 8).length c0]) rfl (by kernel_rfl) (by kernel_rfl) (by kernel_rfl) (fun _ _ _ h => h) (Or.inl ⟨by rfl, fun w' hSw => ?_⟩) hHeld ?_
      · obtain ⟨t0, t1, t2⟩ := hSw
        go_simp
        try simp [*]
        try (intro hh; exfalso; omega)
        try omega
      try simp only [Act.put, List.setIfInBounds_toArray, List.set_cons_zero, List.set_cons_succ, List.getElem_toArray, List.getElem_cons_succ, List.getElem_cons_zero]
      refine wpAnyH_ready (rs := [2]) (by kernel_rfl) (by simp) ?_
      refine AllReadyH.cons (o := _) rfl (fun K hK => ?_) AllReadyH.nil
      go_simp
      go_at_call 29
      refine Calls.mono HC29.out ?_
      rintro e v1 ⟨rfl, hb9⟩
      have HV1 := Lib.hid (show Below wr.heap.size wr v1 from Below.trans ((Below.refl _ _).drew) (hb9.mono (Below.size ((Below.refl wr.heap.size wr).drew))))
      clear hb9
      clear hHeld
      refine hK.out _ _ (KW.out _ HV1.out) (fun hHeld => ?_)
      clear hK K
      try simp only [Act.put, List.setIfInBounds_toArray, List.set_cons_zero, List.set_cons_succ, List.getElem_toArray, List.getElem_cons_succ, List.getElem_cons_zero]
      refine wpAnyH_take (i := 3) (oi := _) (v := Value.bool (E == 0)) rfl (by kernel_rfl) (by kernel_rfl) (by kernel_rfl) (fun _ _ _ h => h) (Or.inl ⟨by rfl, fun w' hSw => ?_⟩) hHeld ?_
      · obtain ⟨t0, t1, t2⟩ := hSw
        go_simp
        try simp [*]
        try (intro hh; exfalso; omega)
        try omega
      try simp only [Act.put, List.setIfInBounds_toArray, List.set_cons_zero, List.set_cons_succ, List.getElem_toArray, List.getElem_cons_succ, List.getElem_cons_zero]
      have HA1 := Lib.hid (show Below (w.heap.size + 2) A v1 from HB.out.trans (HV1.out.mono hbz2))
      obtain ⟨⟨q0, q1, q2⟩, q3, q4, q5⟩ := KR.out _ HA1.out
      obtain ⟨Z, hZe⟩ : ∃ Z, Z = ((v1.setCell ⟨w.heap.size + 1, 0, none⟩ (.int .i64 p)).setCell ⟨w.heap.size + 1, 1, none⟩ (.int .i64 r)).setCell ⟨w.heap.size + 1, 2, none⟩ (.slice a0 (xsF 8).length c0) := ⟨_, rfl⟩
      have hZB : Below w.heap.size w Z := by rw [hZe]; exact HEND.out _ _ _ _ HA1.out
      have l0 : Z.cell? ⟨w.heap.size + 2, 0, none⟩ = some (.int .i64 p) ∧ Z.cell? ⟨w.heap.size + 2, 1, none⟩ = some (.int .i64 r) ∧ Z.cell? ⟨w.heap.size + 2, 2, none⟩ = some (.slice a0 (xsF 8).length c0) := by
        obtain ⟨p0, p1, p2⟩ := KW.out _ HV1.out
        rw [hZe]
        refine ⟨?_, ?_, ?_⟩ <;> simp [go_sem, p0, p1, p2]
      have l1 : Z.cell? ⟨w.heap.size + 1, 0, none⟩ = some (.int .i64 p) ∧ Z.cell? ⟨w.heap.size + 1, 1, none⟩ = some (.int .i64 r) ∧ Z.cell? ⟨w.heap.size + 1, 2, none⟩ = some (.slice a0 (xsF 8).length c0) := by
        rw [hZe]
        refine ⟨?_, ?_, ?_⟩ <;> simp [go_sem, q0, q1, q2]
      have hZR : Z.ownsRow (w.heap.size + 3) 25 8 (.slice a0 (xsF 8).length c0) (xsF 8).length (flatX (xsF 8)) := by rw [hZe]; exact own_set (own_set (own_set (own_below HROW.out HV1.out) (w.heap.size + 1) 0 _ (by omega)) (w.heap.size + 1) 1 _ (by omega)) (w.heap.size + 1) 2 _ (by omega)
      have HZB := Lib.hid hZB
      have HZR := Lib.hid hZR
      clear hZB hZR
      refine wpAnyH_ready (rs := [4]) (by kernel_rfl) (by simp) ?_
      refine AllReadyH.cons (o := _) rfl (fun K hK => ?_) AllReadyH.nil
      go_simp
      try rw [← hZe]
      clear hHeld
      refine hK.out _ _ l0 (fun hHeld => ?_)
      clear hK K
      try simp only [Act.put, List.setIfInBounds_toArray, List.set_cons_zero, List.set_cons_succ, List.getElem_toArray, List.getElem_cons_succ, List.getElem_cons_zero]
      refine wpAnyH_take (i := 5) (oi := _) (v := Value.bool (E == 0)) rfl (by kernel_rfl) (by kernel_rfl) (by kernel_rfl) (fun _ _ _ h => h) (Or.inl ⟨by rfl, fun w' hSw => ?_⟩) hHeld ?_
      · obtain ⟨t0, t1, t2⟩ := hSw
        go_simp
        try simp [*]
        try (intro hh; exfalso; omega)
        try omega
      try simp only [Act.put, List.setIfInBounds_toArray, List.set_cons_zero, List.set_cons_succ, List.getElem_toArray, List.getElem_cons_succ, List.getElem_cons_zero]
      refine wpAnyH_done (by kernel_rfl) ?_ _
      clear hHeld
      clear hZe q0 q1 q2 q3 q4 q5 l0 kk0 kk1 kk2 g0 g1
      obtain ⟨s0, s1, s2⟩ := l1
      go_wp2_with fail
      refine bodyPost_ret (v := .tuple #[.agg #[.int .i64 p, .int .i64 r, .slice a0 (xsF 8).length c0], .bool (E == 0)]) (by simp [results, Try.results50, go_sem, s0, s1, s2]) rfl (HR.out _ 8 _ _ hk8 hk ⟨_, HZR.out⟩ (by rw [hHG.out]; exact HEE.out) HZB.out)
    have hki : (k : Int) < (n : Int) := by omega
    have d1 : decide ((k : Int) < (n : Int)) = true := decide_eq_true hki
    have hk8i : (k : Int) < 8 := by omega
    obtain ⟨hok, b, off, hab, hb, m0, m1, m2, m3, m4, m5, m6, m7⟩ := HCC.out k hlt
    subst hab
    have HC := Lib.hid (c109.out k hlt)
    have HXSk := Lib.hid (HXS.out k)
    have hc27 := c27 (exS O (tk ks k))
    generalize hXX : exS O (tk ks k) = x at *
    unfold Tk.val at HC
    generalize tk ks k = y at *
    obtain ⟨y0, y1, y2, y3, y4, y5, y6, y7⟩ := y
    dsimp only at *
    have hbz := HB.out.size
    have HBWr := Lib.hid (HBW.out _ HB.out)
    have n0 := (HBWr.out.cell (p := ⟨b, off + k * 8, none⟩) hb).trans m0
    have n1 := (HBWr.out.cell (p := ⟨b, off + k * 8 + 1, none⟩) hb).trans m1
    have n2 := (HBWr.out.cell (p := ⟨b, off + k * 8 + 2, none⟩) hb).trans m2
    have n3 := (HBWr.out.cell (p := ⟨b, off + k * 8 + 3, none⟩) hb).trans m3
    have n4 := (HBWr.out.cell (p := ⟨b, off + k * 8 + 4, none⟩) hb).trans m4
    have n5 := (HBWr.out.cell (p := ⟨b, off + k * 8 + 5, none⟩) hb).trans m5
    have n6 := (HBWr.out.cell (p := ⟨b, off + k * 8 + 6, none⟩) hb).trans m6
    have n7 := (HBWr.out.cell (p := ⟨b, off + k * 8 + 7, none⟩) hb).trans m7
    have hgw : w.heap.size < wr.heap.size := by omega
    have hbw : b < wr.heap.size := by omega
    have KW := Lib.hid (show ∀ W, Below wr.heap.size wr W → W.cell? ⟨w.heap.size, 0, none⟩ = some (.int .i32 st) ∧ W.cell? ⟨w.heap.size, 1, none⟩ = some (.slice aq ns cs) ∧ W.cell? ⟨b, off + k * 8, none⟩ = some (.int .u32 y0) ∧ W.cell? ⟨b, off + k * 8 + 1, none⟩ = some (.int .u16 y1) ∧ W.cell? ⟨b, off + k * 8 + 2, none⟩ = some (.int .u16 y2) ∧ W.cell? ⟨b, off + k * 8 + 3, none⟩ = some (.int .u16 y3) ∧ W.cell? ⟨b, off + k * 8 + 4, none⟩ = some (.int .u16 y4) ∧ W.cell? ⟨b, off + k * 8 + 5, none⟩ = some (.int .u16 y5) ∧ W.cell? ⟨b, off + k * 8 + 6, none⟩ = some (.int .u16 y6) ∧ W.cell? ⟨b, off + k * 8 + 7, none⟩ = some (.int .u16 y7) from fun W h => ⟨(h.cell (p := ⟨w.heap.size, 0, none⟩) hgw).trans g0, (h.cell (p := ⟨w.heap.size, 1, none⟩) hgw).trans g1, (h.cell (p := ⟨b, off + k * 8, none⟩) hbw).trans n0, (h.cell (p := ⟨b, off + k * 8 + 1, none⟩) hbw).trans n1, (h.cell (p := ⟨b, off + k * 8 + 2, none⟩) hbw).trans n2, (h.cell (p := ⟨b, off + k * 8 + 3, none⟩) hbw).trans n3, (h.cell (p := ⟨b, off + k * 8 + 4, none⟩) hbw).trans n4, (h.cell (p := ⟨b, off + k * 8 + 5, none⟩) hbw).trans n5, (h.cell (p := ⟨b, off + k * 8 + 6, none⟩) hbw).trans n6, (h.cell (p := ⟨b, off + k * 8 + 7, none⟩) hbw).trans n7⟩)
    clear hok hXX m0 m1 m2 m3 m4 m5 m6 m7
    go_upto_region 5 with fail
    go_cut [12] from 26 to 41 (fun s12 wc => ∃ B, s12 = Value.pointer (some ⟨B, 0, none⟩) ∧ X8 wc B x ∧ Below wr.heap.size wr wc ∧ wr.heap.size ≤ B)
    case first =>
      refine wp_region_held_drew (S := fun w' => w'.cell? ⟨w.heap.size, 0, none⟩ = some (.int .i32 st) ∧ w'.cell? ⟨w.heap.size, 1, none⟩ = some (.slice aq ns cs) ∧ w'.cell? ⟨b, off + k * 8, none⟩ = some (.int .u32 y0) ∧ w'.cell? ⟨b, off + k * 8 + 1, none⟩ = some (.int .u16 y1) ∧ w'.cell? ⟨b, off + k * 8 + 2, none⟩ = some (.int .u16 y2) ∧ w'.cell? ⟨b, off + k * 8 + 3, none⟩ = some (.int .u16 y3) ∧ w'.cell? ⟨b, off + k * 8 + 4, none⟩ = some (.int .u16 y4) ∧ w'.cell? ⟨b, off + k * 8 + 5, none⟩ = some (.int .u16 y5) ∧ w'.cell? ⟨b, off + k * 8 + 6, none⟩ = some (.int .u16 y6) ∧ w'.cell? ⟨b, off + k * 8 + 7, none⟩ = some (.int .u16 y7)) (by kernel_rfl) ⟨by simpa [go_sem] using g0, by simpa [go_sem] using g1, by simpa [go_sem] using n0, by simpa [go_sem] using n1, by simpa [go_sem] using n2, by simpa [go_sem] using n3, by simpa [go_sem] using n4, by simpa [go_sem] using n5, by simpa [go_sem] using n6, by simpa [go_sem] using n7⟩ (fun hHeld => ?_)
      refine wpAnyH_take (i := 0) (oi := _) (v := Value.agg #[Value.int .i32 st, Value.slice aq ns cs]) rfl (by kernel_rfl) (by kernel_rfl) (by kernel_rfl) (fun _ _ _ h => h) (Or.inl ⟨by rfl, fun w' hSw => ?_⟩) hHeld ?_
      · obtain ⟨t0, t1, t2, t3, t4, t5, t6, t7, t8, t9⟩ := hSw
        go_simp
        try simp [*]
        try (intro hh; exfalso; omega)
        try omega
      try simp only [Act.put, List.setIfInBounds_toArray, List.set_cons_zero, List.set_cons_succ, List.getElem_toArray, List.getElem_cons_succ, List.getElem_cons_zero]
      refine wpAnyH_take (i := 1) (oi := _) (v := Value.int .i64 r) rfl (by kernel_rfl) (by kernel_rfl) (by kernel_rfl) (fun _ _ _ h => h) (Or.inl ⟨by rfl, fun w' hSw => ?_⟩) hHeld ?_
      · obtain ⟨t0, t1, t2, t3, t4, t5, t6, t7, t8, t9⟩ := hSw
        go_simp
        try simp [*]
        try (intro hh; exfalso; omega)
        try omega
      try simp only [Act.put, List.setIfInBounds_toArray, List.set_cons_zero, List.set_cons_succ, List.getElem_toArray, List.getElem_cons_succ, List.getElem_cons_zero]
      refine wpAnyH_take (i := 2) (oi := _) (v := Value.slice (some ⟨b, off, none⟩) n cl) rfl (by kernel_rfl) (by kernel_rfl) (by kernel_rfl) (fun _ _ _ h => h) (Or.inl ⟨by rfl, fun w' hSw => ?_⟩) hHeld ?_
      · obtain ⟨t0, t1, t2, t3, t4, t5, t6, t7, t8, t9⟩ := hSw
        go_simp
        try simp [*]
        try (intro hh; exfalso; omega)
        try omega
      try simp only [Act.put, List.setIfInBounds_toArray, List.set_cons_zero, List.set_cons_succ, List.getElem_toArray, List.getElem_cons_succ, List.getElem_cons_zero]
      refine wpAnyH_take (i := 3) (oi := _) (v := Value.int .i64 (k : Int)) rfl (by kernel_rfl) (by kernel_rfl) (by kernel_rfl) (fun _ _ _ h => h) (Or.inl ⟨by rfl, fun w' hSw => ?_⟩) hHeld ?_
      · obtain ⟨t0, t1, t2, t3, t4, t5, t6, t7, t8, t9⟩ := hSw
        go_simp
        try simp [*]
        try (intro hh; exfalso; omega)
        try omega
      try simp only [Act.put, List.setIfInBounds_toArray, List.set_cons_zero, List.set_cons_succ, List.getElem_toArray, List.getElem_cons_succ, List.getElem_cons_zero]
      refine wpAnyH_take (i := 4) (oi := _) (v := Value.pointer (some ⟨b, off + k * 8, none⟩)) rfl (by kernel_rfl) (by kernel_rfl) (by kernel_rfl) (fun _ _ _ h => h) (Or.inl ⟨by rfl, fun w' hSw => ?_⟩) hHeld ?_
      · obtain ⟨t0, t1, t2, t3, t4, t5, t6, t7, t8, t9⟩ := hSw
        go_simp
        try simp [*]
        try (intro hh; exfalso; omega)
        try omega
      try simp only [Act.put, List.setIfInBounds_toArray, List.set_cons_zero, List.set_cons_succ, List.getElem_toArray, List.getElem_cons_succ, List.getElem_cons_zero]
      refine wpAnyH_take (i := 5) (oi := _) (v := Value.agg #[Value.int .u32 y0, Value.int .u16 y1, Value.int .u16 y2, Value.int .u16 y3, Value.int .u16 y4, Value.int .u16 y5, Value.int .u16 y6, Value.int .u16 y7]) rfl (by kernel_rfl) (by kernel_rfl) (by kernel_rfl) (fun _ _ _ h => h) (Or.inl ⟨by rfl, fun w' hSw => ?_⟩) hHeld ?_
      · obtain ⟨t0, t1, t2, t3, t4, t5, t6, t7, t8, t9⟩ := hSw
        go_simp
        try simp [*]
        try (intro hh; exfalso; omega)
        try omega
      try simp only [Act.put, List.setIfInBounds_toArray, List.set_cons_zero, List.set_cons_succ, List.getElem_toArray, List.getElem_cons_succ, List.getElem_cons_zero]
      have HD0 := Lib.hid (show Below wr.heap.size wr wr.drew from (Below.refl _ _).drew)
      refine wpAnyH_ready (rs := [6, 7]) (by kernel_rfl) (by simp) ?_
      refine AllReadyH.cons (o := _) rfl (fun K hK => ?_) (AllReadyH.cons (o := _) rfl (fun K hK => ?_) (AllReadyH.nil))
      · go_simp
        go_at_call 109
        refine Calls.mono (HC.out _ (HBWr.out.trans (HD0.out.mono HBWr.out.size))) ?_
        rintro e v1 ⟨rfl, hb9⟩
        have HV1 := Lib.hid (show Below wr.heap.size wr v1 from Below.trans HD0.out (hb9.mono (Below.size HD0.out)))
        clear hb9
        unfold Xc.val
        clear hHeld
        refine hK.out _ _ (KW.out _ HV1.out) (fun hHeld => ?_)
        clear hK K
        try simp only [Act.put, List.setIfInBounds_toArray, List.set_cons_zero, List.set_cons_succ, List.getElem_toArray, List.getElem_cons_succ, List.getElem_cons_zero]
        refine wpAnyH_ready (rs := [7]) (by kernel_rfl) (by simp) ?_
        refine AllReadyH.cons (o := _) rfl (fun K hK => ?_) AllReadyH.nil
        go_simp
        have HVa := Lib.hid (show Below wr.heap.size wr (v1.alloc (.cells #[.int .i64 0, .int .i64 0, .int .i64 0, .int .i64 0, .int .i64 0, .int .i64 0, .int .i64 0, .int .i64 0] 25)) from HV1.out.alloc HV1.out.size _)
        clear hHeld
        refine hK.out _ _ (KW.out _ HVa.out) (fun hHeld => ?_)
        clear hK K
        try simp only [Act.put, List.setIfInBounds_toArray, List.set_cons_zero, List.set_cons_succ, List.getElem_toArray, List.getElem_cons_succ, List.getElem_cons_zero]
        obtain ⟨Z, hZe⟩ : ∃ Z, Z = v1.alloc (.cells #[.int .i64 x.se, .int .i64 x.he, .int .i64 x.an, .int .i64 x.ba, .int .i64 x.fLo, .int .i64 x.fHi, .int .i64 x.hLo, .int .i64 x.hHi] 25) := ⟨_, rfl⟩
        have hZ : X8 Z v1.heap.size x := by rw [hZe]; exact World.alloc_heap_new _ _
        have hBZ : Below wr.heap.size wr Z := by rw [hZe]; exact HV1.out.alloc HV1.out.size _
        refine wpAnyH_ready (rs := [8]) (by kernel_rfl) (by simp) ?_
        refine AllReadyH.cons (o := _) rfl (fun K hK => ?_) AllReadyH.nil
        go_simp
        try rw [← hZe]
        clear hHeld
        refine hK.out _ _ (KW.out _ hBZ) (fun hHeld => ?_)
        clear hK K
        try simp only [Act.put, List.setIfInBounds_toArray, List.set_cons_zero, List.set_cons_succ, List.getElem_toArray, List.getElem_cons_succ, List.getElem_cons_zero]
        clear hZe
        refine wpAnyH_done (by kernel_rfl) ?_ _
        clear hHeld
        go_wp2_with fail
        go_meet
        case rel => exact ⟨_, rfl, hZ, hBZ, by first | exact Nat.le_refl _ | exact HV1.out.size⟩
      · go_simp
        have HVa := Lib.hid (show Below wr.heap.size wr (wr.drew.alloc (.cells #[.int .i64 0, .int .i64 0, .int .i64 0, .int .i64 0, .int .i64 0, .int .i64 0, .int .i64 0, .int .i64 0] 25)) from ((Below.refl _ _).drew).alloc (Nat.le_refl _) _)
        have HX0z := Lib.hid (show (wr.drew.alloc (.cells #[.int .i64 0, .int .i64 0, .int .i64 0, .int .i64 0, .int .i64 0, .int .i64 0, .int .i64 0, .int .i64 0] 25)).heap[wr.heap.size]? = some (.cells #[.int .i64 0, .int .i64 0, .int .i64 0, .int .i64 0, .int .i64 0, .int .i64 0, .int .i64 0, .int .i64 0] 25 (0, 0)) from World.alloc_heap_new _ _)
        clear hHeld
        refine hK.out _ _ (KW.out _ HVa.out) (fun hHeld => ?_)
        clear hK K
        try simp only [Act.put, List.setIfInBounds_toArray, List.set_cons_zero, List.set_cons_succ, List.getElem_toArray, List.getElem_cons_succ, List.getElem_cons_zero]
        refine wpAnyH_ready (rs := [6]) (by kernel_rfl) (by simp) ?_
        refine AllReadyH.cons (o := _) rfl (fun K hK => ?_) AllReadyH.nil
        go_simp
        go_at_call 109
        refine Calls.mono (HC.out _ (HBWr.out.trans (HVa.out.mono HBWr.out.size))) ?_
        rintro e v1 ⟨rfl, hb9⟩
        have HV1 := Lib.hid (show Below wr.heap.size wr v1 from Below.trans HVa.out (hb9.mono (Below.size HVa.out)))
        have HX := Lib.hid ((hb9.block _ (Array.getElem?_eq_some_iff.1 HX0z.out).1).trans HX0z.out)
        clear hb9
        unfold Xc.val
        clear hHeld
        refine hK.out _ _ (KW.out _ HV1.out) (fun hHeld => ?_)
        clear hK K
        try simp only [Act.put, List.setIfInBounds_toArray, List.set_cons_zero, List.set_cons_succ, List.getElem_toArray, List.getElem_cons_succ, List.getElem_cons_zero]
        have r0 : v1.cell? ⟨wr.heap.size, 0, none⟩ = some (.int .i64 0) := cellH HX.out 0
        have rf0 := frozH HX.out 0
        have r1 : v1.cell? ⟨wr.heap.size, 1, none⟩ = some (.int .i64 0) := cellH HX.out 1
        have rf1 := frozH HX.out 1
        have r2 : v1.cell? ⟨wr.heap.size, 2, none⟩ = some (.int .i64 0) := cellH HX.out 2
        have rf2 := frozH HX.out 2
        have r3 : v1.cell? ⟨wr.heap.size, 3, none⟩ = some (.int .i64 0) := cellH HX.out 3
        have rf3 := frozH HX.out 3
        have r4 : v1.cell? ⟨wr.heap.size, 4, none⟩ = some (.int .i64 0) := cellH HX.out 4
        have rf4 := frozH HX.out 4
        have r5 : v1.cell? ⟨wr.heap.size, 5, none⟩ = some (.int .i64 0) := cellH HX.out 5
        have rf5 := frozH HX.out 5
        have r6 : v1.cell? ⟨wr.heap.size, 6, none⟩ = some (.int .i64 0) := cellH HX.out 6
        have rf6 := frozH HX.out 6
        have r7 : v1.cell? ⟨wr.heap.size, 7, none⟩ = some (.int .i64 0) := cellH HX.out 7
        have rf7 := frozH HX.out 7
        obtain ⟨Z, hZe⟩ : ∃ Z, Z = ((((((((v1.setCell ⟨wr.heap.size, 0, none⟩ (.int .i64 x.se)).setCell ⟨wr.heap.size, 1, none⟩ (.int .i64 x.he)).setCell ⟨wr.heap.size, 2, none⟩ (.int .i64 x.an)).setCell ⟨wr.heap.size, 3, none⟩ (.int .i64 x.ba)).setCell ⟨wr.heap.size, 4, none⟩ (.int .i64 x.fLo)).setCell ⟨wr.heap.size, 5, none⟩ (.int .i64 x.fHi)).setCell ⟨wr.heap.size, 6, none⟩ (.int .i64 x.hLo)).setCell ⟨wr.heap.size, 7, none⟩ (.int .i64 x.hHi)) := ⟨_, rfl⟩
        have hZ : X8 Z (wr.heap.size) x := by rw [hZe]; unfold X8; simp [World.setCell, Array.getElem?_modify, HX.out]
        have hBZ : Below wr.heap.size wr Z := by rw [hZe]; exact ((((((((HV1.out.setCell (p := ⟨wr.heap.size, 0, none⟩) (Nat.le_refl _) _).setCell (p := ⟨wr.heap.size, 1, none⟩) (Nat.le_refl _) _).setCell (p := ⟨wr.heap.size, 2, none⟩) (Nat.le_refl _) _).setCell (p := ⟨wr.heap.size, 3, none⟩) (Nat.le_refl _) _).setCell (p := ⟨wr.heap.size, 4, none⟩) (Nat.le_refl _) _).setCell (p := ⟨wr.heap.size, 5, none⟩) (Nat.le_refl _) _).setCell (p := ⟨wr.heap.size, 6, none⟩) (Nat.le_refl _) _).setCell (p := ⟨wr.heap.size, 7, none⟩) (Nat.le_refl _) _)
        refine wpAnyH_ready (rs := [8]) (by kernel_rfl) (by simp) ?_
        refine AllReadyH.cons (o := _) rfl (fun K hK => ?_) AllReadyH.nil
        go_simp
        try rw [← hZe]
        clear hHeld
        refine hK.out _ _ (KW.out _ hBZ) (fun hHeld => ?_)
        clear hK K
        try simp only [Act.put, List.setIfInBounds_toArray, List.set_cons_zero, List.set_cons_succ, List.getElem_toArray, List.getElem_cons_succ, List.getElem_cons_zero]
        clear hZe r0 rf0 r1 rf1 r2 rf2 r3 rf3 r4 rf4 r5 rf5 r6 rf6 r7 rf7
        refine wpAnyH_done (by kernel_rfl) ?_ _
        clear hHeld
        go_wp2_with fail
        go_meet
        case rel => exact ⟨_, rfl, hZ, hBZ, by first | exact Nat.le_refl _ | exact HV1.out.size⟩
    case rest =>
      obtain ⟨B, hs12, hx8, hbc, hBge⟩ := hcut
      subst hs12
      have hx9 : wc.heap[B]? = some (.cells #[.int .i64 x.se, .int .i64 x.he, .int .i64 x.an, .int .i64 x.ba, .int .i64 x.fLo, .int .i64 x.fHi, .int .i64 x.hLo, .int .i64 x.hHi] 25 (0, 0)) := hx8
      have HX9 := Lib.hid hx9
      have HC27 := Lib.hid hc27
      have e0 : wc.cell? ⟨B, 0, none⟩ = some (.int .i64 x.se) := cellH hx9 0
      have e1 : wc.cell? ⟨B, 1, none⟩ = some (.int .i64 x.he) := cellH hx9 1
      have e2 : wc.cell? ⟨B, 2, none⟩ = some (.int .i64 x.an) := cellH hx9 2
      have e3 : wc.cell? ⟨B, 3, none⟩ = some (.int .i64 x.ba) := cellH hx9 3
      have e4 : wc.cell? ⟨B, 4, none⟩ = some (.int .i64 x.fLo) := cellH hx9 4
      have e5 : wc.cell? ⟨B, 5, none⟩ = some (.int .i64 x.fHi) := cellH hx9 5
      have e6 : wc.cell? ⟨B, 6, none⟩ = some (.int .i64 x.hLo) := cellH hx9 6
      have e7 : wc.cell? ⟨B, 7, none⟩ = some (.int .i64 x.hHi) := cellH hx9 7
      have HB2 := Lib.hid (HB.out.trans (hbc.mono (by omega)))
      have HKN2 := Lib.hid (HKN.out.keep hbc)
      have HROW2 := Lib.hid (own_below HROW.out hbc)
      have hz2 := hbc.size
      clear hx8 hbc hx9 hc27 HC HCC HXS HR
      go_wp2_with fail
      refine (HC27.out _).mono ?_
      rintro e w3 ⟨rfl, hb3⟩
      have hx3 := (hb3.block B (Array.getElem?_eq_some_iff.1 HX9.out).1).trans HX9.out
      clear e0 e1 e2 e3 e4 e5 e6 e7
      have e0 : w3.cell? ⟨B, 0, none⟩ = some (.int .i64 x.se) := cellH hx3 0
      have e1 : w3.cell? ⟨B, 1, none⟩ = some (.int .i64 x.he) := cellH hx3 1
      have e2 : w3.cell? ⟨B, 2, none⟩ = some (.int .i64 x.an) := cellH hx3 2
      have e3 : w3.cell? ⟨B, 3, none⟩ = some (.int .i64 x.ba) := cellH hx3 3
      have e4 : w3.cell? ⟨B, 4, none⟩ = some (.int .i64 x.fLo) := cellH hx3 4
      have e5 : w3.cell? ⟨B, 5, none⟩ = some (.int .i64 x.fHi) := cellH hx3 5
      have e6 : w3.cell? ⟨B, 6, none⟩ = some (.int .i64 x.hLo) := cellH hx3 6
      have e7 : w3.cell? ⟨B, 7, none⟩ = some (.int .i64 x.hHi) := cellH hx3 7
      have HX3 := Lib.hid hx3
      have hKN3 := HKN2.out.keep hb3
      have HKN3 := Lib.hid hKN3
      have HROW3 := Lib.hid (own_below HROW2.out hb3)
      have HB3 := Lib.hid (HB2.out.trans (hb3.mono (by omega)))
      obtain ⟨-, -, -, k32, k3f⟩ := hKN3
      have hz3 := hb3.size
      clear hb3 hx3
      cases hq : xcB x
      · have hxs : xsF (k + 1) = xsF k := by rw [HXSk.out, hq]; rfl
        have HXE := Lib.hid hxs
        clear hq hxs
        go_wp2_with fail
        go_roundw
        case rel => exact ⟨k + 1, sv, by omega, by omega, by go_num, HKN3.out, by rw [HXE.out]; exact HROW3.out, HB3.out⟩
        case measure => simp [intOf]; omega
      · have hxs : xsF (k + 1) = xsF k ++ [x] := by rw [HXSk.out, hq]; rfl
        have hxl : (xsF k).length ≤ k := HXL.out k
        have HXE := Lib.hid hxs
        clear hq hxs
        subst hsv
        generalize hxn : (xsF k).length = m at *
        have HXN := Lib.hid hxn
        clear hxn
        have HA5 := Lib.hid (show Below w3.heap.size w3 (w3.alloc (.cells #[.int .i64 x.se, .int .i64 x.he, .int .i64 x.an, .int .i64 x.ba, .int .i64 x.fLo, .int .i64 x.fHi, .int .i64 x.hLo, .int .i64 x.hHi] 25)) from (Below.refl _ _).alloc (Nat.le_refl _) _)
        go_wp2_with (at_builtin; refine wpList_append_own _ rfl _ _ 26 rfl (w.heap.size + 3) 25 i0 (.agg #[.int .i64 0, .int .i64 0, .int .i64 0, .int .i64 0, .int .i64 0, .int .i64 0, .int .i64 0, .int .i64 0]) 8 64 Try.underlying26 hi0 hz0 hz1 hz2' rfl (by decide) _ _ _ rfl (own_below HROW3.out HA5.out) ⟨w3.heap.size, 0, none⟩ 1 1 [.int .i64 x.se, .int .i64 x.he, .int .i64 x.an, .int .i64 x.ba, .int .i64 x.fLo, .int .i64 x.fHi, .int .i64 x.hLo, .int .i64 x.hHi] rfl rfl (eight_new _ _ _ _ _ _ _ _ _) (by simp [Value.oneCell']) (by unfold maxLen; omega) (by omega) (by simp; omega) ?_; intro v' w5 hrow' hgrow _; obtain ⟨a5, c5, rfl⟩ := own_form hrow'; have hkn5 := (HKN3.out.keep HA5.out).grown hgrow (fun hj => by have := ((own_below HROW3.out HA5.out).lt _ hj).1; omega); have HKN5 := Lib.hid hkn5; have HROW5 := Lib.hid hrow'; have HB5 := Lib.hid ((HB3.out.trans (HA5.out.mono (by omega))).grown hgrow (by simp; omega) (fun j hj => by have := ((own_below HROW3.out HA5.out).lt j hj).1; omega)); obtain ⟨-, -, -, k52, k5f⟩ := hkn5; clear hrow' hgrow)
        have HB6 := Lib.hid (HB5.out.setCell (p := ⟨w.heap.size + 2, 2, none⟩) (Nat.le_refl _) (.slice a5 (m + 1) c5))
        have HKN6 := Lib.hid (HKN5.out.set (.slice a5 (m + 1) c5))
        have HROW6 := Lib.hid (own_set HROW5.out (w.heap.size + 2) 2 (.slice a5 (m + 1) c5) (Nat.lt_succ_self _))
        go_roundw
        case rel => exact ⟨k + 1, .slice a5 (m + 1) c5, by omega, by omega, by go_num, HKN6.out, by rw [HXE.out, flatX_snoc, List.length_append, HXN.out]; exact HROW6.out, HB6.out⟩
        case measure => simp [intOf]; omega
end Go.Proofs.Ytcchmjbedppfnaa

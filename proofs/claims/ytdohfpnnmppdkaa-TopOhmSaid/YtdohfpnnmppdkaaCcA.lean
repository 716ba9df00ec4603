/-
  Cables: the reference's currents.
-/
import Derived.Test.YtdohfpnnmppdkaaCbX
import Derived.Test.YtdohfpnnmppdkaaCbJ
namespace Go.Proofs.Ytdohfpnnmppdkaa
open Go.RowKit Go.Shelf
set_option linter.unusedSimpArgs false
attribute [local go_sem] Oper.semAt_some
theorem infoI23 : (Try.prog.info? 23).map (fun i => (i.zero, i.size, i.bytes)) = some (some (.agg #[.int .i64 0, .int .i64 0]), 2, 16) := by kernel_rfl
theorem two_new (W : World) (x y : Value) : ∀ (j : Nat) (u : Value), [x, y][j]? = some u → (W.alloc (.cells #[x, y] 23)).cell? ((⟨W.heap.size, 0, none⟩ : Addr).add j) = some u := by
  intro j u hj
  match j, hj with
  | 0, h => simp at h; subst h; simp [Addr.add, go_sem]
  | 1, h => simp at h; subst h; simp [Addr.add, go_sem]
/-- spans one after another -/
def spL (f : Nat → Int × Int) (n : Nat) : List Value := (List.range (n * 2)).map (spc f)
theorem spL_zero (f : Nat → Int × Int) : spL f 0 = [] := rfl
theorem spL_succ (f : Nat → Int × Int) (n : Nat) : spL f (n + 1) = spL f n ++ [.int .i64 (f n).1, .int .i64 (f n).2] := by
  unfold spL
  rw [show (n + 1) * 2 = n * 2 + 1 + 1 by omega, List.range_succ, List.range_succ]
  simp only [List.map_append, List.map_cons, List.map_nil, List.append_assoc, List.cons_append, List.nil_append]
  rw [spc_even, spc_odd]
theorem spL_len (f : Nat → Int × Int) (n : Nat) : (spL f n).length = n * 2 := by unfold spL; simp
theorem spL_get (f : Nat → Int × Int) (n : Nat) {j : Nat} (hj : j < n * 2) : (spL f n)[j]? = some (spc f j) := by unfold spL; simp [hj]
/-- n spans in memory -/
def Sv (n₀ : Nat) (W : World) (v : Value) (n : Nat) (f : Nat → Int × Int) : Prop :=
  ∃ a cap, v = .slice a n cap ∧ n ≤ cap ∧ ∀ k, k < n → ∃ b off, a = some ⟨b, off, none⟩ ∧ b < n₀ ∧ W.cell? ⟨b, off + k * 2, none⟩ = some (.int .i64 (f k).1) ∧ W.cell? ⟨b, off + k * 2 + 1, none⟩ = some (.int .i64 (f k).2)
theorem Sv.mono {n₀ m : Nat} {W W' : World} {v : Value} {n : Nat} {f : Nat → Int × Int} (h : Sv n₀ W v n f) (hb : Below n₀ W W') (hm : n₀ ≤ m) : Sv m W' v n f := by
  obtain ⟨a, cap, h1, h2, h3⟩ := h
  refine ⟨a, cap, h1, h2, fun k hk => ?_⟩
  obtain ⟨b, off, e, hlt, c0, c1⟩ := h3 k hk
  exact ⟨b, off, e, by omega, (hb.cell (p := ⟨b, _, none⟩) hlt).trans c0, (hb.cell (p := ⟨b, _, none⟩) hlt).trans c1⟩
theorem Sv.at {W W' : World} {v : Value} {n : Nat} {f : Nat → Int × Int} (h : Sv W.heap.size W v n f) (hb : Below W.heap.size W W') : Sv W'.heap.size W' v n f := h.mono hb hb.size
theorem Sv.form {n₀ : Nat} {W : World} {v : Value} {n : Nat} {f : Nat → Int × Int} (h : Sv n₀ W v n f) : ∃ a c, v = .slice a n c := by
  obtain ⟨a, c, h, _⟩ := h; exact ⟨a, c, h⟩
theorem sv_nil (n₀ : Nat) (W : World) (f : Nat → Int × Int) : Sv n₀ W (.slice none 0 0) 0 f := ⟨_, _, rfl, Nat.le_refl _, fun _ h => absurd h (Nat.not_lt_zero _)⟩
theorem sv_of_row {W : World} {g n : Nat} {f : Nat → Int × Int} (h : RowC W g 23 (n * 2) (spc f)) : Sv W.heap.size W (.slice (some ⟨g, 0, none⟩) n n) n f := by
  refine ⟨_, _, rfl, Nat.le_refl _, fun k hk => ⟨g, 0, rfl, h.lt, ?_, ?_⟩⟩
  · rw [Nat.zero_add, h.cell (by omega), spc_even]
  · rw [Nat.zero_add, h.cell (by omega), spc_odd]
theorem sv_of_own {W : World} {base : Nat} {v : Value} {n : Nat} {f : Nat → Int × Int} (h : W.ownsRow base 23 2 v n (spL f n)) : Sv W.heap.size W v n f := by
  obtain ⟨hl, h⟩ := h
  rcases h with ⟨hv, h0⟩ | ⟨g, cap, cur, hv, hb, hg, hc1, hc2, hs, ht⟩
  · subst hv
    subst h0
    exact sv_nil _ _ _
  · subst hv
    refine ⟨_, _, rfl, hc1, fun k hk => ⟨g, 0, rfl, (Array.getElem?_eq_some_iff.1 hg).1, ?_, ?_⟩⟩
    all_goals
      rw [cellHB hg, Nat.zero_add]
    · have e : cur.toList[k * 2]? = (spL f n)[k * 2]? := by rw [← ht, List.getElem?_take_of_lt (by omega)]
      rw [spL_get f n (by omega), spc_even] at e
      simpa using e
    · have e : cur.toList[k * 2 + 1]? = (spL f n)[k * 2 + 1]? := by rw [← ht, List.getElem?_take_of_lt (by omega)]
      rw [spL_get f n (by omega), spc_odd] at e
      simpa using e
/-- an element of a row of numbers of the call's own -/
theorem own3_cell {W : World} {base : Nat} {v : Value} {m : Nat} {l : List Nat} (h : W.ownsRow base 3 1 v m (flatN l)) {i : Nat} (hi : i < m) : ∃ g cap, v = .slice (some ⟨g, 0, none⟩) m cap ∧ m ≤ cap ∧ base ≤ g ∧ g < W.heap.size ∧ W.cell? ⟨g, i, none⟩ = some (.int .i64 (tn l i : Int)) := by
  obtain ⟨hl, h⟩ := h
  rcases h with ⟨hv, h0⟩ | ⟨g, cap, cur, hv, hb, hg, hc1, hc2, hs, ht⟩
  · omega
  · refine ⟨g, cap, hv, hc1, hb, (Array.getElem?_eq_some_iff.1 hg).1, ?_⟩
    have hlen : l.length = m := by unfold flatN at hl; simpa using hl
    rw [cellHB hg]
    have e : cur.toList[i]? = (flatN l)[i]? := by rw [← ht, List.getElem?_take_of_lt (by omega)]
    have e2 : cur[i]? = (flatN l)[i]? := by simpa using e
    rw [e2]
    unfold flatN tn
    simp [hlen, hi]
/-- the sum of the first numbers of a list -/
def smN (f : Nat → Int) (L : List Nat) (i : Nat) : Int := ((L.take i).map f).sum
theorem smN_zero (f : Nat → Int) (L : List Nat) : smN f L 0 = 0 := rfl
theorem smN_succ (f : Nat → Int) {L : List Nat} {i : Nat} (hi : i < L.length) : smN f L (i + 1) = smN f L i + f (tn L i) := by
  unfold smN
  rw [tn_take hi]
  simp
theorem smN_bd {f : Nat → Int} {L : List Nat} {M : Int} (h : ∀ x, x ∈ L → 0 ≤ f x ∧ f x ≤ M) : ∀ i, i ≤ L.length → 0 ≤ smN f L i ∧ smN f L i ≤ i * M := by
  intro i
  induction i with
  | zero => intro _; simp [smN]
  | succ i ih =>
    intro hi
    have h1 := ih (by omega)
    have h2 := h _ (tn_mem (L := L) (i := i) (by omega))
    have e : ((i + 1 : Nat) : Int) * M = i * M + M := by rw [Int.natCast_add, Int.add_mul]; simp
    rw [smN_succ f (by omega), e]
    omega
theorem smN_pick (f : Nat → Int) (p : Nat → Bool) : ∀ n, smN f (pick n p) (pick n p).length = sm f p n := by
  intro n
  have e : ∀ l : List Nat, smN f l l.length = (l.map f).sum := fun l => by unfold smN; rw [List.take_length]
  rw [e]
  induction n with
  | zero => rfl
  | succ n ih =>
    cases hp : p n
    · rw [pick_no hp, ih]; simp [sm, hp]
    · rw [pick_yes hp, List.map_append, List.sum_append, ih]; simp [sm, hp]
set_option maxRecDepth 100000 in
set_option maxHeartbeats 8000000 in
theorem refcurrents_any (sl sh : Int) (sv : Value) (ns : List Nd) (hv : AllN ns) (hl : ns.length ≤ 60) (hn0 : 0 < ns.length) (w : World) (hN : Nds w.heap.size w sv ns) :
    Calls Try.prog 93 #[.agg #[.int .i64 sl, .int .i64 sh, sv]] w fun e w' => ∃ v, e = .returned v ∧ w'.ownsRow w.heap.size 23 2 v ns.length (spL (fun j => (curL ns j, curH ns j)) ns.length) ∧ Below w.heap.size w w' := by
  obtain ⟨i0, hi0, hz0, hz1, hz2⟩ := info_parts infoI23
  have cS := Lib.hid (fun W (h : Below w.heap.size w W) (k : Nat) => refsub_any sl sh sv ns hv hl k W (hN.at h))
  have HSL := Lib.hid (fun (k : Nat) => Nat.le_trans (sub_len (ns := ns) (k := k)) hl)
  have HSM := Lib.hid (fun (k x : Nat) (h : x ∈ sub (par ns) ns.length k) => (mem_pick.1 h).1)
  have HBD := Lib.hid (fun (x : Nat) (hx : x < ns.length) => show (0 ≤ (nd ns x).ll ∧ (nd ns x).ll ≤ 65536) ∧ 0 ≤ (nd ns x).lh ∧ (nd ns x).lh ≤ 65536 by
    have q := (hv.node hx).2.2.1
    omega)
  have HCL := Lib.hid (fun (k : Nat) => show smN (fun x => (nd ns x).ll) (sub (par ns) ns.length k) (sub (par ns) ns.length k).length = curL ns k from smN_pick _ _ _)
  have HCH := Lib.hid (fun (k : Nat) => show smN (fun x => (nd ns x).lh) (sub (par ns) ns.length k) (sub (par ns) ns.length k).length = curH ns k from smN_pick _ _ _)
  have HSP := Lib.hid (fun k => spL_succ (fun j => (curL ns j, curH ns j)) k)
  obtain ⟨a, cap, hsv, -, hcc⟩ := hN
  obtain ⟨nb, off, hab, hnb, -⟩ := hcc 0 hn0
  subst hab
  subst hsv
  have HC := Lib.hid (show ∀ W k, Below w.heap.size w W → k < ns.length → W.cell? ⟨nb, off + k * 8 + 4, none⟩ = some (.int .i64 (nd ns k).ll) ∧ W.cell? ⟨nb, off + k * 8 + 5, none⟩ = some (.int .i64 (nd ns k).lh) from fun W k hb hk => by
    obtain ⟨b, o, h1, h2, e0, e1, e2, e3, e4, e5, e6, e7⟩ := hcc k hk
    simp only [Option.some.injEq, Addr.mk.injEq] at h1
    obtain ⟨rfl, rfl, -⟩ := h1
    exact ⟨(hb.cell (p := ⟨_, _, none⟩) h2).trans e4, (hb.cell (p := ⟨_, _, none⟩) h2).trans e5⟩)
  clear hcc hv
  generalize hnn : ns.length = n at *
  clear hnn
  obtain ⟨A, hA⟩ : ∃ A, A = w.alloc (.cells #[.int .i64 sl, .int .i64 sh, .slice (some ⟨nb, off, none⟩) n cap] 26) := ⟨_, rfl⟩
  have HBA := Lib.hid (show Below w.heap.size w A by rw [hA]; exact ((Below.refl _ _).alloc (Nat.le_refl _) _))
  have hltA : w.heap.size + 1 ≤ A.heap.size := by rw [hA]; simp
  have q0 : A.cell? ⟨w.heap.size, 0, none⟩ = some (.int .i64 sl) := by rw [hA]; exact (cellHB (World.alloc_heap_new w _) 0).trans (by simp)
  have q1 : A.cell? ⟨w.heap.size, 1, none⟩ = some (.int .i64 sh) := by rw [hA]; exact (cellHB (World.alloc_heap_new w _) 1).trans (by simp)
  have q2 : A.cell? ⟨w.heap.size, 2, none⟩ = some (.slice (some ⟨nb, off, none⟩) n cap) := by rw [hA]; exact (cellHB (World.alloc_heap_new w _) 2).trans (by simp)
  have KK := Lib.hid (show ∀ W, Below A.heap.size A W → W.cell? ⟨w.heap.size, 0, none⟩ = some (.int .i64 sl) ∧ W.cell? ⟨w.heap.size, 1, none⟩ = some (.int .i64 sh) ∧ W.cell? ⟨w.heap.size, 2, none⟩ = some (.slice (some ⟨nb, off, none⟩) n cap) from fun W h => ⟨(h.cell (p := ⟨w.heap.size, 0, none⟩) (by show w.heap.size < A.heap.size; omega)).trans q0, (h.cell (p := ⟨w.heap.size, 1, none⟩) (by show w.heap.size < A.heap.size; omega)).trans q1, (h.cell (p := ⟨w.heap.size, 2, none⟩) (by show w.heap.size < A.heap.size; omega)).trans q2⟩)
  have HLT := Lib.hid hltA
  clear hltA q0 q1 q2
  obtain ⟨k0, k1, k2⟩ := KK.out _ (Below.refl _ _)
  go_enter Try.func93, Try.ntmps93
  go_upto_region 1 with fail
  rw [← hA]
  clear hA
  go_wp2_with fail
  go_loopw [3, 4] (fun ov iv wr => ∃ k : Nat, k ≤ n ∧ iv = .int .i64 k ∧ wr.ownsRow A.heap.size 23 2 ov k (spL (fun j => (curL ns j, curH ns j)) k) ∧ Below A.heap.size A wr) (fun _ iv _ => n - (intOf iv).toNat)
  case atStart => exact ⟨0, Nat.zero_le _, rfl, World.ownsRow_nil _ _ _ _, Below.refl _ _⟩
  case round =>
    obtain ⟨k, hk, rfl, hrow, hB⟩ := hrel
    have HB := Lib.hid hB
    have HROW := Lib.hid hrow
    obtain ⟨oa, oc, rfl⟩ := own_form hrow
    clear hrow hB k0 k1 k2
    obtain ⟨k0, k1, k2⟩ := KK.out _ HB.out
    by_cases hlt : k < n
    · have hki : (k : Int) < (n : Int) := by omega
      obtain ⟨W1, rfl⟩ : ∃ W1, W1 = wr := ⟨_, rfl⟩
      obtain ⟨V, hV⟩ : ∃ V, V = W1.alloc (.cells #[.int .i64 0, .int .i64 0] 23) := ⟨_, rfl⟩
      have HBV := Lib.hid (show Below W1.heap.size W1 V by rw [hV]; exact (Below.refl _ _).alloc (Nat.le_refl _) _)
      have HXV := Lib.hid (show Bx2 V W1.heap.size (.int .i64 0) (.int .i64 0) by rw [hV]; exact Bx2.new _ _ _)
      have hzV : V.heap.size = W1.heap.size + 1 := by rw [hV]; simp
      have HZV := Lib.hid hzV
      clear hzV
      go_upto_region 6 with fail
      try rw [← hV]
      clear hV k0 k1 k2
      obtain ⟨k0, k1, k2⟩ := KK.out _ (HB.out.trans (HBV.out.mono HB.out.size))
      go_wp2_with fail
      refine (cS.out _ (HBA.out.trans ((HB.out.trans (HBV.out.mono HB.out.size)).mono HBA.out.size)) k).mono ?_
      rintro e w2 ⟨lv, rfl, hl2, hb2⟩
      have HSLk := HSL.out k
      have HSMk := Lib.hid (HSM.out k)
      have HCLk := Lib.hid (HCL.out k)
      have HCHk := Lib.hid (HCH.out k)
      have HB2 := Lib.hid (HBV.out.trans (hb2.mono HBV.out.size))
      have HX2 := Lib.hid (HXV.out.keep hb2)
      have HL2 := Lib.hid (show w2.ownsRow (W1.heap.size + 1) 3 1 lv _ _ from by have q := hl2; rw [HZV.out] at q; exact q)
      have HS1 := Lib.hid (fun i (h : i < (sub (par ns) n k).length) => (⟨smN_succ (fun x => (nd ns x).ll) h, smN_succ (fun x => (nd ns x).lh) h⟩ : _ ∧ _))
      have HS2 := Lib.hid (fun i (h : i ≤ (sub (par ns) n k).length) => (⟨smN_bd (f := fun x => (nd ns x).ll) (M := 65536) (fun x hx => (HBD.out x (HSMk.out x hx)).1) i h, smN_bd (f := fun x => (nd ns x).lh) (M := 65536) (fun x hx => (HBD.out x (HSMk.out x hx)).2) i h⟩ : _ ∧ _))
      have HTM := Lib.hid (fun i (h : i < (sub (par ns) n k).length) => HSMk.out _ (tn_mem h))
      generalize sub (par ns) n k = L at *
      generalize L.length = m at *
      obtain ⟨la, lc, rfl⟩ := own_form hl2
      clear hl2 hb2 k0 k1 k2 cS HSL HSM HCL HCH HSMk
      obtain ⟨k0, k1, k2⟩ := KK.out _ (HB.out.trans (HB2.out.mono HB.out.size))
      go_wp2_with fail
      go_loopw [7] (fun iv W => ∃ i : Nat, i ≤ m ∧ iv = .int .i64 i ∧ Bx2 W W1.heap.size (.int .i64 (smN (fun x => (nd ns x).ll) L i)) (.int .i64 (smN (fun x => (nd ns x).lh) L i)) ∧ W.ownsRow (W1.heap.size + 1) 3 1 (.slice la m lc) m (flatN L) ∧ Below W1.heap.size W1 W) (fun iv _ => m - (intOf iv).toNat)
      case atStart => exact ⟨0, Nat.zero_le _, rfl, HX2.out, HL2.out, HB2.out⟩
      case round =>
        obtain ⟨i, hi, rfl, hX, hL, hBW⟩ := hrel
        have HX := Lib.hid hX
        have HL := Lib.hid hL
        have HBW := Lib.hid hBW
        clear hX hL hBW k0 k1 k2
        have HWA := Lib.hid (HB.out.trans (HBW.out.mono HB.out.size))
        obtain ⟨k0, k1, k2⟩ := KK.out _ HWA.out
        have x0 := HX.out.c0
        have x1 := HX.out.c1
        by_cases him : i < m
        · obtain ⟨g, lc', he, hlc, hg1, hg2, gl⟩ := own3_cell HL.out him
          simp only [Value.slice.injEq] at he
          obtain ⟨rfl, -, rfl⟩ := he
          have hxn := HTM.out i him
          have HSS := Lib.hid (HS1.out i him)
          have hsb := HS2.out i hi
          obtain ⟨n0, n1⟩ := HC.out _ _ (HBA.out.trans (HWA.out.mono HBA.out.size)) hxn
          have hbx := HBD.out _ hxn
          have hii : (i : Int) < (m : Int) := by omega
          generalize tn L i = x at *
          have hxi : (x : Int) < (n : Int) := by omega
          have hib : (i : Int) * 65536 ≤ 60 * 65536 := by omega
          have HSQ := Lib.hid (show smN (fun x => (nd ns x).ll) L (i + 1) = smN (fun x => (nd ns x).ll) L i + (nd ns x).ll ∧ smN (fun x => (nd ns x).lh) L (i + 1) = smN (fun x => (nd ns x).lh) L i + (nd ns x).lh from HSS.out)
          clear HSS
          generalize smN (fun x => (nd ns x).ll) L i = p0 at *
          generalize smN (fun x => (nd ns x).lh) L i = p1 at *
          generalize (nd ns x).ll = d0 at *
          generalize (nd ns x).lh = d1 at *
          have hpb : (0 ≤ p0 ∧ p0 ≤ 3932160) ∧ 0 ≤ p1 ∧ p1 ≤ 3932160 := by omega
          clear hsb hib
          go_upto_region 10 with fail
          have KQ := Lib.hid (show ∀ Z, Below wr.heap.size wr Z → Z.cell? ⟨w.heap.size, 2, none⟩ = some (Value.slice (some ⟨nb, off, none⟩) n cap) ∧ Z.cell? ⟨g, i, none⟩ = some (Value.int .i64 (x : Int)) ∧ Z.cell? ⟨nb, off + x * 8 + 4, none⟩ = some (Value.int .i64 d0) ∧ Z.cell? ⟨nb, off + x * 8 + 5, none⟩ = some (Value.int .i64 d1) from fun Z h => ⟨(h.cell (p := ⟨w.heap.size, 2, none⟩) (by show w.heap.size < wr.heap.size; have := HBA.out.size; have := HWA.out.size; have := HLT.out; omega)).trans k2, (h.cell (p := ⟨g, i, none⟩) (by show g < wr.heap.size; omega)).trans gl, (h.cell (p := ⟨nb, off + x * 8 + 4, none⟩) (by show nb < wr.heap.size; have := HBA.out.size; have := HWA.out.size; omega)).trans n0, (h.cell (p := ⟨nb, off + x * 8 + 5, none⟩) (by show nb < wr.heap.size; have := HBA.out.size; have := HWA.out.size; omega)).trans n1⟩)
          refine wp_region_held_drew (S := fun w' => w'.cell? ⟨w.heap.size, 2, none⟩ = some (Value.slice (some ⟨nb, off, none⟩) n cap) ∧ w'.cell? ⟨g, i, none⟩ = some (Value.int .i64 (x : Int)) ∧ w'.cell? ⟨nb, off + x * 8 + 4, none⟩ = some (Value.int .i64 d0) ∧ w'.cell? ⟨nb, off + x * 8 + 5, none⟩ = some (Value.int .i64 d1)) (by kernel_rfl) ⟨by simpa [go_sem] using k2, by simpa [go_sem] using gl, by simpa [go_sem] using n0, by simpa [go_sem] using n1⟩ (fun hHeld => ?_)
          refine wpAnyH_take (i := 0) (oi := _) (v := Value.pointer (some ⟨w.heap.size, 2, none⟩)) rfl (by kernel_rfl) (by kernel_rfl) (by kernel_rfl) (fun _ _ _ h => h) (Or.inl ⟨by rfl, fun w' hSw => ?_⟩) hHeld ?_
          · obtain ⟨t0, t1, t2, t3⟩ := hSw
            go_simp
            try simp [*]
            try (intro hh; exfalso; omega)
            try omega
          try simp only [Act.put, List.setIfInBounds_toArray, List.set_cons_zero, List.set_cons_succ, List.getElem_toArray, List.getElem_cons_succ, List.getElem_cons_zero]
          refine wpAnyH_take (i := 1) (oi := _) (v := Value.slice (some ⟨nb, off, none⟩) n cap) rfl (by kernel_rfl) (by kernel_rfl) (by kernel_rfl) (fun _ _ _ h => h) (Or.inl ⟨by rfl, fun w' hSw => ?_⟩) hHeld ?_
          · obtain ⟨t0, t1, t2, t3⟩ := hSw
            go_simp
            try simp [*]
            try (intro hh; exfalso; omega)
            try omega
          try simp only [Act.put, List.setIfInBounds_toArray, List.set_cons_zero, List.set_cons_succ, List.getElem_toArray, List.getElem_cons_succ, List.getElem_cons_zero]
          refine wpAnyH_take (i := 2) (oi := _) (v := Value.slice (some ⟨g, 0, none⟩) m lc) rfl (by kernel_rfl) (by kernel_rfl) (by kernel_rfl) (fun _ _ _ h => h) (Or.inl ⟨by rfl, fun w' hSw => ?_⟩) hHeld ?_
          · obtain ⟨t0, t1, t2, t3⟩ := hSw
            go_simp
            try simp [*]
            try (intro hh; exfalso; omega)
            try omega
          try simp only [Act.put, List.setIfInBounds_toArray, List.set_cons_zero, List.set_cons_succ, List.getElem_toArray, List.getElem_cons_succ, List.getElem_cons_zero]
          refine wpAnyH_take (i := 3) (oi := _) (v := Value.int .i64 (i : Int)) rfl (by kernel_rfl) (by kernel_rfl) (by kernel_rfl) (fun _ _ _ h => h) (Or.inl ⟨by rfl, fun w' hSw => ?_⟩) hHeld ?_
          · obtain ⟨t0, t1, t2, t3⟩ := hSw
            go_simp
            try simp [*]
            try (intro hh; exfalso; omega)
            try omega
          try simp only [Act.put, List.setIfInBounds_toArray, List.set_cons_zero, List.set_cons_succ, List.getElem_toArray, List.getElem_cons_succ, List.getElem_cons_zero]
          refine wpAnyH_take (i := 4) (oi := _) (v := Value.pointer (some ⟨g, i, none⟩)) rfl (by kernel_rfl) (by kernel_rfl) (by kernel_rfl) (fun _ _ _ h => h) (Or.inl ⟨by rfl, fun w' hSw => ?_⟩) hHeld ?_
          · obtain ⟨t0, t1, t2, t3⟩ := hSw
            go_simp
            try simp [*]
            try (intro hh; exfalso; omega)
            try omega
          try simp only [Act.put, List.setIfInBounds_toArray, List.set_cons_zero, List.set_cons_succ, List.getElem_toArray, List.getElem_cons_succ, List.getElem_cons_zero]
          refine wpAnyH_take (i := 5) (oi := _) (v := Value.int .i64 (x : Int)) rfl (by kernel_rfl) (by kernel_rfl) (by kernel_rfl) (fun _ _ _ h => h) (Or.inl ⟨by rfl, fun w' hSw => ?_⟩) hHeld ?_
          · obtain ⟨t0, t1, t2, t3⟩ := hSw
            go_simp
            try simp [*]
            try (intro hh; exfalso; omega)
            try omega
          try simp only [Act.put, List.setIfInBounds_toArray, List.set_cons_zero, List.set_cons_succ, List.getElem_toArray, List.getElem_cons_succ, List.getElem_cons_zero]
          refine wpAnyH_take (i := 6) (oi := _) (v := Value.pointer (some ⟨nb, off + x * 8, none⟩)) rfl (by kernel_rfl) (by kernel_rfl) (by kernel_rfl) (fun _ _ _ h => h) (Or.inl ⟨by rfl, fun w' hSw => ?_⟩) hHeld ?_
          · obtain ⟨t0, t1, t2, t3⟩ := hSw
            go_simp
            try simp [*]
            try (intro hh; exfalso; omega)
            try omega
          try simp only [Act.put, List.setIfInBounds_toArray, List.set_cons_zero, List.set_cons_succ, List.getElem_toArray, List.getElem_cons_succ, List.getElem_cons_zero]
          refine wpAnyH_take (i := 7) (oi := _) (v := Value.pointer (some ⟨nb, off + x * 8 + 4, none⟩)) rfl (by kernel_rfl) (by kernel_rfl) (by kernel_rfl) (fun _ _ _ h => h) (Or.inl ⟨by rfl, fun w' hSw => ?_⟩) hHeld ?_
          · obtain ⟨t0, t1, t2, t3⟩ := hSw
            go_simp
            try simp [*]
            try (intro hh; exfalso; omega)
            try omega
          try simp only [Act.put, List.setIfInBounds_toArray, List.set_cons_zero, List.set_cons_succ, List.getElem_toArray, List.getElem_cons_succ, List.getElem_cons_zero]
          refine wpAnyH_take (i := 8) (oi := _) (v := Value.agg #[Value.int .i64 d0, Value.int .i64 d1]) rfl (by kernel_rfl) (by kernel_rfl) (by kernel_rfl) (fun _ _ _ h => h) (Or.inl ⟨by rfl, fun w' hSw => ?_⟩) hHeld ?_
          · obtain ⟨t0, t1, t2, t3⟩ := hSw
            go_simp
            try simp [*]
            try (intro hh; exfalso; omega)
            try omega
          try simp only [Act.put, List.setIfInBounds_toArray, List.set_cons_zero, List.set_cons_succ, List.getElem_toArray, List.getElem_cons_succ, List.getElem_cons_zero]
          refine wpAnyH_ready (rs := [9]) (by kernel_rfl) (by simp) ?_
          refine AllReadyH.cons (o := _) rfl (fun K hK => ?_) AllReadyH.nil
          go_simp
          have HVa := Lib.hid (show Below wr.heap.size wr (wr.drew.alloc (.cells #[.int .i64 0, .int .i64 0] 23)) from (Below.refl wr.heap.size wr).drew.alloc (by simp) _)
          clear hHeld
          refine hK.out _ _ (KQ.out _ HVa.out) (fun hHeld => ?_)
          clear hK K
          try simp only [Act.put, List.setIfInBounds_toArray, List.set_cons_zero, List.set_cons_succ, List.getElem_toArray, List.getElem_cons_succ, List.getElem_cons_zero]
          obtain ⟨Z, hZe⟩ : ∃ Z, Z = (wr.alloc (.cells #[.int .i64 d0, .int .i64 d1] 23)).drew := ⟨_, rfl⟩
          have HZ := Lib.hid (show Bx2 Z wr.heap.size (.int .i64 d0) (.int .i64 d1) by rw [hZe]; exact Bx2.new wr _ _)
          have HBZ := Lib.hid (show Below wr.heap.size wr Z by rw [hZe]; exact ((Below.refl wr.heap.size wr).alloc (Nat.le_refl _) _).drew)
          refine wpAnyH_ready (rs := [10]) (by kernel_rfl) (by simp) ?_
          refine AllReadyH.cons (o := _) rfl (fun K hK => ?_) AllReadyH.nil
          go_simp
          rw [← hZe]
          clear hHeld
          refine hK.out _ _ (KQ.out _ HBZ.out) (fun hHeld => ?_)
          clear hK K
          try simp only [Act.put, List.setIfInBounds_toArray, List.set_cons_zero, List.set_cons_succ, List.getElem_toArray, List.getElem_cons_succ, List.getElem_cons_zero]
          clear hZe
          refine wpAnyH_done (by kernel_rfl) ?_ _
          clear hHeld
          clear x0 x1 k0 k1 k2 gl n0 n1
          have HXZ := Lib.hid (HX.out.keep HBZ.out)
          have x0 := HXZ.out.c0
          have x1 := HXZ.out.c1
          have xf0 := HXZ.out.f0 0
          have xf1 := HXZ.out.f0 1
          have z0 := HZ.out.c0
          have z1 := HZ.out.c1
          have HSET := Lib.hid (show Bx2 ((Z.setCell ⟨W1.heap.size, 0, none⟩ (.int .i64 (p0 + d0))).setCell ⟨W1.heap.size, 1, none⟩ (.int .i64 (p1 + d1))) W1.heap.size _ _ from HXZ.out.set _ _)
          have HSL := Lib.hid (show ((Z.setCell ⟨W1.heap.size, 0, none⟩ (.int .i64 (p0 + d0))).setCell ⟨W1.heap.size, 1, none⟩ (.int .i64 (p1 + d1))).ownsRow (W1.heap.size + 1) 3 1 (.slice (some ⟨g, 0, none⟩) m lc) m (flatN L) from own_set (own_set (own_below HL.out HBZ.out) _ _ _ (by omega)) _ _ _ (by omega))
          have HSB := Lib.hid (show Below W1.heap.size W1 ((Z.setCell ⟨W1.heap.size, 0, none⟩ (.int .i64 (p0 + d0))).setCell ⟨W1.heap.size, 1, none⟩ (.int .i64 (p1 + d1))) from ((HBW.out.trans (HBZ.out.mono HBW.out.size)).setCell (p := ⟨W1.heap.size, 0, none⟩) (Nat.le_refl _) _).setCell (p := ⟨W1.heap.size, 1, none⟩) (Nat.le_refl _) _)
          go_wp2_with fail
          go_roundw
          case rel => exact ⟨i + 1, by omega, by go_num, by rw [HSQ.out.1, HSQ.out.2]; exact HSET.out, HSL.out, HSB.out⟩
          case measure => simp [intOf]; omega
        · obtain rfl : i = m := by omega
          rw [HCLk.out] at x0
          rw [HCHk.out] at x1
          have HROWW := Lib.hid (own_below HROW.out HBW.out)
          have HSPk := Lib.hid (show spL (fun j => (curL ns j, curH ns j)) (k + 1) = spL (fun j => (curL ns j, curH ns j)) k ++ [.int .i64 (curL ns k), .int .i64 (curH ns k)] from HSP.out k)
          generalize curL ns k = cl at *
          generalize curH ns k = ch at *
          go_wp2_with (at_builtin; refine wpList_append_own _ rfl _ _ 36 rfl A.heap.size 23 i0 (.agg #[.int .i64 0, .int .i64 0]) 2 16 Try.underlying36 hi0 hz0 hz1 hz2 rfl (by decide) _ _ _ rfl (HROWW.out.alloc _) ⟨wr.heap.size, 0, none⟩ 1 1 [.int .i64 cl, .int .i64 ch] rfl rfl (two_new _ _ _) (by simp [Value.oneCell']) (by unfold maxLen; omega) (by omega) (by have := HWA.out.size; simp; omega) ?_; intro v' w5 hown' hgrow _; have HG := Lib.hid hgrow; have HO := Lib.hid hown'; obtain ⟨g', cap', rfl⟩ := ownsRow_succ hown'; clear hown' hgrow; have HB5 := Lib.hid (show Below A.heap.size A w5 from (HWA.out.alloc HWA.out.size _).grown HG.out (by have := HWA.out.size; simp; omega) (fun r e => (((HROWW.out.alloc (.cells #[.int .i64 cl, .int .i64 ch] 23)).lt r e).1))))
          have HR5 := Lib.hid (show w5.ownsRow A.heap.size 23 2 _ (k + 1) (spL (fun j => (curL ns j, curH ns j)) (k + 1)) by rw [HSPk.out]; exact HO.out)
          go_roundw
          case rel => exact ⟨k + 1, by omega, by go_num, HR5.out, HB5.out⟩
          case measure => simp [intOf]; omega
    · obtain rfl : k = n := by omega
      have HR := Lib.hid (show wr.ownsRow w.heap.size 23 2 (.slice oa k oc) k (spL (fun j => (curL ns j, curH ns j)) k) from own_base HROW.out HBA.out.size)
      go_wp2_with fail
      go_ret
      exact ⟨_, rfl, HR.out, HBA.out.trans (HB.out.mono HBA.out.size)⟩
end Go.Proofs.Ytdohfpnnmppdkaa

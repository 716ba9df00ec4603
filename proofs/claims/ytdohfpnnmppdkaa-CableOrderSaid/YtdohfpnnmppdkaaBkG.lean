/-
  Cables: Coordinated of the reference.
-/
import Derived.Test.YtdohfpnnmppdkaaBkF
import Derived.Test.YtdohfpnnmppdkaaBkA
import Derived.Test.YtdohfpnnmppdkaaCbW
import Derived.Test.YtdohfpnnmppdkaaCcA
namespace Go.Proofs.Ytdohfpnnmppdkaa
open Go.RowKit Go.Shelf
set_option linter.unusedSimpArgs false
attribute [local go_sem] Oper.semAt_some
theorem find_at {q : Nat → Bool} : ∀ (L : List Nat) (i : Nat), i < L.length → (∀ j, j < i → q (tn L j) = false) → q (tn L i) = true → (L.filter q).head? = some (tn L i)
  | [], i, h, _, _ => by simp at h
  | x :: L, 0, _, _, h => by
    rw [tn_zero] at h
    rw [List.filter_cons_of_pos h, tn_zero]; rfl
  | x :: L, i + 1, hi, hn, h => by
    have h0 := hn 0 (by omega)
    rw [tn_zero] at h0
    rw [List.filter_cons_of_neg (by rw [h0]; simp), tn_cons]
    rw [tn_cons] at h
    refine find_at L i (by simpa using hi) (fun j hj => ?_) h
    have := hn (j + 1) (by omega)
    rwa [tn_cons] at this
theorem find_none {q : Nat → Bool} {L : List Nat} (h : ∀ j, j < L.length → q (tn L j) = false) : (L.filter q).head? = none := by
  rw [List.head?_eq_none_iff, List.filter_eq_nil_iff]
  intro x hx
  obtain ⟨i, hi, e⟩ := List.getElem_of_mem hx
  have := h i hi
  rw [show tn L i = x by unfold tn; simp [hi, e]] at this
  rw [this]; simp
theorem pth_tn {P : Nat → Nat} (hP : Tree P) {k : Nat} (hk : 0 < k) (i : Nat) : tn (pth P k) (i + 1) = tn (pth P (P k)) i := by
  rw [pth_pos hP hk, tn_cons]
/-- the other breakers of a path, found one after another -/
theorem ear_at {ns : List Nd} (hv : AllN ns) {m : Int} {k i : Nat} (hk : k < ns.length) (hb : brk ns k = true) (hi : i + 1 < (pth (par ns) k).length) (hn : ∀ j, 1 ≤ j → j < i + 1 → (brk ns (tn (pth (par ns) k) j) && shB ns m k (tn (pth (par ns) k) j)) = false) (h : (brk ns (tn (pth (par ns) k) (i + 1)) && shB ns m k (tn (pth (par ns) k) (i + 1))) = true) : earN ns m k = some (tn (pth (par ns) k) (i + 1)) := by
  have h0 := brk_pos hv hk hb
  unfold earN
  rw [if_pos hb]
  rw [pth_tn hv.tree h0] at h ⊢
  rw [pth_pos hv.tree h0] at hi
  exact find_at (q := fun j => brk ns j && shB ns m k j) _ i (by simpa using hi) (fun j hj => by
    have := hn (j + 1) (by omega) (by omega)
    rw [pth_tn hv.tree h0] at this
    exact this) h
theorem ear_no {ns : List Nd} (hv : AllN ns) {m : Int} {k : Nat} (hk : k < ns.length) (hn : ∀ j, 1 ≤ j → j < (pth (par ns) k).length → (brk ns (tn (pth (par ns) k) j) && shB ns m k (tn (pth (par ns) k) j)) = false) : earN ns m k = none := by
  unfold earN
  split
  · rename_i hb
    have h0 := brk_pos hv hk hb
    refine find_none (q := fun j => brk ns j && shB ns m k j) fun j hj => ?_
    have := hn (j + 1) (by omega) (by rw [pth_pos hv.tree h0]; simpa using hj)
    rw [pth_tn hv.tree h0] at this
    exact this
  · rfl
theorem ear_off {ns : List Nd} {m : Int} {k : Nat} (hb : brk ns k = false) : earN ns m k = none := by unfold earN; rw [hb]; rfl
set_option maxRecDepth 100000 in
set_option maxHeartbeats 16000000 in
theorem rcoord_any (sl sh : Int) (sv : Value) (ns : List Nd) (m : Int) (w : World) (hN : Nds w.heap.size w sv ns) :
    Calls Try.prog 43 #[.agg #[.int .i64 sl, .int .i64 sh, sv], .int .i64 m] w fun e w' => e = .returned (.tuple #[.int .i64 (cooS sl sh ns m).1, .int .i64 (cooS sl sh ns m).2.1, .int .i64 (cooS sl sh ns m).2.2]) ∧ Below w.heap.size w w' := by
  have c25 := Lib.hid (fun W (h : Below w.heap.size w W) => refCheck_any sl sh sv ns W (hN.at h))
  have c107 := Lib.hid (fun (hv : ValidC sl sh ns) (k : Nat) (hk : k < ns.length) W (h : Below w.heap.size w W) => refpath_any sl sh sv ns hv.all hv.len k hk W (hN.at h))
  have cB := Lib.hid (fun (x : Nat) (hx : x < ns.length) W (h : Below w.heap.size w W) => show Calls Try.prog 59 #[.agg #[.int .i64 sl, .int .i64 sh, sv], .int .i64 (x : Int)] W fun e w' => e = .returned (.bool (brk ns x)) ∧ Below W.heap.size W w' by
    have q := refBreaker_any sl sh sv ns (x : Int) W (hN.at h)
    rw [show okS ns (x : Int) = brk ns x by unfold okS; rw [decide_eq_true (by omega), Bool.true_and, Int.toNat_natCast]] at q
    exact q)
  obtain ⟨a, cap, hsv, -, hcc⟩ := hN
  subst hsv
  unfold cooS
  by_cases hE : cabE sl sh ns = 0
  rotate_left
  · rw [if_neg hE]
    have hE' : (cabE sl sh ns != 0) = true := by simpa using hE
    clear c107 cB hcc hE
    generalize cabE sl sh ns = E at *
    generalize ns.length = n at *
    obtain ⟨A, hA⟩ : ∃ A, A = w.alloc (.cells #[.int .i64 sl, .int .i64 sh, .slice a n cap] 26) := ⟨_, rfl⟩
    have HBA := Lib.hid (show Below w.heap.size w A by rw [hA]; exact ((Below.refl _ _).alloc (Nat.le_refl _) _))
    have hltA : w.heap.size + 1 ≤ A.heap.size := by rw [hA]; simp
    have q0 : A.cell? ⟨w.heap.size, 0, none⟩ = some (.int .i64 sl) := by rw [hA]; exact (cellHB (World.alloc_heap_new w _) 0).trans (by simp)
    have q1 : A.cell? ⟨w.heap.size, 1, none⟩ = some (.int .i64 sh) := by rw [hA]; exact (cellHB (World.alloc_heap_new w _) 1).trans (by simp)
    have q2 : A.cell? ⟨w.heap.size, 2, none⟩ = some (.slice a n cap) := by rw [hA]; exact (cellHB (World.alloc_heap_new w _) 2).trans (by simp)
    have KK := Lib.hid (show ∀ W, Below A.heap.size A W → W.cell? ⟨w.heap.size, 0, none⟩ = some (.int .i64 sl) ∧ W.cell? ⟨w.heap.size, 1, none⟩ = some (.int .i64 sh) ∧ W.cell? ⟨w.heap.size, 2, none⟩ = some (.slice a n cap) from fun W h => ⟨(h.cell (p := ⟨w.heap.size, 0, none⟩) (by show w.heap.size < A.heap.size; omega)).trans q0, (h.cell (p := ⟨w.heap.size, 1, none⟩) (by show w.heap.size < A.heap.size; omega)).trans q1, (h.cell (p := ⟨w.heap.size, 2, none⟩) (by show w.heap.size < A.heap.size; omega)).trans q2⟩)
    have HLT := Lib.hid hltA
    clear hltA q0 q1 q2
    obtain ⟨k0, k1, k2⟩ := KK.out _ (Below.refl _ _)
    go_enter Try.func43, Try.ntmps43
    go_upto_region 1 with fail
    rw [← hA]
    clear hA
    go_wp2_with fail
    refine (c25.out _ HBA.out).mono ?_
    rintro e w1 ⟨rfl, hb⟩
    have HB1 := Lib.hid hb
    clear hb k0 k1 k2
    obtain ⟨k0, k1, k2⟩ := KK.out _ HB1.out
    go_wp2_with fail
    go_ret3
    exact ⟨by first | rfl | simp [*], HBA.out.trans (HB1.out.mono HBA.out.size)⟩
  rw [if_pos hE]
  have hv := cabE_ok hE
  rw [hE] at c25
  have hl := hv.len
  by_cases hm : 0 ≤ m ∧ m ≤ 1048576
  rotate_left
  · rw [if_neg hm]
    clear c107 cB hcc hE hv
    generalize ns.length = n at *
    by_cases hm0 : m < 0
    · clear hm
      obtain ⟨A, hA⟩ : ∃ A, A = w.alloc (.cells #[.int .i64 sl, .int .i64 sh, .slice a n cap] 26) := ⟨_, rfl⟩
      have HBA := Lib.hid (show Below w.heap.size w A by rw [hA]; exact ((Below.refl _ _).alloc (Nat.le_refl _) _))
      have hltA : w.heap.size + 1 ≤ A.heap.size := by rw [hA]; simp
      have q0 : A.cell? ⟨w.heap.size, 0, none⟩ = some (.int .i64 sl) := by rw [hA]; exact (cellHB (World.alloc_heap_new w _) 0).trans (by simp)
      have q1 : A.cell? ⟨w.heap.size, 1, none⟩ = some (.int .i64 sh) := by rw [hA]; exact (cellHB (World.alloc_heap_new w _) 1).trans (by simp)
      have q2 : A.cell? ⟨w.heap.size, 2, none⟩ = some (.slice a n cap) := by rw [hA]; exact (cellHB (World.alloc_heap_new w _) 2).trans (by simp)
      have KK := Lib.hid (show ∀ W, Below A.heap.size A W → W.cell? ⟨w.heap.size, 0, none⟩ = some (.int .i64 sl) ∧ W.cell? ⟨w.heap.size, 1, none⟩ = some (.int .i64 sh) ∧ W.cell? ⟨w.heap.size, 2, none⟩ = some (.slice a n cap) from fun W h => ⟨(h.cell (p := ⟨w.heap.size, 0, none⟩) (by show w.heap.size < A.heap.size; omega)).trans q0, (h.cell (p := ⟨w.heap.size, 1, none⟩) (by show w.heap.size < A.heap.size; omega)).trans q1, (h.cell (p := ⟨w.heap.size, 2, none⟩) (by show w.heap.size < A.heap.size; omega)).trans q2⟩)
      have HLT := Lib.hid hltA
      clear hltA q0 q1 q2
      obtain ⟨k0, k1, k2⟩ := KK.out _ (Below.refl _ _)
      go_enter Try.func43, Try.ntmps43
      go_upto_region 1 with fail
      rw [← hA]
      clear hA
      go_wp2_with fail
      refine (c25.out _ HBA.out).mono ?_
      rintro e w1 ⟨rfl, hb⟩
      have HB1 := Lib.hid hb
      clear hb k0 k1 k2
      obtain ⟨k0, k1, k2⟩ := KK.out _ HB1.out
      go_wp2_with fail
      go_ret3
      exact ⟨by first | rfl | simp [*], HBA.out.trans (HB1.out.mono HBA.out.size)⟩
    · have hm1 : 1048576 < m := by omega
      clear hm
      obtain ⟨A, hA⟩ : ∃ A, A = w.alloc (.cells #[.int .i64 sl, .int .i64 sh, .slice a n cap] 26) := ⟨_, rfl⟩
      have HBA := Lib.hid (show Below w.heap.size w A by rw [hA]; exact ((Below.refl _ _).alloc (Nat.le_refl _) _))
      have hltA : w.heap.size + 1 ≤ A.heap.size := by rw [hA]; simp
      have q0 : A.cell? ⟨w.heap.size, 0, none⟩ = some (.int .i64 sl) := by rw [hA]; exact (cellHB (World.alloc_heap_new w _) 0).trans (by simp)
      have q1 : A.cell? ⟨w.heap.size, 1, none⟩ = some (.int .i64 sh) := by rw [hA]; exact (cellHB (World.alloc_heap_new w _) 1).trans (by simp)
      have q2 : A.cell? ⟨w.heap.size, 2, none⟩ = some (.slice a n cap) := by rw [hA]; exact (cellHB (World.alloc_heap_new w _) 2).trans (by simp)
      have KK := Lib.hid (show ∀ W, Below A.heap.size A W → W.cell? ⟨w.heap.size, 0, none⟩ = some (.int .i64 sl) ∧ W.cell? ⟨w.heap.size, 1, none⟩ = some (.int .i64 sh) ∧ W.cell? ⟨w.heap.size, 2, none⟩ = some (.slice a n cap) from fun W h => ⟨(h.cell (p := ⟨w.heap.size, 0, none⟩) (by show w.heap.size < A.heap.size; omega)).trans q0, (h.cell (p := ⟨w.heap.size, 1, none⟩) (by show w.heap.size < A.heap.size; omega)).trans q1, (h.cell (p := ⟨w.heap.size, 2, none⟩) (by show w.heap.size < A.heap.size; omega)).trans q2⟩)
      have HLT := Lib.hid hltA
      clear hltA q0 q1 q2
      obtain ⟨k0, k1, k2⟩ := KK.out _ (Below.refl _ _)
      go_enter Try.func43, Try.ntmps43
      go_upto_region 1 with fail
      rw [← hA]
      clear hA
      go_wp2_with fail
      refine (c25.out _ HBA.out).mono ?_
      rintro e w1 ⟨rfl, hb⟩
      have HB1 := Lib.hid hb
      clear hb k0 k1 k2
      obtain ⟨k0, k1, k2⟩ := KK.out _ HB1.out
      go_wp2_with fail
      go_ret3
      exact ⟨by first | rfl | simp [*], HBA.out.trans (HB1.out.mono HBA.out.size)⟩
  rw [if_pos hm]
  obtain ⟨hm0, hm1⟩ := hm
  obtain ⟨nb, off, hab, hnb, -⟩ := hcc 0 hv.pos
  subst hab
  have HC := Lib.hid (show ∀ W k, Below w.heap.size w W → k < ns.length → W.cell? ⟨nb, off + k * 8 + 7, none⟩ = some (.int .i64 (nd ns k).del) from fun W k hb hk => by
    obtain ⟨b, o, h1, h2, e0, e1, e2, e3, e4, e5, e6, e7⟩ := hcc k hk
    simp only [Option.some.injEq, Addr.mk.injEq] at h1
    obtain ⟨rfl, rfl, -⟩ := h1
    exact (hb.cell (p := ⟨_, _, none⟩) h2).trans e7)
  have c7 := Lib.hid (c107.out hv)
  have HN := Lib.hid (cooR_none (ns := ns) (m := m))
  have HS := Lib.hid (fun (k j : Nat) => cooR_some (ns := ns) (m := m) (k := k) (j := j))
  have HEA := Lib.hid (fun (k i : Nat) => ear_at hv.all (m := m) (k := k) (i := i))
  have HEN := Lib.hid (fun (k : Nat) => ear_no hv.all (m := m) (k := k))
  have HEO := Lib.hid (fun (k : Nat) => ear_off (ns := ns) (m := m) (k := k))
  have HLT2 := Lib.hid (fun (k : Nat) (hk : k < ns.length) i (hi : i < (pth (par ns) k).length) => hv.all.path_lt hk (tn_mem hi))
  have HDB := Lib.hid (fun (k : Nat) (hk : k < ns.length) => (hv.all.node hk).2.2.2.2)
  have HLN := Lib.hid (fun (k : Nat) (hk : k < ns.length) => Nat.le_trans (pth_len hv.all.tree k) (show k + 1 ≤ 60 by omega))
  have HLP := Lib.hid (fun (k : Nat) => show 1 ≤ (pth (par ns) k).length by unfold pth pthF; simp)
  clear c107 hE hv hcc
  generalize cooR ns m = R at *
  generalize hnn : ns.length = n at *
  clear hnn
  obtain ⟨A, hA⟩ : ∃ A, A = w.alloc (.cells #[.int .i64 sl, .int .i64 sh, .slice (some ⟨nb, off, none⟩) n cap] 26) := ⟨_, rfl⟩
  have HBA := Lib.hid (show Below w.heap.size w A by rw [hA]; exact ((Below.refl _ _).alloc (Nat.le_refl _) _))
  have hltA : w.heap.size + 1 ≤ A.heap.size := by rw [hA]; simp
  have q0 : A.cell? ⟨w.heap.size, 0, none⟩ = some (.int .i64 sl) := by rw [hA]; exact (cellHB (World.alloc_heap_new w _) 0).trans (by simp)
  have q1 : A.cell? ⟨w.heap.size, 1, none⟩ = some (.int .i64 sh) := by rw [hA]; exact (cellHB (World.alloc_heap_new w _) 1).trans (by simp)
  have q2 : A.cell? ⟨w.heap.size, 2, none⟩ = some (.slice (some ⟨nb, off, none⟩) n cap) := by rw [hA]; exact (cellHB (World.alloc_heap_new w _) 2).trans (by simp)
  have KK := Lib.hid (show ∀ W, Below A.heap.size A W → W.cell? ⟨w.heap.size, 0, none⟩ = some (.int .i64 sl) ∧ W.cell? ⟨w.heap.size, 1, none⟩ = some (.int .i64 sh) ∧ W.cell? ⟨w.heap.size, 2, none⟩ = some (.slice (some ⟨nb, off, none⟩) n cap) from fun W h => ⟨(h.cell (p := ⟨w.heap.size, 0, none⟩) (by show w.heap.size < A.heap.size; omega)).trans q0, (h.cell (p := ⟨w.heap.size, 1, none⟩) (by show w.heap.size < A.heap.size; omega)).trans q1, (h.cell (p := ⟨w.heap.size, 2, none⟩) (by show w.heap.size < A.heap.size; omega)).trans q2⟩)
  have HLT := Lib.hid hltA
  clear hltA q0 q1 q2
  obtain ⟨k0, k1, k2⟩ := KK.out _ (Below.refl _ _)
  go_enter Try.func43, Try.ntmps43
  go_upto_region 1 with fail
  rw [← hA]
  clear hA
  go_wp2_with fail
  refine (c25.out _ HBA.out).mono ?_
  rintro e w1 ⟨rfl, hb⟩
  have HB1 := Lib.hid hb
  clear hb k0 k1 k2
  obtain ⟨k0, k1, k2⟩ := KK.out _ HB1.out
  go_wp2_with fail
  go_loopw [8] (fun iv wr => ∃ k : Nat, k ≤ n ∧ iv = .int .i64 k ∧ cooL ns m k = none ∧ Below A.heap.size A wr) (fun iv _ => n - (intOf iv).toNat)
  case atStart => exact ⟨0, Nat.zero_le _, rfl, rfl, HB1.out⟩
  case round =>
    obtain ⟨k, hk, rfl, hco, hB⟩ := hrel
    have HCO := Lib.hid hco
    have HB := Lib.hid hB
    clear hco hB k0 k1 k2
    obtain ⟨k0, k1, k2⟩ := KK.out _ HB.out
    by_cases hlt : k < n
    · have hki : (k : Int) < (n : Int) := by omega
      have HWk := Lib.hid (HBA.out.trans (HB.out.mono HBA.out.size))
      have HSk := Lib.hid (fun j => HS.out k j hlt HCO.out)
      have HNk := Lib.hid (fun h => cooL_step_none (ns := ns) (m := m) HCO.out h)
      have HEAk := Lib.hid (fun i => HEA.out k i hlt)
      have HENk := Lib.hid (HEN.out k hlt)
      have HEOk := Lib.hid (HEO.out k)
      have HLk := Lib.hid (HLT2.out k hlt)
      have hdk := HDB.out k hlt
      have hln := HLN.out k hlt
      have hlp := HLP.out k
      have cBk := Lib.hid (cB.out k hlt)
      obtain ⟨W1, rfl⟩ : ∃ W1, W1 = wr := ⟨_, rfl⟩
      go_wp2_with fail
      refine (c7.out k hlt _ HWk.out).mono ?_
      rintro e w2 ⟨lv, rfl, hr, hb⟩
      have HL := Lib.hid hr
      have HB2 := Lib.hid (HB.out.trans (hb.mono HB.out.size))
      obtain ⟨la, lc, rfl⟩ := own_form hr
      have hcn : (nd ns k).del = (nd ns k).del := rfl
      clear hr hb k0 k1 k2 hcn
      obtain ⟨k0, k1, k2⟩ := KK.out _ HB2.out
      generalize pth (par ns) k = L at *
      generalize L.length = pm at *
      go_wp2_with fail
      go_loopw [10] (fun iv W => ∃ i : Nat, i + 1 ≤ pm ∧ iv = .int .i64 ((i + 1 : Nat) : Int) ∧ (∀ j, 1 ≤ j → j < i + 1 → (brk ns (tn L j) && shB ns m k (tn L j)) = false) ∧ Below w2.heap.size w2 W) (fun iv _ => pm - (intOf iv).toNat)
      case atStart => exact ⟨0, hlp, rfl, fun j h1 h2 => by omega, Below.refl _ _⟩
      case round =>
        obtain ⟨i, hi, rfl, hnf, hBW⟩ := hrel
        have HNF := Lib.hid hnf
        have HBW := Lib.hid hBW
        clear hnf hBW k0 k1 k2
        have HWA := Lib.hid (HB2.out.trans (HBW.out.mono HB2.out.size))
        have HWW := Lib.hid (HBA.out.trans (HWA.out.mono HBA.out.size))
        obtain ⟨k0, k1, k2⟩ := KK.out _ HWA.out
        by_cases him : i + 1 < pm
        · have hii : ((i + 1 : Nat) : Int) < (pm : Int) := by omega
          cases hbk : brk ns k
          · have HX := Lib.hid (HNk.out (HEOk.out hbk))
            have cb := cBk.out wr HWW.out
            rw [hbk] at cb
            clear hbk
            go_wp2_with fail
            refine cb.mono ?_
            rintro e w4 ⟨rfl, hb⟩
            have HB4 := Lib.hid (HWA.out.trans (hb.mono HWA.out.size))
            clear hb k0 k1 k2
            obtain ⟨k0, k1, k2⟩ := KK.out _ HB4.out
            go_wp2_with fail
            go_roundw
            case rel => exact ⟨k + 1, by omega, by go_num, HX.out, HB4.out⟩
            case measure => simp [intOf]; omega
          · have HBK := Lib.hid hbk
            have cb := cBk.out wr HWW.out
            rw [hbk] at cb
            clear hbk
            go_wp2_with fail
            refine cb.mono ?_
            rintro e w4 ⟨rfl, hb⟩
            have HBW4 := Lib.hid (HBW.out.trans (hb.mono HBW.out.size))
            have HB4 := Lib.hid (HWA.out.trans (hb.mono HWA.out.size))
            clear hb k0 k1 k2
            obtain ⟨k0, k1, k2⟩ := KK.out _ HB4.out
            have HWW4 := Lib.hid (HBA.out.trans (HB4.out.mono HBA.out.size))
            obtain ⟨g, lc', he, hlc, hg1, hg2, gl⟩ := own3_cell (own_below HL.out HBW4.out) him
            simp only [Value.slice.injEq] at he
            obtain ⟨rfl, -, rfl⟩ := he
            have hxn := HLk.out _ him
            have d1 := HC.out _ _ HWW4.out hxn
            have d2 := HC.out _ _ HWW4.out hlt
            have hdx := HDB.out _ hxn
            have cx := Lib.hid (cB.out _ hxn)
            have HF := Lib.hid (HEAk.out i HBK.out him HNF.out)
            have HNX := Lib.hid (show (brk ns (tn L (i + 1)) && shB ns m k (tn L (i + 1))) = false → ∀ j, 1 ≤ j → j < i + 1 + 1 → (brk ns (tn L j) && shB ns m k (tn L j)) = false from fun h j h1 h2 => by
              rcases (show j < i + 1 ∨ j = i + 1 by omega) with e | e
              · exact HNF.out j h1 e
              · rw [e]; exact h)
            have HSX := Lib.hid (show shB ns m k (tn L (i + 1)) = decide ((nd ns (tn L (i + 1))).del < (nd ns k).del + m) from rfl)
            generalize tn L (i + 1) = x at *
            have hxi : (x : Int) < (n : Int) := by omega
            have HWD := Lib.hid (show IntKind.wrap .i64 ((nd ns k).del + m) = (nd ns k).del + m by rw [IntKind.wrap_i64]; omega)
            generalize (nd ns x).del = dx at *
            generalize (nd ns k).del = dk at *
            have KQ := Lib.hid (show ∀ Z, Below w4.heap.size w4 Z → Z.cell? ⟨w.heap.size, 0, none⟩ = some (.int .i64 sl) ∧ Z.cell? ⟨w.heap.size, 1, none⟩ = some (.int .i64 sh) ∧ Z.cell? ⟨w.heap.size, 2, none⟩ = some (.slice (some ⟨nb, off, none⟩) n cap) ∧ Z.cell? ⟨g, i + 1, none⟩ = some (.int .i64 (x : Int)) ∧ Z.cell? ⟨nb, off + x * 8 + 7, none⟩ = some (.int .i64 dx) ∧ Z.cell? ⟨nb, off + k * 8 + 7, none⟩ = some (.int .i64 dk) from fun Z h => by
              have hs := HBA.out.size
              have hs2 := HB4.out.size
              have hs3 := HLT.out
              exact ⟨(h.cell (p := ⟨w.heap.size, 0, none⟩) (by show w.heap.size < w4.heap.size; omega)).trans k0, (h.cell (p := ⟨w.heap.size, 1, none⟩) (by show w.heap.size < w4.heap.size; omega)).trans k1, (h.cell (p := ⟨w.heap.size, 2, none⟩) (by show w.heap.size < w4.heap.size; omega)).trans k2, (h.cell (p := ⟨g, _, none⟩) (by show g < w4.heap.size; omega)).trans gl, (h.cell (p := ⟨nb, _, none⟩) (by show nb < w4.heap.size; omega)).trans d1, (h.cell (p := ⟨nb, _, none⟩) (by show nb < w4.heap.size; omega)).trans d2⟩)
            have HDR := Lib.hid (show Below w4.heap.size w4 w4.drew from (Below.refl _ _).drew)
            cases hbx : brk ns x
            · have HX := Lib.hid (HNX.out (by rw [hbx]; rfl))
              rw [hbx] at cx
              clear hbx
              go_upto_region 13 with fail
              refine wp_region_held_drew (S := fun w' => w'.cell? ⟨w.heap.size, 0, none⟩ = some (Value.int .i64 sl) ∧ w'.cell? ⟨w.heap.size, 1, none⟩ = some (Value.int .i64 sh) ∧ w'.cell? ⟨w.heap.size, 2, none⟩ = some (Value.slice (some ⟨nb, off, none⟩) n cap) ∧ w'.cell? ⟨g, i + 1, none⟩ = some (Value.int .i64 (x : Int)) ∧ w'.cell? ⟨nb, off + x * 8 + 7, none⟩ = some (Value.int .i64 dx) ∧ w'.cell? ⟨nb, off + k * 8 + 7, none⟩ = some (Value.int .i64 dk)) (by kernel_rfl) ⟨by simpa [go_sem] using k0, by simpa [go_sem] using k1, by simpa [go_sem] using k2, by simpa [go_sem] using gl, by simpa [go_sem] using d1, by simpa [go_sem] using d2⟩ (fun hHeld => ?_)
              refine wpAnyH_take (i := 0) (oi := _) (v := Value.agg #[Value.int .i64 sl, Value.int .i64 sh, Value.slice (some ⟨nb, off, none⟩) n cap]) rfl (by kernel_rfl) (by kernel_rfl) (by kernel_rfl) (fun _ _ _ h => h) (Or.inl ⟨by rfl, fun w' hSw => ?_⟩) hHeld ?_
              · obtain ⟨t0, t1, t2, t3, t4, t5⟩ := hSw
                go_simp
                try simp [*]
                try (intro hh; exfalso; omega)
                try omega
              try simp only [Act.put, List.setIfInBounds_toArray, List.set_cons_zero, List.set_cons_succ, List.getElem_toArray, List.getElem_cons_succ, List.getElem_cons_zero]
              refine wpAnyH_take (i := 1) (oi := _) (v := Value.slice (some ⟨g, 0, none⟩) pm lc) rfl (by kernel_rfl) (by kernel_rfl) (by kernel_rfl) (fun _ _ _ h => h) (Or.inl ⟨by rfl, fun w' hSw => ?_⟩) hHeld ?_
              · obtain ⟨t0, t1, t2, t3, t4, t5⟩ := hSw
                go_simp
                try simp [*]
                try (intro hh; exfalso; omega)
                try omega
              try simp only [Act.put, List.setIfInBounds_toArray, List.set_cons_zero, List.set_cons_succ, List.getElem_toArray, List.getElem_cons_succ, List.getElem_cons_zero]
              refine wpAnyH_take (i := 2) (oi := _) (v := Value.int .i64 ((i + 1 : Nat) : Int)) rfl (by kernel_rfl) (by kernel_rfl) (by kernel_rfl) (fun _ _ _ h => h) (Or.inl ⟨by rfl, fun w' hSw => ?_⟩) hHeld ?_
              · obtain ⟨t0, t1, t2, t3, t4, t5⟩ := hSw
                go_simp
                try simp [*]
                try (intro hh; exfalso; omega)
                try omega
              try simp only [Act.put, List.setIfInBounds_toArray, List.set_cons_zero, List.set_cons_succ, List.getElem_toArray, List.getElem_cons_succ, List.getElem_cons_zero]
              refine wpAnyH_take (i := 3) (oi := _) (v := Value.pointer (some ⟨g, i + 1, none⟩)) rfl (by kernel_rfl) (by kernel_rfl) (by kernel_rfl) (fun _ _ _ h => h) (Or.inl ⟨by rfl, fun w' hSw => ?_⟩) hHeld ?_
              · obtain ⟨t0, t1, t2, t3, t4, t5⟩ := hSw
                go_simp
                try simp [*]
                try (intro hh; exfalso; omega)
                try omega
              try simp only [Act.put, List.setIfInBounds_toArray, List.set_cons_zero, List.set_cons_succ, List.getElem_toArray, List.getElem_cons_succ, List.getElem_cons_zero]
              refine wpAnyH_take (i := 4) (oi := _) (v := Value.int .i64 (x : Int)) rfl (by kernel_rfl) (by kernel_rfl) (by kernel_rfl) (fun _ _ _ h => h) (Or.inl ⟨by rfl, fun w' hSw => ?_⟩) hHeld ?_
              · obtain ⟨t0, t1, t2, t3, t4, t5⟩ := hSw
                go_simp
                try simp [*]
                try (intro hh; exfalso; omega)
                try omega
              try simp only [Act.put, List.setIfInBounds_toArray, List.set_cons_zero, List.set_cons_succ, List.getElem_toArray, List.getElem_cons_succ, List.getElem_cons_zero]
              refine wpAnyH_ready (rs := [5]) (by kernel_rfl) (by simp) ?_
              refine AllReadyH.cons (o := _) rfl (fun K hK => ?_) AllReadyH.nil
              go_simp
              go_at_call 59
              refine Calls.mono (cx.out _ (HWW4.out.trans (HDR.out.mono HWW4.out.size))) ?_
              rintro e v1 ⟨he, hb⟩
              try rw [hbx] at he
              subst he
              have HD1 := Lib.hid (HDR.out.trans (hb.mono HDR.out.size))
              clear hb
              clear hHeld
              refine hK.out _ _ (KQ.out _ HD1.out) (fun hHeld => ?_)
              clear hK K
              try simp only [Act.put, List.setIfInBounds_toArray, List.set_cons_zero, List.set_cons_succ, List.getElem_toArray, List.getElem_cons_succ, List.getElem_cons_zero]
              refine wpAnyH_take (i := 6) (oi := _) (v := Value.bool false) rfl (by kernel_rfl) (by kernel_rfl) (by kernel_rfl) (fun _ _ _ h => h) (Or.inl ⟨by rfl, fun w' hSw => ?_⟩) hHeld ?_
              · obtain ⟨t0, t1, t2, t3, t4, t5⟩ := hSw
                go_simp
                try simp [*]
                try (intro hh; exfalso; omega)
                try omega
              try simp only [Act.put, List.setIfInBounds_toArray, List.set_cons_zero, List.set_cons_succ, List.getElem_toArray, List.getElem_cons_succ, List.getElem_cons_zero]
              refine wpAnyH_take (i := 7) (oi := _) (v := undef) rfl (by kernel_rfl) (by kernel_rfl) (by kernel_rfl) (fun _ _ _ h => h) (Or.inr ⟨by rfl, rfl⟩) hHeld ?_
              try simp only [Act.put, List.setIfInBounds_toArray, List.set_cons_zero, List.set_cons_succ, List.getElem_toArray, List.getElem_cons_succ, List.getElem_cons_zero]
              refine wpAnyH_take (i := 8) (oi := _) (v := undef) rfl (by kernel_rfl) (by kernel_rfl) (by kernel_rfl) (fun _ _ _ h => h) (Or.inr ⟨by rfl, rfl⟩) hHeld ?_
              try simp only [Act.put, List.setIfInBounds_toArray, List.set_cons_zero, List.set_cons_succ, List.getElem_toArray, List.getElem_cons_succ, List.getElem_cons_zero]
              refine wpAnyH_take (i := 9) (oi := _) (v := undef) rfl (by kernel_rfl) (by kernel_rfl) (by kernel_rfl) (fun _ _ _ h => h) (Or.inr ⟨by rfl, rfl⟩) hHeld ?_
              try simp only [Act.put, List.setIfInBounds_toArray, List.set_cons_zero, List.set_cons_succ, List.getElem_toArray, List.getElem_cons_succ, List.getElem_cons_zero]
              refine wpAnyH_take (i := 10) (oi := _) (v := undef) rfl (by kernel_rfl) (by kernel_rfl) (by kernel_rfl) (fun _ _ _ h => h) (Or.inr ⟨by rfl, rfl⟩) hHeld ?_
              try simp only [Act.put, List.setIfInBounds_toArray, List.set_cons_zero, List.set_cons_succ, List.getElem_toArray, List.getElem_cons_succ, List.getElem_cons_zero]
              refine wpAnyH_take (i := 11) (oi := _) (v := undef) rfl (by kernel_rfl) (by kernel_rfl) (by kernel_rfl) (fun _ _ _ h => h) (Or.inr ⟨by rfl, rfl⟩) hHeld ?_
              try simp only [Act.put, List.setIfInBounds_toArray, List.set_cons_zero, List.set_cons_succ, List.getElem_toArray, List.getElem_cons_succ, List.getElem_cons_zero]
              refine wpAnyH_take (i := 12) (oi := _) (v := undef) rfl (by kernel_rfl) (by kernel_rfl) (by kernel_rfl) (fun _ _ _ h => h) (Or.inr ⟨by rfl, rfl⟩) hHeld ?_
              try simp only [Act.put, List.setIfInBounds_toArray, List.set_cons_zero, List.set_cons_succ, List.getElem_toArray, List.getElem_cons_succ, List.getElem_cons_zero]
              refine wpAnyH_take (i := 13) (oi := _) (v := undef) rfl (by kernel_rfl) (by kernel_rfl) (by kernel_rfl) (fun _ _ _ h => h) (Or.inr ⟨by rfl, rfl⟩) hHeld ?_
              try simp only [Act.put, List.setIfInBounds_toArray, List.set_cons_zero, List.set_cons_succ, List.getElem_toArray, List.getElem_cons_succ, List.getElem_cons_zero]
              refine wpAnyH_take (i := 14) (oi := _) (v := undef) rfl (by kernel_rfl) (by kernel_rfl) (by kernel_rfl) (fun _ _ _ h => h) (Or.inr ⟨by rfl, rfl⟩) hHeld ?_
              try simp only [Act.put, List.setIfInBounds_toArray, List.set_cons_zero, List.set_cons_succ, List.getElem_toArray, List.getElem_cons_succ, List.getElem_cons_zero]
              refine wpAnyH_take (i := 15) (oi := _) (v := undef) rfl (by kernel_rfl) (by kernel_rfl) (by kernel_rfl) (fun _ _ _ h => h) (Or.inr ⟨by rfl, rfl⟩) hHeld ?_
              try simp only [Act.put, List.setIfInBounds_toArray, List.set_cons_zero, List.set_cons_succ, List.getElem_toArray, List.getElem_cons_succ, List.getElem_cons_zero]
              refine wpAnyH_take (i := 16) (oi := _) (v := undef) rfl (by kernel_rfl) (by kernel_rfl) (by kernel_rfl) (fun _ _ _ h => h) (Or.inr ⟨by rfl, rfl⟩) hHeld ?_
              try simp only [Act.put, List.setIfInBounds_toArray, List.set_cons_zero, List.set_cons_succ, List.getElem_toArray, List.getElem_cons_succ, List.getElem_cons_zero]
              refine wpAnyH_take (i := 17) (oi := _) (v := undef) rfl (by kernel_rfl) (by kernel_rfl) (by kernel_rfl) (fun _ _ _ h => h) (Or.inr ⟨by rfl, rfl⟩) hHeld ?_
              try simp only [Act.put, List.setIfInBounds_toArray, List.set_cons_zero, List.set_cons_succ, List.getElem_toArray, List.getElem_cons_succ, List.getElem_cons_zero]
              refine wpAnyH_take (i := 18) (oi := _) (v := undef) rfl (by kernel_rfl) (by kernel_rfl) (by kernel_rfl) (fun _ _ _ h => h) (Or.inr ⟨by rfl, rfl⟩) hHeld ?_
              try simp only [Act.put, List.setIfInBounds_toArray, List.set_cons_zero, List.set_cons_succ, List.getElem_toArray, List.getElem_cons_succ, List.getElem_cons_zero]
              refine wpAnyH_take (i := 19) (oi := _) (v := undef) rfl (by kernel_rfl) (by kernel_rfl) (by kernel_rfl) (fun _ _ _ h => h) (Or.inr ⟨by rfl, rfl⟩) hHeld ?_
              try simp only [Act.put, List.setIfInBounds_toArray, List.set_cons_zero, List.set_cons_succ, List.getElem_toArray, List.getElem_cons_succ, List.getElem_cons_zero]
              refine wpAnyH_take (i := 20) (oi := _) (v := undef) rfl (by kernel_rfl) (by kernel_rfl) (by kernel_rfl) (fun _ _ _ h => h) (Or.inr ⟨by rfl, rfl⟩) hHeld ?_
              try simp only [Act.put, List.setIfInBounds_toArray, List.set_cons_zero, List.set_cons_succ, List.getElem_toArray, List.getElem_cons_succ, List.getElem_cons_zero]
              refine wpAnyH_take (i := 21) (oi := _) (v := undef) rfl (by kernel_rfl) (by kernel_rfl) (by kernel_rfl) (fun _ _ _ h => h) (Or.inr ⟨by rfl, rfl⟩) hHeld ?_
              try simp only [Act.put, List.setIfInBounds_toArray, List.set_cons_zero, List.set_cons_succ, List.getElem_toArray, List.getElem_cons_succ, List.getElem_cons_zero]
              refine wpAnyH_take (i := 22) (oi := _) (v := undef) rfl (by kernel_rfl) (by kernel_rfl) (by kernel_rfl) (fun _ _ _ h => h) (Or.inr ⟨by rfl, rfl⟩) hHeld ?_
              try simp only [Act.put, List.setIfInBounds_toArray, List.set_cons_zero, List.set_cons_succ, List.getElem_toArray, List.getElem_cons_succ, List.getElem_cons_zero]
              refine wpAnyH_take (i := 23) (oi := _) (v := undef) rfl (by kernel_rfl) (by kernel_rfl) (by kernel_rfl) (fun _ _ _ h => h) (Or.inr ⟨by rfl, rfl⟩) hHeld ?_
              try simp only [Act.put, List.setIfInBounds_toArray, List.set_cons_zero, List.set_cons_succ, List.getElem_toArray, List.getElem_cons_succ, List.getElem_cons_zero]
              refine wpAnyH_take (i := 24) (oi := _) (v := undef) rfl (by kernel_rfl) (by kernel_rfl) (by kernel_rfl) (fun _ _ _ h => h) (Or.inr ⟨by rfl, rfl⟩) hHeld ?_
              try simp only [Act.put, List.setIfInBounds_toArray, List.set_cons_zero, List.set_cons_succ, List.getElem_toArray, List.getElem_cons_succ, List.getElem_cons_zero]
              refine wpAnyH_take (i := 25) (oi := _) (v := Value.bool false) rfl (by kernel_rfl) (by kernel_rfl) (by kernel_rfl) (fun _ _ _ h => h) (Or.inl ⟨by rfl, fun w' hSw => ?_⟩) hHeld ?_
              · obtain ⟨t0, t1, t2, t3, t4, t5⟩ := hSw
                go_simp
                try simp [*]
                try (intro hh; exfalso; omega)
                try omega
              try simp only [Act.put, List.setIfInBounds_toArray, List.set_cons_zero, List.set_cons_succ, List.getElem_toArray, List.getElem_cons_succ, List.getElem_cons_zero]
              refine wpAnyH_done (by kernel_rfl) ?_ _
              clear hHeld
              have HV1 := Lib.hid (HB4.out.trans (HD1.out.mono HB4.out.size))
              clear k0 k1 k2 gl d1 d2
              obtain ⟨k0, k1, k2, gl, d1, d2⟩ := KQ.out _ HD1.out
              go_wp2_with fail
              go_roundw
              case rel => exact ⟨i + 1, by omega, by go_num, HX.out, HBW4.out.trans (HD1.out.mono HBW4.out.size)⟩
              case measure => simp [intOf]; omega
            · rw [hbx] at cx
              have hw1 := HWD.out
              by_cases hs : dx < dk + m
              · have hsd : decide (dx < dk + m) = true := decide_eq_true hs
                have HX := Lib.hid (HSk.out x (HF.out (by rw [hbx, HSX.out, hsd]; rfl)))
                clear hbx
                go_upto_region 13 with fail
                refine wp_region_held_drew (S := fun w' => w'.cell? ⟨w.heap.size, 0, none⟩ = some (Value.int .i64 sl) ∧ w'.cell? ⟨w.heap.size, 1, none⟩ = some (Value.int .i64 sh) ∧ w'.cell? ⟨w.heap.size, 2, none⟩ = some (Value.slice (some ⟨nb, off, none⟩) n cap) ∧ w'.cell? ⟨g, i + 1, none⟩ = some (Value.int .i64 (x : Int)) ∧ w'.cell? ⟨nb, off + x * 8 + 7, none⟩ = some (Value.int .i64 dx) ∧ w'.cell? ⟨nb, off + k * 8 + 7, none⟩ = some (Value.int .i64 dk)) (by kernel_rfl) ⟨by simpa [go_sem] using k0, by simpa [go_sem] using k1, by simpa [go_sem] using k2, by simpa [go_sem] using gl, by simpa [go_sem] using d1, by simpa [go_sem] using d2⟩ (fun hHeld => ?_)
                refine wpAnyH_take (i := 0) (oi := _) (v := Value.agg #[Value.int .i64 sl, Value.int .i64 sh, Value.slice (some ⟨nb, off, none⟩) n cap]) rfl (by kernel_rfl) (by kernel_rfl) (by kernel_rfl) (fun _ _ _ h => h) (Or.inl ⟨by rfl, fun w' hSw => ?_⟩) hHeld ?_
                · obtain ⟨t0, t1, t2, t3, t4, t5⟩ := hSw
                  go_simp
                  try simp [*]
                  try (intro hh; exfalso; omega)
                  try omega
                try simp only [Act.put, List.setIfInBounds_toArray, List.set_cons_zero, List.set_cons_succ, List.getElem_toArray, List.getElem_cons_succ, List.getElem_cons_zero]
                refine wpAnyH_take (i := 1) (oi := _) (v := Value.slice (some ⟨g, 0, none⟩) pm lc) rfl (by kernel_rfl) (by kernel_rfl) (by kernel_rfl) (fun _ _ _ h => h) (Or.inl ⟨by rfl, fun w' hSw => ?_⟩) hHeld ?_
                · obtain ⟨t0, t1, t2, t3, t4, t5⟩ := hSw
                  go_simp
                  try simp [*]
                  try (intro hh; exfalso; omega)
                  try omega
                try simp only [Act.put, List.setIfInBounds_toArray, List.set_cons_zero, List.set_cons_succ, List.getElem_toArray, List.getElem_cons_succ, List.getElem_cons_zero]
                refine wpAnyH_take (i := 2) (oi := _) (v := Value.int .i64 ((i + 1 : Nat) : Int)) rfl (by kernel_rfl) (by kernel_rfl) (by kernel_rfl) (fun _ _ _ h => h) (Or.inl ⟨by rfl, fun w' hSw => ?_⟩) hHeld ?_
                · obtain ⟨t0, t1, t2, t3, t4, t5⟩ := hSw
                  go_simp
                  try simp [*]
                  try (intro hh; exfalso; omega)
                  try omega
                try simp only [Act.put, List.setIfInBounds_toArray, List.set_cons_zero, List.set_cons_succ, List.getElem_toArray, List.getElem_cons_succ, List.getElem_cons_zero]
                refine wpAnyH_take (i := 3) (oi := _) (v := Value.pointer (some ⟨g, i + 1, none⟩)) rfl (by kernel_rfl) (by kernel_rfl) (by kernel_rfl) (fun _ _ _ h => h) (Or.inl ⟨by rfl, fun w' hSw => ?_⟩) hHeld ?_
                · obtain ⟨t0, t1, t2, t3, t4, t5⟩ := hSw
                  go_simp
                  try simp [*]
                  try (intro hh; exfalso; omega)
                  try omega
                try simp only [Act.put, List.setIfInBounds_toArray, List.set_cons_zero, List.set_cons_succ, List.getElem_toArray, List.getElem_cons_succ, List.getElem_cons_zero]
                refine wpAnyH_take (i := 4) (oi := _) (v := Value.int .i64 (x : Int)) rfl (by kernel_rfl) (by kernel_rfl) (by kernel_rfl) (fun _ _ _ h => h) (Or.inl ⟨by rfl, fun w' hSw => ?_⟩) hHeld ?_
                · obtain ⟨t0, t1, t2, t3, t4, t5⟩ := hSw
                  go_simp
                  try simp [*]
                  try (intro hh; exfalso; omega)
                  try omega
                try simp only [Act.put, List.setIfInBounds_toArray, List.set_cons_zero, List.set_cons_succ, List.getElem_toArray, List.getElem_cons_succ, List.getElem_cons_zero]
                refine wpAnyH_ready (rs := [5]) (by kernel_rfl) (by simp) ?_
                refine AllReadyH.cons (o := _) rfl (fun K hK => ?_) AllReadyH.nil
                go_simp
                go_at_call 59
                refine Calls.mono (cx.out _ (HWW4.out.trans (HDR.out.mono HWW4.out.size))) ?_
                rintro e v1 ⟨he, hb⟩
                try rw [hbx] at he
                subst he
                have HD1 := Lib.hid (HDR.out.trans (hb.mono HDR.out.size))
                clear hb
                clear hHeld
                refine hK.out _ _ (KQ.out _ HD1.out) (fun hHeld => ?_)
                clear hK K
                try simp only [Act.put, List.setIfInBounds_toArray, List.set_cons_zero, List.set_cons_succ, List.getElem_toArray, List.getElem_cons_succ, List.getElem_cons_zero]
                refine wpAnyH_take (i := 6) (oi := _) (v := Value.bool true) rfl (by kernel_rfl) (by kernel_rfl) (by kernel_rfl) (fun _ _ _ h => h) (Or.inl ⟨by rfl, fun w' hSw => ?_⟩) hHeld ?_
                · obtain ⟨t0, t1, t2, t3, t4, t5⟩ := hSw
                  go_simp
                  try simp [*]
                  try (intro hh; exfalso; omega)
                  try omega
                try simp only [Act.put, List.setIfInBounds_toArray, List.set_cons_zero, List.set_cons_succ, List.getElem_toArray, List.getElem_cons_succ, List.getElem_cons_zero]
                refine wpAnyH_take (i := 7) (oi := _) (v := Value.pointer (some ⟨w.heap.size, 2, none⟩)) rfl (by kernel_rfl) (by kernel_rfl) (by kernel_rfl) (fun _ _ _ h => h) (Or.inl ⟨by rfl, fun w' hSw => ?_⟩) hHeld ?_
                · obtain ⟨t0, t1, t2, t3, t4, t5⟩ := hSw
                  go_simp
                  try simp [*]
                  try (intro hh; exfalso; omega)
                  try omega
                try simp only [Act.put, List.setIfInBounds_toArray, List.set_cons_zero, List.set_cons_succ, List.getElem_toArray, List.getElem_cons_succ, List.getElem_cons_zero]
                refine wpAnyH_take (i := 8) (oi := _) (v := Value.slice (some ⟨nb, off, none⟩) n cap) rfl (by kernel_rfl) (by kernel_rfl) (by kernel_rfl) (fun _ _ _ h => h) (Or.inl ⟨by rfl, fun w' hSw => ?_⟩) hHeld ?_
                · obtain ⟨t0, t1, t2, t3, t4, t5⟩ := hSw
                  go_simp
                  try simp [*]
                  try (intro hh; exfalso; omega)
                  try omega
                try simp only [Act.put, List.setIfInBounds_toArray, List.set_cons_zero, List.set_cons_succ, List.getElem_toArray, List.getElem_cons_succ, List.getElem_cons_zero]
                refine wpAnyH_take (i := 9) (oi := _) (v := Value.slice (some ⟨g, 0, none⟩) pm lc) rfl (by kernel_rfl) (by kernel_rfl) (by kernel_rfl) (fun _ _ _ h => h) (Or.inl ⟨by rfl, fun w' hSw => ?_⟩) hHeld ?_
                · obtain ⟨t0, t1, t2, t3, t4, t5⟩ := hSw
                  go_simp
                  try simp [*]
                  try (intro hh; exfalso; omega)
                  try omega
                try simp only [Act.put, List.setIfInBounds_toArray, List.set_cons_zero, List.set_cons_succ, List.getElem_toArray, List.getElem_cons_succ, List.getElem_cons_zero]
                refine wpAnyH_take (i := 10) (oi := _) (v := Value.int .i64 ((i + 1 : Nat) : Int)) rfl (by kernel_rfl) (by kernel_rfl) (by kernel_rfl) (fun _ _ _ h => h) (Or.inl ⟨by rfl, fun w' hSw => ?_⟩) hHeld ?_
                · obtain ⟨t0, t1, t2, t3, t4, t5⟩ := hSw
                  go_simp
                  try simp [*]
                  try (intro hh; exfalso; omega)
                  try omega
                try simp only [Act.put, List.setIfInBounds_toArray, List.set_cons_zero, List.set_cons_succ, List.getElem_toArray, List.getElem_cons_succ, List.getElem_cons_zero]
                refine wpAnyH_take (i := 11) (oi := _) (v := Value.pointer (some ⟨g, i + 1, none⟩)) rfl (by kernel_rfl) (by kernel_rfl) (by kernel_rfl) (fun _ _ _ h => h) (Or.inl ⟨by rfl, fun w' hSw => ?_⟩) hHeld ?_
                · obtain ⟨t0, t1, t2, t3, t4, t5⟩ := hSw
                  go_simp
                  try simp [*]
                  try (intro hh; exfalso; omega)
                  try omega
                try simp only [Act.put, List.setIfInBounds_toArray, List.set_cons_zero, List.set_cons_succ, List.getElem_toArray, List.getElem_cons_succ, List.getElem_cons_zero]
                refine wpAnyH_take (i := 12) (oi := _) (v := Value.int .i64 (x : Int)) rfl (by kernel_rfl) (by kernel_rfl) (by kernel_rfl) (fun _ _ _ h => h) (Or.inl ⟨by rfl, fun w' hSw => ?_⟩) hHeld ?_
                · obtain ⟨t0, t1, t2, t3, t4, t5⟩ := hSw
                  go_simp
                  try simp [*]
                  try (intro hh; exfalso; omega)
                  try omega
                try simp only [Act.put, List.setIfInBounds_toArray, List.set_cons_zero, List.set_cons_succ, List.getElem_toArray, List.getElem_cons_succ, List.getElem_cons_zero]
                refine wpAnyH_take (i := 13) (oi := _) (v := Value.pointer (some ⟨nb, off + x * 8, none⟩)) rfl (by kernel_rfl) (by kernel_rfl) (by kernel_rfl) (fun _ _ _ h => h) (Or.inl ⟨by rfl, fun w' hSw => ?_⟩) hHeld ?_
                · obtain ⟨t0, t1, t2, t3, t4, t5⟩ := hSw
                  go_simp
                  try simp [*]
                  try (intro hh; exfalso; omega)
                  try omega
                try simp only [Act.put, List.setIfInBounds_toArray, List.set_cons_zero, List.set_cons_succ, List.getElem_toArray, List.getElem_cons_succ, List.getElem_cons_zero]
                refine wpAnyH_take (i := 14) (oi := _) (v := Value.pointer (some ⟨nb, off + x * 8 + 7, none⟩)) rfl (by kernel_rfl) (by kernel_rfl) (by kernel_rfl) (fun _ _ _ h => h) (Or.inl ⟨by rfl, fun w' hSw => ?_⟩) hHeld ?_
                · obtain ⟨t0, t1, t2, t3, t4, t5⟩ := hSw
                  go_simp
                  try simp [*]
                  try (intro hh; exfalso; omega)
                  try omega
                try simp only [Act.put, List.setIfInBounds_toArray, List.set_cons_zero, List.set_cons_succ, List.getElem_toArray, List.getElem_cons_succ, List.getElem_cons_zero]
                refine wpAnyH_take (i := 15) (oi := _) (v := Value.int .i64 dx) rfl (by kernel_rfl) (by kernel_rfl) (by kernel_rfl) (fun _ _ _ h => h) (Or.inl ⟨by rfl, fun w' hSw => ?_⟩) hHeld ?_
                · obtain ⟨t0, t1, t2, t3, t4, t5⟩ := hSw
                  go_simp
                  try simp [*]
                  try (intro hh; exfalso; omega)
                  try omega
                try simp only [Act.put, List.setIfInBounds_toArray, List.set_cons_zero, List.set_cons_succ, List.getElem_toArray, List.getElem_cons_succ, List.getElem_cons_zero]
                refine wpAnyH_take (i := 16) (oi := _) (v := Value.pointer (some ⟨w.heap.size, 2, none⟩)) rfl (by kernel_rfl) (by kernel_rfl) (by kernel_rfl) (fun _ _ _ h => h) (Or.inl ⟨by rfl, fun w' hSw => ?_⟩) hHeld ?_
                · obtain ⟨t0, t1, t2, t3, t4, t5⟩ := hSw
                  go_simp
                  try simp [*]
                  try (intro hh; exfalso; omega)
                  try omega
                try simp only [Act.put, List.setIfInBounds_toArray, List.set_cons_zero, List.set_cons_succ, List.getElem_toArray, List.getElem_cons_succ, List.getElem_cons_zero]
                refine wpAnyH_take (i := 17) (oi := _) (v := Value.slice (some ⟨nb, off, none⟩) n cap) rfl (by kernel_rfl) (by kernel_rfl) (by kernel_rfl) (fun _ _ _ h => h) (Or.inl ⟨by rfl, fun w' hSw => ?_⟩) hHeld ?_
                · obtain ⟨t0, t1, t2, t3, t4, t5⟩ := hSw
                  go_simp
                  try simp [*]
                  try (intro hh; exfalso; omega)
                  try omega
                try simp only [Act.put, List.setIfInBounds_toArray, List.set_cons_zero, List.set_cons_succ, List.getElem_toArray, List.getElem_cons_succ, List.getElem_cons_zero]
                refine wpAnyH_take (i := 18) (oi := _) (v := Value.int .i64 (k : Int)) rfl (by kernel_rfl) (by kernel_rfl) (by kernel_rfl) (fun _ _ _ h => h) (Or.inl ⟨by rfl, fun w' hSw => ?_⟩) hHeld ?_
                · obtain ⟨t0, t1, t2, t3, t4, t5⟩ := hSw
                  go_simp
                  try simp [*]
                  try (intro hh; exfalso; omega)
                  try omega
                try simp only [Act.put, List.setIfInBounds_toArray, List.set_cons_zero, List.set_cons_succ, List.getElem_toArray, List.getElem_cons_succ, List.getElem_cons_zero]
                refine wpAnyH_take (i := 19) (oi := _) (v := Value.pointer (some ⟨nb, off + k * 8, none⟩)) rfl (by kernel_rfl) (by kernel_rfl) (by kernel_rfl) (fun _ _ _ h => h) (Or.inl ⟨by rfl, fun w' hSw => ?_⟩) hHeld ?_
                · obtain ⟨t0, t1, t2, t3, t4, t5⟩ := hSw
                  go_simp
                  try simp [*]
                  try (intro hh; exfalso; omega)
                  try omega
                try simp only [Act.put, List.setIfInBounds_toArray, List.set_cons_zero, List.set_cons_succ, List.getElem_toArray, List.getElem_cons_succ, List.getElem_cons_zero]
                refine wpAnyH_take (i := 20) (oi := _) (v := Value.pointer (some ⟨nb, off + k * 8 + 7, none⟩)) rfl (by kernel_rfl) (by kernel_rfl) (by kernel_rfl) (fun _ _ _ h => h) (Or.inl ⟨by rfl, fun w' hSw => ?_⟩) hHeld ?_
                · obtain ⟨t0, t1, t2, t3, t4, t5⟩ := hSw
                  go_simp
                  try simp [*]
                  try (intro hh; exfalso; omega)
                  try omega
                try simp only [Act.put, List.setIfInBounds_toArray, List.set_cons_zero, List.set_cons_succ, List.getElem_toArray, List.getElem_cons_succ, List.getElem_cons_zero]
                refine wpAnyH_take (i := 21) (oi := _) (v := Value.int .i64 dk) rfl (by kernel_rfl) (by kernel_rfl) (by kernel_rfl) (fun _ _ _ h => h) (Or.inl ⟨by rfl, fun w' hSw => ?_⟩) hHeld ?_
                · obtain ⟨t0, t1, t2, t3, t4, t5⟩ := hSw
                  go_simp
                  try simp [*]
                  try (intro hh; exfalso; omega)
                  try omega
                try simp only [Act.put, List.setIfInBounds_toArray, List.set_cons_zero, List.set_cons_succ, List.getElem_toArray, List.getElem_cons_succ, List.getElem_cons_zero]
                refine wpAnyH_take (i := 22) (oi := _) (v := Value.int .i64 m) rfl (by kernel_rfl) (by kernel_rfl) (by kernel_rfl) (fun _ _ _ h => h) (Or.inl ⟨by rfl, fun w' hSw => ?_⟩) hHeld ?_
                · obtain ⟨t0, t1, t2, t3, t4, t5⟩ := hSw
                  go_simp
                  try simp [*]
                  try (intro hh; exfalso; omega)
                  try omega
                try simp only [Act.put, List.setIfInBounds_toArray, List.set_cons_zero, List.set_cons_succ, List.getElem_toArray, List.getElem_cons_succ, List.getElem_cons_zero]
                refine wpAnyH_take (i := 23) (oi := _) (v := Value.int .i64 (dk + m)) rfl (by kernel_rfl) (by kernel_rfl) (by kernel_rfl) (fun _ _ _ h => h) (Or.inl ⟨by rfl, fun w' hSw => ?_⟩) hHeld ?_
                · obtain ⟨t0, t1, t2, t3, t4, t5⟩ := hSw
                  go_simp
                  try simp [*]
                  try (intro hh; exfalso; omega)
                  try omega
                try simp only [Act.put, List.setIfInBounds_toArray, List.set_cons_zero, List.set_cons_succ, List.getElem_toArray, List.getElem_cons_succ, List.getElem_cons_zero]
                refine wpAnyH_take (i := 24) (oi := _) (v := Value.bool true) rfl (by kernel_rfl) (by kernel_rfl) (by kernel_rfl) (fun _ _ _ h => h) (Or.inl ⟨by rfl, fun w' hSw => ?_⟩) hHeld ?_
                · obtain ⟨t0, t1, t2, t3, t4, t5⟩ := hSw
                  go_simp
                  try simp [*]
                  try (intro hh; exfalso; omega)
                  try omega
                try simp only [Act.put, List.setIfInBounds_toArray, List.set_cons_zero, List.set_cons_succ, List.getElem_toArray, List.getElem_cons_succ, List.getElem_cons_zero]
                refine wpAnyH_take (i := 25) (oi := _) (v := Value.bool true) rfl (by kernel_rfl) (by kernel_rfl) (by kernel_rfl) (fun _ _ _ h => h) (Or.inl ⟨by rfl, fun w' hSw => ?_⟩) hHeld ?_
                · obtain ⟨t0, t1, t2, t3, t4, t5⟩ := hSw
                  go_simp
                  try simp [*]
                  try (intro hh; exfalso; omega)
                  try omega
                try simp only [Act.put, List.setIfInBounds_toArray, List.set_cons_zero, List.set_cons_succ, List.getElem_toArray, List.getElem_cons_succ, List.getElem_cons_zero]
                refine wpAnyH_done (by kernel_rfl) ?_ _
                clear hHeld
                have HV1 := Lib.hid (HB4.out.trans (HD1.out.mono HB4.out.size))
                clear k0 k1 k2 gl d1 d2
                obtain ⟨k0, k1, k2, gl, d1, d2⟩ := KQ.out _ HD1.out
                go_upto_region 14 with fail
                refine wp_region_held_drew (S := fun w' => w'.cell? ⟨w.heap.size, 0, none⟩ = some (Value.int .i64 sl) ∧ w'.cell? ⟨w.heap.size, 1, none⟩ = some (Value.int .i64 sh) ∧ w'.cell? ⟨w.heap.size, 2, none⟩ = some (Value.slice (some ⟨nb, off, none⟩) n cap) ∧ w'.cell? ⟨g, i + 1, none⟩ = some (Value.int .i64 (x : Int)) ∧ w'.cell? ⟨nb, off + x * 8 + 7, none⟩ = some (Value.int .i64 dx) ∧ w'.cell? ⟨nb, off + k * 8 + 7, none⟩ = some (Value.int .i64 dk)) (by kernel_rfl) ⟨by simpa [go_sem] using k0, by simpa [go_sem] using k1, by simpa [go_sem] using k2, by simpa [go_sem] using gl, by simpa [go_sem] using d1, by simpa [go_sem] using d2⟩ (fun hHeld => ?_)
                refine wpAnyH_take (i := 0) (oi := _) (v := Value.int .i64 (k : Int)) rfl (by kernel_rfl) (by kernel_rfl) (by kernel_rfl) (fun _ _ _ h => h) (Or.inl ⟨by rfl, fun w' hSw => ?_⟩) hHeld ?_
                · obtain ⟨t0, t1, t2, t3, t4, t5⟩ := hSw
                  go_simp
                  try simp [*]
                  try (intro hh; exfalso; omega)
                  try omega
                try simp only [Act.put, List.setIfInBounds_toArray, List.set_cons_zero, List.set_cons_succ, List.getElem_toArray, List.getElem_cons_succ, List.getElem_cons_zero]
                refine wpAnyH_take (i := 1) (oi := _) (v := Value.slice (some ⟨g, 0, none⟩) pm lc) rfl (by kernel_rfl) (by kernel_rfl) (by kernel_rfl) (fun _ _ _ h => h) (Or.inl ⟨by rfl, fun w' hSw => ?_⟩) hHeld ?_
                · obtain ⟨t0, t1, t2, t3, t4, t5⟩ := hSw
                  go_simp
                  try simp [*]
                  try (intro hh; exfalso; omega)
                  try omega
                try simp only [Act.put, List.setIfInBounds_toArray, List.set_cons_zero, List.set_cons_succ, List.getElem_toArray, List.getElem_cons_succ, List.getElem_cons_zero]
                refine wpAnyH_take (i := 2) (oi := _) (v := Value.int .i64 ((i + 1 : Nat) : Int)) rfl (by kernel_rfl) (by kernel_rfl) (by kernel_rfl) (fun _ _ _ h => h) (Or.inl ⟨by rfl, fun w' hSw => ?_⟩) hHeld ?_
                · obtain ⟨t0, t1, t2, t3, t4, t5⟩ := hSw
                  go_simp
                  try simp [*]
                  try (intro hh; exfalso; omega)
                  try omega
                try simp only [Act.put, List.setIfInBounds_toArray, List.set_cons_zero, List.set_cons_succ, List.getElem_toArray, List.getElem_cons_succ, List.getElem_cons_zero]
                refine wpAnyH_take (i := 3) (oi := _) (v := Value.pointer (some ⟨g, i + 1, none⟩)) rfl (by kernel_rfl) (by kernel_rfl) (by kernel_rfl) (fun _ _ _ h => h) (Or.inl ⟨by rfl, fun w' hSw => ?_⟩) hHeld ?_
                · obtain ⟨t0, t1, t2, t3, t4, t5⟩ := hSw
                  go_simp
                  try simp [*]
                  try (intro hh; exfalso; omega)
                  try omega
                try simp only [Act.put, List.setIfInBounds_toArray, List.set_cons_zero, List.set_cons_succ, List.getElem_toArray, List.getElem_cons_succ, List.getElem_cons_zero]
                refine wpAnyH_take (i := 4) (oi := _) (v := Value.int .i64 (x : Int)) rfl (by kernel_rfl) (by kernel_rfl) (by kernel_rfl) (fun _ _ _ h => h) (Or.inl ⟨by rfl, fun w' hSw => ?_⟩) hHeld ?_
                · obtain ⟨t0, t1, t2, t3, t4, t5⟩ := hSw
                  go_simp
                  try simp [*]
                  try (intro hh; exfalso; omega)
                  try omega
                try simp only [Act.put, List.setIfInBounds_toArray, List.set_cons_zero, List.set_cons_succ, List.getElem_toArray, List.getElem_cons_succ, List.getElem_cons_zero]
                refine wpAnyH_take (i := 5) (oi := _) (v := Value.int .i64 (k : Int)) rfl (by kernel_rfl) (by kernel_rfl) (by kernel_rfl) (fun _ _ _ h => h) (Or.inl ⟨by rfl, fun w' hSw => ?_⟩) hHeld ?_
                · obtain ⟨t0, t1, t2, t3, t4, t5⟩ := hSw
                  go_simp
                  try simp [*]
                  try (intro hh; exfalso; omega)
                  try omega
                try simp only [Act.put, List.setIfInBounds_toArray, List.set_cons_zero, List.set_cons_succ, List.getElem_toArray, List.getElem_cons_succ, List.getElem_cons_zero]
                refine wpAnyH_take (i := 6) (oi := _) (v := Value.int .i64 (x : Int)) rfl (by kernel_rfl) (by kernel_rfl) (by kernel_rfl) (fun _ _ _ h => h) (Or.inl ⟨by rfl, fun w' hSw => ?_⟩) hHeld ?_
                · obtain ⟨t0, t1, t2, t3, t4, t5⟩ := hSw
                  go_simp
                  try simp [*]
                  try (intro hh; exfalso; omega)
                  try omega
                try simp only [Act.put, List.setIfInBounds_toArray, List.set_cons_zero, List.set_cons_succ, List.getElem_toArray, List.getElem_cons_succ, List.getElem_cons_zero]
                refine wpAnyH_take (i := 7) (oi := _) (v := Value.int .i64 18) rfl (by kernel_rfl) (by kernel_rfl) (by kernel_rfl) (fun _ _ _ h => h) (Or.inl ⟨by rfl, fun w' hSw => ?_⟩) hHeld ?_
                · obtain ⟨t0, t1, t2, t3, t4, t5⟩ := hSw
                  go_simp
                  try simp [*]
                  try (intro hh; exfalso; omega)
                  try omega
                try simp only [Act.put, List.setIfInBounds_toArray, List.set_cons_zero, List.set_cons_succ, List.getElem_toArray, List.getElem_cons_succ, List.getElem_cons_zero]
                refine wpAnyH_done (by kernel_rfl) ?_ _
                clear hHeld
                go_wp2_with fail
                go_ret3
                exact ⟨by rw [HX.out]; rfl, HBA.out.trans (HV1.out.drew.mono HBA.out.size)⟩
              · have hsd : decide (dx < dk + m) = false := decide_eq_false hs
                have HX := Lib.hid (HNX.out (by rw [hbx, HSX.out, hsd]; rfl))
                clear hbx
                go_upto_region 13 with fail
                refine wp_region_held_drew (S := fun w' => w'.cell? ⟨w.heap.size, 0, none⟩ = some (Value.int .i64 sl) ∧ w'.cell? ⟨w.heap.size, 1, none⟩ = some (Value.int .i64 sh) ∧ w'.cell? ⟨w.heap.size, 2, none⟩ = some (Value.slice (some ⟨nb, off, none⟩) n cap) ∧ w'.cell? ⟨g, i + 1, none⟩ = some (Value.int .i64 (x : Int)) ∧ w'.cell? ⟨nb, off + x * 8 + 7, none⟩ = some (Value.int .i64 dx) ∧ w'.cell? ⟨nb, off + k * 8 + 7, none⟩ = some (Value.int .i64 dk)) (by kernel_rfl) ⟨by simpa [go_sem] using k0, by simpa [go_sem] using k1, by simpa [go_sem] using k2, by simpa [go_sem] using gl, by simpa [go_sem] using d1, by simpa [go_sem] using d2⟩ (fun hHeld => ?_)
                refine wpAnyH_take (i := 0) (oi := _) (v := Value.agg #[Value.int .i64 sl, Value.int .i64 sh, Value.slice (some ⟨nb, off, none⟩) n cap]) rfl (by kernel_rfl) (by kernel_rfl) (by kernel_rfl) (fun _ _ _ h => h) (Or.inl ⟨by rfl, fun w' hSw => ?_⟩) hHeld ?_
                · obtain ⟨t0, t1, t2, t3, t4, t5⟩ := hSw
                  go_simp
                  try simp [*]
                  try (intro hh; exfalso; omega)
                  try omega
                try simp only [Act.put, List.setIfInBounds_toArray, List.set_cons_zero, List.set_cons_succ, List.getElem_toArray, List.getElem_cons_succ, List.getElem_cons_zero]
                refine wpAnyH_take (i := 1) (oi := _) (v := Value.slice (some ⟨g, 0, none⟩) pm lc) rfl (by kernel_rfl) (by kernel_rfl) (by kernel_rfl) (fun _ _ _ h => h) (Or.inl ⟨by rfl, fun w' hSw => ?_⟩) hHeld ?_
                · obtain ⟨t0, t1, t2, t3, t4, t5⟩ := hSw
                  go_simp
                  try simp [*]
                  try (intro hh; exfalso; omega)
                  try omega
                try simp only [Act.put, List.setIfInBounds_toArray, List.set_cons_zero, List.set_cons_succ, List.getElem_toArray, List.getElem_cons_succ, List.getElem_cons_zero]
                refine wpAnyH_take (i := 2) (oi := _) (v := Value.int .i64 ((i + 1 : Nat) : Int)) rfl (by kernel_rfl) (by kernel_rfl) (by kernel_rfl) (fun _ _ _ h => h) (Or.inl ⟨by rfl, fun w' hSw => ?_⟩) hHeld ?_
                · obtain ⟨t0, t1, t2, t3, t4, t5⟩ := hSw
                  go_simp
                  try simp [*]
                  try (intro hh; exfalso; omega)
                  try omega
                try simp only [Act.put, List.setIfInBounds_toArray, List.set_cons_zero, List.set_cons_succ, List.getElem_toArray, List.getElem_cons_succ, List.getElem_cons_zero]
                refine wpAnyH_take (i := 3) (oi := _) (v := Value.pointer (some ⟨g, i + 1, none⟩)) rfl (by kernel_rfl) (by kernel_rfl) (by kernel_rfl) (fun _ _ _ h => h) (Or.inl ⟨by rfl, fun w' hSw => ?_⟩) hHeld ?_
                · obtain ⟨t0, t1, t2, t3, t4, t5⟩ := hSw
                  go_simp
                  try simp [*]
                  try (intro hh; exfalso; omega)
                  try omega
                try simp only [Act.put, List.setIfInBounds_toArray, List.set_cons_zero, List.set_cons_succ, List.getElem_toArray, List.getElem_cons_succ, List.getElem_cons_zero]
                refine wpAnyH_take (i := 4) (oi := _) (v := Value.int .i64 (x : Int)) rfl (by kernel_rfl) (by kernel_rfl) (by kernel_rfl) (fun _ _ _ h => h) (Or.inl ⟨by rfl, fun w' hSw => ?_⟩) hHeld ?_
                · obtain ⟨t0, t1, t2, t3, t4, t5⟩ := hSw
                  go_simp
                  try simp [*]
                  try (intro hh; exfalso; omega)
                  try omega
                try simp only [Act.put, List.setIfInBounds_toArray, List.set_cons_zero, List.set_cons_succ, List.getElem_toArray, List.getElem_cons_succ, List.getElem_cons_zero]
                refine wpAnyH_ready (rs := [5]) (by kernel_rfl) (by simp) ?_
                refine AllReadyH.cons (o := _) rfl (fun K hK => ?_) AllReadyH.nil
                go_simp
                go_at_call 59
                refine Calls.mono (cx.out _ (HWW4.out.trans (HDR.out.mono HWW4.out.size))) ?_
                rintro e v1 ⟨he, hb⟩
                try rw [hbx] at he
                subst he
                have HD1 := Lib.hid (HDR.out.trans (hb.mono HDR.out.size))
                clear hb
                clear hHeld
                refine hK.out _ _ (KQ.out _ HD1.out) (fun hHeld => ?_)
                clear hK K
                try simp only [Act.put, List.setIfInBounds_toArray, List.set_cons_zero, List.set_cons_succ, List.getElem_toArray, List.getElem_cons_succ, List.getElem_cons_zero]
                refine wpAnyH_take (i := 6) (oi := _) (v := Value.bool true) rfl (by kernel_rfl) (by kernel_rfl) (by kernel_rfl) (fun _ _ _ h => h) (Or.inl ⟨by rfl, fun w' hSw => ?_⟩) hHeld ?_
                · obtain ⟨t0, t1, t2, t3, t4, t5⟩ := hSw
                  go_simp
                  try simp [*]
                  try (intro hh; exfalso; omega)
                  try omega
                try simp only [Act.put, List.setIfInBounds_toArray, List.set_cons_zero, List.set_cons_succ, List.getElem_toArray, List.getElem_cons_succ, List.getElem_cons_zero]
                refine wpAnyH_take (i := 7) (oi := _) (v := Value.pointer (some ⟨w.heap.size, 2, none⟩)) rfl (by kernel_rfl) (by kernel_rfl) (by kernel_rfl) (fun _ _ _ h => h) (Or.inl ⟨by rfl, fun w' hSw => ?_⟩) hHeld ?_
                · obtain ⟨t0, t1, t2, t3, t4, t5⟩ := hSw
                  go_simp
                  try simp [*]
                  try (intro hh; exfalso; omega)
                  try omega
                try simp only [Act.put, List.setIfInBounds_toArray, List.set_cons_zero, List.set_cons_succ, List.getElem_toArray, List.getElem_cons_succ, List.getElem_cons_zero]
                refine wpAnyH_take (i := 8) (oi := _) (v := Value.slice (some ⟨nb, off, none⟩) n cap) rfl (by kernel_rfl) (by kernel_rfl) (by kernel_rfl) (fun _ _ _ h => h) (Or.inl ⟨by rfl, fun w' hSw => ?_⟩) hHeld ?_
                · obtain ⟨t0, t1, t2, t3, t4, t5⟩ := hSw
                  go_simp
                  try simp [*]
                  try (intro hh; exfalso; omega)
                  try omega
                try simp only [Act.put, List.setIfInBounds_toArray, List.set_cons_zero, List.set_cons_succ, List.getElem_toArray, List.getElem_cons_succ, List.getElem_cons_zero]
                refine wpAnyH_take (i := 9) (oi := _) (v := Value.slice (some ⟨g, 0, none⟩) pm lc) rfl (by kernel_rfl) (by kernel_rfl) (by kernel_rfl) (fun _ _ _ h => h) (Or.inl ⟨by rfl, fun w' hSw => ?_⟩) hHeld ?_
                · obtain ⟨t0, t1, t2, t3, t4, t5⟩ := hSw
                  go_simp
                  try simp [*]
                  try (intro hh; exfalso; omega)
                  try omega
                try simp only [Act.put, List.setIfInBounds_toArray, List.set_cons_zero, List.set_cons_succ, List.getElem_toArray, List.getElem_cons_succ, List.getElem_cons_zero]
                refine wpAnyH_take (i := 10) (oi := _) (v := Value.int .i64 ((i + 1 : Nat) : Int)) rfl (by kernel_rfl) (by kernel_rfl) (by kernel_rfl) (fun _ _ _ h => h) (Or.inl ⟨by rfl, fun w' hSw => ?_⟩) hHeld ?_
                · obtain ⟨t0, t1, t2, t3, t4, t5⟩ := hSw
                  go_simp
                  try simp [*]
                  try (intro hh; exfalso; omega)
                  try omega
                try simp only [Act.put, List.setIfInBounds_toArray, List.set_cons_zero, List.set_cons_succ, List.getElem_toArray, List.getElem_cons_succ, List.getElem_cons_zero]
                refine wpAnyH_take (i := 11) (oi := _) (v := Value.pointer (some ⟨g, i + 1, none⟩)) rfl (by kernel_rfl) (by kernel_rfl) (by kernel_rfl) (fun _ _ _ h => h) (Or.inl ⟨by rfl, fun w' hSw => ?_⟩) hHeld ?_
                · obtain ⟨t0, t1, t2, t3, t4, t5⟩ := hSw
                  go_simp
                  try simp [*]
                  try (intro hh; exfalso; omega)
                  try omega
                try simp only [Act.put, List.setIfInBounds_toArray, List.set_cons_zero, List.set_cons_succ, List.getElem_toArray, List.getElem_cons_succ, List.getElem_cons_zero]
                refine wpAnyH_take (i := 12) (oi := _) (v := Value.int .i64 (x : Int)) rfl (by kernel_rfl) (by kernel_rfl) (by kernel_rfl) (fun _ _ _ h => h) (Or.inl ⟨by rfl, fun w' hSw => ?_⟩) hHeld ?_
                · obtain ⟨t0, t1, t2, t3, t4, t5⟩ := hSw
                  go_simp
                  try simp [*]
                  try (intro hh; exfalso; omega)
                  try omega
                try simp only [Act.put, List.setIfInBounds_toArray, List.set_cons_zero, List.set_cons_succ, List.getElem_toArray, List.getElem_cons_succ, List.getElem_cons_zero]
                refine wpAnyH_take (i := 13) (oi := _) (v := Value.pointer (some ⟨nb, off + x * 8, none⟩)) rfl (by kernel_rfl) (by kernel_rfl) (by kernel_rfl) (fun _ _ _ h => h) (Or.inl ⟨by rfl, fun w' hSw => ?_⟩) hHeld ?_
                · obtain ⟨t0, t1, t2, t3, t4, t5⟩ := hSw
                  go_simp
                  try simp [*]
                  try (intro hh; exfalso; omega)
                  try omega
                try simp only [Act.put, List.setIfInBounds_toArray, List.set_cons_zero, List.set_cons_succ, List.getElem_toArray, List.getElem_cons_succ, List.getElem_cons_zero]
                refine wpAnyH_take (i := 14) (oi := _) (v := Value.pointer (some ⟨nb, off + x * 8 + 7, none⟩)) rfl (by kernel_rfl) (by kernel_rfl) (by kernel_rfl) (fun _ _ _ h => h) (Or.inl ⟨by rfl, fun w' hSw => ?_⟩) hHeld ?_
                · obtain ⟨t0, t1, t2, t3, t4, t5⟩ := hSw
                  go_simp
                  try simp [*]
                  try (intro hh; exfalso; omega)
                  try omega
                try simp only [Act.put, List.setIfInBounds_toArray, List.set_cons_zero, List.set_cons_succ, List.getElem_toArray, List.getElem_cons_succ, List.getElem_cons_zero]
                refine wpAnyH_take (i := 15) (oi := _) (v := Value.int .i64 dx) rfl (by kernel_rfl) (by kernel_rfl) (by kernel_rfl) (fun _ _ _ h => h) (Or.inl ⟨by rfl, fun w' hSw => ?_⟩) hHeld ?_
                · obtain ⟨t0, t1, t2, t3, t4, t5⟩ := hSw
                  go_simp
                  try simp [*]
                  try (intro hh; exfalso; omega)
                  try omega
                try simp only [Act.put, List.setIfInBounds_toArray, List.set_cons_zero, List.set_cons_succ, List.getElem_toArray, List.getElem_cons_succ, List.getElem_cons_zero]
                refine wpAnyH_take (i := 16) (oi := _) (v := Value.pointer (some ⟨w.heap.size, 2, none⟩)) rfl (by kernel_rfl) (by kernel_rfl) (by kernel_rfl) (fun _ _ _ h => h) (Or.inl ⟨by rfl, fun w' hSw => ?_⟩) hHeld ?_
                · obtain ⟨t0, t1, t2, t3, t4, t5⟩ := hSw
                  go_simp
                  try simp [*]
                  try (intro hh; exfalso; omega)
                  try omega
                try simp only [Act.put, List.setIfInBounds_toArray, List.set_cons_zero, List.set_cons_succ, List.getElem_toArray, List.getElem_cons_succ, List.getElem_cons_zero]
                refine wpAnyH_take (i := 17) (oi := _) (v := Value.slice (some ⟨nb, off, none⟩) n cap) rfl (by kernel_rfl) (by kernel_rfl) (by kernel_rfl) (fun _ _ _ h => h) (Or.inl ⟨by rfl, fun w' hSw => ?_⟩) hHeld ?_
                · obtain ⟨t0, t1, t2, t3, t4, t5⟩ := hSw
                  go_simp
                  try simp [*]
                  try (intro hh; exfalso; omega)
                  try omega
                try simp only [Act.put, List.setIfInBounds_toArray, List.set_cons_zero, List.set_cons_succ, List.getElem_toArray, List.getElem_cons_succ, List.getElem_cons_zero]
                refine wpAnyH_take (i := 18) (oi := _) (v := Value.int .i64 (k : Int)) rfl (by kernel_rfl) (by kernel_rfl) (by kernel_rfl) (fun _ _ _ h => h) (Or.inl ⟨by rfl, fun w' hSw => ?_⟩) hHeld ?_
                · obtain ⟨t0, t1, t2, t3, t4, t5⟩ := hSw
                  go_simp
                  try simp [*]
                  try (intro hh; exfalso; omega)
                  try omega
                try simp only [Act.put, List.setIfInBounds_toArray, List.set_cons_zero, List.set_cons_succ, List.getElem_toArray, List.getElem_cons_succ, List.getElem_cons_zero]
                refine wpAnyH_take (i := 19) (oi := _) (v := Value.pointer (some ⟨nb, off + k * 8, none⟩)) rfl (by kernel_rfl) (by kernel_rfl) (by kernel_rfl) (fun _ _ _ h => h) (Or.inl ⟨by rfl, fun w' hSw => ?_⟩) hHeld ?_
                · obtain ⟨t0, t1, t2, t3, t4, t5⟩ := hSw
                  go_simp
                  try simp [*]
                  try (intro hh; exfalso; omega)
                  try omega
                try simp only [Act.put, List.setIfInBounds_toArray, List.set_cons_zero, List.set_cons_succ, List.getElem_toArray, List.getElem_cons_succ, List.getElem_cons_zero]
                refine wpAnyH_take (i := 20) (oi := _) (v := Value.pointer (some ⟨nb, off + k * 8 + 7, none⟩)) rfl (by kernel_rfl) (by kernel_rfl) (by kernel_rfl) (fun _ _ _ h => h) (Or.inl ⟨by rfl, fun w' hSw => ?_⟩) hHeld ?_
                · obtain ⟨t0, t1, t2, t3, t4, t5⟩ := hSw
                  go_simp
                  try simp [*]
                  try (intro hh; exfalso; omega)
                  try omega
                try simp only [Act.put, List.setIfInBounds_toArray, List.set_cons_zero, List.set_cons_succ, List.getElem_toArray, List.getElem_cons_succ, List.getElem_cons_zero]
                refine wpAnyH_take (i := 21) (oi := _) (v := Value.int .i64 dk) rfl (by kernel_rfl) (by kernel_rfl) (by kernel_rfl) (fun _ _ _ h => h) (Or.inl ⟨by rfl, fun w' hSw => ?_⟩) hHeld ?_
                · obtain ⟨t0, t1, t2, t3, t4, t5⟩ := hSw
                  go_simp
                  try simp [*]
                  try (intro hh; exfalso; omega)
                  try omega
                try simp only [Act.put, List.setIfInBounds_toArray, List.set_cons_zero, List.set_cons_succ, List.getElem_toArray, List.getElem_cons_succ, List.getElem_cons_zero]
                refine wpAnyH_take (i := 22) (oi := _) (v := Value.int .i64 m) rfl (by kernel_rfl) (by kernel_rfl) (by kernel_rfl) (fun _ _ _ h => h) (Or.inl ⟨by rfl, fun w' hSw => ?_⟩) hHeld ?_
                · obtain ⟨t0, t1, t2, t3, t4, t5⟩ := hSw
                  go_simp
                  try simp [*]
                  try (intro hh; exfalso; omega)
                  try omega
                try simp only [Act.put, List.setIfInBounds_toArray, List.set_cons_zero, List.set_cons_succ, List.getElem_toArray, List.getElem_cons_succ, List.getElem_cons_zero]
                refine wpAnyH_take (i := 23) (oi := _) (v := Value.int .i64 (dk + m)) rfl (by kernel_rfl) (by kernel_rfl) (by kernel_rfl) (fun _ _ _ h => h) (Or.inl ⟨by rfl, fun w' hSw => ?_⟩) hHeld ?_
                · obtain ⟨t0, t1, t2, t3, t4, t5⟩ := hSw
                  go_simp
                  try simp [*]
                  try (intro hh; exfalso; omega)
                  try omega
                try simp only [Act.put, List.setIfInBounds_toArray, List.set_cons_zero, List.set_cons_succ, List.getElem_toArray, List.getElem_cons_succ, List.getElem_cons_zero]
                refine wpAnyH_take (i := 24) (oi := _) (v := Value.bool false) rfl (by kernel_rfl) (by kernel_rfl) (by kernel_rfl) (fun _ _ _ h => h) (Or.inl ⟨by rfl, fun w' hSw => ?_⟩) hHeld ?_
                · obtain ⟨t0, t1, t2, t3, t4, t5⟩ := hSw
                  go_simp
                  try simp [*]
                  try (intro hh; exfalso; omega)
                  try omega
                try simp only [Act.put, List.setIfInBounds_toArray, List.set_cons_zero, List.set_cons_succ, List.getElem_toArray, List.getElem_cons_succ, List.getElem_cons_zero]
                refine wpAnyH_take (i := 25) (oi := _) (v := Value.bool false) rfl (by kernel_rfl) (by kernel_rfl) (by kernel_rfl) (fun _ _ _ h => h) (Or.inl ⟨by rfl, fun w' hSw => ?_⟩) hHeld ?_
                · obtain ⟨t0, t1, t2, t3, t4, t5⟩ := hSw
                  go_simp
                  try simp [*]
                  try (intro hh; exfalso; omega)
                  try omega
                try simp only [Act.put, List.setIfInBounds_toArray, List.set_cons_zero, List.set_cons_succ, List.getElem_toArray, List.getElem_cons_succ, List.getElem_cons_zero]
                refine wpAnyH_done (by kernel_rfl) ?_ _
                clear hHeld
                have HV1 := Lib.hid (HB4.out.trans (HD1.out.mono HB4.out.size))
                clear k0 k1 k2 gl d1 d2
                obtain ⟨k0, k1, k2, gl, d1, d2⟩ := KQ.out _ HD1.out
                go_wp2_with fail
                go_roundw
                case rel => exact ⟨i + 1, by omega, by go_num, HX.out, HBW4.out.trans (HD1.out.mono HBW4.out.size)⟩
                case measure => simp [intOf]; omega
        · obtain rfl : i + 1 = pm := by omega
          have HX := Lib.hid (HNk.out (HENk.out HNF.out))
          go_wp2_with fail
          go_roundw
          case rel => exact ⟨k + 1, by omega, by go_num, HX.out, HWA.out⟩
          case measure => simp [intOf]; omega
    · obtain rfl : k = n := by omega
      have HX := Lib.hid (HN.out HCO.out)
      go_wp2_with fail
      go_ret3
      exact ⟨by rw [HX.out]; rfl, HBA.out.trans (HB.out.mono HBA.out.size)⟩
end Go.Proofs.Ytdohfpnnmppdkaa

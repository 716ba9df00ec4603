/-
  Cables: what comes to a node.
-/
import Derived.Test.YtdohfpnnmppdkaaCbT
import Derived.Test.YtdohfpnnmppdkaaCbR
import Derived.Test.YtdohfpnnmppdkaaCbQ
namespace Go.Proofs.Ytdohfpnnmppdkaa
open Go.RowKit Go.Shelf
set_option linter.unusedSimpArgs false
attribute [local go_sem] Oper.semAt_some
theorem set_two {W : World} {b : Nat} {t : TypeId} {u0 u1 : Value} (h : W.heap[b]? = some (.cells #[u0, u1] t (0, 0))) (v0 v1 : Value) : ((W.setCell ⟨b, 0, none⟩ v0).setCell ⟨b, 1, none⟩ v1).heap[b]? = some (.cells #[v0, v1] t (0, 0)) := by
  simp [World.setCell, Array.getElem?_modify, h]
set_option maxRecDepth 100000 in
set_option maxHeartbeats 16000000 in
theorem kirchhoff_any (sl sh : Int) (sv : Value) (ns : List Nd) (w : World) (hN : Nds w.heap.size w sv ns) :
    Calls Try.prog 9 #[.agg #[.int .i64 sl, .int .i64 sh, sv]] w fun e w' => e = .returned (.bool true) ∧ Below w.heap.size w w' := by
  have c1 := Lib.hid (fun W (h : Below w.heap.size w W) => valid_any sl sh sv ns W (hN.at h))
  have HV := Lib.hid (fun (h : valB sl sh ns = true) => valB_ok h)
  have c2 := Lib.hid (fun (hv : ValidC sl sh ns) W (h : Below w.heap.size w W) => currents_ok sl sh sv ns hv W (hN.at h))
  obtain ⟨a, cap, hsv, -, hcc⟩ := hN
  subst hsv
  generalize valB sl sh ns = VB at *
  cases VB
  · clear HV c2 hcc
    generalize ns.length = n at *
    obtain ⟨A, hA⟩ : ∃ A, A = w.alloc (.cells #[.int .i64 sl, .int .i64 sh, .slice a n cap] 26) := ⟨_, rfl⟩
    have HBA := Lib.hid (show Below w.heap.size w A by rw [hA]; exact ((Below.refl _ _).alloc (Nat.le_refl _) _))
    have hltA : w.heap.size + 1 ≤ A.heap.size := by rw [hA]; simp
    have q0 : A.cell? ⟨w.heap.size, 0, none⟩ = some (.int .i64 sl) := by rw [hA]; exact (cellHB (World.alloc_heap_new w _) 0).trans (by simp)
    have q1 : A.cell? ⟨w.heap.size, 1, none⟩ = some (.int .i64 sh) := by rw [hA]; exact (cellHB (World.alloc_heap_new w _) 1).trans (by simp)
    have q2 : A.cell? ⟨w.heap.size, 2, none⟩ = some (.slice a n cap) := by rw [hA]; exact (cellHB (World.alloc_heap_new w _) 2).trans (by simp)
    have KK := Lib.hid (show ∀ W, Below A.heap.size A W → W.cell? ⟨w.heap.size, 0, none⟩ = some (.int .i64 sl) ∧ W.cell? ⟨w.heap.size, 1, none⟩ = some (.int .i64 sh) ∧ W.cell? ⟨w.heap.size, 2, none⟩ = some (.slice a n cap) from fun W h => ⟨(h.cell (p := ⟨w.heap.size, 0, none⟩) (by show w.heap.size < A.heap.size; omega)).trans q0, (h.cell (p := ⟨w.heap.size, 1, none⟩) (by show w.heap.size < A.heap.size; omega)).trans q1, (h.cell (p := ⟨w.heap.size, 2, none⟩) (by show w.heap.size < A.heap.size; omega)).trans q2⟩)
    have HLT := Lib.hid hltA
    clear hltA q0 q1 q2
    obtain ⟨k0, k1, k2⟩ := KK.out _ (Below.refl _ _)
    go_enter Try.func9, Try.ntmps9
    go_upto_region 1 with fail
    rw [← hA]
    clear hA
    go_wp2_with fail
    refine (c1.out _ HBA.out).mono ?_
    rintro e w1 ⟨rfl, hb⟩
    have HB1 := Lib.hid hb
    clear hb k0 k1 k2
    obtain ⟨k0, k1, k2⟩ := KK.out _ HB1.out
    go_wp2_with fail
    refine (fine_any _).mono ?_
    rintro e w2 ⟨rfl, hb⟩
    have HB2 := Lib.hid (HB1.out.trans (hb.mono HB1.out.size))
    clear hb k0 k1 k2
    obtain ⟨k0, k1, k2⟩ := KK.out _ HB2.out
    go_wp2_with fail
    go_ret
    exact ⟨rfl, HBA.out.trans (HB2.out.mono HBA.out.size)⟩
  obtain ⟨hv, hn20⟩ := HV.out rfl
  have hpos := hv.pos
  obtain ⟨nb, off, rfl, hnb, -⟩ := hcc 0 hpos
  have HC := Lib.hid (show ∀ W k, Below w.heap.size w W → k < ns.length → W.cell? ⟨nb, off + k * 8, none⟩ = some (.int .i64 (nd ns k).par) ∧ W.cell? ⟨nb, off + k * 8 + 4, none⟩ = some (.int .i64 (nd ns k).ll) ∧ W.cell? ⟨nb, off + k * 8 + 5, none⟩ = some (.int .i64 (nd ns k).lh) from fun W k hb hk => by
    obtain ⟨b, o, h1, h2, e0, e1, e2, e3, e4, e5, e6, e7⟩ := hcc k hk
    simp only [Option.some.injEq, Addr.mk.injEq] at h1
    obtain ⟨rfl, rfl, -⟩ := h1
    exact ⟨(hb.cell (p := ⟨_, _, none⟩) h2).trans e0, (hb.cell (p := ⟨_, _, none⟩) h2).trans e4, (hb.cell (p := ⟨_, _, none⟩) h2).trans e5⟩)
  have HPE := Lib.hid (fun j (h : j < ns.length) (h0 : 0 < j) => hv.all.par_eq h h0)
  have HKA := Lib.hid (fun k (h : k < ns.length) => kir_all hv.all h)
  have HKO := Lib.hid (fun k => kir_own hv.all (k := k) (j := k + 1) (Nat.le_refl _))
  have HKB := Lib.hid (fun k j (h : k < ns.length) (hj : j ≤ ns.length) => kir_bd hv h hj)
  have HCB := Lib.hid (fun j (h : j < ns.length) => show 0 ≤ curL ns j ∧ curL ns j ≤ curH ns j ∧ curH ns j ≤ 3932160 by
    obtain ⟨a1, b1, d1, -⟩ := drop_bd hv h
    exact ⟨a1.1, d1, b1.2⟩)
  have c2' := Lib.hid (c2.out hv)
  clear c2 hcc HV
  generalize hnn : ns.length = n at *
  clear hnn
  obtain ⟨A, hA⟩ : ∃ A, A = w.alloc (.cells #[.int .i64 sl, .int .i64 sh, .slice (some ⟨nb, off, none⟩) n cap] 26) := ⟨_, rfl⟩
  have HBA := Lib.hid (show Below w.heap.size w A by rw [hA]; exact ((Below.refl _ _).alloc (Nat.le_refl _) _))
  have hltA : w.heap.size + 1 ≤ A.heap.size := by rw [hA]; simp
  have q0 : A.cell? ⟨w.heap.size, 0, none⟩ = some (.int .i64 sl) := by rw [hA]; exact (cellHB (World.alloc_heap_new w _) 0).trans (by simp)
  have q1 : A.cell? ⟨w.heap.size, 1, none⟩ = some (.int .i64 sh) := by rw [hA]; exact (cellHB (World.alloc_heap_new w _) 1).trans (by simp)
  have q2 : A.cell? ⟨w.heap.size, 2, none⟩ = some (.slice (some ⟨nb, off, none⟩) n cap) := by rw [hA]; exact (cellHB (World.alloc_heap_new w _) 2).trans (by simp)
  have KK := Lib.hid (show ∀ W, Below A.heap.size A W → W.cell? ⟨w.heap.size, 0, none⟩ = some (.int .i64 sl) ∧ W.cell? ⟨w.heap.size, 1, none⟩ = some (.int .i64 sh) ∧ W.cell? ⟨w.heap.size, 2, none⟩ = some (.slice (some ⟨nb, off, none⟩) n cap) from fun W h => ⟨(h.cell (p := ⟨w.heap.size, 0, none⟩) (by show w.heap.size < A.heap.size; omega)).trans q0, (h.cell (p := ⟨w.heap.size, 1, none⟩) (by show w.heap.size < A.heap.size; omega)).trans q1, (h.cell (p := ⟨w.heap.size, 2, none⟩) (by show w.heap.size < A.heap.size; omega)).trans q2⟩)
  have HLT := Lib.hid hltA
  clear hltA q0 q1 q2
  obtain ⟨k0, k1, k2⟩ := KK.out _ (Below.refl _ _)
  go_enter Try.func9, Try.ntmps9
  go_upto_region 1 with fail
  rw [← hA]
  clear hA
  go_wp2_with fail
  refine (c1.out _ HBA.out).mono ?_
  rintro e w1 ⟨rfl, hb⟩
  have HB1 := Lib.hid hb
  clear hb k0 k1 k2
  obtain ⟨k0, k1, k2⟩ := KK.out _ HB1.out
  go_wp2_with fail
  refine (c2'.out _ (HBA.out.trans (HB1.out.mono HBA.out.size))).mono ?_
  rintro e w2 ⟨g, rfl, hr, hg, hb⟩
  have HR := Lib.hid hr
  have HB2 := Lib.hid (HB1.out.trans (hb.mono HB1.out.size))
  clear hr hg hb k0 k1 k2
  obtain ⟨k0, k1, k2⟩ := KK.out _ HB2.out
  go_wp2_with fail
  go_loopw [5] (fun iv wr => ∃ k : Nat, k ≤ n ∧ iv = .int .i64 k ∧ Below w2.heap.size w2 wr) (fun iv _ => n - (intOf iv).toNat)
  case atStart => exact ⟨0, Nat.zero_le _, rfl, Below.refl _ _⟩
  case round =>
    obtain ⟨k, hk, rfl, hB⟩ := hrel
    obtain ⟨W1, rfl⟩ : ∃ W1, W1 = wr := ⟨_, rfl⟩
    have HB := Lib.hid hB
    clear hB k0 k1 k2
    have HW := Lib.hid (HB2.out.trans (HB.out.mono HB2.out.size))
    obtain ⟨k0, k1, k2⟩ := KK.out _ HW.out
    by_cases hlt : k < n
    · have hki : (k : Int) < (n : Int) := by omega
      have HWw := Lib.hid (HBA.out.trans (HW.out.mono HBA.out.size))
      obtain ⟨n0, n1, n2⟩ := HC.out _ k HWw.out hlt
      have HRW := Lib.hid (HR.out.keep HB.out)
      obtain ⟨V, hV⟩ : ∃ V, V = W1.alloc (.cells #[.int .i64 (nd ns k).ll, .int .i64 (nd ns k).lh] 23) := ⟨_, rfl⟩
      have hbV : Below W1.heap.size W1 V := by rw [hV]; exact (Below.refl _ _).alloc (Nat.le_refl _) _
      have hXV : V.heap[W1.heap.size]? = some (.cells #[.int .i64 (nd ns k).ll, .int .i64 (nd ns k).lh] 23 (0, 0)) := by rw [hV]; exact World.alloc_heap_new _ _
      have HI0 := Lib.hid (show V.heap[W1.heap.size]? = some (.cells #[.int .i64 (kirL ns k (k + 1)), .int .i64 (kirH ns k (k + 1))] 23 (0, 0)) ∧ Below W1.heap.size W1 V from ⟨by rw [(HKO.out k).1, (HKO.out k).2]; exact hXV, hbV⟩)
      go_upto_region 10 with fail
      rw [← hV]
      clear hV hbV hXV n0 n1 n2 k0 k1 k2
      obtain ⟨k0, k1, k2⟩ := KK.out _ (HW.out.trans (HI0.out.2.mono HW.out.size))
      go_wp2_with fail
      go_loopw [7] (fun iv W => ∃ j : Nat, k + 1 ≤ j ∧ j ≤ n ∧ iv = .int .i64 j ∧ W.heap[W1.heap.size]? = some (.cells #[.int .i64 (kirL ns k j), .int .i64 (kirH ns k j)] 23 (0, 0)) ∧ Below W1.heap.size W1 W) (fun iv _ => n - (intOf iv).toNat)
      case atStart => exact ⟨k + 1, Nat.le_refl _, by omega, by go_num, HI0.out.1, HI0.out.2⟩
      case round =>
        obtain ⟨j, hkj, hj, rfl, hX, hB⟩ := hrel
        have HX := Lib.hid hX
        have HBj := Lib.hid hB
        clear hX hB k0 k1 k2
        obtain ⟨k0, k1, k2⟩ := KK.out _ (HW.out.trans (HBj.out.mono HW.out.size))
        by_cases hjn : j < n
        · have hjn' : (j : Int) < (n : Int) := by omega
          obtain ⟨n0, -, -⟩ := HC.out _ j (HWw.out.trans (HBj.out.mono HWw.out.size)) hjn
          rw [HPE.out j hjn (by omega)] at n0
          by_cases hp : par ns j = k
          · have hp' : (((par ns j : Nat) : Int) != (k : Int)) = false := by simp; omega
            have HKY := Lib.hid (kir_yes (ns := ns) (k := k) (j := j) (by omega) hp)
            have c55 := fun W => badd_any (kirL ns k j) (kirH ns k j) (curL ns j) (curH ns j) W
            have hb1 := HKB.out k j hlt hj
            have hb2 := HCB.out j hjn
            rw [add_fit (by omega) (by omega)] at c55
            have HRJ := Lib.hid (HRW.out.keep HBj.out)
            have q0 := HRJ.out.cell (j := j * 2) (by omega)
            have q1 := HRJ.out.cell (j := j * 2 + 1) (by omega)
            rw [spc_even] at q0
            rw [spc_odd] at q1
            dsimp only at q0 q1
            have hgW := HRJ.out.lt
            have x0 := cellHB HX.out 0
            have x1 := cellHB HX.out 1
            have hSW := (Array.getElem?_eq_some_iff.1 HX.out).1
            have hgS : g < W1.heap.size := HRW.out.lt
            have HN := Lib.hid (show ∀ Z : World, Z.heap[W1.heap.size]? = some (.cells #[.int .i64 (kirL ns k j + curL ns j), .int .i64 (kirH ns k j + curH ns j)] 23 (0, 0)) → Z.heap[W1.heap.size]? = some (.cells #[.int .i64 (kirL ns k (j + 1)), .int .i64 (kirH ns k (j + 1))] 23 (0, 0)) from fun Z h => by rw [HKY.out.1, HKY.out.2]; exact h)
            have KR := Lib.hid (show ∀ Z, Below wr.heap.size wr Z → Z.cell? ⟨g, j * 2, none⟩ = some (.int .i64 (curL ns j)) ∧ Z.cell? ⟨g, j * 2 + 1, none⟩ = some (.int .i64 (curH ns j)) from fun Z h => ⟨(h.cell (p := ⟨g, _, none⟩) hgW).trans q0, (h.cell (p := ⟨g, _, none⟩) hgW).trans q1⟩)
            have BXX := Lib.hid (show ∀ Z, Below wr.heap.size wr Z → Z.heap[W1.heap.size]? = some (.cells #[.int .i64 (kirL ns k j), .int .i64 (kirH ns k j)] 23 (0, 0)) from fun Z h => (h.block _ hSW).trans HX.out)
            clear hb1 hb2 HKY
            generalize kirL ns k j = p0 at *
            generalize kirH ns k j = p1 at *
            generalize curL ns j = d0 at *
            generalize curH ns j = d1 at *
            go_upto_region 14 with fail
            clear n0 k0 k1 k2
            refine wp_region_held_drew (S := fun w' => w'.cell? ⟨g, j * 2, none⟩ = some (Value.int .i64 d0) ∧ w'.cell? ⟨g, j * 2 + 1, none⟩ = some (Value.int .i64 d1)) (by kernel_rfl) ⟨by simpa [go_sem] using q0, by simpa [go_sem] using q1⟩ (fun hHeld => ?_)
            have HD := Lib.hid (show Below wr.heap.size wr _ from (Below.refl wr.heap.size wr).drew)
            refine wpAnyH_take (i := 1) (oi := _) (v := Value.slice (some ⟨g, 0, none⟩) n n) rfl (by kernel_rfl) (by kernel_rfl) (by kernel_rfl) (fun _ _ _ h => h) (Or.inl ⟨by rfl, fun w' hSw => ?_⟩) hHeld ?_
            · obtain ⟨t0, t1⟩ := hSw
              go_simp
              try simp [*]
              try (intro hh; exfalso; omega)
              try omega
            try simp only [Act.put, List.setIfInBounds_toArray, List.set_cons_zero, List.set_cons_succ, List.getElem_toArray, List.getElem_cons_succ, List.getElem_cons_zero]
            refine wpAnyH_take (i := 2) (oi := _) (v := Value.int .i64 (j : Int)) rfl (by kernel_rfl) (by kernel_rfl) (by kernel_rfl) (fun _ _ _ h => h) (Or.inl ⟨by rfl, fun w' hSw => ?_⟩) hHeld ?_
            · obtain ⟨t0, t1⟩ := hSw
              go_simp
              try simp [*]
              try (intro hh; exfalso; omega)
              try omega
            try simp only [Act.put, List.setIfInBounds_toArray, List.set_cons_zero, List.set_cons_succ, List.getElem_toArray, List.getElem_cons_succ, List.getElem_cons_zero]
            refine wpAnyH_take (i := 3) (oi := _) (v := Value.pointer (some ⟨g, j * 2, none⟩)) rfl (by kernel_rfl) (by kernel_rfl) (by kernel_rfl) (fun _ _ _ h => h) (Or.inl ⟨by rfl, fun w' hSw => ?_⟩) hHeld ?_
            · obtain ⟨t0, t1⟩ := hSw
              go_simp
              try simp [*]
              try (intro hh; exfalso; omega)
              try omega
            try simp only [Act.put, List.setIfInBounds_toArray, List.set_cons_zero, List.set_cons_succ, List.getElem_toArray, List.getElem_cons_succ, List.getElem_cons_zero]
            refine wpAnyH_take (i := 4) (oi := _) (v := Value.agg #[Value.int .i64 d0, Value.int .i64 d1]) rfl (by kernel_rfl) (by kernel_rfl) (by kernel_rfl) (fun _ _ _ h => h) (Or.inl ⟨by rfl, fun w' hSw => ?_⟩) hHeld ?_
            · obtain ⟨t0, t1⟩ := hSw
              go_simp
              try simp [*]
              try (intro hh; exfalso; omega)
              try omega
            try simp only [Act.put, List.setIfInBounds_toArray, List.set_cons_zero, List.set_cons_succ, List.getElem_toArray, List.getElem_cons_succ, List.getElem_cons_zero]
            refine wpAnyH_ready (rs := [0]) (by kernel_rfl) (by simp) ?_
            refine AllReadyH.cons (o := _) rfl (fun K hK => ?_) AllReadyH.nil
            go_simp
            clear hHeld
            refine hK.out _ _ (KR.out _ HD.out) (fun hHeld => ?_)
            clear hK K
            try simp only [Act.put, List.setIfInBounds_toArray, List.set_cons_zero, List.set_cons_succ, List.getElem_toArray, List.getElem_cons_succ, List.getElem_cons_zero]
            refine wpAnyH_ready (rs := [5]) (by kernel_rfl) (by simp) ?_
            refine AllReadyH.cons (o := _) rfl (fun K hK => ?_) AllReadyH.nil
            go_simp
            go_at_call 55
            refine Calls.mono (c55 _) ?_
            rintro e v1 ⟨rfl, hb⟩
            have HV1 := Lib.hid (show Below wr.heap.size wr v1 from Below.trans ((Below.refl wr.heap.size wr).drew) hb)
            clear hb x0 x1
            have y0 := cellHB (BXX.out _ HV1.out) 0
            have y1 := cellHB (BXX.out _ HV1.out) 1
            have yf0 := frozH (BXX.out _ HV1.out) 0
            have yf1 := frozH (BXX.out _ HV1.out) 1
            clear hHeld
            refine hK.out _ _ (KR.out _ HV1.out) (fun hHeld => ?_)
            clear hK K
            try simp only [Act.put, List.setIfInBounds_toArray, List.set_cons_zero, List.set_cons_succ, List.getElem_toArray, List.getElem_cons_succ, List.getElem_cons_zero]
            refine wpAnyH_take (i := 6) (oi := _) (v := Value.tuple #[.agg #[.int .i64 (p0 + d0), .int .i64 (p1 + d1)], .int .i64 0]) rfl (by kernel_rfl) (by kernel_rfl) (by kernel_rfl) (fun _ _ _ h => h) (Or.inl ⟨by rfl, fun w' hSw => ?_⟩) hHeld ?_
            · obtain ⟨t0, t1⟩ := hSw
              go_simp
              try simp [*]
              try (intro hh; exfalso; omega)
              try omega
            try simp only [Act.put, List.setIfInBounds_toArray, List.set_cons_zero, List.set_cons_succ, List.getElem_toArray, List.getElem_cons_succ, List.getElem_cons_zero]
            refine wpAnyH_take (i := 7) (oi := _) (v := .agg #[.int .i64 (p0 + d0), .int .i64 (p1 + d1)]) rfl (by kernel_rfl) (by kernel_rfl) (by kernel_rfl) (fun _ _ _ h => h) (Or.inl ⟨by rfl, fun w' hSw => ?_⟩) hHeld ?_
            · obtain ⟨t0, t1⟩ := hSw
              go_simp
              try simp [*]
              try (intro hh; exfalso; omega)
              try omega
            try simp only [Act.put, List.setIfInBounds_toArray, List.set_cons_zero, List.set_cons_succ, List.getElem_toArray, List.getElem_cons_succ, List.getElem_cons_zero]
            refine wpAnyH_take (i := 8) (oi := _) (v := .int .i64 0) rfl (by kernel_rfl) (by kernel_rfl) (by kernel_rfl) (fun _ _ _ h => h) (Or.inl ⟨by rfl, fun w' hSw => ?_⟩) hHeld ?_
            · obtain ⟨t0, t1⟩ := hSw
              go_simp
              try simp [*]
              try (intro hh; exfalso; omega)
              try omega
            try simp only [Act.put, List.setIfInBounds_toArray, List.set_cons_zero, List.set_cons_succ, List.getElem_toArray, List.getElem_cons_succ, List.getElem_cons_zero]
            obtain ⟨r0, r1⟩ := KR.out _ HV1.out
            have hgne : ¬ g = W1.heap.size := by omega
            refine wpAnyH_ready (rs := [9]) (by kernel_rfl) (by simp) ?_
            refine AllReadyH.cons (o := _) rfl (fun K hK => ?_) AllReadyH.nil
            go_simp
            clear hHeld
            refine hK.out _ _ ⟨by simp [go_sem, *], by simp [go_sem, *]⟩ (fun hHeld => ?_)
            clear hK K
            try simp only [Act.put, List.setIfInBounds_toArray, List.set_cons_zero, List.set_cons_succ, List.getElem_toArray, List.getElem_cons_succ, List.getElem_cons_zero]
            refine wpAnyH_take (i := 10) (oi := _) (v := .int .i64 0) rfl (by kernel_rfl) (by kernel_rfl) (by kernel_rfl) (fun _ _ _ h => h) (Or.inl ⟨by rfl, fun w' hSw => ?_⟩) hHeld ?_
            · obtain ⟨t0, t1⟩ := hSw
              go_simp
              try simp [*]
              try (intro hh; exfalso; omega)
              try omega
            try simp only [Act.put, List.setIfInBounds_toArray, List.set_cons_zero, List.set_cons_succ, List.getElem_toArray, List.getElem_cons_succ, List.getElem_cons_zero]
            refine wpAnyH_done (by kernel_rfl) ?_ _
            clear hHeld
            have HZ1 := Lib.hid (HN.out ((v1.setCell ⟨W1.heap.size, 0, none⟩ (.int .i64 (p0 + d0))).setCell ⟨W1.heap.size, 1, none⟩ (.int .i64 (p1 + d1))) (set_two (BXX.out _ HV1.out) _ _))
            have HZ2 := Lib.hid (show Below W1.heap.size W1 ((v1.setCell ⟨W1.heap.size, 0, none⟩ (.int .i64 (p0 + d0))).setCell ⟨W1.heap.size, 1, none⟩ (.int .i64 (p1 + d1))) from ((HBj.out.trans (HV1.out.mono HBj.out.size)).setCell (p := ⟨W1.heap.size, 0, none⟩) (Nat.le_refl _) _).setCell (p := ⟨W1.heap.size, 1, none⟩) (Nat.le_refl _) _)
            go_wp2_with fail
            go_roundw
            case rel => exact ⟨j + 1, by omega, by omega, by go_num, HZ1.out, HZ2.out⟩
            case measure => simp [intOf]; omega
          · have hp' : (((par ns j : Nat) : Int) != (k : Int)) = true := by simp; omega
            have HKN := Lib.hid (kir_no (ns := ns) (k := k) (j := j) hp)
            go_wp2_with fail
            go_roundw
            case rel => exact ⟨j + 1, by omega, by omega, by go_num, by rw [HKN.out.1, HKN.out.2]; exact HX.out, HBj.out⟩
            case measure => simp [intOf]; omega
        · obtain rfl : j = n := by omega
          have hka := HKA.out k hlt
          have hX := HX.out
          rw [hka.1, hka.2] at hX
          have HRJ := Lib.hid (HRW.out.keep HBj.out)
          have q0 := HRJ.out.cell (j := k * 2) (by omega)
          have q1 := HRJ.out.cell (j := k * 2 + 1) (by omega)
          rw [spc_even] at q0
          rw [spc_odd] at q1
          dsimp only at q0 q1
          have x0 := cellHB hX 0
          have x1 := cellHB hX 1
          clear hka hX
          generalize curL ns k = d0 at *
          generalize curH ns k = d1 at *
          have HEND := Lib.hid (show Below w2.heap.size w2 wr.drew from HB.out.trans ((HBj.out.trans (((Below.refl _ wr).drew).mono HBj.out.size)).mono HB.out.size))
          go_upto_region 17 with fail
          clear k0 k1 k2
          refine wp_region_held_drew (S := fun w' => w'.cell? ⟨g, k * 2, none⟩ = some (Value.int .i64 d0) ∧ w'.cell? ⟨g, k * 2 + 1, none⟩ = some (Value.int .i64 d1) ∧ w'.cell? ⟨W1.heap.size, 0, none⟩ = some (Value.int .i64 d0) ∧ w'.cell? ⟨W1.heap.size, 1, none⟩ = some (Value.int .i64 d1)) (by kernel_rfl) ⟨by simpa [go_sem] using q0, by simpa [go_sem] using q1, by simpa [go_sem] using x0, by simpa [go_sem] using x1⟩ (fun hHeld => ?_)
          refine wpAnyH_take (i := 0) (oi := _) (v := Value.agg #[Value.int .i64 d0, Value.int .i64 d1]) rfl (by kernel_rfl) (by kernel_rfl) (by kernel_rfl) (fun _ _ _ h => h) (Or.inl ⟨by rfl, fun w' hSw => ?_⟩) hHeld ?_
          · obtain ⟨t0, t1, t2, t3⟩ := hSw
            go_simp
            try simp [*]
            try (intro hh; exfalso; omega)
            try omega
          try simp only [Act.put, List.setIfInBounds_toArray, List.set_cons_zero, List.set_cons_succ, List.getElem_toArray, List.getElem_cons_succ, List.getElem_cons_zero]
          refine wpAnyH_take (i := 1) (oi := _) (v := Value.slice (some ⟨g, 0, none⟩) j j) rfl (by kernel_rfl) (by kernel_rfl) (by kernel_rfl) (fun _ _ _ h => h) (Or.inl ⟨by rfl, fun w' hSw => ?_⟩) hHeld ?_
          · obtain ⟨t0, t1, t2, t3⟩ := hSw
            go_simp
            try simp [*]
            try (intro hh; exfalso; omega)
            try omega
          try simp only [Act.put, List.setIfInBounds_toArray, List.set_cons_zero, List.set_cons_succ, List.getElem_toArray, List.getElem_cons_succ, List.getElem_cons_zero]
          refine wpAnyH_take (i := 2) (oi := _) (v := Value.int .i64 (k : Int)) rfl (by kernel_rfl) (by kernel_rfl) (by kernel_rfl) (fun _ _ _ h => h) (Or.inl ⟨by rfl, fun w' hSw => ?_⟩) hHeld ?_
          · obtain ⟨t0, t1, t2, t3⟩ := hSw
            go_simp
            try simp [*]
            try (intro hh; exfalso; omega)
            try omega
          try simp only [Act.put, List.setIfInBounds_toArray, List.set_cons_zero, List.set_cons_succ, List.getElem_toArray, List.getElem_cons_succ, List.getElem_cons_zero]
          refine wpAnyH_take (i := 3) (oi := _) (v := Value.pointer (some ⟨g, k * 2, none⟩)) rfl (by kernel_rfl) (by kernel_rfl) (by kernel_rfl) (fun _ _ _ h => h) (Or.inl ⟨by rfl, fun w' hSw => ?_⟩) hHeld ?_
          · obtain ⟨t0, t1, t2, t3⟩ := hSw
            go_simp
            try simp [*]
            try (intro hh; exfalso; omega)
            try omega
          try simp only [Act.put, List.setIfInBounds_toArray, List.set_cons_zero, List.set_cons_succ, List.getElem_toArray, List.getElem_cons_succ, List.getElem_cons_zero]
          refine wpAnyH_take (i := 4) (oi := _) (v := Value.agg #[Value.int .i64 d0, Value.int .i64 d1]) rfl (by kernel_rfl) (by kernel_rfl) (by kernel_rfl) (fun _ _ _ h => h) (Or.inl ⟨by rfl, fun w' hSw => ?_⟩) hHeld ?_
          · obtain ⟨t0, t1, t2, t3⟩ := hSw
            go_simp
            try simp [*]
            try (intro hh; exfalso; omega)
            try omega
          try simp only [Act.put, List.setIfInBounds_toArray, List.set_cons_zero, List.set_cons_succ, List.getElem_toArray, List.getElem_cons_succ, List.getElem_cons_zero]
          refine wpAnyH_take (i := 5) (oi := _) (v := Value.bool false) rfl (by kernel_rfl) (by kernel_rfl) (by kernel_rfl) (fun _ _ _ h => h) (Or.inl ⟨by rfl, fun w' hSw => ?_⟩) hHeld ?_
          · obtain ⟨t0, t1, t2, t3⟩ := hSw
            go_simp
            try simp [*]
            try (intro hh; exfalso; omega)
            try omega
          try simp only [Act.put, List.setIfInBounds_toArray, List.set_cons_zero, List.set_cons_succ, List.getElem_toArray, List.getElem_cons_succ, List.getElem_cons_zero]
          refine wpAnyH_done (by kernel_rfl) ?_ _
          clear hHeld
          go_wp2_with fail
          go_roundw
          case rel => exact ⟨k + 1, by omega, by go_num, HEND.out⟩
          case measure => simp [intOf]; omega
    · obtain rfl : k = n := by omega
      go_wp2_with fail
      refine (fine_any _).mono ?_
      rintro e w5 ⟨rfl, hb5⟩
      have HB5 := Lib.hid (HBA.out.trans ((HW.out.trans (hb5.mono HW.out.size)).mono HBA.out.size))
      clear hb5
      go_wp2_with fail
      go_ret
      exact ⟨rfl, HB5.out⟩
end Go.Proofs.Ytdohfpnnmppdkaa

/-
  Clock: the reference's Ranks.
-/
import Derived.Test.YtcchmjbedppfnaaEvC
namespace Go.Proofs.Ytcchmjbedppfnaa
open Go.RowKit Go.Shelf
set_option linter.unusedSimpArgs false
def Ba (W : World) (B : Nat) (u v : Value) : Prop := W.heap[B]? = some (.cells #[u, v] 63 (0, 0))
theorem Ba.lt {W : World} {B : Nat} {u v : Value} (h : Ba W B u v) : B < W.heap.size := (Array.getElem?_eq_some_iff.1 h).1
theorem Ba.c0 {W : World} {B : Nat} {u v : Value} (h : Ba W B u v) : W.cell? ⟨B, 0, none⟩ = some u := by simp [World.cell?, show W.heap[B]? = _ from h]
theorem Ba.c1 {W : World} {B : Nat} {u v : Value} (h : Ba W B u v) : W.cell? ⟨B, 1, none⟩ = some v := by simp [World.cell?, show W.heap[B]? = _ from h]
theorem Ba.f0 {W : World} {B : Nat} {u v : Value} (h : Ba W B u v) (o : Nat) : W.frozen? ⟨B, o, none⟩ = false := by simp [World.frozen?, show W.heap[B]? = _ from h]
theorem Ba.new (W : World) (u v : Value) : Ba (W.alloc (.cells #[u, v] 63)) W.heap.size u v := World.alloc_heap_new W _
theorem Ba.keep {W W' : World} {B : Nat} {u v : Value} (h : Ba W B u v) (hb : Below W.heap.size W W') : Ba W' B u v := (hb.block B h.lt).trans h
theorem Ba.set0 {W : World} {B : Nat} {u v : Value} (h : Ba W B u v) (u' : Value) : Ba (W.setCell ⟨B, 0, none⟩ u') B u' v := by
  have e : W.heap[B]? = some (.cells #[u, v] 63 (0, 0)) := h
  unfold Ba
  simp [World.setCell, Array.getElem?_modify, e]
theorem Ba.set1 {W : World} {B : Nat} {u v : Value} (h : Ba W B u v) (v' : Value) : Ba (W.setCell ⟨B, 1, none⟩ v') B u v' := by
  have e : W.heap[B]? = some (.cells #[u, v] 63 (0, 0)) := h
  unfold Ba
  simp [World.setCell, Array.getElem?_modify, e]
section
set_option maxRecDepth 100000
set_option maxHeartbeats 8000000
theorem rranks_any (sv : Value) (zs : List (Int × Int)) (w : World) (hZ : Sps w.heap.size w sv zs) :
    Calls Try.prog 47 #[sv] w (RnkR zs w) := by
  obtain ⟨i0, hi0, hz0, hz1, hz2⟩ := info_parts infoR
  have c105 := Lib.hid (fun W (hb : Below w.heap.size w W) => rspans_any sv zs W (hZ.at hb))
  have HR := Lib.hid (show ∀ E w', E = evE zs → E ≠ 0 → Below w.heap.size w w' → RnkR zs w (.returned (.tuple #[.slice none 0 0, .int .i64 E])) w' from fun E w' h1 h2 h3 => ⟨_, E, rfl, h1, by rw [if_neg h2]; exact sps_nil _ _, h3⟩)
  have HR0 := Lib.hid (show ∀ v w', 0 = evE zs → Sps w'.heap.size w' v (rkTo zs zs.length) → Below w.heap.size w w' → RnkR zs w (.returned (.tuple #[v, .int .i64 0])) w' from fun v w' h1 h2 h3 => ⟨v, 0, rfl, h1, by rw [if_pos rfl]; exact h2, h3⟩)
  generalize RnkR zs w = POST at *
  have HLE := Lib.hid (show evE zs = 0 → zs.length ≤ 128 from fun h => (evE_get h).1)
  have HT := Lib.hid (fun k => show rkTo zs (k + 1) = rkTo zs k ++ [((rkA zs (sp zs k) zs.length : Int), (zs.length : Int) - 1 - (rkB zs (sp zs k) zs.length : Int))] from rfl)
  have HT0 := Lib.hid (show rkTo zs 0 = [] from rfl)
  have HTL := Lib.hid (fun k => rkTo_len zs k)
  have HRA := Lib.hid (fun a k => show rkA zs a (k + 1) = rkA zs a k + (if befS (sp zs k) a = 2 then 1 else 0) from rfl)
  have HRB := Lib.hid (fun a k => show rkB zs a (k + 1) = rkB zs a k + (if befS a (sp zs k) = 2 then 1 else 0) from rfl)
  have HA0 := Lib.hid (fun a => show rkA zs a 0 = 0 from rfl)
  have HB0 := Lib.hid (fun a => show rkB zs a 0 = 0 from rfl)
  have HAL := Lib.hid (fun a k => rkA_le zs a k)
  have HBL := Lib.hid (fun a k => rkB_le zs a k)
  obtain ⟨a, cap, rfl, -, hcc⟩ := hZ
  have HC := Lib.hid hcc
  clear hcc
  generalize hE : evE zs = E at *
  generalize zs.length = len at *
  by_cases h0 : E = 0
  rotate_left
  · have hb0 : (E != 0) = true := by simpa using h0
    clear HC HR0 HLE
    go_enter Try.func47, Try.ntmps47
    go_wp2_with fail
    refine (c105.out _ (Below.refl _ _)).mono ?_
    rintro e w1 ⟨rfl, hb⟩
    have HB := Lib.hid hb
    clear hb
    go_wp2_with fail
    refine (c105.out _ HB.out).mono ?_
    rintro e w2 ⟨rfl, hb⟩
    have HB2 := Lib.hid (HB.out.trans (hb.mono HB.out.size))
    clear hb
    go_wp2_with fail
    exact HR.out E _ rfl h0 HB2.out
  subst h0
  have hl := HLE.out (by first | rfl | trivial)
  have c1 := Lib.hid (c105.out _ (Below.refl _ _))
  clear c105 HR hE
  go_enter Try.func47, Try.ntmps47
  go_wp2_with fail
  refine c1.out.mono ?_
  rintro e w1 ⟨rfl, hb⟩
  have HB1 := Lib.hid hb
  clear hb c1
  go_wp2_with fail
  go_loopw [4, 5] (fun v iv wr => ∃ i : Nat, i ≤ len ∧ iv = .int .i64 i ∧ wr.ownsRow w.heap.size 63 2 v i (flat2 (rkTo zs i)) ∧ Below w.heap.size w wr) (fun _ iv _ => len - (intOf iv).toNat)
  case atStart => exact ⟨0, Nat.zero_le _, rfl, by rw [HT0.out]; exact World.ownsRow_nil _ _ _ _, HB1.out⟩
  case round =>
    obtain ⟨i, hi, rfl, hrow, hB⟩ := hrel
    obtain ⟨a0, c0, hv0⟩ := own_form hrow
    subst hv0
    have HROW := Lib.hid hrow
    have HB := Lib.hid hB
    have hzr := hB.size
    clear hrow
    by_cases hlt : i < len
    · have hii : (i : Int) < (len : Int) := by omega
      obtain ⟨b, off, hab, hb, e0, e1⟩ := HC.out i hlt
      subst hab
      have HTk := Lib.hid (HT.out i)
      generalize hsi : sp zs i = si at *
      have HSI := Lib.hid hsi
      clear hsi
      have e0' := Lib.hid e0
      have e1' := Lib.hid e1
      clear e0 e1 hB
      obtain ⟨U, hU⟩ : ∃ U, U = wr := ⟨_, rfl⟩
      subst hU
      have HA0i := Lib.hid (HA0.out si)
      have HB0i := Lib.hid (HB0.out si)
      have HRAi := Lib.hid (HRA.out si)
      have HRBi := Lib.hid (HRB.out si)
      have HALi := Lib.hid (HAL.out si)
      have HBLi := Lib.hid (HBL.out si)
      clear HA0 HB0 HRA HRB HAL HBL
      go_wp2_with fail
      go_loopw [7] (fun kv wv => ∃ k : Nat, k ≤ len ∧ kv = .int .i64 k ∧ Ba wv U.heap.size (.int .i64 (rkA zs si k : Int)) (.int .i64 ((len : Int) - 1 - (rkB zs si k : Int))) ∧ Below U.heap.size U wv) (fun kv _ => len - (intOf kv).toNat)
      case atStart => exact ⟨0, Nat.zero_le _, rfl, by rw [HA0i.out, HB0i.out]; simpa using Ba.new U (.int .i64 0) (.int .i64 ((len : Int) - 1)), (Below.refl _ _).alloc (Nat.le_refl _) _⟩
      case round =>
        obtain ⟨k, hk, rfl, hBA, hBU⟩ := hrel
        have HBA := Lib.hid hBA
        have HBU := Lib.hid hBU
        have HBW := Lib.hid (HB.out.trans (hBU.mono hzr))
        clear hBA hBU
        by_cases hkl : k < len
        · have hki : (k : Int) < (len : Int) := by omega
          obtain ⟨b2, off2, hab, hb2, f0, f1⟩ := HC.out k hkl
          simp only [Option.some.injEq, Addr.mk.injEq] at hab
          obtain ⟨rfl, rfl, -⟩ := hab
          have HAk := Lib.hid (HRAi.out k)
          have HBk := Lib.hid (HRBi.out k)
          have hal := HALi.out k
          have hbl := HBLi.out k
          have cA := Lib.hid (fun W => rbefore_any (sp zs k) si W)
          have cB := Lib.hid (fun W => rbefore_any si (sp zs k) W)
          have CELL := Lib.hid (show ∀ W, Below w.heap.size w W → W.cell? ⟨b, off + k * 2, none⟩ = some (.int .i64 (sp zs k).1) ∧ W.cell? ⟨b, off + k * 2 + 1, none⟩ = some (.int .i64 (sp zs k).2) ∧ W.cell? ⟨b, off + i * 2, none⟩ = some (.int .i64 si.1) ∧ W.cell? ⟨b, off + i * 2 + 1, none⟩ = some (.int .i64 si.2) from fun W h => ⟨(h.cell (p := ⟨b, off + k * 2, none⟩) hb).trans f0, (h.cell (p := ⟨b, off + k * 2 + 1, none⟩) hb).trans f1, (h.cell (p := ⟨b, off + i * 2, none⟩) hb).trans e0'.out, (h.cell (p := ⟨b, off + i * 2 + 1, none⟩) hb).trans e1'.out⟩)
          unfold spv at cA cB
          clear f0 f1
          generalize befS (sp zs k) si = f1 at *
          generalize befS si (sp zs k) = f2 at *
          generalize (sp zs k).1 = s0 at *
          generalize (sp zs k).2 = s1 at *
          have HAk2 := Lib.hid (show f1 = 2 → rkA zs si (k + 1) = rkA zs si k + 1 from fun h => by rw [HAk.out, if_pos h])
          have HAk3 := Lib.hid (show ¬ f1 = 2 → rkA zs si (k + 1) = rkA zs si k from fun h => by rw [HAk.out, if_neg h]; rfl)
          have HBk2 := Lib.hid (show f2 = 2 → rkB zs si (k + 1) = rkB zs si k + 1 from fun h => by rw [HBk.out, if_pos h])
          have HBk3 := Lib.hid (show ¬ f2 = 2 → rkB zs si (k + 1) = rkB zs si k from fun h => by rw [HBk.out, if_neg h]; rfl)
          clear HAk HBk
          generalize rkA zs si k = ra at *
          generalize rkB zs si k = rb at *
          generalize si.1 = x0 at *
          generalize si.2 = x1 at *
          obtain ⟨m0, m1, d0, d1⟩ := CELL.out _ HBW.out
          have hzU := HBA.out.lt
          go_wp2_with fail
          by_cases h1 : f1 = 2
          · refine wp_region_held_drew (S := fun w' => w'.cell? ⟨b, off + k * 2, none⟩ = some (.int .i64 s0) ∧ w'.cell? ⟨b, off + k * 2 + 1, none⟩ = some (.int .i64 s1) ∧ w'.cell? ⟨b, off + i * 2, none⟩ = some (.int .i64 x0) ∧ w'.cell? ⟨b, off + i * 2 + 1, none⟩ = some (.int .i64 x1)) (by kernel_rfl) ⟨by simpa [go_sem] using m0, by simpa [go_sem] using m1, by simpa [go_sem] using d0, by simpa [go_sem] using d1⟩ (fun hHeld => ?_)
            refine wpAnyH_take (i := 0) (oi := _) (v := Value.slice (some ⟨b, off, none⟩) len cap) rfl (by kernel_rfl) (by kernel_rfl) (by kernel_rfl) (fun _ _ _ h => h) (Or.inl ⟨by rfl, fun w' hSw => ?_⟩) hHeld ?_
            · obtain ⟨t0, t1, t2, t3⟩ := hSw
              go_simp
              try simp [*]
              try (intro hh; exfalso; omega)
              try omega
            try simp only [Act.put, List.setIfInBounds_toArray, List.set_cons_zero, List.set_cons_succ, List.getElem_toArray, List.getElem_cons_succ, List.getElem_cons_zero]
            refine wpAnyH_take (i := 1) (oi := _) (v := Value.int .i64 (k : Int)) rfl (by kernel_rfl) (by kernel_rfl) (by kernel_rfl) (fun _ _ _ h => h) (Or.inl ⟨by rfl, fun w' hSw => ?_⟩) hHeld ?_
            · obtain ⟨t0, t1, t2, t3⟩ := hSw
              go_simp
              try simp [*]
              try (intro hh; exfalso; omega)
              try omega
            try simp only [Act.put, List.setIfInBounds_toArray, List.set_cons_zero, List.set_cons_succ, List.getElem_toArray, List.getElem_cons_succ, List.getElem_cons_zero]
            refine wpAnyH_take (i := 2) (oi := _) (v := Value.pointer (some ⟨b, off + k * 2, none⟩)) rfl (by kernel_rfl) (by kernel_rfl) (by kernel_rfl) (fun _ _ _ h => h) (Or.inl ⟨by rfl, fun w' hSw => ?_⟩) hHeld ?_
            · obtain ⟨t0, t1, t2, t3⟩ := hSw
              go_simp
              try simp [*]
              try (intro hh; exfalso; omega)
              try omega
            try simp only [Act.put, List.setIfInBounds_toArray, List.set_cons_zero, List.set_cons_succ, List.getElem_toArray, List.getElem_cons_succ, List.getElem_cons_zero]
            refine wpAnyH_take (i := 3) (oi := _) (v := Value.agg #[Value.int .i64 s0, Value.int .i64 s1]) rfl (by kernel_rfl) (by kernel_rfl) (by kernel_rfl) (fun _ _ _ h => h) (Or.inl ⟨by rfl, fun w' hSw => ?_⟩) hHeld ?_
            · obtain ⟨t0, t1, t2, t3⟩ := hSw
              go_simp
              try simp [*]
              try (intro hh; exfalso; omega)
              try omega
            try simp only [Act.put, List.setIfInBounds_toArray, List.set_cons_zero, List.set_cons_succ, List.getElem_toArray, List.getElem_cons_succ, List.getElem_cons_zero]
            refine wpAnyH_take (i := 4) (oi := _) (v := Value.slice (some ⟨b, off, none⟩) len cap) rfl (by kernel_rfl) (by kernel_rfl) (by kernel_rfl) (fun _ _ _ h => h) (Or.inl ⟨by rfl, fun w' hSw => ?_⟩) hHeld ?_
            · obtain ⟨t0, t1, t2, t3⟩ := hSw
              go_simp
              try simp [*]
              try (intro hh; exfalso; omega)
              try omega
            try simp only [Act.put, List.setIfInBounds_toArray, List.set_cons_zero, List.set_cons_succ, List.getElem_toArray, List.getElem_cons_succ, List.getElem_cons_zero]
            refine wpAnyH_take (i := 5) (oi := _) (v := Value.int .i64 (i : Int)) rfl (by kernel_rfl) (by kernel_rfl) (by kernel_rfl) (fun _ _ _ h => h) (Or.inl ⟨by rfl, fun w' hSw => ?_⟩) hHeld ?_
            · obtain ⟨t0, t1, t2, t3⟩ := hSw
              go_simp
              try simp [*]
              try (intro hh; exfalso; omega)
              try omega
            try simp only [Act.put, List.setIfInBounds_toArray, List.set_cons_zero, List.set_cons_succ, List.getElem_toArray, List.getElem_cons_succ, List.getElem_cons_zero]
            refine wpAnyH_take (i := 6) (oi := _) (v := Value.pointer (some ⟨b, off + i * 2, none⟩)) rfl (by kernel_rfl) (by kernel_rfl) (by kernel_rfl) (fun _ _ _ h => h) (Or.inl ⟨by rfl, fun w' hSw => ?_⟩) hHeld ?_
            · obtain ⟨t0, t1, t2, t3⟩ := hSw
              go_simp
              try simp [*]
              try (intro hh; exfalso; omega)
              try omega
            try simp only [Act.put, List.setIfInBounds_toArray, List.set_cons_zero, List.set_cons_succ, List.getElem_toArray, List.getElem_cons_succ, List.getElem_cons_zero]
            refine wpAnyH_take (i := 7) (oi := _) (v := Value.agg #[Value.int .i64 x0, Value.int .i64 x1]) rfl (by kernel_rfl) (by kernel_rfl) (by kernel_rfl) (fun _ _ _ h => h) (Or.inl ⟨by rfl, fun w' hSw => ?_⟩) hHeld ?_
            · obtain ⟨t0, t1, t2, t3⟩ := hSw
              go_simp
              try simp [*]
              try (intro hh; exfalso; omega)
              try omega
            try simp only [Act.put, List.setIfInBounds_toArray, List.set_cons_zero, List.set_cons_succ, List.getElem_toArray, List.getElem_cons_succ, List.getElem_cons_zero]
            refine wpAnyH_ready (rs := [8]) (by kernel_rfl) (by simp) ?_
            refine AllReadyH.cons (o := _) rfl (fun K hK => ?_) AllReadyH.nil
            go_simp
            go_at_call 102
            refine Calls.mono (cA.out _) ?_
            rintro e v1 ⟨rfl, hb⟩
            have hbx : Below wr.heap.size wr v1 := Below.trans ((Below.refl wr.heap.size wr).drew) hb
            have HU1 := Lib.hid (show Below U.heap.size U v1 from HBU.out.trans (hbx.mono HBU.out.size))
            have HA1 := Lib.hid (HBA.out.keep hbx)
            clear hb hbx
            clear hHeld
            refine hK.out _ _ (CELL.out _ (HB.out.trans (HU1.out.mono hzr))) (fun hHeld => ?_)
            clear hK K
            try simp only [Act.put, List.setIfInBounds_toArray, List.set_cons_zero, List.set_cons_succ, List.getElem_toArray, List.getElem_cons_succ, List.getElem_cons_zero]
            refine wpAnyH_take (i := 9) (oi := _) (v := Value.bool true) rfl (by kernel_rfl) (by kernel_rfl) (by kernel_rfl) (fun _ _ _ h => h) (Or.inl ⟨by rfl, fun w' hSw => ?_⟩) hHeld ?_
            · obtain ⟨t0, t1, t2, t3⟩ := hSw
              go_simp
              try simp [*]
              try (intro hh; exfalso; omega)
              try omega
            try simp only [Act.put, List.setIfInBounds_toArray, List.set_cons_zero, List.set_cons_succ, List.getElem_toArray, List.getElem_cons_succ, List.getElem_cons_zero]
            refine wpAnyH_done (by kernel_rfl) ?_ _
            clear hHeld
            have q0 := HA1.out.c0
            have q1 := HA1.out.c1
            have q2 := HA1.out.f0 0
            have q3 := HA1.out.f0 1
            obtain ⟨V, hV⟩ : ∃ V, V = v1.setCell ⟨U.heap.size, 0, none⟩ (.int .i64 ((ra : Int) + 1)) := ⟨_, rfl⟩
            have HAV := Lib.hid (show Ba V U.heap.size (.int .i64 ((ra + 1 : Nat) : Int)) (.int .i64 ((len : Int) - 1 - (rb : Int))) by rw [hV]; exact HA1.out.set0 _)
            have HUV := Lib.hid (show Below U.heap.size U V by rw [hV]; exact HU1.out.setCell (p := ⟨U.heap.size, 0, none⟩) (Nat.le_refl _) _)
            go_upto_region 13 with fail
            try rw [← hV]
            clear hV q0 q1 q2 q3 m0 m1 d0 d1
            obtain ⟨m0, m1, d0, d1⟩ := CELL.out _ (HB.out.trans (HUV.out.mono hzr))
            by_cases h2 : f2 = 2
            · refine wp_region_held_drew (S := fun w' => w'.cell? ⟨b, off + k * 2, none⟩ = some (.int .i64 s0) ∧ w'.cell? ⟨b, off + k * 2 + 1, none⟩ = some (.int .i64 s1) ∧ w'.cell? ⟨b, off + i * 2, none⟩ = some (.int .i64 x0) ∧ w'.cell? ⟨b, off + i * 2 + 1, none⟩ = some (.int .i64 x1)) (by kernel_rfl) ⟨by simpa [go_sem] using m0, by simpa [go_sem] using m1, by simpa [go_sem] using d0, by simpa [go_sem] using d1⟩ (fun hHeld => ?_)
              refine wpAnyH_take (i := 0) (oi := _) (v := Value.slice (some ⟨b, off, none⟩) len cap) rfl (by kernel_rfl) (by kernel_rfl) (by kernel_rfl) (fun _ _ _ h => h) (Or.inl ⟨by rfl, fun w' hSw => ?_⟩) hHeld ?_
              · obtain ⟨t0, t1, t2, t3⟩ := hSw
                go_simp
                try simp [*]
                try (intro hh; exfalso; omega)
                try omega
              try simp only [Act.put, List.setIfInBounds_toArray, List.set_cons_zero, List.set_cons_succ, List.getElem_toArray, List.getElem_cons_succ, List.getElem_cons_zero]
              refine wpAnyH_take (i := 1) (oi := _) (v := Value.int .i64 (i : Int)) rfl (by kernel_rfl) (by kernel_rfl) (by kernel_rfl) (fun _ _ _ h => h) (Or.inl ⟨by rfl, fun w' hSw => ?_⟩) hHeld ?_
              · obtain ⟨t0, t1, t2, t3⟩ := hSw
                go_simp
                try simp [*]
                try (intro hh; exfalso; omega)
                try omega
              try simp only [Act.put, List.setIfInBounds_toArray, List.set_cons_zero, List.set_cons_succ, List.getElem_toArray, List.getElem_cons_succ, List.getElem_cons_zero]
              refine wpAnyH_take (i := 2) (oi := _) (v := Value.pointer (some ⟨b, off + i * 2, none⟩)) rfl (by kernel_rfl) (by kernel_rfl) (by kernel_rfl) (fun _ _ _ h => h) (Or.inl ⟨by rfl, fun w' hSw => ?_⟩) hHeld ?_
              · obtain ⟨t0, t1, t2, t3⟩ := hSw
                go_simp
                try simp [*]
                try (intro hh; exfalso; omega)
                try omega
              try simp only [Act.put, List.setIfInBounds_toArray, List.set_cons_zero, List.set_cons_succ, List.getElem_toArray, List.getElem_cons_succ, List.getElem_cons_zero]
              refine wpAnyH_take (i := 3) (oi := _) (v := Value.agg #[Value.int .i64 x0, Value.int .i64 x1]) rfl (by kernel_rfl) (by kernel_rfl) (by kernel_rfl) (fun _ _ _ h => h) (Or.inl ⟨by rfl, fun w' hSw => ?_⟩) hHeld ?_
              · obtain ⟨t0, t1, t2, t3⟩ := hSw
                go_simp
                try simp [*]
                try (intro hh; exfalso; omega)
                try omega
              try simp only [Act.put, List.setIfInBounds_toArray, List.set_cons_zero, List.set_cons_succ, List.getElem_toArray, List.getElem_cons_succ, List.getElem_cons_zero]
              refine wpAnyH_take (i := 4) (oi := _) (v := Value.slice (some ⟨b, off, none⟩) len cap) rfl (by kernel_rfl) (by kernel_rfl) (by kernel_rfl) (fun _ _ _ h => h) (Or.inl ⟨by rfl, fun w' hSw => ?_⟩) hHeld ?_
              · obtain ⟨t0, t1, t2, t3⟩ := hSw
                go_simp
                try simp [*]
                try (intro hh; exfalso; omega)
                try omega
              try simp only [Act.put, List.setIfInBounds_toArray, List.set_cons_zero, List.set_cons_succ, List.getElem_toArray, List.getElem_cons_succ, List.getElem_cons_zero]
              refine wpAnyH_take (i := 5) (oi := _) (v := Value.int .i64 (k : Int)) rfl (by kernel_rfl) (by kernel_rfl) (by kernel_rfl) (fun _ _ _ h => h) (Or.inl ⟨by rfl, fun w' hSw => ?_⟩) hHeld ?_
              · obtain ⟨t0, t1, t2, t3⟩ := hSw
                go_simp
                try simp [*]
                try (intro hh; exfalso; omega)
                try omega
              try simp only [Act.put, List.setIfInBounds_toArray, List.set_cons_zero, List.set_cons_succ, List.getElem_toArray, List.getElem_cons_succ, List.getElem_cons_zero]
              refine wpAnyH_take (i := 6) (oi := _) (v := Value.pointer (some ⟨b, off + k * 2, none⟩)) rfl (by kernel_rfl) (by kernel_rfl) (by kernel_rfl) (fun _ _ _ h => h) (Or.inl ⟨by rfl, fun w' hSw => ?_⟩) hHeld ?_
              · obtain ⟨t0, t1, t2, t3⟩ := hSw
                go_simp
                try simp [*]
                try (intro hh; exfalso; omega)
                try omega
              try simp only [Act.put, List.setIfInBounds_toArray, List.set_cons_zero, List.set_cons_succ, List.getElem_toArray, List.getElem_cons_succ, List.getElem_cons_zero]
              refine wpAnyH_take (i := 7) (oi := _) (v := Value.agg #[Value.int .i64 s0, Value.int .i64 s1]) rfl (by kernel_rfl) (by kernel_rfl) (by kernel_rfl) (fun _ _ _ h => h) (Or.inl ⟨by rfl, fun w' hSw => ?_⟩) hHeld ?_
              · obtain ⟨t0, t1, t2, t3⟩ := hSw
                go_simp
                try simp [*]
                try (intro hh; exfalso; omega)
                try omega
              try simp only [Act.put, List.setIfInBounds_toArray, List.set_cons_zero, List.set_cons_succ, List.getElem_toArray, List.getElem_cons_succ, List.getElem_cons_zero]
              refine wpAnyH_ready (rs := [8]) (by kernel_rfl) (by simp) ?_
              refine AllReadyH.cons (o := _) rfl (fun K hK => ?_) AllReadyH.nil
              go_simp
              go_at_call 102
              refine Calls.mono (cB.out _) ?_
              rintro e v2 ⟨rfl, hb⟩
              have hbx : Below V.heap.size V v2 := Below.trans ((Below.refl V.heap.size V).drew) hb
              have HU2 := Lib.hid (show Below U.heap.size U v2 from HUV.out.trans (hbx.mono HUV.out.size))
              have HA2 := Lib.hid (HAV.out.keep hbx)
              clear hb hbx
              clear hHeld
              refine hK.out _ _ (CELL.out _ (HB.out.trans (HU2.out.mono hzr))) (fun hHeld => ?_)
              clear hK K
              try simp only [Act.put, List.setIfInBounds_toArray, List.set_cons_zero, List.set_cons_succ, List.getElem_toArray, List.getElem_cons_succ, List.getElem_cons_zero]
              refine wpAnyH_take (i := 9) (oi := _) (v := Value.bool true) rfl (by kernel_rfl) (by kernel_rfl) (by kernel_rfl) (fun _ _ _ h => h) (Or.inl ⟨by rfl, fun w' hSw => ?_⟩) hHeld ?_
              · obtain ⟨t0, t1, t2, t3⟩ := hSw
                go_simp
                try simp [*]
                try (intro hh; exfalso; omega)
                try omega
              try simp only [Act.put, List.setIfInBounds_toArray, List.set_cons_zero, List.set_cons_succ, List.getElem_toArray, List.getElem_cons_succ, List.getElem_cons_zero]
              refine wpAnyH_done (by kernel_rfl) ?_ _
              clear hHeld
              have q0 := HA2.out.c0
              have q1 := HA2.out.c1
              have q2 := HA2.out.f0 0
              have q3 := HA2.out.f0 1
              have hS := HA2.out.set1 (.int .i64 (((len : Int) - 1 - (rb : Int)) - 1))
              have hSU : Below U.heap.size U (v2.setCell ⟨U.heap.size, 1, none⟩ (.int .i64 (((len : Int) - 1 - (rb : Int)) - 1))) := HU2.out.setCell (p := ⟨U.heap.size, 1, none⟩) (Nat.le_refl _) _
              have HS := Lib.hid hS
              have HSU := Lib.hid hSU
              clear hS hSU
              go_wp2_with fail
              go_roundw
              case rel => exact ⟨k + 1, by omega, by go_num, by rw [HAk2.out h1, HBk2.out h2, show (len : Int) - 1 - ((rb + 1 : Nat) : Int) = (len : Int) - 1 - (rb : Int) - 1 by omega]; exact HS.out, HSU.out⟩
              case measure => simp [intOf]; omega
            · refine wp_region_held_drew (S := fun w' => w'.cell? ⟨b, off + k * 2, none⟩ = some (.int .i64 s0) ∧ w'.cell? ⟨b, off + k * 2 + 1, none⟩ = some (.int .i64 s1) ∧ w'.cell? ⟨b, off + i * 2, none⟩ = some (.int .i64 x0) ∧ w'.cell? ⟨b, off + i * 2 + 1, none⟩ = some (.int .i64 x1)) (by kernel_rfl) ⟨by simpa [go_sem] using m0, by simpa [go_sem] using m1, by simpa [go_sem] using d0, by simpa [go_sem] using d1⟩ (fun hHeld => ?_)
              refine wpAnyH_take (i := 0) (oi := _) (v := Value.slice (some ⟨b, off, none⟩) len cap) rfl (by kernel_rfl) (by kernel_rfl) (by kernel_rfl) (fun _ _ _ h => h) (Or.inl ⟨by rfl, fun w' hSw => ?_⟩) hHeld ?_
              · obtain ⟨t0, t1, t2, t3⟩ := hSw
                go_simp
                try simp [*]
                try (intro hh; exfalso; omega)
                try omega
              try simp only [Act.put, List.setIfInBounds_toArray, List.set_cons_zero, List.set_cons_succ, List.getElem_toArray, List.getElem_cons_succ, List.getElem_cons_zero]
              refine wpAnyH_take (i := 1) (oi := _) (v := Value.int .i64 (i : Int)) rfl (by kernel_rfl) (by kernel_rfl) (by kernel_rfl) (fun _ _ _ h => h) (Or.inl ⟨by rfl, fun w' hSw => ?_⟩) hHeld ?_
              · obtain ⟨t0, t1, t2, t3⟩ := hSw
                go_simp
                try simp [*]
                try (intro hh; exfalso; omega)
                try omega
              try simp only [Act.put, List.setIfInBounds_toArray, List.set_cons_zero, List.set_cons_succ, List.getElem_toArray, List.getElem_cons_succ, List.getElem_cons_zero]
              refine wpAnyH_take (i := 2) (oi := _) (v := Value.pointer (some ⟨b, off + i * 2, none⟩)) rfl (by kernel_rfl) (by kernel_rfl) (by kernel_rfl) (fun _ _ _ h => h) (Or.inl ⟨by rfl, fun w' hSw => ?_⟩) hHeld ?_
              · obtain ⟨t0, t1, t2, t3⟩ := hSw
                go_simp
                try simp [*]
                try (intro hh; exfalso; omega)
                try omega
              try simp only [Act.put, List.setIfInBounds_toArray, List.set_cons_zero, List.set_cons_succ, List.getElem_toArray, List.getElem_cons_succ, List.getElem_cons_zero]
              refine wpAnyH_take (i := 3) (oi := _) (v := Value.agg #[Value.int .i64 x0, Value.int .i64 x1]) rfl (by kernel_rfl) (by kernel_rfl) (by kernel_rfl) (fun _ _ _ h => h) (Or.inl ⟨by rfl, fun w' hSw => ?_⟩) hHeld ?_
              · obtain ⟨t0, t1, t2, t3⟩ := hSw
                go_simp
                try simp [*]
                try (intro hh; exfalso; omega)
                try omega
              try simp only [Act.put, List.setIfInBounds_toArray, List.set_cons_zero, List.set_cons_succ, List.getElem_toArray, List.getElem_cons_succ, List.getElem_cons_zero]
              refine wpAnyH_take (i := 4) (oi := _) (v := Value.slice (some ⟨b, off, none⟩) len cap) rfl (by kernel_rfl) (by kernel_rfl) (by kernel_rfl) (fun _ _ _ h => h) (Or.inl ⟨by rfl, fun w' hSw => ?_⟩) hHeld ?_
              · obtain ⟨t0, t1, t2, t3⟩ := hSw
                go_simp
                try simp [*]
                try (intro hh; exfalso; omega)
                try omega
              try simp only [Act.put, List.setIfInBounds_toArray, List.set_cons_zero, List.set_cons_succ, List.getElem_toArray, List.getElem_cons_succ, List.getElem_cons_zero]
              refine wpAnyH_take (i := 5) (oi := _) (v := Value.int .i64 (k : Int)) rfl (by kernel_rfl) (by kernel_rfl) (by kernel_rfl) (fun _ _ _ h => h) (Or.inl ⟨by rfl, fun w' hSw => ?_⟩) hHeld ?_
              · obtain ⟨t0, t1, t2, t3⟩ := hSw
                go_simp
                try simp [*]
                try (intro hh; exfalso; omega)
                try omega
              try simp only [Act.put, List.setIfInBounds_toArray, List.set_cons_zero, List.set_cons_succ, List.getElem_toArray, List.getElem_cons_succ, List.getElem_cons_zero]
              refine wpAnyH_take (i := 6) (oi := _) (v := Value.pointer (some ⟨b, off + k * 2, none⟩)) rfl (by kernel_rfl) (by kernel_rfl) (by kernel_rfl) (fun _ _ _ h => h) (Or.inl ⟨by rfl, fun w' hSw => ?_⟩) hHeld ?_
              · obtain ⟨t0, t1, t2, t3⟩ := hSw
                go_simp
                try simp [*]
                try (intro hh; exfalso; omega)
                try omega
              try simp only [Act.put, List.setIfInBounds_toArray, List.set_cons_zero, List.set_cons_succ, List.getElem_toArray, List.getElem_cons_succ, List.getElem_cons_zero]
              refine wpAnyH_take (i := 7) (oi := _) (v := Value.agg #[Value.int .i64 s0, Value.int .i64 s1]) rfl (by kernel_rfl) (by kernel_rfl) (by kernel_rfl) (fun _ _ _ h => h) (Or.inl ⟨by rfl, fun w' hSw => ?_⟩) hHeld ?_
              · obtain ⟨t0, t1, t2, t3⟩ := hSw
                go_simp
                try simp [*]
                try (intro hh; exfalso; omega)
                try omega
              try simp only [Act.put, List.setIfInBounds_toArray, List.set_cons_zero, List.set_cons_succ, List.getElem_toArray, List.getElem_cons_succ, List.getElem_cons_zero]
              refine wpAnyH_ready (rs := [8]) (by kernel_rfl) (by simp) ?_
              refine AllReadyH.cons (o := _) rfl (fun K hK => ?_) AllReadyH.nil
              go_simp
              go_at_call 102
              refine Calls.mono (cB.out _) ?_
              rintro e v2 ⟨rfl, hb⟩
              have hbx : Below V.heap.size V v2 := Below.trans ((Below.refl V.heap.size V).drew) hb
              have HU2 := Lib.hid (show Below U.heap.size U v2 from HUV.out.trans (hbx.mono HUV.out.size))
              have HA2 := Lib.hid (HAV.out.keep hbx)
              clear hb hbx
              clear hHeld
              refine hK.out _ _ (CELL.out _ (HB.out.trans (HU2.out.mono hzr))) (fun hHeld => ?_)
              clear hK K
              try simp only [Act.put, List.setIfInBounds_toArray, List.set_cons_zero, List.set_cons_succ, List.getElem_toArray, List.getElem_cons_succ, List.getElem_cons_zero]
              refine wpAnyH_take (i := 9) (oi := _) (v := Value.bool false) rfl (by kernel_rfl) (by kernel_rfl) (by kernel_rfl) (fun _ _ _ h => h) (Or.inl ⟨by rfl, fun w' hSw => ?_⟩) hHeld ?_
              · obtain ⟨t0, t1, t2, t3⟩ := hSw
                go_simp
                try simp [*]
                try (intro hh; exfalso; omega)
                try omega
              try simp only [Act.put, List.setIfInBounds_toArray, List.set_cons_zero, List.set_cons_succ, List.getElem_toArray, List.getElem_cons_succ, List.getElem_cons_zero]
              refine wpAnyH_done (by kernel_rfl) ?_ _
              clear hHeld
              go_wp2_with fail
              go_roundw
              case rel => exact ⟨k + 1, by omega, by go_num, by rw [HAk2.out h1, HBk3.out h2]; exact HA2.out, HU2.out⟩
              case measure => simp [intOf]; omega
          · refine wp_region_held_drew (S := fun w' => w'.cell? ⟨b, off + k * 2, none⟩ = some (.int .i64 s0) ∧ w'.cell? ⟨b, off + k * 2 + 1, none⟩ = some (.int .i64 s1) ∧ w'.cell? ⟨b, off + i * 2, none⟩ = some (.int .i64 x0) ∧ w'.cell? ⟨b, off + i * 2 + 1, none⟩ = some (.int .i64 x1)) (by kernel_rfl) ⟨by simpa [go_sem] using m0, by simpa [go_sem] using m1, by simpa [go_sem] using d0, by simpa [go_sem] using d1⟩ (fun hHeld => ?_)
            refine wpAnyH_take (i := 0) (oi := _) (v := Value.slice (some ⟨b, off, none⟩) len cap) rfl (by kernel_rfl) (by kernel_rfl) (by kernel_rfl) (fun _ _ _ h => h) (Or.inl ⟨by rfl, fun w' hSw => ?_⟩) hHeld ?_
            · obtain ⟨t0, t1, t2, t3⟩ := hSw
              go_simp
              try simp [*]
              try (intro hh; exfalso; omega)
              try omega
            try simp only [Act.put, List.setIfInBounds_toArray, List.set_cons_zero, List.set_cons_succ, List.getElem_toArray, List.getElem_cons_succ, List.getElem_cons_zero]
            refine wpAnyH_take (i := 1) (oi := _) (v := Value.int .i64 (k : Int)) rfl (by kernel_rfl) (by kernel_rfl) (by kernel_rfl) (fun _ _ _ h => h) (Or.inl ⟨by rfl, fun w' hSw => ?_⟩) hHeld ?_
            · obtain ⟨t0, t1, t2, t3⟩ := hSw
              go_simp
              try simp [*]
              try (intro hh; exfalso; omega)
              try omega
            try simp only [Act.put, List.setIfInBounds_toArray, List.set_cons_zero, List.set_cons_succ, List.getElem_toArray, List.getElem_cons_succ, List.getElem_cons_zero]
            refine wpAnyH_take (i := 2) (oi := _) (v := Value.pointer (some ⟨b, off + k * 2, none⟩)) rfl (by kernel_rfl) (by kernel_rfl) (by kernel_rfl) (fun _ _ _ h => h) (Or.inl ⟨by rfl, fun w' hSw => ?_⟩) hHeld ?_
            · obtain ⟨t0, t1, t2, t3⟩ := hSw
              go_simp
              try simp [*]
              try (intro hh; exfalso; omega)
              try omega
            try simp only [Act.put, List.setIfInBounds_toArray, List.set_cons_zero, List.set_cons_succ, List.getElem_toArray, List.getElem_cons_succ, List.getElem_cons_zero]
            refine wpAnyH_take (i := 3) (oi := _) (v := Value.agg #[Value.int .i64 s0, Value.int .i64 s1]) rfl (by kernel_rfl) (by kernel_rfl) (by kernel_rfl) (fun _ _ _ h => h) (Or.inl ⟨by rfl, fun w' hSw => ?_⟩) hHeld ?_
            · obtain ⟨t0, t1, t2, t3⟩ := hSw
              go_simp
              try simp [*]
              try (intro hh; exfalso; omega)
              try omega
            try simp only [Act.put, List.setIfInBounds_toArray, List.set_cons_zero, List.set_cons_succ, List.getElem_toArray, List.getElem_cons_succ, List.getElem_cons_zero]
            refine wpAnyH_take (i := 4) (oi := _) (v := Value.slice (some ⟨b, off, none⟩) len cap) rfl (by kernel_rfl) (by kernel_rfl) (by kernel_rfl) (fun _ _ _ h => h) (Or.inl ⟨by rfl, fun w' hSw => ?_⟩) hHeld ?_
            · obtain ⟨t0, t1, t2, t3⟩ := hSw
              go_simp
              try simp [*]
              try (intro hh; exfalso; omega)
              try omega
            try simp only [Act.put, List.setIfInBounds_toArray, List.set_cons_zero, List.set_cons_succ, List.getElem_toArray, List.getElem_cons_succ, List.getElem_cons_zero]
            refine wpAnyH_take (i := 5) (oi := _) (v := Value.int .i64 (i : Int)) rfl (by kernel_rfl) (by kernel_rfl) (by kernel_rfl) (fun _ _ _ h => h) (Or.inl ⟨by rfl, fun w' hSw => ?_⟩) hHeld ?_
            · obtain ⟨t0, t1, t2, t3⟩ := hSw
              go_simp
              try simp [*]
              try (intro hh; exfalso; omega)
              try omega
            try simp only [Act.put, List.setIfInBounds_toArray, List.set_cons_zero, List.set_cons_succ, List.getElem_toArray, List.getElem_cons_succ, List.getElem_cons_zero]
            refine wpAnyH_take (i := 6) (oi := _) (v := Value.pointer (some ⟨b, off + i * 2, none⟩)) rfl (by kernel_rfl) (by kernel_rfl) (by kernel_rfl) (fun _ _ _ h => h) (Or.inl ⟨by rfl, fun w' hSw => ?_⟩) hHeld ?_
            · obtain ⟨t0, t1, t2, t3⟩ := hSw
              go_simp
              try simp [*]
              try (intro hh; exfalso; omega)
              try omega
            try simp only [Act.put, List.setIfInBounds_toArray, List.set_cons_zero, List.set_cons_succ, List.getElem_toArray, List.getElem_cons_succ, List.getElem_cons_zero]
            refine wpAnyH_take (i := 7) (oi := _) (v := Value.agg #[Value.int .i64 x0, Value.int .i64 x1]) rfl (by kernel_rfl) (by kernel_rfl) (by kernel_rfl) (fun _ _ _ h => h) (Or.inl ⟨by rfl, fun w' hSw => ?_⟩) hHeld ?_
            · obtain ⟨t0, t1, t2, t3⟩ := hSw
              go_simp
              try simp [*]
              try (intro hh; exfalso; omega)
              try omega
            try simp only [Act.put, List.setIfInBounds_toArray, List.set_cons_zero, List.set_cons_succ, List.getElem_toArray, List.getElem_cons_succ, List.getElem_cons_zero]
            refine wpAnyH_ready (rs := [8]) (by kernel_rfl) (by simp) ?_
            refine AllReadyH.cons (o := _) rfl (fun K hK => ?_) AllReadyH.nil
            go_simp
            go_at_call 102
            refine Calls.mono (cA.out _) ?_
            rintro e v1 ⟨rfl, hb⟩
            have hbx : Below wr.heap.size wr v1 := Below.trans ((Below.refl wr.heap.size wr).drew) hb
            have HU1 := Lib.hid (show Below U.heap.size U v1 from HBU.out.trans (hbx.mono HBU.out.size))
            have HA1 := Lib.hid (HBA.out.keep hbx)
            clear hb hbx
            clear hHeld
            refine hK.out _ _ (CELL.out _ (HB.out.trans (HU1.out.mono hzr))) (fun hHeld => ?_)
            clear hK K
            try simp only [Act.put, List.setIfInBounds_toArray, List.set_cons_zero, List.set_cons_succ, List.getElem_toArray, List.getElem_cons_succ, List.getElem_cons_zero]
            refine wpAnyH_take (i := 9) (oi := _) (v := Value.bool false) rfl (by kernel_rfl) (by kernel_rfl) (by kernel_rfl) (fun _ _ _ h => h) (Or.inl ⟨by rfl, fun w' hSw => ?_⟩) hHeld ?_
            · obtain ⟨t0, t1, t2, t3⟩ := hSw
              go_simp
              try simp [*]
              try (intro hh; exfalso; omega)
              try omega
            try simp only [Act.put, List.setIfInBounds_toArray, List.set_cons_zero, List.set_cons_succ, List.getElem_toArray, List.getElem_cons_succ, List.getElem_cons_zero]
            refine wpAnyH_done (by kernel_rfl) ?_ _
            clear hHeld
            go_upto_region 13 with fail
            obtain ⟨V, hV⟩ : ∃ V, V = v1 := ⟨_, rfl⟩
            subst hV
            have HAV := HA1
            have HUV := HU1
            clear HA1 HU1 m0 m1 d0 d1
            obtain ⟨m0, m1, d0, d1⟩ := CELL.out _ (HB.out.trans (HUV.out.mono hzr))
            by_cases h2 : f2 = 2
            · refine wp_region_held_drew (S := fun w' => w'.cell? ⟨b, off + k * 2, none⟩ = some (.int .i64 s0) ∧ w'.cell? ⟨b, off + k * 2 + 1, none⟩ = some (.int .i64 s1) ∧ w'.cell? ⟨b, off + i * 2, none⟩ = some (.int .i64 x0) ∧ w'.cell? ⟨b, off + i * 2 + 1, none⟩ = some (.int .i64 x1)) (by kernel_rfl) ⟨by simpa [go_sem] using m0, by simpa [go_sem] using m1, by simpa [go_sem] using d0, by simpa [go_sem] using d1⟩ (fun hHeld => ?_)
              refine wpAnyH_take (i := 0) (oi := _) (v := Value.slice (some ⟨b, off, none⟩) len cap) rfl (by kernel_rfl) (by kernel_rfl) (by kernel_rfl) (fun _ _ _ h => h) (Or.inl ⟨by rfl, fun w' hSw => ?_⟩) hHeld ?_
              · obtain ⟨t0, t1, t2, t3⟩ := hSw
                go_simp
                try simp [*]
                try (intro hh; exfalso; omega)
                try omega
              try simp only [Act.put, List.setIfInBounds_toArray, List.set_cons_zero, List.set_cons_succ, List.getElem_toArray, List.getElem_cons_succ, List.getElem_cons_zero]
              refine wpAnyH_take (i := 1) (oi := _) (v := Value.int .i64 (i : Int)) rfl (by kernel_rfl) (by kernel_rfl) (by kernel_rfl) (fun _ _ _ h => h) (Or.inl ⟨by rfl, fun w' hSw => ?_⟩) hHeld ?_
              · obtain ⟨t0, t1, t2, t3⟩ := hSw
                go_simp
                try simp [*]
                try (intro hh; exfalso; omega)
                try omega
              try simp only [Act.put, List.setIfInBounds_toArray, List.set_cons_zero, List.set_cons_succ, List.getElem_toArray, List.getElem_cons_succ, List.getElem_cons_zero]
              refine wpAnyH_take (i := 2) (oi := _) (v := Value.pointer (some ⟨b, off + i * 2, none⟩)) rfl (by kernel_rfl) (by kernel_rfl) (by kernel_rfl) (fun _ _ _ h => h) (Or.inl ⟨by rfl, fun w' hSw => ?_⟩) hHeld ?_
              · obtain ⟨t0, t1, t2, t3⟩ := hSw
                go_simp
                try simp [*]
                try (intro hh; exfalso; omega)
                try omega
              try simp only [Act.put, List.setIfInBounds_toArray, List.set_cons_zero, List.set_cons_succ, List.getElem_toArray, List.getElem_cons_succ, List.getElem_cons_zero]
              refine wpAnyH_take (i := 3) (oi := _) (v := Value.agg #[Value.int .i64 x0, Value.int .i64 x1]) rfl (by kernel_rfl) (by kernel_rfl) (by kernel_rfl) (fun _ _ _ h => h) (Or.inl ⟨by rfl, fun w' hSw => ?_⟩) hHeld ?_
              · obtain ⟨t0, t1, t2, t3⟩ := hSw
                go_simp
                try simp [*]
                try (intro hh; exfalso; omega)
                try omega
              try simp only [Act.put, List.setIfInBounds_toArray, List.set_cons_zero, List.set_cons_succ, List.getElem_toArray, List.getElem_cons_succ, List.getElem_cons_zero]
              refine wpAnyH_take (i := 4) (oi := _) (v := Value.slice (some ⟨b, off, none⟩) len cap) rfl (by kernel_rfl) (by kernel_rfl) (by kernel_rfl) (fun _ _ _ h => h) (Or.inl ⟨by rfl, fun w' hSw => ?_⟩) hHeld ?_
              · obtain ⟨t0, t1, t2, t3⟩ := hSw
                go_simp
                try simp [*]
                try (intro hh; exfalso; omega)
                try omega
              try simp only [Act.put, List.setIfInBounds_toArray, List.set_cons_zero, List.set_cons_succ, List.getElem_toArray, List.getElem_cons_succ, List.getElem_cons_zero]
              refine wpAnyH_take (i := 5) (oi := _) (v := Value.int .i64 (k : Int)) rfl (by kernel_rfl) (by kernel_rfl) (by kernel_rfl) (fun _ _ _ h => h) (Or.inl ⟨by rfl, fun w' hSw => ?_⟩) hHeld ?_
              · obtain ⟨t0, t1, t2, t3⟩ := hSw
                go_simp
                try simp [*]
                try (intro hh; exfalso; omega)
                try omega
              try simp only [Act.put, List.setIfInBounds_toArray, List.set_cons_zero, List.set_cons_succ, List.getElem_toArray, List.getElem_cons_succ, List.getElem_cons_zero]
              refine wpAnyH_take (i := 6) (oi := _) (v := Value.pointer (some ⟨b, off + k * 2, none⟩)) rfl (by kernel_rfl) (by kernel_rfl) (by kernel_rfl) (fun _ _ _ h => h) (Or.inl ⟨by rfl, fun w' hSw => ?_⟩) hHeld ?_
              · obtain ⟨t0, t1, t2, t3⟩ := hSw
                go_simp
                try simp [*]
                try (intro hh; exfalso; omega)
                try omega
              try simp only [Act.put, List.setIfInBounds_toArray, List.set_cons_zero, List.set_cons_succ, List.getElem_toArray, List.getElem_cons_succ, List.getElem_cons_zero]
              refine wpAnyH_take (i := 7) (oi := _) (v := Value.agg #[Value.int .i64 s0, Value.int .i64 s1]) rfl (by kernel_rfl) (by kernel_rfl) (by kernel_rfl) (fun _ _ _ h => h) (Or.inl ⟨by rfl, fun w' hSw => ?_⟩) hHeld ?_
              · obtain ⟨t0, t1, t2, t3⟩ := hSw
                go_simp
                try simp [*]
                try (intro hh; exfalso; omega)
                try omega
              try simp only [Act.put, List.setIfInBounds_toArray, List.set_cons_zero, List.set_cons_succ, List.getElem_toArray, List.getElem_cons_succ, List.getElem_cons_zero]
              refine wpAnyH_ready (rs := [8]) (by kernel_rfl) (by simp) ?_
              refine AllReadyH.cons (o := _) rfl (fun K hK => ?_) AllReadyH.nil
              go_simp
              go_at_call 102
              refine Calls.mono (cB.out _) ?_
              rintro e v2 ⟨rfl, hb⟩
              have hbx : Below V.heap.size V v2 := Below.trans ((Below.refl V.heap.size V).drew) hb
              have HU2 := Lib.hid (show Below U.heap.size U v2 from HUV.out.trans (hbx.mono HUV.out.size))
              have HA2 := Lib.hid (HAV.out.keep hbx)
              clear hb hbx
              clear hHeld
              refine hK.out _ _ (CELL.out _ (HB.out.trans (HU2.out.mono hzr))) (fun hHeld => ?_)
              clear hK K
              try simp only [Act.put, List.setIfInBounds_toArray, List.set_cons_zero, List.set_cons_succ, List.getElem_toArray, List.getElem_cons_succ, List.getElem_cons_zero]
              refine wpAnyH_take (i := 9) (oi := _) (v := Value.bool true) rfl (by kernel_rfl) (by kernel_rfl) (by kernel_rfl) (fun _ _ _ h => h) (Or.inl ⟨by rfl, fun w' hSw => ?_⟩) hHeld ?_
              · obtain ⟨t0, t1, t2, t3⟩ := hSw
                go_simp
                try simp [*]
                try (intro hh; exfalso; omega)
                try omega
              try simp only [Act.put, List.setIfInBounds_toArray, List.set_cons_zero, List.set_cons_succ, List.getElem_toArray, List.getElem_cons_succ, List.getElem_cons_zero]
              refine wpAnyH_done (by kernel_rfl) ?_ _
              clear hHeld
              have q0 := HA2.out.c0
              have q1 := HA2.out.c1
              have q2 := HA2.out.f0 0
              have q3 := HA2.out.f0 1
              have hS := HA2.out.set1 (.int .i64 (((len : Int) - 1 - (rb : Int)) - 1))
              have hSU : Below U.heap.size U (v2.setCell ⟨U.heap.size, 1, none⟩ (.int .i64 (((len : Int) - 1 - (rb : Int)) - 1))) := HU2.out.setCell (p := ⟨U.heap.size, 1, none⟩) (Nat.le_refl _) _
              have HS := Lib.hid hS
              have HSU := Lib.hid hSU
              clear hS hSU
              go_wp2_with fail
              go_roundw
              case rel => exact ⟨k + 1, by omega, by go_num, by rw [HAk3.out h1, HBk2.out h2, show (len : Int) - 1 - ((rb + 1 : Nat) : Int) = (len : Int) - 1 - (rb : Int) - 1 by omega]; exact HS.out, HSU.out⟩
              case measure => simp [intOf]; omega
            · refine wp_region_held_drew (S := fun w' => w'.cell? ⟨b, off + k * 2, none⟩ = some (.int .i64 s0) ∧ w'.cell? ⟨b, off + k * 2 + 1, none⟩ = some (.int .i64 s1) ∧ w'.cell? ⟨b, off + i * 2, none⟩ = some (.int .i64 x0) ∧ w'.cell? ⟨b, off + i * 2 + 1, none⟩ = some (.int .i64 x1)) (by kernel_rfl) ⟨by simpa [go_sem] using m0, by simpa [go_sem] using m1, by simpa [go_sem] using d0, by simpa [go_sem] using d1⟩ (fun hHeld => ?_)
              refine wpAnyH_take (i := 0) (oi := _) (v := Value.slice (some ⟨b, off, none⟩) len cap) rfl (by kernel_rfl) (by kernel_rfl) (by kernel_rfl) (fun _ _ _ h => h) (Or.inl ⟨by rfl, fun w' hSw => ?_⟩) hHeld ?_
              · obtain ⟨t0, t1, t2, t3⟩ := hSw
                go_simp
                try simp [*]
                try (intro hh; exfalso; omega)
                try omega
              try simp only [Act.put, List.setIfInBounds_toArray, List.set_cons_zero, List.set_cons_succ, List.getElem_toArray, List.getElem_cons_succ, List.getElem_cons_zero]
              refine wpAnyH_take (i := 1) (oi := _) (v := Value.int .i64 (i : Int)) rfl (by kernel_rfl) (by kernel_rfl) (by kernel_rfl) (fun _ _ _ h => h) (Or.inl ⟨by rfl, fun w' hSw => ?_⟩) hHeld ?_
              · obtain ⟨t0, t1, t2, t3⟩ := hSw
                go_simp
                try simp [*]
                try (intro hh; exfalso; omega)
                try omega
              try simp only [Act.put, List.setIfInBounds_toArray, List.set_cons_zero, List.set_cons_succ, List.getElem_toArray, List.getElem_cons_succ, List.getElem_cons_zero]
              refine wpAnyH_take (i := 2) (oi := _) (v := Value.pointer (some ⟨b, off + i * 2, none⟩)) rfl (by kernel_rfl) (by kernel_rfl) (by kernel_rfl) (fun _ _ _ h => h) (Or.inl ⟨by rfl, fun w' hSw => ?_⟩) hHeld ?_
              · obtain ⟨t0, t1, t2, t3⟩ := hSw
                go_simp
                try simp [*]
                try (intro hh; exfalso; omega)
                try omega
              try simp only [Act.put, List.setIfInBounds_toArray, List.set_cons_zero, List.set_cons_succ, List.getElem_toArray, List.getElem_cons_succ, List.getElem_cons_zero]
              refine wpAnyH_take (i := 3) (oi := _) (v := Value.agg #[Value.int .i64 x0, Value.int .i64 x1]) rfl (by kernel_rfl) (by kernel_rfl) (by kernel_rfl) (fun _ _ _ h => h) (Or.inl ⟨by rfl, fun w' hSw => ?_⟩) hHeld ?_
              · obtain ⟨t0, t1, t2, t3⟩ := hSw
                go_simp
                try simp [*]
                try (intro hh; exfalso; omega)
                try omega
              try simp only [Act.put, List.setIfInBounds_toArray, List.set_cons_zero, List.set_cons_succ, List.getElem_toArray, List.getElem_cons_succ, List.getElem_cons_zero]
              refine wpAnyH_take (i := 4) (oi := _) (v := Value.slice (some ⟨b, off, none⟩) len cap) rfl (by kernel_rfl) (by kernel_rfl) (by kernel_rfl) (fun _ _ _ h => h) (Or.inl ⟨by rfl, fun w' hSw => ?_⟩) hHeld ?_
              · obtain ⟨t0, t1, t2, t3⟩ := hSw
                go_simp
                try simp [*]
                try (intro hh; exfalso; omega)
                try omega
              try simp only [Act.put, List.setIfInBounds_toArray, List.set_cons_zero, List.set_cons_succ, List.getElem_toArray, List.getElem_cons_succ, List.getElem_cons_zero]
              refine wpAnyH_take (i := 5) (oi := _) (v := Value.int .i64 (k : Int)) rfl (by kernel_rfl) (by kernel_rfl) (by kernel_rfl) (fun _ _ _ h => h) (Or.inl ⟨by rfl, fun w' hSw => ?_⟩) hHeld ?_
              · obtain ⟨t0, t1, t2, t3⟩ := hSw
                go_simp
                try simp [*]
                try (intro hh; exfalso; omega)
                try omega
              try simp only [Act.put, List.setIfInBounds_toArray, List.set_cons_zero, List.set_cons_succ, List.getElem_toArray, List.getElem_cons_succ, List.getElem_cons_zero]
              refine wpAnyH_take (i := 6) (oi := _) (v := Value.pointer (some ⟨b, off + k * 2, none⟩)) rfl (by kernel_rfl) (by kernel_rfl) (by kernel_rfl) (fun _ _ _ h => h) (Or.inl ⟨by rfl, fun w' hSw => ?_⟩) hHeld ?_
              · obtain ⟨t0, t1, t2, t3⟩ := hSw
                go_simp
                try simp [*]
                try (intro hh; exfalso; omega)
                try omega
              try simp only [Act.put, List.setIfInBounds_toArray, List.set_cons_zero, List.set_cons_succ, List.getElem_toArray, List.getElem_cons_succ, List.getElem_cons_zero]
              refine wpAnyH_take (i := 7) (oi := _) (v := Value.agg #[Value.int .i64 s0, Value.int .i64 s1]) rfl (by kernel_rfl) (by kernel_rfl) (by kernel_rfl) (fun _ _ _ h => h) (Or.inl ⟨by rfl, fun w' hSw => ?_⟩) hHeld ?_
              · obtain ⟨t0, t1, t2, t3⟩ := hSw
                go_simp
                try simp [*]
                try (intro hh; exfalso; omega)
                try omega
              try simp only [Act.put, List.setIfInBounds_toArray, List.set_cons_zero, List.set_cons_succ, List.getElem_toArray, List.getElem_cons_succ, List.getElem_cons_zero]
              refine wpAnyH_ready (rs := [8]) (by kernel_rfl) (by simp) ?_
              refine AllReadyH.cons (o := _) rfl (fun K hK => ?_) AllReadyH.nil
              go_simp
              go_at_call 102
              refine Calls.mono (cB.out _) ?_
              rintro e v2 ⟨rfl, hb⟩
              have hbx : Below V.heap.size V v2 := Below.trans ((Below.refl V.heap.size V).drew) hb
              have HU2 := Lib.hid (show Below U.heap.size U v2 from HUV.out.trans (hbx.mono HUV.out.size))
              have HA2 := Lib.hid (HAV.out.keep hbx)
              clear hb hbx
              clear hHeld
              refine hK.out _ _ (CELL.out _ (HB.out.trans (HU2.out.mono hzr))) (fun hHeld => ?_)
              clear hK K
              try simp only [Act.put, List.setIfInBounds_toArray, List.set_cons_zero, List.set_cons_succ, List.getElem_toArray, List.getElem_cons_succ, List.getElem_cons_zero]
              refine wpAnyH_take (i := 9) (oi := _) (v := Value.bool false) rfl (by kernel_rfl) (by kernel_rfl) (by kernel_rfl) (fun _ _ _ h => h) (Or.inl ⟨by rfl, fun w' hSw => ?_⟩) hHeld ?_
              · obtain ⟨t0, t1, t2, t3⟩ := hSw
                go_simp
                try simp [*]
                try (intro hh; exfalso; omega)
                try omega
              try simp only [Act.put, List.setIfInBounds_toArray, List.set_cons_zero, List.set_cons_succ, List.getElem_toArray, List.getElem_cons_succ, List.getElem_cons_zero]
              refine wpAnyH_done (by kernel_rfl) ?_ _
              clear hHeld
              go_wp2_with fail
              go_roundw
              case rel => exact ⟨k + 1, by omega, by go_num, by rw [HAk3.out h1, HBk3.out h2]; exact HA2.out, HU2.out⟩
              case measure => simp [intOf]; omega
        · obtain rfl : k = len := by omega
          have q0 := HBA.out.c0
          have q1 := HBA.out.c1
          have HROWr := Lib.hid (own_below HROW.out HBU.out)
          have HROW3 := Lib.hid (HROWr.out.alloc (.cells #[.int .i64 (rkA zs si k : Int), .int .i64 ((k : Int) - 1 - (rkB zs si k : Int))] 63))
          have HB3 := Lib.hid (HBW.out.alloc HBW.out.size (.cells #[.int .i64 (rkA zs si k : Int), .int .i64 ((k : Int) - 1 - (rkB zs si k : Int))] 63))
          have hzw := HBW.out.size
          generalize (rkA zs si k : Int) = ra at *
          generalize (k : Int) - 1 - (rkB zs si k : Int) = rb at *
          go_upto_region 15 with fail
          iterate 10 go_step
          refine wpList_append_own _ rfl _ _ 59 rfl w.heap.size 63 i0 (.agg #[.int .i64 0, .int .i64 0]) 2 16 Try.underlying59 hi0 hz0 hz1 hz2 rfl (by decide) _ _ _ rfl HROW3.out ⟨wr.heap.size, 0, none⟩ 1 1 [.int .i64 ra, .int .i64 rb] rfl rfl (two_newR _ _ _) (by simp [Value.oneCell']) (by unfold maxLen; omega) (by omega) (by simp; omega) ?_
          intro v' w5 hrow' hgrow _
          have HG := Lib.hid hgrow
          have HROW5 := Lib.hid hrow'
          obtain ⟨a6, c6, rfl⟩ := own_form hrow'
          clear hrow' hgrow
          have HB5 := Lib.hid (HB3.out.grown HG.out (by simp; omega) (fun j hj => (HROW3.out.lt j hj).1))
          go_wp2_with fail
          go_roundw
          case rel => exact ⟨i + 1, by omega, by go_num, by rw [HTk.out, flat2_snoc]; exact HROW5.out, HB5.out⟩
          case measure => simp [intOf]; omega
    · obtain rfl : i = len := by omega
      have hsp : Sps wr.heap.size wr (.slice a0 i c0) (rkTo zs i) := sps_of_owns (t := 63) (base := w.heap.size) (by rw [HTL.out]; exact HROW.out)
      have HSP := Lib.hid hsp
      clear hB hsp
      go_wp2_with fail
      exact HR0.out (.slice a0 i c0) _ (by first | rfl | trivial) HSP.out HB.out
end
end Go.Proofs.Ytcchmjbedppfnaa
